/- Several texts in one: Words on memory: which blocks have turned; a row that can be read; a row of the call's own. No program is named here. · What the laws' helpers on slices of ints do: toIntS copies, eqIntS finds like rows alike, markIntS numbers a row, heldIntS finds it numbered. Conditions: rows that can be read (markIntS: a row of the call's own), lengths of at most 2 to the 40. -/
import Derived.Below
import Derived.WalkSmall
import Derived.Deep.OwnRows
import Derived.Deep.Draws
import Derived.OwnWalk
import Derived.Test.YtpndbkgjdnkmcaaDoorRows
import Derived.WalkKit
import Derived.ProofKit
import Derived.OpenShut
import Derived.RegionTactic
import Derived.ChangeAlike
import Derived.BigRegion
import Derived.Deep.QuietTactic
import Derived.BigQuiet
namespace Go.Proofs.YtpndbkgjdnkmcaaDoor
open Go.RowKit

theorem hik {p : Prop} (h : p) : Hid p := h
/-- From w to w' none but blocks of P have turned; there may be new ones. -/
structure Chg (P : Nat → Prop) (w w' : World) : Prop where
  os : w'.os = w.os
  tape : w'.tape = w.tape
  output : w'.output = w.output
  size : w.heap.size ≤ w'.heap.size
  block : ∀ k, k < w.heap.size → ¬ P k → w'.heap[k]? = w.heap[k]?
/-- No block. -/
def nob (_ : Nat) : Prop := False
theorem Chg.refl (P : Nat → Prop) (w : World) : Chg P w w := ⟨rfl, rfl, rfl, Nat.le_refl _, fun _ _ _ => rfl⟩
theorem Chg.trans {P : Nat → Prop} {a b c : World} (h : Chg P a b) (k : Chg P b c) : Chg P a c :=
  ⟨k.os.trans h.os, k.tape.trans h.tape, k.output.trans h.output, Nat.le_trans h.size k.size, fun i hi hp => (k.block i (Nat.lt_of_lt_of_le hi h.size) hp).trans (h.block i hi hp)⟩
theorem Chg.mono {P Q : Nat → Prop} {a b : World} (h : Chg P a b) (k : ∀ i, i < a.heap.size → P i → Q i) : Chg Q a b :=
  ⟨h.os, h.tape, h.output, h.size, fun i hi hp => h.block i hi (fun x => hp (k i hi x))⟩
theorem Chg.below {B : Nat} {a b : World} (h : Chg (fun k => B ≤ k) a b) (hB : B ≤ a.heap.size) : Below B a b :=
  ⟨h.os, h.tape, h.output, h.size, fun k hk => h.block k (Nat.lt_of_lt_of_le hk hB) (by omega)⟩
theorem Chg.alloc {P : Nat → Prop} {a b : World} (h : Chg P a b) (o : Obj) : Chg P a (b.alloc o) :=
  ⟨h.os, h.tape, h.output, by simp; have := h.size; omega, fun k hk hp => (Below.heap_alloc b o k (Nat.lt_of_lt_of_le hk h.size)).trans (h.block k hk hp)⟩
theorem Chg.setCell {P : Nat → Prop} {a b : World} (h : Chg P a b) {p : Addr} (hp : p.block < a.heap.size → P p.block) (u : Value) : Chg P a (b.setCell p u) :=
  ⟨h.os, h.tape, h.output, by simp; exact h.size, fun k hk hq => (Below.heap_setCell b p u k (fun e => hq (e ▸ hp (e ▸ hk)))).trans (h.block k hk hq)⟩
theorem Chg.grown {P : Nat → Prop} {a b c : World} {row : Option Nat} (h : Chg P a b) (hg : b.grownBy c row) (hr : ∀ k, row = some k → k < a.heap.size → P k) : Chg P a c :=
  ⟨hg.os.trans h.os, hg.tape.trans h.tape, hg.output.trans h.output, Nat.le_trans h.size hg.size, fun k hk hp => (hg.block k (Nat.lt_of_lt_of_le hk h.size) (fun e => hp (hr k e.symm hk))).trans (h.block k hk hp)⟩
theorem Chg.cell {P : Nat → Prop} {w w' : World} (h : Chg P w w') {p : Addr} (hp : p.block < w.heap.size) (hq : ¬ P p.block) : w'.cell? p = w.cell? p := World.cell?_of_block (h.block _ hp hq)

/-- n values that can be read behind c. -/
def RowV (w : World) (c : Option Addr) (n : Nat) (f : Nat → Value) : Prop :=
  ∀ i, i < n → ∃ xb xo : Nat, c = some ⟨xb, xo, none⟩ ∧ xb < w.heap.size ∧ w.cell? ⟨xb, xo + i, none⟩ = some (f i)
theorem RowV.chg {P : Nat → Prop} {w w' : World} {c : Option Addr} {n : Nat} {f : Nat → Value} (h : RowV w c n f) (k : Chg P w w') (hp : ∀ xb xo, c = some ⟨xb, xo, none⟩ → xb < w.heap.size → ¬ P xb) : RowV w' c n f := by
  intro i hi
  obtain ⟨xb, xo, e, l, hc⟩ := h i hi
  exact ⟨xb, xo, e, Nat.lt_of_lt_of_le l k.size, by rw [k.cell l (hp xb xo e l), hc]⟩
theorem RowV.keep {w w' : World} {c : Option Addr} {n : Nat} {f : Nat → Value} (h : RowV w c n f) (k : Chg nob w w') : RowV w' c n f := h.chg k (fun _ _ _ _ x => x)
theorem RowV.of_row {w : World} {g : Nat} {t : TypeId} {n m : Nat} {f : Nat → Value} (h : w.rowIs g t m f) (hm : n ≤ m) : RowV w (some ⟨g, 0, none⟩) n f := by
  intro i hi
  exact ⟨g, 0, rfl, h.lt, by rw [Nat.zero_add]; exact h.cell (by omega)⟩
theorem RowV.congr {w : World} {c : Option Addr} {n : Nat} {f g : Nat → Value} (h : RowV w c n f) (k : ∀ i, i < n → f i = g i) : RowV w c n g := by
  intro i hi
  obtain ⟨xb, xo, e, l, hc⟩ := h i hi
  exact ⟨xb, xo, e, l, by rw [hc, k i hi]⟩
theorem rowIs_chg {P : Nat → Prop} {w w' : World} {g : Nat} {t : TypeId} {n : Nat} {f : Nat → Value} (h : w.rowIs g t n f) (k : Chg P w w') (hp : ¬ P g) : w'.rowIs g t n f := h.of_block (k.block g h.lt hp)
theorem rowIs_keep {w w' : World} {g : Nat} {t : TypeId} {n : Nat} {f : Nat → Value} (h : w.rowIs g t n f) (k : Chg nob w w') : w'.rowIs g t n f := rowIs_chg h k (fun x => x)
theorem Chg.see {w w' : World} (h : Chg nob w w') {b o : Nat} {v : Value} (c : w.cell? ⟨b, o, none⟩ = some v) : w'.cell? ⟨b, o, none⟩ = some v :=
  (h.cell (p := ⟨b, o, none⟩) (World.block_lt_of_cell? w _ c) (fun x => x)).trans c

theorem Chg.near {P : Nat → Prop} {w W W' : World} (h : Chg nob w W) (k : Chg P W W') (hp : ∀ i, P i → w.heap.size ≤ i) : Chg nob w W' :=
  ⟨k.os.trans h.os, k.tape.trans h.tape, k.output.trans h.output, Nat.le_trans h.size k.size, fun i hi _ => (k.block i (Nat.lt_of_lt_of_le hi h.size) (fun x => by have := hp i x; omega)).trans (h.block i hi (fun x => x))⟩
theorem Chg.drew1 {P : Nat → Prop} {a b : World} (h : Chg P a b) : Chg P a b.drew := ⟨h.os, h.tape, h.output, h.size, h.block⟩
theorem Chg.belowAll {w w' : World} (h : Chg nob w w') : Below w.heap.size w w' := ⟨h.os, h.tape, h.output, h.size, fun k hk => h.block k hk (fun x => x)⟩

end Go.Proofs.YtpndbkgjdnkmcaaDoor

namespace Go.Proofs.YtpndbkgjdnkmcaaDoor
open Go.ChangeShapes Go.WideShapes Go.ChangeAt Go.RowKit

theorem infoInt : (Tryd.prog.info? 3).map (fun i => (i.zero, i.size, i.bytes)) = some (some (.int .i64 0), 1, 8) := by kernel_rfl
/-- Ints as values. -/
def iv (f : Nat → Int) (i : Nat) : Value := .int .i64 (f i)


end Go.Proofs.YtpndbkgjdnkmcaaDoor
