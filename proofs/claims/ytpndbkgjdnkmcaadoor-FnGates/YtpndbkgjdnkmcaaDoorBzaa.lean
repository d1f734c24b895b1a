/- Several texts in one: Words on memory: which blocks have turned; a row that can be read; a row of the call's own. No program is named here. · Gates in memory, four cells each. -/
import Derived.Below
import Derived.WalkSmall
import Derived.Deep.OwnRows
import Derived.Deep.Draws
import Derived.OwnWalk
import Derived.Test.YtpndbkgjdnkmcaaDoorBzab
import Derived.Test.YtpndbkgjdnkmcaaDoorProg
namespace Go.Proofs.YtpndbkgjdnkmcaaDoor
open Go.RowKit

theorem hik {p : Prop} (h : p) : Hid p := h
/-- From w to w' none but blocks of P have turned; there may be new ones. -/
structure Chg (P : Nat → Prop) (w w' : World) : Prop where
  os : w'.os = w.os
  tape : w'.tape = w.tape
  output : w'.output = w.output
  size : w.heap.size ≤ w'.heap.size
  block : ∀ k, k < w.heap.size → ¬ P k → w'.heap[k]? = w.heap[k]?
/-- No block. -/
def nob (_ : Nat) : Prop := False
theorem Chg.refl (P : Nat → Prop) (w : World) : Chg P w w := ⟨rfl, rfl, rfl, Nat.le_refl _, fun _ _ _ => rfl⟩
theorem Chg.trans {P : Nat → Prop} {a b c : World} (h : Chg P a b) (k : Chg P b c) : Chg P a c :=
  ⟨k.os.trans h.os, k.tape.trans h.tape, k.output.trans h.output, Nat.le_trans h.size k.size, fun i hi hp => (k.block i (Nat.lt_of_lt_of_le hi h.size) hp).trans (h.block i hi hp)⟩
theorem Chg.mono {P Q : Nat → Prop} {a b : World} (h : Chg P a b) (k : ∀ i, i < a.heap.size → P i → Q i) : Chg Q a b :=
  ⟨h.os, h.tape, h.output, h.size, fun i hi hp => h.block i hi (fun x => hp (k i hi x))⟩
theorem Chg.wide {P : Nat → Prop} {a b : World} (h : Chg nob a b) : Chg P a b := h.mono (fun _ _ x => x.elim)
theorem Chg.drewN {P : Nat → Prop} {a b : World} (h : Chg P a b) (n : Nat) : Chg P a (b.drewN n) := ⟨h.os, h.tape, h.output, h.size, h.block⟩
theorem Chg.below {B : Nat} {a b : World} (h : Chg (fun k => B ≤ k) a b) (hB : B ≤ a.heap.size) : Below B a b :=
  ⟨h.os, h.tape, h.output, h.size, fun k hk => h.block k (Nat.lt_of_lt_of_le hk hB) (by omega)⟩
theorem Chg.alloc {P : Nat → Prop} {a b : World} (h : Chg P a b) (o : Obj) : Chg P a (b.alloc o) :=
  ⟨h.os, h.tape, h.output, by simp; have := h.size; omega, fun k hk hp => (Below.heap_alloc b o k (Nat.lt_of_lt_of_le hk h.size)).trans (h.block k hk hp)⟩
theorem Chg.setCell {P : Nat → Prop} {a b : World} (h : Chg P a b) {p : Addr} (hp : p.block < a.heap.size → P p.block) (u : Value) : Chg P a (b.setCell p u) :=
  ⟨h.os, h.tape, h.output, by simp; exact h.size, fun k hk hq => (Below.heap_setCell b p u k (fun e => hq (e ▸ hp (e ▸ hk)))).trans (h.block k hk hq)⟩
theorem Chg.grown {P : Nat → Prop} {a b c : World} {row : Option Nat} (h : Chg P a b) (hg : b.grownBy c row) (hr : ∀ k, row = some k → k < a.heap.size → P k) : Chg P a c :=
  ⟨hg.os.trans h.os, hg.tape.trans h.tape, hg.output.trans h.output, Nat.le_trans h.size hg.size, fun k hk hp => (hg.block k (Nat.lt_of_lt_of_le hk h.size) (fun e => hp (hr k e.symm hk))).trans (h.block k hk hp)⟩
theorem Chg.cell {P : Nat → Prop} {w w' : World} (h : Chg P w w') {p : Addr} (hp : p.block < w.heap.size) (hq : ¬ P p.block) : w'.cell? p = w.cell? p := World.cell?_of_block (h.block _ hp hq)

/-- n values that can be read behind c. -/
def RowV (w : World) (c : Option Addr) (n : Nat) (f : Nat → Value) : Prop :=
  ∀ i, i < n → ∃ xb xo : Nat, c = some ⟨xb, xo, none⟩ ∧ xb < w.heap.size ∧ w.cell? ⟨xb, xo + i, none⟩ = some (f i)
theorem RowV.chg {P : Nat → Prop} {w w' : World} {c : Option Addr} {n : Nat} {f : Nat → Value} (h : RowV w c n f) (k : Chg P w w') (hp : ∀ xb xo, c = some ⟨xb, xo, none⟩ → xb < w.heap.size → ¬ P xb) : RowV w' c n f := by
  intro i hi
  obtain ⟨xb, xo, e, l, hc⟩ := h i hi
  exact ⟨xb, xo, e, Nat.lt_of_lt_of_le l k.size, by rw [k.cell l (hp xb xo e l), hc]⟩
theorem RowV.keep {w w' : World} {c : Option Addr} {n : Nat} {f : Nat → Value} (h : RowV w c n f) (k : Chg nob w w') : RowV w' c n f := h.chg k (fun _ _ _ _ x => x)
theorem RowV.of_row {w : World} {g : Nat} {t : TypeId} {n m : Nat} {f : Nat → Value} (h : w.rowIs g t m f) (hm : n ≤ m) : RowV w (some ⟨g, 0, none⟩) n f := by
  intro i hi
  exact ⟨g, 0, rfl, h.lt, by rw [Nat.zero_add]; exact h.cell (by omega)⟩
theorem RowV.congr {w : World} {c : Option Addr} {n : Nat} {f g : Nat → Value} (h : RowV w c n f) (k : ∀ i, i < n → f i = g i) : RowV w c n g := by
  intro i hi
  obtain ⟨xb, xo, e, l, hc⟩ := h i hi
  exact ⟨xb, xo, e, l, by rw [hc, k i hi]⟩
theorem rowIs_chg {P : Nat → Prop} {w w' : World} {g : Nat} {t : TypeId} {n : Nat} {f : Nat → Value} (h : w.rowIs g t n f) (k : Chg P w w') (hp : ¬ P g) : w'.rowIs g t n f := h.of_block (k.block g h.lt hp)
theorem rowIs_keep {w w' : World} {g : Nat} {t : TypeId} {n : Nat} {f : Nat → Value} (h : w.rowIs g t n f) (k : Chg nob w w') : w'.rowIs g t n f := rowIs_chg h k (fun x => x)
theorem Chg.see {w w' : World} (h : Chg nob w w') {b o : Nat} {v : Value} (c : w.cell? ⟨b, o, none⟩ = some v) : w'.cell? ⟨b, o, none⟩ = some v :=
  (h.cell (p := ⟨b, o, none⟩) (World.block_lt_of_cell? w _ c) (fun x => x)).trans c

theorem Chg.near {P : Nat → Prop} {w W W' : World} (h : Chg nob w W) (k : Chg P W W') (hp : ∀ i, P i → w.heap.size ≤ i) : Chg nob w W' :=
  ⟨k.os.trans h.os, k.tape.trans h.tape, k.output.trans h.output, Nat.le_trans h.size k.size, fun i hi _ => (k.block i (Nat.lt_of_lt_of_le hi h.size) (fun x => by have := hp i x; omega)).trans (h.block i hi (fun x => x))⟩
theorem Chg.drew1 {P : Nat → Prop} {a b : World} (h : Chg P a b) : Chg P a b.drew := ⟨h.os, h.tape, h.output, h.size, h.block⟩
theorem Chg.belowAll {w w' : World} (h : Chg nob w w') : Below w.heap.size w w' := ⟨h.os, h.tape, h.output, h.size, fun k hk => h.block k hk (fun x => x)⟩

end Go.Proofs.YtpndbkgjdnkmcaaDoor

namespace Go.Proofs.YtpndbkgjdnkmcaaDoor
open Go.RowKit
set_option linter.unusedVariables false
set_option linter.unusedSimpArgs false
set_option maxRecDepth 100000

/-- n gates that can be read behind c. -/
def GatV (w : World) (c : Option Addr) (n : Nat) (G : Nat → Gt) : Prop :=
  ∀ i, i < n → ∃ xb xo : Nat, c = some ⟨xb, xo, none⟩ ∧ xb < w.heap.size ∧ w.cell? ⟨xb, xo + i * 4, none⟩ = some (.int .i64 (G i).1) ∧ w.cell? ⟨xb, xo + i * 4 + 1, none⟩ = some (.int .i64 (G i).2.1) ∧ w.cell? ⟨xb, xo + i * 4 + 2, none⟩ = some (.int .i64 (G i).2.2.1) ∧ w.cell? ⟨xb, xo + i * 4 + 3, none⟩ = some (.int .i64 (G i).2.2.2)
theorem GatV.chg {P : Nat → Prop} {w w' : World} {c : Option Addr} {n : Nat} {G : Nat → Gt} (h : GatV w c n G) (k : Chg P w w') (hp : ∀ xb xo, c = some ⟨xb, xo, none⟩ → 0 < n → xb < w.heap.size → ¬ P xb) : GatV w' c n G := by
  intro i hi
  obtain ⟨xb, xo, e, l, h1, h2, h3, h4⟩ := h i hi
  have np := hp xb xo e (by omega) l
  exact ⟨xb, xo, e, Nat.lt_of_lt_of_le l k.size, by rw [k.cell l np, h1], by rw [k.cell l np, h2], by rw [k.cell l np, h3], by rw [k.cell l np, h4]⟩
theorem GatV.keep {w w' : World} {c : Option Addr} {n : Nat} {G : Nat → Gt} (h : GatV w c n G) (k : Chg nob w w') : GatV w' c n G := h.chg k (fun _ _ _ _ _ x => x)
theorem GatV.low {w : World} {c : Option Addr} {n m : Nat} {G : Nat → Gt} (h : GatV w c n G) (hm : m ≤ n) : GatV w c m G := fun i hi => h i (by omega)
/-- Gates, cell by cell. -/
def gf (G : Nat → Gt) (i : Nat) : Value := .int .i64 (if i % 4 = 0 then (G (i / 4)).1 else if i % 4 = 1 then (G (i / 4)).2.1 else if i % 4 = 2 then (G (i / 4)).2.2.1 else (G (i / 4)).2.2.2)
theorem gf_0 (G : Nat → Gt) (k : Nat) : gf G (k * 4) = .int .i64 (G k).1 := by
  unfold gf; rw [if_pos (by omega), show k * 4 / 4 = k by omega]
theorem gf_1 (G : Nat → Gt) (k : Nat) : gf G (k * 4 + 1) = .int .i64 (G k).2.1 := by
  unfold gf; rw [if_neg (by omega), if_pos (by omega), show (k * 4 + 1) / 4 = k by omega]
theorem gf_2 (G : Nat → Gt) (k : Nat) : gf G (k * 4 + 2) = .int .i64 (G k).2.2.1 := by
  unfold gf; rw [if_neg (by omega), if_neg (by omega), if_pos (by omega), show (k * 4 + 2) / 4 = k by omega]
theorem gf_3 (G : Nat → Gt) (k : Nat) : gf G (k * 4 + 3) = .int .i64 (G k).2.2.2 := by
  unfold gf; rw [if_neg (by omega), if_neg (by omega), if_neg (by omega), show (k * 4 + 3) / 4 = k by omega]
theorem GatV.of_row {w : World} {b : Nat} {t : TypeId} {n N : Nat} {G : Nat → Gt} {h : Nat → Value} (r : w.rowIs b t N h) (hm : n * 4 ≤ N) (e : ∀ i, i < n * 4 → h i = gf G i) : GatV w (some ⟨b, 0, none⟩) n G := by
  intro i hi
  refine ⟨b, 0, rfl, r.lt, ?_, ?_, ?_, ?_⟩
  · rw [Nat.zero_add, r.cell (by omega), e _ (by omega), gf_0]
  · rw [Nat.zero_add, r.cell (by omega), e _ (by omega), gf_1]
  · rw [Nat.zero_add, r.cell (by omega), e _ (by omega), gf_2]
  · rw [Nat.zero_add, r.cell (by omega), e _ (by omega), gf_3]

end Go.Proofs.YtpndbkgjdnkmcaaDoor
