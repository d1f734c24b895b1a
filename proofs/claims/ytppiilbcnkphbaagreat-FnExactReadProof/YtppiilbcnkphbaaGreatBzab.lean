/- Several texts in one: Words on memory: which blocks have turned; a row that can be read; a row of the call's own. No program is named here. · Words on memory, two cells an element: a block of two cells; a row of pairs. No program is named here. · What the greater field's functions answer, and those of its model: contracts. Conditions: those of each theorem. · What the greater field's exported functions answer, whatever the numbers: contracts. No condition but those that are stated. -/
import Derived.Below
import Derived.WalkSmall
import Derived.Deep.OwnRows
import Derived.Deep.Draws
import Derived.OwnWalk
import Derived.OpenShut
import Derived.Test.YtppiilbcnkphbaaGreatBzaa
import Derived.RegionTactic
import Derived.ChangeAlike
import Derived.BigRegion
import Derived.Deep.QuietTactic
import Derived.BigQuiet
import Derived.Deep.RegionHeld3
namespace Go.Proofs.YtppiilbcnkphbaaGreat
open Go.RowKit

theorem hik {p : Prop} (h : p) : Hid p := h
/-- From w to w' none but blocks of P have turned; there may be new ones. -/
structure Chg (P : Nat → Prop) (w w' : World) : Prop where
  os : w'.os = w.os
  tape : w'.tape = w.tape
  output : w'.output = w.output
  size : w.heap.size ≤ w'.heap.size
  block : ∀ k, k < w.heap.size → ¬ P k → w'.heap[k]? = w.heap[k]?
/-- No block. -/
def nob (_ : Nat) : Prop := False
theorem Chg.refl (P : Nat → Prop) (w : World) : Chg P w w := ⟨rfl, rfl, rfl, Nat.le_refl _, fun _ _ _ => rfl⟩
theorem Chg.trans {P : Nat → Prop} {a b c : World} (h : Chg P a b) (k : Chg P b c) : Chg P a c :=
  ⟨k.os.trans h.os, k.tape.trans h.tape, k.output.trans h.output, Nat.le_trans h.size k.size, fun i hi hp => (k.block i (Nat.lt_of_lt_of_le hi h.size) hp).trans (h.block i hi hp)⟩
theorem Chg.mono {P Q : Nat → Prop} {a b : World} (h : Chg P a b) (k : ∀ i, i < a.heap.size → P i → Q i) : Chg Q a b :=
  ⟨h.os, h.tape, h.output, h.size, fun i hi hp => h.block i hi (fun x => hp (k i hi x))⟩
theorem Chg.wide {P : Nat → Prop} {a b : World} (h : Chg nob a b) : Chg P a b := h.mono (fun _ _ x => x.elim)
theorem Chg.drewN {P : Nat → Prop} {a b : World} (h : Chg P a b) (n : Nat) : Chg P a (b.drewN n) := ⟨h.os, h.tape, h.output, h.size, h.block⟩
theorem Chg.below {B : Nat} {a b : World} (h : Chg (fun k => B ≤ k) a b) (hB : B ≤ a.heap.size) : Below B a b :=
  ⟨h.os, h.tape, h.output, h.size, fun k hk => h.block k (Nat.lt_of_lt_of_le hk hB) (by omega)⟩
theorem Chg.alloc {P : Nat → Prop} {a b : World} (h : Chg P a b) (o : Obj) : Chg P a (b.alloc o) :=
  ⟨h.os, h.tape, h.output, by simp; have := h.size; omega, fun k hk hp => (Below.heap_alloc b o k (Nat.lt_of_lt_of_le hk h.size)).trans (h.block k hk hp)⟩
theorem Chg.setCell {P : Nat → Prop} {a b : World} (h : Chg P a b) {p : Addr} (hp : p.block < a.heap.size → P p.block) (u : Value) : Chg P a (b.setCell p u) :=
  ⟨h.os, h.tape, h.output, by simp; exact h.size, fun k hk hq => (Below.heap_setCell b p u k (fun e => hq (e ▸ hp (e ▸ hk)))).trans (h.block k hk hq)⟩
theorem Chg.grown {P : Nat → Prop} {a b c : World} {row : Option Nat} (h : Chg P a b) (hg : b.grownBy c row) (hr : ∀ k, row = some k → k < a.heap.size → P k) : Chg P a c :=
  ⟨hg.os.trans h.os, hg.tape.trans h.tape, hg.output.trans h.output, Nat.le_trans h.size hg.size, fun k hk hp => (hg.block k (Nat.lt_of_lt_of_le hk h.size) (fun e => hp (hr k e.symm hk))).trans (h.block k hk hp)⟩
theorem Chg.cell {P : Nat → Prop} {w w' : World} (h : Chg P w w') {p : Addr} (hp : p.block < w.heap.size) (hq : ¬ P p.block) : w'.cell? p = w.cell? p := World.cell?_of_block (h.block _ hp hq)

/-- n values that can be read behind c. -/
def RowV (w : World) (c : Option Addr) (n : Nat) (f : Nat → Value) : Prop :=
  ∀ i, i < n → ∃ xb xo : Nat, c = some ⟨xb, xo, none⟩ ∧ xb < w.heap.size ∧ w.cell? ⟨xb, xo + i, none⟩ = some (f i)
theorem RowV.chg {P : Nat → Prop} {w w' : World} {c : Option Addr} {n : Nat} {f : Nat → Value} (h : RowV w c n f) (k : Chg P w w') (hp : ∀ xb xo, c = some ⟨xb, xo, none⟩ → xb < w.heap.size → ¬ P xb) : RowV w' c n f := by
  intro i hi
  obtain ⟨xb, xo, e, l, hc⟩ := h i hi
  exact ⟨xb, xo, e, Nat.lt_of_lt_of_le l k.size, by rw [k.cell l (hp xb xo e l), hc]⟩
theorem RowV.keep {w w' : World} {c : Option Addr} {n : Nat} {f : Nat → Value} (h : RowV w c n f) (k : Chg nob w w') : RowV w' c n f := h.chg k (fun _ _ _ _ x => x)
theorem RowV.of_row {w : World} {g : Nat} {t : TypeId} {n m : Nat} {f : Nat → Value} (h : w.rowIs g t m f) (hm : n ≤ m) : RowV w (some ⟨g, 0, none⟩) n f := by
  intro i hi
  exact ⟨g, 0, rfl, h.lt, by rw [Nat.zero_add]; exact h.cell (by omega)⟩
theorem RowV.congr {w : World} {c : Option Addr} {n : Nat} {f g : Nat → Value} (h : RowV w c n f) (k : ∀ i, i < n → f i = g i) : RowV w c n g := by
  intro i hi
  obtain ⟨xb, xo, e, l, hc⟩ := h i hi
  exact ⟨xb, xo, e, l, by rw [hc, k i hi]⟩
theorem rowIs_chg {P : Nat → Prop} {w w' : World} {g : Nat} {t : TypeId} {n : Nat} {f : Nat → Value} (h : w.rowIs g t n f) (k : Chg P w w') (hp : ¬ P g) : w'.rowIs g t n f := h.of_block (k.block g h.lt hp)
theorem rowIs_keep {w w' : World} {g : Nat} {t : TypeId} {n : Nat} {f : Nat → Value} (h : w.rowIs g t n f) (k : Chg nob w w') : w'.rowIs g t n f := rowIs_chg h k (fun x => x)
theorem Chg.see {w w' : World} (h : Chg nob w w') {b o : Nat} {v : Value} (c : w.cell? ⟨b, o, none⟩ = some v) : w'.cell? ⟨b, o, none⟩ = some v :=
  (h.cell (p := ⟨b, o, none⟩) (World.block_lt_of_cell? w _ c) (fun x => x)).trans c

theorem Chg.near {P : Nat → Prop} {w W W' : World} (h : Chg nob w W) (k : Chg P W W') (hp : ∀ i, P i → w.heap.size ≤ i) : Chg nob w W' :=
  ⟨k.os.trans h.os, k.tape.trans h.tape, k.output.trans h.output, Nat.le_trans h.size k.size, fun i hi _ => (k.block i (Nat.lt_of_lt_of_le hi h.size) (fun x => by have := hp i x; omega)).trans (h.block i hi (fun x => x))⟩
theorem Chg.drew1 {P : Nat → Prop} {a b : World} (h : Chg P a b) : Chg P a b.drew := ⟨h.os, h.tape, h.output, h.size, h.block⟩

end Go.Proofs.YtppiilbcnkphbaaGreat

namespace Go.Proofs.YtppiilbcnkphbaaGreat
open Go.RowKit

/-- Old cells read as before. -/
theorem kcell {W w1 : World} (h : Chg nob W w1) (N : Nat) (hN : N ≤ W.heap.size) : (∀ b o, b < N → w1.cell? ⟨b, o, none⟩ = W.cell? ⟨b, o, none⟩) ∧ (∀ b o, b < N → w1.frozen? ⟨b, o, none⟩ = W.frozen? ⟨b, o, none⟩) ∧ N ≤ w1.heap.size :=
  ⟨fun b o hb => h.cell (p := ⟨b, o, none⟩) (Nat.lt_of_lt_of_le hb hN) (fun x => x), fun b o hb => World.frozen?_of_block (a := ⟨b, o, none⟩) (h.block b (Nat.lt_of_lt_of_le hb hN) (fun x => x)), Nat.le_trans hN h.size⟩
theorem Chg.drew {P : Nat → Prop} {a b : World} (h : Chg P a b) : Chg P a b.drew := ⟨h.os, h.tape, h.output, h.size, h.block⟩
theorem Chg.toBelow {a b : World} (h : Chg nob a b) : Below a.heap.size a b := ⟨h.os, h.tape, h.output, h.size, fun k hk => h.block k hk (fun x => x)⟩
/-- n pairs of ints that can be read behind c. -/
def PairV (w : World) (c : Option Addr) (n : Nat) (f g : Nat → Int) : Prop :=
  ∀ i, i < n → ∃ xb xo : Nat, c = some ⟨xb, xo, none⟩ ∧ xb < w.heap.size ∧ w.cell? ⟨xb, xo + i * 2, none⟩ = some (.int .i64 (f i)) ∧ w.cell? ⟨xb, xo + i * 2 + 1, none⟩ = some (.int .i64 (g i))
theorem PairV.chg {P : Nat → Prop} {w w' : World} {c : Option Addr} {n : Nat} {f g : Nat → Int} (h : PairV w c n f g) (k : Chg P w w') (hp : ∀ xb xo, c = some ⟨xb, xo, none⟩ → xb < w.heap.size → ¬ P xb) : PairV w' c n f g := by
  intro i hi
  obtain ⟨xb, xo, e, l, h1, h2⟩ := h i hi
  exact ⟨xb, xo, e, Nat.lt_of_lt_of_le l k.size, by rw [k.cell l (hp xb xo e l), h1], by rw [k.cell l (hp xb xo e l), h2]⟩
theorem PairV.keep {w w' : World} {c : Option Addr} {n : Nat} {f g : Nat → Int} (h : PairV w c n f g) (k : Chg nob w w') : PairV w' c n f g := h.chg k (fun _ _ _ _ x => x)
/-- Two values. -/
def pv2 (u v : Value) (i : Nat) : Value := if i = 0 then u else v
/-- Two ints. -/
def pi2 (x y : Int) : Nat → Value := pv2 (.int .i64 x) (.int .i64 y)
theorem row2_set {W : World} {g : Nat} {t : TypeId} {f : Nat → Value} (h : W.rowIs g t 2 f) (u v : Value) : ((W.setCell ⟨g, 0, none⟩ u).setCell ⟨g, 1, none⟩ v).rowIs g t 2 (pv2 u v) :=
  ((h.set 0 u).set 1 v).congr (fun i hi => by
    match i, hi with
    | 0, _ => rfl
    | 1, _ => rfl)
theorem row2_new (W : World) (u v : Value) (t : TypeId) : (W.alloc (.cells #[u, v] t)).rowIs W.heap.size t 2 (pv2 u v) :=
  W.rowIs_alloc #[u, v] t (pv2 u v) (fun i hi => by
    match i, hi with
    | 0, _ => rfl
    | 1, _ => rfl)
theorem row2_c0 {W : World} {g : Nat} {t : TypeId} {u v : Value} (h : W.rowIs g t 2 (pv2 u v)) : W.cell? ⟨g, 0, none⟩ = some u := h.cell (by omega)
theorem row2_c1 {W : World} {g : Nat} {t : TypeId} {u v : Value} (h : W.rowIs g t 2 (pv2 u v)) : W.cell? ⟨g, 1, none⟩ = some v := h.cell (by omega)
theorem chg2_set {P : Nat → Prop} {w W : World} (h : Chg P w W) (g : Nat) (hg : g < w.heap.size → P g) (u v : Value) : Chg P w ((W.setCell ⟨g, 0, none⟩ u).setCell ⟨g, 1, none⟩ v) :=
  (h.setCell (p := ⟨g, 0, none⟩) hg u).setCell (p := ⟨g, 1, none⟩) hg v

end Go.Proofs.YtppiilbcnkphbaaGreat

namespace Go.Proofs.YtppiilbcnkphbaaGreat
open Go.ChangeShapes Go.WideShapes Go.ChangeAt Go.RowKit
set_option linter.unusedVariables false

/-- Both parts are numbers of the field. -/
def eok (a b : Int) : Bool := fok a && fok b
theorem eok_a {a b : Int} (h : eok a b = true) : fok a = true := by unfold eok at h; cases h1 : fok a <;> simp [h1] at h ⊢
theorem eok_b {a b : Int} (h : eok a b = true) : fok b = true := by unfold eok at h; cases h1 : fok b <;> simp [h1] at h ⊢

set_option maxHeartbeats 400000 in
theorem extOK_any (a b : Int) (w : World) :
    Calls Tryz.prog 80 #[.agg #[.int .i64 a, .int .i64 b]] w fun e w' => e = .returned (.bool (eok a b)) ∧ Chg nob w w' := by
  cases ha : fok a
  · go_enter Tryz.func80, Tryz.ntmps80
    go_wp2_with (go_at_call 90; refine (fieldOK_any _ _).mono ?_; rintro e w' ⟨rfl, rfl⟩)
    go_ret
    exact ⟨ret_bool (by simp [eok, ha]), (Chg.refl _ _).alloc _⟩
  · cases hb : fok b
    all_goals
      go_enter Tryz.func80, Tryz.ntmps80
      go_wp2_with (go_at_call 90; refine (fieldOK_any _ _).mono ?_; rintro e w' ⟨rfl, rfl⟩)
      go_ret
      exact ⟨ret_bool (by simp [eok, ha, hb]), (Chg.refl _ _).alloc _⟩

set_option maxHeartbeats 400000 in
theorem minus_any (a b c d : Int) (w : World) (a0 : 0 ≤ a) (a1 : a < 2130706433) (b0 : 0 ≤ b) (b1 : b < 2130706433) (c0 : 0 ≤ c) (c1 : c < 2130706433) (d0 : 0 ≤ d) (d1 : d < 2130706433) :
    Calls Tryz.prog 109 #[.agg #[.int .i64 a, .int .i64 b], .agg #[.int .i64 c, .int .i64 d]] w fun e w' => e = .returned (.agg #[.int .i64 ((a + 2130706433 - c) % 2130706433), .int .i64 ((b + 2130706433 - d) % 2130706433)]) ∧ Chg nob w w' := by
  go_enter Tryz.func109, Tryz.ntmps109
  go_wp2
  exact bodyPost_ret (v := .agg #[.int .i64 ((a + 2130706433 - c) % 2130706433), .int .i64 ((b + 2130706433 - d) % 2130706433)]) (by simp [results, Tryz.results109, go_sem]) rfl ⟨rfl, (by repeat (first | with_reducible exact Chg.refl _ _ | with_reducible refine Chg.alloc ?_ _ | with_reducible refine Chg.drewN ?_ _ | with_reducible refine Chg.drew ?_ | with_reducible refine Chg.setCell ?_ (fun l => absurd l (by dsimp only; omega)) _ | with_reducible refine Chg.trans ?_ (by assumption)))⟩

set_option maxHeartbeats 1000000 in
theorem times_any (a b c d : Int) (w : World) (a0 : 0 ≤ a) (a1 : a < 2130706433) (b0 : 0 ≤ b) (b1 : b < 2130706433) (c0 : 0 ≤ c) (c1 : c < 2130706433) (d0 : 0 ≤ d) (d1 : d < 2130706433) :
    Calls Tryz.prog 108 #[.agg #[.int .i64 a, .int .i64 b], .agg #[.int .i64 c, .int .i64 d]] w fun e w' => e = .returned (.agg #[.int .i64 (Fld.mA a b c d), .int .i64 (Fld.mB a b c d)]) ∧ Chg nob w w' := by
  have m1 := Fld.mul_bound a c a0 a1 c0 c1
  have m2 := Fld.mul_bound b d b0 b1 d0 d1
  have m3 := Fld.mul_bound a d a0 a1 d0 d1
  have m4 := Fld.mul_bound b c b0 b1 c0 c1
  go_enter Tryz.func108, Tryz.ntmps108
  go_wp2
  go_quiet (fail)
  go_wp2
  exact bodyPost_ret (v := .agg #[.int .i64 (Fld.mA a b c d), .int .i64 (Fld.mB a b c d)]) (by simp [results, Tryz.results108, go_sem, Fld.mA, Fld.mB]) rfl ⟨rfl, (by repeat (first | with_reducible exact Chg.refl _ _ | with_reducible refine Chg.alloc ?_ _ | with_reducible refine Chg.drewN ?_ _ | with_reducible refine Chg.drew ?_ | with_reducible refine Chg.setCell ?_ (fun l => absurd l (by dsimp only; omega)) _ | with_reducible refine Chg.trans ?_ (by assumption)))⟩

/-- What a power keeps in memory: the element, the result's place, the product. -/
structure PM (w W : World) (t : TypeId) (x1 x2 y1 y2 : Int) : Prop where
  rx : W.rowIs w.heap.size t 2 (pi2 x1 x2)
  rr : W.rowIs (w.heap.size + 1) t 2 (pi2 0 0)
  ry : W.rowIs (w.heap.size + 1 + 1) t 2 (pi2 y1 y2)
  chg : Chg nob w W
  size : w.heap.size + 3 ≤ W.heap.size
theorem PM.keep {w W W' : World} {t : TypeId} {x1 x2 y1 y2 : Int} (h : PM w W t x1 x2 y1 y2) (k : Chg nob W W') : PM w W' t x1 x2 y1 y2 :=
  ⟨rowIs_keep h.rx k, rowIs_keep h.rr k, rowIs_keep h.ry k, h.chg.trans k, Nat.le_trans h.size k.size⟩
theorem PM.new (w : World) (t : TypeId) (x1 x2 y1 y2 : Int) : PM w (((w.alloc (.cells #[.int .i64 x1, .int .i64 x2] t)).alloc (.cells #[.int .i64 0, .int .i64 0] t)).alloc (.cells #[.int .i64 y1, .int .i64 y2] t)) t x1 x2 y1 y2 :=
  ⟨((row2_new w _ _ t).alloc _).alloc _, by have h := (row2_new (w.alloc (.cells #[.int .i64 x1, .int .i64 x2] t)) (.int .i64 0) (.int .i64 0) t).alloc (.cells #[.int .i64 y1, .int .i64 y2] t); simpa [pi2] using h,
   by have h := row2_new ((w.alloc (.cells #[.int .i64 x1, .int .i64 x2] t)).alloc (.cells #[.int .i64 0, .int .i64 0] t)) (.int .i64 y1) (.int .i64 y2) t; simpa [pi2] using h, (((Chg.refl _ _).alloc _).alloc _).alloc _, by simp⟩


end Go.Proofs.YtppiilbcnkphbaaGreat

namespace Go.Proofs.YtppiilbcnkphbaaGreat
open Go.ChangeShapes Go.WideShapes Go.ChangeAt Go.RowKit
set_option linter.unusedVariables false
set_option linter.unusedSimpArgs false

/-- What is answered of two elements. -/
def eb (a b c d v : Int) : Int := if eok a b && eok c d then v else 0
/-- What is answered of one. -/
def e1 (a b v : Int) : Int := if eok a b then v else 0


end Go.Proofs.YtppiilbcnkphbaaGreat
