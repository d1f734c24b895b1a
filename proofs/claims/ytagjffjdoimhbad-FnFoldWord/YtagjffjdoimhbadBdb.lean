/- Several texts in one: Words on memory, two cells an element: a block of two cells; a row of pairs. No program is named here. · Words on memory: what is there stays there. No program is named here. · What the greater field's functions answer, and those of its model: contracts. Conditions: those of each theorem. · What the greater field's exported functions answer, whatever the numbers: contracts. No condition but those that are stated. · What the model's functions on the greater field answer: contracts. Conditions: those of each theorem. · What the model's norm, inverse and power answer, and the laws' own helpers on elements: contracts. Conditions: those of each theorem. · Helpers of the exact laws over elements: what is kept in memory between their statements. No condition but those that are stated. · Slices of elements: what the laws' helpers and the tests of lists on them do: contracts. Conditions: rows that can be read, lengths of at most 2 to the 40. -/
import Derived.Test.YtagjffjdoimhbadMem
import Derived.OpenShut
import Derived.WalkKit
import Derived.Test.YtagjffjdoimhbadBda
import Derived.RegionTactic
import Derived.ChangeAlike
import Derived.BigRegion
import Derived.Deep.QuietTactic
import Derived.BigQuiet
import Derived.Deep.RegionHeld3
import Derived.Deep.CutRange
namespace Go.Proofs.Ytagjffjdoimhbad
open Go.RowKit

/-- Old cells read as before. -/
theorem kcell {W w1 : World} (h : Chg nob W w1) (N : Nat) (hN : N ≤ W.heap.size) : (∀ b o, b < N → w1.cell? ⟨b, o, none⟩ = W.cell? ⟨b, o, none⟩) ∧ (∀ b o, b < N → w1.frozen? ⟨b, o, none⟩ = W.frozen? ⟨b, o, none⟩) ∧ N ≤ w1.heap.size :=
  ⟨fun b o hb => h.cell (p := ⟨b, o, none⟩) (Nat.lt_of_lt_of_le hb hN) (fun x => x), fun b o hb => World.frozen?_of_block (a := ⟨b, o, none⟩) (h.block b (Nat.lt_of_lt_of_le hb hN) (fun x => x)), Nat.le_trans hN h.size⟩
theorem Chg.drew {P : Nat → Prop} {a b : World} (h : Chg P a b) : Chg P a b.drew := ⟨h.os, h.tape, h.output, h.size, h.block⟩
theorem Chg.toBelow {a b : World} (h : Chg nob a b) : Below a.heap.size a b := ⟨h.os, h.tape, h.output, h.size, fun k hk => h.block k hk (fun x => x)⟩
/-- What is told of a slice of elements that came in: it is nil, or it leads to pairs of ints. -/
def IsPairs (w : World) (c : Option Addr) (len cap : Nat) (f g : Nat → Int) : Prop :=
  (c = none ∧ len = 0 ∧ cap = 0) ∨
  ∃ x, c = some x ∧ len ≤ cap ∧ cap ≤ maxLen ∧ ∀ i, i < len → w.cell? (x.add (i * 2)) = some (.int .i64 (f i)) ∧ w.cell? (x.add (i * 2 + 1)) = some (.int .i64 (g i))
/-- The number of an int. -/
def cint : Option Value → Int
  | some (.int _ a) => a
  | _ => 0
/-- n pairs of ints that can be read behind c. -/
def PairV (w : World) (c : Option Addr) (n : Nat) (f g : Nat → Int) : Prop :=
  ∀ i, i < n → ∃ xb xo : Nat, c = some ⟨xb, xo, none⟩ ∧ xb < w.heap.size ∧ w.cell? ⟨xb, xo + i * 2, none⟩ = some (.int .i64 (f i)) ∧ w.cell? ⟨xb, xo + i * 2 + 1, none⟩ = some (.int .i64 (g i))
theorem pairs_of {w : World} {c : Option Addr} {len cap : Nat} {f g : Nat → Int} (h : IsPairs w c len cap f g) : PairV w c len f g ∧ (len : Int) ≤ 9223372036854775807 := by
  rcases h with ⟨rfl, rfl, rfl⟩ | ⟨x, rfl, hl, hm, hc⟩
  · exact ⟨fun i hi => by omega, by omega⟩
  · unfold maxLen at hm
    refine ⟨fun i hi => ?_, by omega⟩
    obtain ⟨h1, h2⟩ := hc i hi
    obtain ⟨b, o, spot⟩ := x
    have hs : spot = none := by simpa [Addr.add] using World.cell?_spot (hc 0 (by omega)).1
    subst hs
    rw [Go.WideShapes.add_plain] at h1 h2
    exact ⟨b, o, rfl, block_lt_of_cell h1, h1, by rw [Nat.add_assoc]; exact h2⟩
theorem PairV.chg {P : Nat → Prop} {w w' : World} {c : Option Addr} {n : Nat} {f g : Nat → Int} (h : PairV w c n f g) (k : Chg P w w') (hp : ∀ xb xo, c = some ⟨xb, xo, none⟩ → xb < w.heap.size → ¬ P xb) : PairV w' c n f g := by
  intro i hi
  obtain ⟨xb, xo, e, l, h1, h2⟩ := h i hi
  exact ⟨xb, xo, e, Nat.lt_of_lt_of_le l k.size, by rw [k.cell l (hp xb xo e l), h1], by rw [k.cell l (hp xb xo e l), h2]⟩
theorem PairV.keep {w w' : World} {c : Option Addr} {n : Nat} {f g : Nat → Int} (h : PairV w c n f g) (k : Chg nob w w') : PairV w' c n f g := h.chg k (fun _ _ _ _ x => x)
/-- Two values. -/
def pv2 (u v : Value) (i : Nat) : Value := if i = 0 then u else v
/-- Two ints. -/
def pi2 (x y : Int) : Nat → Value := pv2 (.int .i64 x) (.int .i64 y)
theorem row2_set {W : World} {g : Nat} {t : TypeId} {f : Nat → Value} (h : W.rowIs g t 2 f) (u v : Value) : ((W.setCell ⟨g, 0, none⟩ u).setCell ⟨g, 1, none⟩ v).rowIs g t 2 (pv2 u v) :=
  ((h.set 0 u).set 1 v).congr (fun i hi => by
    match i, hi with
    | 0, _ => rfl
    | 1, _ => rfl)
theorem row2_other {W : World} {g g' : Nat} {t : TypeId} {n : Nat} {f : Nat → Value} (h : W.rowIs g' t n f) (hne : g' ≠ g) (u v : Value) : ((W.setCell ⟨g, 0, none⟩ u).setCell ⟨g, 1, none⟩ v).rowIs g' t n f :=
  (h.setOther (a := ⟨g, 0, none⟩) hne u).setOther (a := ⟨g, 1, none⟩) hne v
theorem row2_new (W : World) (u v : Value) (t : TypeId) : (W.alloc (.cells #[u, v] t)).rowIs W.heap.size t 2 (pv2 u v) :=
  W.rowIs_alloc #[u, v] t (pv2 u v) (fun i hi => by
    match i, hi with
    | 0, _ => rfl
    | 1, _ => rfl)
theorem row2_c0 {W : World} {g : Nat} {t : TypeId} {u v : Value} (h : W.rowIs g t 2 (pv2 u v)) : W.cell? ⟨g, 0, none⟩ = some u := h.cell (by omega)
theorem row2_c1 {W : World} {g : Nat} {t : TypeId} {u v : Value} (h : W.rowIs g t 2 (pv2 u v)) : W.cell? ⟨g, 1, none⟩ = some v := h.cell (by omega)
theorem chg2_set {P : Nat → Prop} {w W : World} (h : Chg P w W) (g : Nat) (hg : g < w.heap.size → P g) (u v : Value) : Chg P w ((W.setCell ⟨g, 0, none⟩ u).setCell ⟨g, 1, none⟩ v) :=
  (h.setCell (p := ⟨g, 0, none⟩) hg u).setCell (p := ⟨g, 1, none⟩) hg v

end Go.Proofs.Ytagjffjdoimhbad

namespace Go.Proofs.Ytagjffjdoimhbad
open Go.RowKit

/-- What was there is there. -/
theorem Chg.look {w w' : World} (h : Chg nob w w') {b o : Nat} {v : Value} (c : w.cell? ⟨b, o, none⟩ = some v) : w'.cell? ⟨b, o, none⟩ = some v :=
  (h.cell (p := ⟨b, o, none⟩) (World.block_lt_of_cell? w _ c) (fun x => x)).trans c
/-- A new block of two cells is there. -/
theorem Chg.look2 {W w' : World} {u v : Value} {T : TypeId} (h : Chg nob (W.alloc (.cells #[u, v] T)) w') : w'.cell? ⟨W.heap.size, 0, none⟩ = some u ∧ w'.cell? ⟨W.heap.size, 1, none⟩ = some v :=
  ⟨h.look (by go_simp), h.look (by go_simp)⟩

end Go.Proofs.Ytagjffjdoimhbad

namespace Go.Proofs.Ytagjffjdoimhbad
open Go.ChangeShapes Go.WideShapes Go.ChangeAt Go.RowKit
set_option linter.unusedVariables false

/-- Both parts are numbers of the field. -/
def eok (a b : Int) : Bool := fok a && fok b
theorem eok_a {a b : Int} (h : eok a b = true) : fok a = true := by unfold eok at h; cases h1 : fok a <;> simp [h1] at h ⊢
theorem eok_b {a b : Int} (h : eok a b = true) : fok b = true := by unfold eok at h; cases h1 : fok b <;> simp [h1] at h ⊢
theorem eok_mk {a b : Int} (ha : fok a = true) (hb : fok b = true) : eok a b = true := by simp [eok, ha, hb]

set_option maxHeartbeats 400000 in
theorem extOK_any (a b : Int) (w : World) :
    Calls Try.prog 20 #[.agg #[.int .i64 a, .int .i64 b]] w fun e w' => e = .returned (.bool (eok a b)) ∧ Chg nob w w' := by
  cases ha : fok a
  · go_enter Try.func20, Try.ntmps20
    go_wp2_with (go_at_call 35; refine (fieldOK_any _ _).mono ?_; rintro e w' ⟨rfl, rfl⟩)
    go_ret
    exact ⟨ret_bool (by simp [eok, ha]), (Chg.refl _ _).alloc _⟩
  · cases hb : fok b
    all_goals
      go_enter Try.func20, Try.ntmps20
      go_wp2_with (go_at_call 35; refine (fieldOK_any _ _).mono ?_; rintro e w' ⟨rfl, rfl⟩)
      go_ret
      exact ⟨ret_bool (by simp [eok, ha, hb]), (Chg.refl _ _).alloc _⟩

set_option maxHeartbeats 400000 in
theorem plus_any (a b c d : Int) (w : World) (a0 : 0 ≤ a) (a1 : a < 2130706433) (b0 : 0 ≤ b) (b1 : b < 2130706433) (c0 : 0 ≤ c) (c1 : c < 2130706433) (d0 : 0 ≤ d) (d1 : d < 2130706433) :
    Calls Try.prog 25 #[.agg #[.int .i64 a, .int .i64 b], .agg #[.int .i64 c, .int .i64 d]] w fun e w' => e = .returned (.agg #[.int .i64 ((a + c) % 2130706433), .int .i64 ((b + d) % 2130706433)]) ∧ Chg nob w w' := by
  go_enter Try.func25, Try.ntmps25
  go_wp2
  exact bodyPost_ret (v := .agg #[.int .i64 ((a + c) % 2130706433), .int .i64 ((b + d) % 2130706433)]) (by simp [results, Try.results25, go_sem]) rfl ⟨rfl, (by repeat (first | with_reducible exact Chg.refl _ _ | with_reducible refine Chg.alloc ?_ _ | with_reducible refine Chg.drewN ?_ _ | with_reducible refine Chg.drew ?_ | with_reducible refine Chg.setCell ?_ (fun l => absurd l (by dsimp only; omega)) _ | with_reducible refine Chg.trans ?_ (by assumption)))⟩

set_option maxHeartbeats 400000 in
theorem minus_any (a b c d : Int) (w : World) (a0 : 0 ≤ a) (a1 : a < 2130706433) (b0 : 0 ≤ b) (b1 : b < 2130706433) (c0 : 0 ≤ c) (c1 : c < 2130706433) (d0 : 0 ≤ d) (d1 : d < 2130706433) :
    Calls Try.prog 32 #[.agg #[.int .i64 a, .int .i64 b], .agg #[.int .i64 c, .int .i64 d]] w fun e w' => e = .returned (.agg #[.int .i64 ((a + 2130706433 - c) % 2130706433), .int .i64 ((b + 2130706433 - d) % 2130706433)]) ∧ Chg nob w w' := by
  go_enter Try.func32, Try.ntmps32
  go_wp2
  exact bodyPost_ret (v := .agg #[.int .i64 ((a + 2130706433 - c) % 2130706433), .int .i64 ((b + 2130706433 - d) % 2130706433)]) (by simp [results, Try.results32, go_sem]) rfl ⟨rfl, (by repeat (first | with_reducible exact Chg.refl _ _ | with_reducible refine Chg.alloc ?_ _ | with_reducible refine Chg.drewN ?_ _ | with_reducible refine Chg.drew ?_ | with_reducible refine Chg.setCell ?_ (fun l => absurd l (by dsimp only; omega)) _ | with_reducible refine Chg.trans ?_ (by assumption)))⟩

set_option maxHeartbeats 1000000 in
theorem times_any (a b c d : Int) (w : World) (a0 : 0 ≤ a) (a1 : a < 2130706433) (b0 : 0 ≤ b) (b1 : b < 2130706433) (c0 : 0 ≤ c) (c1 : c < 2130706433) (d0 : 0 ≤ d) (d1 : d < 2130706433) :
    Calls Try.prog 24 #[.agg #[.int .i64 a, .int .i64 b], .agg #[.int .i64 c, .int .i64 d]] w fun e w' => e = .returned (.agg #[.int .i64 (Fld.mA a b c d), .int .i64 (Fld.mB a b c d)]) ∧ Chg nob w w' := by
  have m1 := Fld.mul_bound a c a0 a1 c0 c1
  have m2 := Fld.mul_bound b d b0 b1 d0 d1
  have m3 := Fld.mul_bound a d a0 a1 d0 d1
  have m4 := Fld.mul_bound b c b0 b1 c0 c1
  go_enter Try.func24, Try.ntmps24
  go_wp2
  go_quiet (fail)
  go_wp2
  exact bodyPost_ret (v := .agg #[.int .i64 (Fld.mA a b c d), .int .i64 (Fld.mB a b c d)]) (by simp [results, Try.results24, go_sem, Fld.mA, Fld.mB]) rfl ⟨rfl, (by repeat (first | with_reducible exact Chg.refl _ _ | with_reducible refine Chg.alloc ?_ _ | with_reducible refine Chg.drewN ?_ _ | with_reducible refine Chg.drew ?_ | with_reducible refine Chg.setCell ?_ (fun l => absurd l (by dsimp only; omega)) _ | with_reducible refine Chg.trans ?_ (by assumption)))⟩

theorem field0 (x y : Int) (w : World) : (Instr.field 28 (.agg #[.int .i64 x, .int .i64 y]) 0).run Try.prog w = .ok (.int .i64 x) w := by kernel_rfl

/-- What a power keeps in memory: the element, the result's place, the product. -/
structure PM (w W : World) (t : TypeId) (x1 x2 y1 y2 : Int) : Prop where
  rx : W.rowIs w.heap.size t 2 (pi2 x1 x2)
  rr : W.rowIs (w.heap.size + 1) t 2 (pi2 0 0)
  ry : W.rowIs (w.heap.size + 1 + 1) t 2 (pi2 y1 y2)
  chg : Chg nob w W
  size : w.heap.size + 3 ≤ W.heap.size
theorem PM.keep {w W W' : World} {t : TypeId} {x1 x2 y1 y2 : Int} (h : PM w W t x1 x2 y1 y2) (k : Chg nob W W') : PM w W' t x1 x2 y1 y2 :=
  ⟨rowIs_keep h.rx k, rowIs_keep h.rr k, rowIs_keep h.ry k, h.chg.trans k, Nat.le_trans h.size k.size⟩
theorem PM.setX {w W : World} {t : TypeId} {x1 x2 y1 y2 : Int} (h : PM w W t x1 x2 y1 y2) (u v : Int) : PM w ((W.setCell ⟨w.heap.size, 0, none⟩ (.int .i64 u)).setCell ⟨w.heap.size, 1, none⟩ (.int .i64 v)) t u v y1 y2 :=
  ⟨row2_set h.rx _ _, row2_other h.rr (by omega) _ _, row2_other h.ry (by omega) _ _, chg2_set h.chg _ (fun l => absurd l (by omega)) _ _, by simpa using h.size⟩
theorem PM.setY {w W : World} {t : TypeId} {x1 x2 y1 y2 : Int} (h : PM w W t x1 x2 y1 y2) (u v : Int) : PM w ((W.setCell ⟨w.heap.size + 1 + 1, 0, none⟩ (.int .i64 u)).setCell ⟨w.heap.size + 1 + 1, 1, none⟩ (.int .i64 v)) t x1 x2 u v :=
  ⟨row2_other h.rx (by omega) _ _, row2_other h.rr (by omega) _ _, row2_set h.ry _ _, chg2_set h.chg _ (fun l => absurd l (by omega)) _ _, by simpa using h.size⟩
theorem PM.new (w : World) (t : TypeId) (x1 x2 y1 y2 : Int) : PM w (((w.alloc (.cells #[.int .i64 x1, .int .i64 x2] t)).alloc (.cells #[.int .i64 0, .int .i64 0] t)).alloc (.cells #[.int .i64 y1, .int .i64 y2] t)) t x1 x2 y1 y2 :=
  ⟨((row2_new w _ _ t).alloc _).alloc _, by have h := (row2_new (w.alloc (.cells #[.int .i64 x1, .int .i64 x2] t)) (.int .i64 0) (.int .i64 0) t).alloc (.cells #[.int .i64 y1, .int .i64 y2] t); simpa [pi2] using h,
   by have h := row2_new ((w.alloc (.cells #[.int .i64 x1, .int .i64 x2] t)).alloc (.cells #[.int .i64 0, .int .i64 0] t)) (.int .i64 y1) (.int .i64 y2) t; simpa [pi2] using h, (((Chg.refl _ _).alloc _).alloc _).alloc _, by simp⟩

set_option maxHeartbeats 2000000 in
theorem power_any (a b : Int) (k : Nat) (w : World) (a0 : 0 ≤ a) (a1 : a < 2130706433) (b0 : 0 ≤ b) (b1 : b < 2130706433) (hk : (k : Int) ≤ 9223372036854775807) :
    Calls Try.prog 27 #[.agg #[.int .i64 a, .int .i64 b], .int .i64 k] w fun e w' => e = .returned (.agg #[.int .i64 (Fld.ep (a, b) k).1, .int .i64 (Fld.ep (a, b) k).2]) ∧ Chg nob w w' := by
  go_enter Try.func27, Try.ntmps27
  go_wp2
  go_loopw [1] (fun n W => ∃ (x1 x2 y1 y2 : Int) (m : Nat), m ≤ k ∧ n = .int .i64 m ∧ Hid (Fld.Red (x1, x2)) ∧ Hid (Fld.Red (y1, y2)) ∧ Hid (Fld.mu (y1, y2) (Fld.ep (x1, x2) m) = Fld.ep (a, b) k) ∧ Hid (PM w W 28 x1 x2 y1 y2)) (fun n _ => (intOf n).toNat)
  case atStart => exact ⟨a, b, 1, 0, k, Nat.le_refl _, rfl, hide ⟨a0, a1, b0, b1⟩, hide ⟨by decide, by decide, by decide, by decide⟩, hide (Fld.one_mu (Fld.ep_red _ _)), hide (PM.new w _ _ _ _ _)⟩
  case round =>
    obtain ⟨x1, x2, y1, y2, m, hm, rfl, HX, HY, HE, HP⟩ := hrel
    obtain ⟨x10, x11, x20, x21⟩ := HX.out
    obtain ⟨y10, y11, y20, y21⟩ := HY.out
    dsimp only at x10 x11 x20 x21 y10 y11 y20 y21
    have cx0 := row2_c0 HP.out.rx
    have cx1 := row2_c1 HP.out.rx
    have cy0 := row2_c0 HP.out.ry
    have cy1 := row2_c1 HP.out.ry
    have cr0 := row2_c0 HP.out.rr
    have cr1 := row2_c1 HP.out.rr
    have fx0 := HP.out.rx.frozen 0
    have fx1 := HP.out.rx.frozen 1
    have fy0 := HP.out.ry.frozen 0
    have fy1 := HP.out.ry.frozen 1
    have fr0 := HP.out.rr.frozen 0
    have fr1 := HP.out.rr.frozen 1
    have hz := HP.out.size
    by_cases hz0 : 0 < m
    · have hd : m % 2 = 0 ∨ m % 2 = 1 := by omega
      rcases hd with hd | hd
      · have hdi : (m : Int) % 2 = 0 := by omega
        go_wp2_with fail
        refine (times_any _ _ _ _ _ (by assumption) (by assumption) (by assumption) (by assumption) (by assumption) (by assumption) (by assumption) (by assumption)).mono ?_
        rintro e w1 ⟨rfl, hk1⟩
        obtain ⟨hc1, hf1, hz1⟩ := kcell hk1 (w.heap.size + 3) hz
        go_wp2
        go_roundw
        case rel => exact ⟨_, _, y1, y2, m / 2, by omega, by go_num, hide (Fld.mu_red (x1, x2) (x1, x2)), HY, hide ((Fld.ep_even (y1, y2) (x1, x2) m hd).trans HE.out), hide ((HP.out.keep hk1).setX _ _)⟩
        case measure => simp [intOf]; omega
      · have hdi : (m : Int) % 2 = 1 := by omega
        go_wp2_with fail
        refine (times_any _ _ _ _ _ (by assumption) (by assumption) (by assumption) (by assumption) (by assumption) (by assumption) (by assumption) (by assumption)).mono ?_
        rintro e w1 ⟨rfl, hk1⟩
        obtain ⟨hc1, hf1, hz1⟩ := kcell hk1 (w.heap.size + 3) hz
        go_wp2_with fail
        refine (times_any _ _ _ _ _ (by assumption) (by assumption) (by assumption) (by assumption) (by assumption) (by assumption) (by assumption) (by assumption)).mono ?_
        rintro e w2 ⟨rfl, hk2⟩
        obtain ⟨hc2, hf2, hz2⟩ := kcell hk2 (w.heap.size + 3) (by simpa using hz1)
        go_wp2
        go_roundw
        case rel => exact ⟨_, _, _, _, m / 2, by omega, by go_num, hide (Fld.mu_red (x1, x2) (x1, x2)), hide (Fld.mu_red (y1, y2) (x1, x2)), hide ((Fld.ep_odd (y1, y2) (x1, x2) m hd).trans HE.out), hide ((((HP.out.keep hk1).setY _ _).keep hk2).setX _ _)⟩
        case measure => simp [intOf]; omega
    · have hz1 : m = 0 := by omega
      subst hz1
      have HF : Hid (Fld.ep (a, b) k = (y1, y2)) := hide (HE.out.symm.trans (Fld.mu_one HY.out))
      have HC := hide HP.out.chg
      go_wp2
      exact bodyPost_ret (v := .agg #[.int .i64 y1, .int .i64 y2]) (by simp [results, Try.results27, go_sem, *]) rfl ⟨by rw [HF.out], chg2_set HC.out (w.heap.size + 1) (fun l => absurd l (by omega)) _ _⟩

end Go.Proofs.Ytagjffjdoimhbad

namespace Go.Proofs.Ytagjffjdoimhbad
open Go.ChangeShapes Go.WideShapes Go.ChangeAt Go.RowKit
set_option linter.unusedVariables false
set_option linter.unusedSimpArgs false

/-- What is answered of two elements. -/
def eb (a b c d v : Int) : Int := if eok a b && eok c d then v else 0
def ebad (a b c d : Int) : Int := if eok a b && eok c d then 0 else 1
/-- What is answered of one. -/
def e1 (a b v : Int) : Int := if eok a b then v else 0
def e1bad (a b : Int) : Int := if eok a b then 0 else 1
/-- Of a power. -/
def powE1 (a b n : Int) : Int := if eok a b then (if n < 0 then 0 else (Fld.ep (a, b) n.toNat).1) else 0
def powE2 (a b n : Int) : Int := if eok a b then (if n < 0 then 0 else (Fld.ep (a, b) n.toNat).2) else 0
def powEc (a b n : Int) : Int := if eok a b then (if n < 0 then 4 else 0) else 1
/-- The element is 0. -/
def isz (a b : Int) : Bool := a == 0 && b == 0
def invE1 (a b : Int) : Int := if eok a b then (if isz a b then 0 else Fld.iA a b) else 0
def invE2 (a b : Int) : Int := if eok a b then (if isz a b then 0 else Fld.iB a b) else 0
def invEc (a b : Int) : Int := if eok a b then (if isz a b then 7 else 0) else 1

set_option maxHeartbeats 1000000 in
theorem extAdd_any (a b c d : Int) (w : World) :
    Calls Try.prog 10 #[.agg #[.int .i64 a, .int .i64 b], .agg #[.int .i64 c, .int .i64 d]] w fun e w' => e = .returned (.tuple #[.agg #[.int .i64 (eb a b c d ((a + c) % 2130706433)), .int .i64 (eb a b c d ((b + d) % 2130706433))], .int .i64 (ebad a b c d)]) ∧ Chg nob w w' := by
  cases ha : eok a b
  · go_enter Try.func10, Try.ntmps10
    go_wp2_with (go_at_call 20; refine (extOK_any _ _ _  ).mono ?_; rintro e w1 ⟨rfl, hk⟩; obtain ⟨hc, hf, hz⟩ := kcell hk (w.heap.size + 3) (by first | assumption | simp))
    exact bodyPost_ret (v := .tuple #[.agg #[.int .i64 (eb a b c d ((a + c) % 2130706433)), .int .i64 (eb a b c d ((b + d) % 2130706433))], .int .i64 (ebad a b c d)]) (by simp [results, Try.results10, go_sem, *, eb, ebad]) rfl ⟨rfl, (by repeat (first | with_reducible exact Chg.refl _ _ | with_reducible refine Chg.alloc ?_ _ | with_reducible refine Chg.drewN ?_ _ | with_reducible refine Chg.drew ?_ | with_reducible refine Chg.setCell ?_ (fun l => absurd l (by dsimp only; omega)) _ | with_reducible refine Chg.trans ?_ (by assumption)))⟩
  · cases hb : eok c d
    · go_enter Try.func10, Try.ntmps10
      go_wp2_with (go_at_call 20; refine (extOK_any _ _ _  ).mono ?_; rintro e w1 ⟨rfl, hk⟩; obtain ⟨hc, hf, hz⟩ := kcell hk (w.heap.size + 3) (by first | assumption | simp))
      exact bodyPost_ret (v := .tuple #[.agg #[.int .i64 (eb a b c d ((a + c) % 2130706433)), .int .i64 (eb a b c d ((b + d) % 2130706433))], .int .i64 (ebad a b c d)]) (by simp [results, Try.results10, go_sem, *, eb, ebad]) rfl ⟨rfl, (by repeat (first | with_reducible exact Chg.refl _ _ | with_reducible refine Chg.alloc ?_ _ | with_reducible refine Chg.drewN ?_ _ | with_reducible refine Chg.drew ?_ | with_reducible refine Chg.setCell ?_ (fun l => absurd l (by dsimp only; omega)) _ | with_reducible refine Chg.trans ?_ (by assumption)))⟩
    · skip
      have a0 := fok_lo (eok_a ha)
      have a1 := fok_hi (eok_a ha)
      have b0 := fok_lo (eok_b ha)
      have b1 := fok_hi (eok_b ha)
      have c0 := fok_lo (eok_a hb)
      have c1 := fok_hi (eok_a hb)
      have d0 := fok_lo (eok_b hb)
      have d1 := fok_hi (eok_b hb)
      go_enter Try.func10, Try.ntmps10
      go_wp2_with (first | (go_at_call 20; refine (extOK_any _ _ _  ).mono ?_; rintro e w1 ⟨rfl, hk⟩; obtain ⟨hc, hf, hz⟩ := kcell hk (w.heap.size + 3) (by first | assumption | simp)) | (go_at_call 25; refine (plus_any _ _ _ _ _  (by assumption) (by assumption) (by assumption) (by assumption) (by assumption) (by assumption) (by assumption) (by assumption)).mono ?_; rintro e w1 ⟨rfl, hk⟩; obtain ⟨hc, hf, hz⟩ := kcell hk (w.heap.size + 3) (by first | assumption | simp)))
      exact bodyPost_ret (v := .tuple #[.agg #[.int .i64 (eb a b c d ((a + c) % 2130706433)), .int .i64 (eb a b c d ((b + d) % 2130706433))], .int .i64 (ebad a b c d)]) (by simp [results, Try.results10, go_sem, *, eb, ebad]) rfl ⟨rfl, (by repeat (first | with_reducible exact Chg.refl _ _ | with_reducible refine Chg.alloc ?_ _ | with_reducible refine Chg.drewN ?_ _ | with_reducible refine Chg.drew ?_ | with_reducible refine Chg.setCell ?_ (fun l => absurd l (by dsimp only; omega)) _ | with_reducible refine Chg.trans ?_ (by assumption)))⟩

set_option maxHeartbeats 1000000 in
theorem extMul_any (a b c d : Int) (w : World) :
    Calls Try.prog 9 #[.agg #[.int .i64 a, .int .i64 b], .agg #[.int .i64 c, .int .i64 d]] w fun e w' => e = .returned (.tuple #[.agg #[.int .i64 (eb a b c d (Fld.mA a b c d)), .int .i64 (eb a b c d (Fld.mB a b c d))], .int .i64 (ebad a b c d)]) ∧ Chg nob w w' := by
  cases ha : eok a b
  · go_enter Try.func9, Try.ntmps9
    go_wp2_with (go_at_call 20; refine (extOK_any _ _ _  ).mono ?_; rintro e w1 ⟨rfl, hk⟩; obtain ⟨hc, hf, hz⟩ := kcell hk (w.heap.size + 3) (by first | assumption | simp))
    exact bodyPost_ret (v := .tuple #[.agg #[.int .i64 (eb a b c d (Fld.mA a b c d)), .int .i64 (eb a b c d (Fld.mB a b c d))], .int .i64 (ebad a b c d)]) (by simp [results, Try.results9, go_sem, *, eb, ebad]) rfl ⟨rfl, (by repeat (first | with_reducible exact Chg.refl _ _ | with_reducible refine Chg.alloc ?_ _ | with_reducible refine Chg.drewN ?_ _ | with_reducible refine Chg.drew ?_ | with_reducible refine Chg.setCell ?_ (fun l => absurd l (by dsimp only; omega)) _ | with_reducible refine Chg.trans ?_ (by assumption)))⟩
  · cases hb : eok c d
    · go_enter Try.func9, Try.ntmps9
      go_wp2_with (go_at_call 20; refine (extOK_any _ _ _  ).mono ?_; rintro e w1 ⟨rfl, hk⟩; obtain ⟨hc, hf, hz⟩ := kcell hk (w.heap.size + 3) (by first | assumption | simp))
      exact bodyPost_ret (v := .tuple #[.agg #[.int .i64 (eb a b c d (Fld.mA a b c d)), .int .i64 (eb a b c d (Fld.mB a b c d))], .int .i64 (ebad a b c d)]) (by simp [results, Try.results9, go_sem, *, eb, ebad]) rfl ⟨rfl, (by repeat (first | with_reducible exact Chg.refl _ _ | with_reducible refine Chg.alloc ?_ _ | with_reducible refine Chg.drewN ?_ _ | with_reducible refine Chg.drew ?_ | with_reducible refine Chg.setCell ?_ (fun l => absurd l (by dsimp only; omega)) _ | with_reducible refine Chg.trans ?_ (by assumption)))⟩
    · skip
      have a0 := fok_lo (eok_a ha)
      have a1 := fok_hi (eok_a ha)
      have b0 := fok_lo (eok_b ha)
      have b1 := fok_hi (eok_b ha)
      have c0 := fok_lo (eok_a hb)
      have c1 := fok_hi (eok_a hb)
      have d0 := fok_lo (eok_b hb)
      have d1 := fok_hi (eok_b hb)
      go_enter Try.func9, Try.ntmps9
      go_wp2_with (first | (go_at_call 20; refine (extOK_any _ _ _  ).mono ?_; rintro e w1 ⟨rfl, hk⟩; obtain ⟨hc, hf, hz⟩ := kcell hk (w.heap.size + 3) (by first | assumption | simp)) | (go_at_call 24; refine (times_any _ _ _ _ _  (by assumption) (by assumption) (by assumption) (by assumption) (by assumption) (by assumption) (by assumption) (by assumption)).mono ?_; rintro e w1 ⟨rfl, hk⟩; obtain ⟨hc, hf, hz⟩ := kcell hk (w.heap.size + 3) (by first | assumption | simp)))
      exact bodyPost_ret (v := .tuple #[.agg #[.int .i64 (eb a b c d (Fld.mA a b c d)), .int .i64 (eb a b c d (Fld.mB a b c d))], .int .i64 (ebad a b c d)]) (by simp [results, Try.results9, go_sem, *, eb, ebad]) rfl ⟨rfl, (by repeat (first | with_reducible exact Chg.refl _ _ | with_reducible refine Chg.alloc ?_ _ | with_reducible refine Chg.drewN ?_ _ | with_reducible refine Chg.drew ?_ | with_reducible refine Chg.setCell ?_ (fun l => absurd l (by dsimp only; omega)) _ | with_reducible refine Chg.trans ?_ (by assumption)))⟩

end Go.Proofs.Ytagjffjdoimhbad

namespace Go.Proofs.Ytagjffjdoimhbad
open Go.ChangeShapes Go.WideShapes Go.ChangeAt Go.RowKit
set_option linter.unusedVariables false
set_option linter.unusedSimpArgs false

end Go.Proofs.Ytagjffjdoimhbad

namespace Go.Proofs.Ytagjffjdoimhbad
open Go.ChangeShapes Go.WideShapes Go.ChangeAt Go.RowKit
set_option linter.unusedVariables false
set_option linter.unusedSimpArgs false

/-- As PM, a block between. -/
structure PN (w W : World) (t : TypeId) (x1 x2 y1 y2 : Int) : Prop where
  rx : W.rowIs w.heap.size t 2 (pi2 x1 x2)
  rr : W.rowIs (w.heap.size + 1) t 2 (pi2 0 0)
  ry : W.rowIs (w.heap.size + 1 + 1 + 1) t 2 (pi2 y1 y2)
  chg : Chg nob w W
  size : w.heap.size + 4 ≤ W.heap.size
theorem PN.keep {w W W' : World} {t : TypeId} {x1 x2 y1 y2 : Int} (h : PN w W t x1 x2 y1 y2) (k : Chg nob W W') : PN w W' t x1 x2 y1 y2 :=
  ⟨rowIs_keep h.rx k, rowIs_keep h.rr k, rowIs_keep h.ry k, h.chg.trans k, Nat.le_trans h.size k.size⟩
theorem PN.setX {w W : World} {t : TypeId} {x1 x2 y1 y2 : Int} (h : PN w W t x1 x2 y1 y2) (u v : Int) : PN w ((W.setCell ⟨w.heap.size, 0, none⟩ (.int .i64 u)).setCell ⟨w.heap.size, 1, none⟩ (.int .i64 v)) t u v y1 y2 :=
  ⟨row2_set h.rx _ _, row2_other h.rr (by omega) _ _, row2_other h.ry (by omega) _ _, chg2_set h.chg _ (fun l => absurd l (by omega)) _ _, by simpa using h.size⟩
theorem PN.setY {w W : World} {t : TypeId} {x1 x2 y1 y2 : Int} (h : PN w W t x1 x2 y1 y2) (u v : Int) : PN w ((W.setCell ⟨w.heap.size + 1 + 1 + 1, 0, none⟩ (.int .i64 u)).setCell ⟨w.heap.size + 1 + 1 + 1, 1, none⟩ (.int .i64 v)) t x1 x2 u v :=
  ⟨row2_other h.rx (by omega) _ _, row2_other h.rr (by omega) _ _, row2_set h.ry _ _, chg2_set h.chg _ (fun l => absurd l (by omega)) _ _, by simpa using h.size⟩
theorem PN.new (w : World) (t : TypeId) (x1 x2 y1 y2 : Int) : PN w ((((w.alloc (.cells #[.int .i64 x1, .int .i64 x2] t)).alloc (.cells #[.int .i64 0, .int .i64 0] t)).alloc (.cells #[.int .i64 y1, .int .i64 y2] t)).alloc (.cells #[.int .i64 y1, .int .i64 y2] t)) t x1 x2 y1 y2 :=
  ⟨(((row2_new w _ _ t).alloc _).alloc _).alloc _, by have h := ((row2_new (w.alloc (.cells #[.int .i64 x1, .int .i64 x2] t)) (.int .i64 0) (.int .i64 0) t).alloc (.cells #[.int .i64 y1, .int .i64 y2] t)).alloc (.cells #[.int .i64 y1, .int .i64 y2] t); simpa [pi2] using h,
   by have h := row2_new (((w.alloc (.cells #[.int .i64 x1, .int .i64 x2] t)).alloc (.cells #[.int .i64 0, .int .i64 0] t)).alloc (.cells #[.int .i64 y1, .int .i64 y2] t)) (.int .i64 y1) (.int .i64 y2) t; simpa [pi2] using h, ((((Chg.refl _ _).alloc _).alloc _).alloc _).alloc _, by simp⟩

end Go.Proofs.Ytagjffjdoimhbad

namespace Go.Proofs.Ytagjffjdoimhbad
open Go.ChangeShapes Go.WideShapes Go.ChangeAt Go.RowKit
set_option linter.unusedVariables false
set_option maxRecDepth 100000
set_option linter.unusedSimpArgs false

/-- The two parameters are where they were; nothing else has turned. -/
structure Two (w W : World) (a b c d : Int) : Prop where
  c0 : W.cell? ⟨w.heap.size, 0, none⟩ = some (.int .i64 a)
  c1 : W.cell? ⟨w.heap.size, 1, none⟩ = some (.int .i64 b)
  c2 : W.cell? ⟨w.heap.size + 1, 0, none⟩ = some (.int .i64 c)
  c3 : W.cell? ⟨w.heap.size + 1, 1, none⟩ = some (.int .i64 d)
  chg : Chg nob w W
  size : w.heap.size + 2 ≤ W.heap.size
theorem Two.keep {w W W' : World} {a b c d : Int} (h : Two w W a b c d) (k : Chg nob W W') : Two w W' a b c d :=
  ⟨k.look h.c0, k.look h.c1, k.look h.c2, k.look h.c3, h.chg.trans k, Nat.le_trans h.size k.size⟩
theorem Two.new (w : World) (a b c d : Int) (t : TypeId) : Two w ((w.alloc (.cells #[.int .i64 a, .int .i64 b] t)).alloc (.cells #[.int .i64 c, .int .i64 d] t)) a b c d :=
  ⟨by go_simp, by go_simp, by go_simp, by go_simp, ((Chg.refl _ _).alloc _).alloc _, by simp⟩
theorem Two.S {w W : World} {a b c d : Int} (h : Two w W a b c d) : W.cell? ⟨w.heap.size, 0, none⟩ = some (.int .i64 a) ∧ W.cell? ⟨w.heap.size, 1, none⟩ = some (.int .i64 b) ∧ W.cell? ⟨w.heap.size + 1, 0, none⟩ = some (.int .i64 c) ∧ W.cell? ⟨w.heap.size + 1, 1, none⟩ = some (.int .i64 d) := ⟨h.c0, h.c1, h.c2, h.c3⟩
/-- A block holds an element. -/
structure Elem (W : World) (g : Nat) (u v : Int) : Prop where
  c0 : W.cell? ⟨g, 0, none⟩ = some (.int .i64 u)
  c1 : W.cell? ⟨g, 1, none⟩ = some (.int .i64 v)
theorem Elem.keep {W W' : World} {g : Nat} {u v : Int} (h : Elem W g u v) (k : Chg nob W W') : Elem W' g u v := ⟨k.look h.c0, k.look h.c1⟩
theorem Elem.new (W : World) (u v : Int) (t : TypeId) : Elem (W.alloc (.cells #[.int .i64 u, .int .i64 v] t)) W.heap.size u v := ⟨by go_simp, by go_simp⟩
theorem Elem.set {W : World} {g : Nat} {x y : Value} (h0 : W.cell? ⟨g, 0, none⟩ = some x) (h1 : W.cell? ⟨g, 1, none⟩ = some y) (u v : Int) : Elem ((W.setCell ⟨g, 0, none⟩ (.int .i64 u)).setCell ⟨g, 1, none⟩ (.int .i64 v)) g u v :=
  ⟨by rw [World.cell?_setCell_other _ _ _ _ (by simp)]; exact World.cell?_setCell_same _ _ _ h0, World.cell?_setCell_same _ _ _ (u := y) (by rw [World.cell?_setCell_other _ _ _ _ (by simp), h1])⟩

end Go.Proofs.Ytagjffjdoimhbad

namespace Go.Proofs.Ytagjffjdoimhbad
open Go.ChangeShapes Go.WideShapes Go.ChangeAt Go.RowKit
set_option linter.unusedVariables false
set_option linter.unusedSimpArgs false

theorem infoExt : (Try.prog.info? 28).map (fun i => (i.zero, i.size, i.bytes)) = some (some (.agg #[.int .i64 0, .int .i64 0]), 2, 16) := by kernel_rfl
/-- Pairs of ints, cell by cell. -/
def pf (f g : Nat → Int) (i : Nat) : Value := .int .i64 (if i % 2 = 0 then f (i / 2) else g (i / 2))
theorem pf_even (f g : Nat → Int) (k : Nat) : pf f g (k * 2) = .int .i64 (f k) := by
  unfold pf; rw [if_pos (by omega), show k * 2 / 2 = k by omega]
theorem pf_odd (f g : Nat → Int) (k : Nat) : pf f g (k * 2 + 1) = .int .i64 (g k) := by
  unfold pf; rw [if_neg (by omega), show (k * 2 + 1) / 2 = k by omega]
/-- An own row of pairs can be read. -/
theorem PairV.of_row {w : World} {b : Nat} {t : TypeId} {n m : Nat} {f g : Nat → Int} (h : w.rowIs b t (m * 2) (pf f g)) (hm : n ≤ m) : PairV w (some ⟨b, 0, none⟩) n f g := by
  intro i hi
  refine ⟨b, 0, rfl, h.lt, ?_, ?_⟩
  · rw [Nat.zero_add, h.cell (by omega), pf_even]
  · rw [Nat.zero_add, h.cell (by omega), pf_odd]
theorem PairV.congr {w : World} {c : Option Addr} {n : Nat} {f g f' g' : Nat → Int} (h : PairV w c n f g) (e : ∀ i, i < n → f i = f' i ∧ g i = g' i) : PairV w c n f' g' := by
  intro i hi
  obtain ⟨xb, xo, e1, l, h1, h2⟩ := h i hi
  exact ⟨xb, xo, e1, l, by rw [h1, (e i hi).1], by rw [h2, (e i hi).2]⟩
/-- make([]T, n), T of two cells. -/
theorem wpList_make_pairs {P : Program} (w : World) {ops : Array Oper} {rest : List Oper} {o : Oper} {a : Act} {Q : Exit → Act → World → Prop}
    (hg : o.guard = none) (l c : Operand) (t : TypeId) (hop : o.op = Op.makeSlice t l c) (e : TypeId) (i : TypeInfo)
    (h1 : P.underlying t = some (.slice e)) (h2 : P.info? e = some i) (h3 : i.zero = some (.agg #[.int .i64 0, .int .i64 0])) (h4 : i.size = 2)
    (kl kc : IntKind) (L C : Int) (n : Nat) (hl : a.eval l = .int kl L) (hc : a.eval c = .int kc C) (hL : L = (n : Int)) (hC : C = (n : Int)) (b2 : i.bytes * n ≤ 281474976710656) (b3 : n ≤ 9223372036854775807)
    (hK : ∀ w', w'.rowIs w.heap.size e (n * 2) (pf (fun _ => 0) (fun _ => 0)) → Chg nob w w' → wpList P ops Q rest (a.put o.dst (.slice (some ⟨w.heap.size, 0, none⟩) n n)) w') :
    wpList P ops Q (o :: rest) a w := by
  refine wpList_plain hg fun K hK' => ?_
  have hb' : (i.bytes : Int) * (n : Int) ≤ 281474976710656 := by
    have h : ((i.bytes * n : Nat) : Int) ≤ 281474976710656 := by omega
    rwa [Int.natCast_mul] at h
  have hrun := run_make (P := P) w t e i _ h1 h2 h3 kl kc n n (by omega) (Int.le_refl _) hb' (by omega)
  simp only [Int.toNat_natCast, h4] at hrun
  subst hL
  subst hC
  unfold Oper.wp
  simp [execOp, hop, hl, hc, hrun, Result.andThen]
  refine hK' _ _ (hK _ ⟨_, Go.Deep.blk_alloc_new _ _, size_madeCells _ _, fun j hj => ?_⟩ ((Chg.refl _ _).alloc _))
  have h2 : j % 2 < 2 := Nat.mod_lt _ (by omega)
  rcases (by omega : j % 2 = 0 ∨ j % 2 = 1) with q | q <;> simp [madeCells, hj, Value.cells, q, pf]

/-- A copy: a new row at the heap's end. -/
def CopiedE (w : World) (n : Nat) (f g : Nat → Int) (e : Ending) (w' : World) : Prop :=
  e = .returned (.slice (some ⟨w.heap.size, 0, none⟩) n n) ∧ w'.rowIs w.heap.size 28 (n * 2) (pf f g) ∧ Chg nob w w'
/-- A row of which the first k pairs are copied. -/
def cpy (f g : Nat → Int) (k : Nat) (j : Nat) : Value := if j < k * 2 then pf f g j else .int .i64 0
theorem cpy_set {W : World} {b n : Nat} {t : TypeId} {f g : Nat → Int} {k : Nat} (h : W.rowIs b t (n * 2) (cpy f g k)) : ((W.setCell ⟨b, k * 2, none⟩ (.int .i64 (f k))).setCell ⟨b, k * 2 + 1, none⟩ (.int .i64 (g k))).rowIs b t (n * 2) (cpy f g (k + 1)) :=
  ((h.set (k * 2) _).set (k * 2 + 1) _).congr (fun i _ => by
    by_cases e1 : i = k * 2 + 1
    · subst e1; simp [cpy, pf_odd, show k * 2 + 1 < (k + 1) * 2 by omega]
    · by_cases e2 : i = k * 2
      · subst e2; simp [cpy, pf_even, show k * 2 < (k + 1) * 2 by omega]
      · by_cases e3 : i < k * 2
        · simp [cpy, e1, e2, e3, show i < (k + 1) * 2 by omega]
        · simp [cpy, e1, e2, e3, show ¬ i < (k + 1) * 2 by omega])

/-- All of the first n elements are right ones. -/
def okP (f g : Nat → Int) : Nat → Bool
  | 0 => true
  | n + 1 => okP f g n && eok (f n) (g n)
theorem okP_no (f g : Nat → Int) (k : Nat) (h : eok (f k) (g k) = false) : ∀ n, k < n → okP f g n = false := by
  intro n
  induction n with
  | zero => intro h; omega
  | succ n ih =>
    intro hn
    by_cases e : k = n
    · subst e; simp [okP, h]
    · simp [okP, ih (by omega)]
theorem okP_all (f g : Nat → Int) (n : Nat) (h : okP f g n = true) (i : Nat) (hi : i < n) : eok (f i) (g i) = true := by
  cases e : eok (f i) (g i)
  · rw [okP_no f g i e n hi] at h; cases h
  · rfl
theorem okP_of (f g : Nat → Int) (n : Nat) (h : ∀ i, i < n → eok (f i) (g i) = true) : okP f g n = true := by
  induction n with
  | zero => rfl
  | succ n ih => simp [okP, ih (fun i hi => h i (by omega)), h n (by omega)]

set_option maxHeartbeats 1000000 in
theorem extsOK_any (c : Option Addr) (n cap : Nat) (f g : Nat → Int) (w : World) (h : Hid (PairV w c n f g)) (hn : n ≤ 1099511627776) :
    Calls Try.prog 30 #[.slice c n cap] w fun e w' => e = .returned (.bool (okP f g n)) ∧ Chg nob w w' := by
  go_enter Try.func30, Try.ntmps30
  go_wp2
  go_loopw [7] (fun i W => ∃ k : Nat, k ≤ n ∧ i = .int .i64 k ∧ Hid (okP f g k = true) ∧ Hid (Chg nob w W)) (fun i _ => n - (intOf i).toNat)
  case atStart => exact ⟨0, Nat.zero_le _, rfl, hide rfl, hide (Chg.refl _ _)⟩
  case round =>
    obtain ⟨k, hk, rfl, HO, HC⟩ := hrel
    by_cases hlt : k < n
    · obtain ⟨xb, xo, rfl, hxb, hx0, hx1⟩ := (h.out.keep HC.out) k hlt
      cases hfk : eok (f k) (g k)
      · have HB := hide (okP_no f g k hfk n hlt)
        go_wp2_with (go_at_call 20; refine (extOK_any _ _ _).mono ?_; rintro e w1 ⟨rfl, k1⟩)
        go_ret
        exact ⟨ret_bool HB.out.symm, HC.out.trans (by repeat (first | with_reducible exact Chg.refl _ _ | with_reducible refine Chg.alloc ?_ _ | with_reducible refine Chg.trans ?_ (by assumption)))⟩
      · have HO2 := hide (show okP f g (k + 1) = true by simp [okP, HO.out, hfk])
        go_wp2_with (go_at_call 20; refine (extOK_any _ _ _).mono ?_; rintro e w1 ⟨rfl, k1⟩)
        go_roundw
        case rel => exact ⟨k + 1, by omega, by go_num, HO2, hide (HC.out.trans (by repeat (first | with_reducible exact Chg.refl _ _ | with_reducible refine Chg.alloc ?_ _ | with_reducible refine Chg.trans ?_ (by assumption))))⟩
        case measure => simp [intOf]; omega
    · obtain rfl : k = n := by omega
      go_wp2
      go_ret
      exact ⟨ret_bool HO.out.symm, HC.out⟩

end Go.Proofs.Ytagjffjdoimhbad
