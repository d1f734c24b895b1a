/- Several texts in one: Words on memory, two cells an element: a block of two cells; a row of pairs. No program is named here. · Words on memory: what is there stays there. No program is named here. · What the greater field's functions answer, and those of its model: contracts. Conditions: those of each theorem. · What the greater field's exported functions answer, whatever the numbers: contracts. No condition but those that are stated. · What the model's functions on the greater field answer: contracts. Conditions: those of each theorem. · What the model's norm, inverse and power answer, and the laws' own helpers on elements: contracts. Conditions: those of each theorem. · Helpers of the exact laws over elements: what is kept in memory between their statements. No condition but those that are stated. · Slices of elements: what the laws' helpers and the tests of lists on them do: contracts. Conditions: rows that can be read, lengths of at most 2 to the 40. -/
import Derived.Test.YtmnakafplpmphabDoorMem
import Derived.OpenShut
import Derived.WalkKit
import Derived.Test.YtmnakafplpmphabDoorBda
import Derived.RegionTactic
import Derived.ChangeAlike
import Derived.BigRegion
import Derived.Deep.QuietTactic
import Derived.BigQuiet
import Derived.Deep.RegionHeld3
import Derived.Deep.CutRange
namespace Go.Proofs.YtmnakafplpmphabDoor
open Go.RowKit

/-- Old cells read as before. -/
theorem kcell {W w1 : World} (h : Chg nob W w1) (N : Nat) (hN : N ≤ W.heap.size) : (∀ b o, b < N → w1.cell? ⟨b, o, none⟩ = W.cell? ⟨b, o, none⟩) ∧ (∀ b o, b < N → w1.frozen? ⟨b, o, none⟩ = W.frozen? ⟨b, o, none⟩) ∧ N ≤ w1.heap.size :=
  ⟨fun b o hb => h.cell (p := ⟨b, o, none⟩) (Nat.lt_of_lt_of_le hb hN) (fun x => x), fun b o hb => World.frozen?_of_block (a := ⟨b, o, none⟩) (h.block b (Nat.lt_of_lt_of_le hb hN) (fun x => x)), Nat.le_trans hN h.size⟩
theorem Chg.drew {P : Nat → Prop} {a b : World} (h : Chg P a b) : Chg P a b.drew := ⟨h.os, h.tape, h.output, h.size, h.block⟩
theorem Chg.toBelow {a b : World} (h : Chg nob a b) : Below a.heap.size a b := ⟨h.os, h.tape, h.output, h.size, fun k hk => h.block k hk (fun x => x)⟩
/-- What is told of a slice of elements that came in: it is nil, or it leads to pairs of ints. -/
def IsPairs (w : World) (c : Option Addr) (len cap : Nat) (f g : Nat → Int) : Prop :=
  (c = none ∧ len = 0 ∧ cap = 0) ∨
  ∃ x, c = some x ∧ len ≤ cap ∧ cap ≤ maxLen ∧ ∀ i, i < len → w.cell? (x.add (i * 2)) = some (.int .i64 (f i)) ∧ w.cell? (x.add (i * 2 + 1)) = some (.int .i64 (g i))
/-- The number of an int. -/
def cint : Option Value → Int
  | some (.int _ a) => a
  | _ => 0
/-- n pairs of ints that can be read behind c. -/
def PairV (w : World) (c : Option Addr) (n : Nat) (f g : Nat → Int) : Prop :=
  ∀ i, i < n → ∃ xb xo : Nat, c = some ⟨xb, xo, none⟩ ∧ xb < w.heap.size ∧ w.cell? ⟨xb, xo + i * 2, none⟩ = some (.int .i64 (f i)) ∧ w.cell? ⟨xb, xo + i * 2 + 1, none⟩ = some (.int .i64 (g i))
theorem pairs_of {w : World} {c : Option Addr} {len cap : Nat} {f g : Nat → Int} (h : IsPairs w c len cap f g) : PairV w c len f g ∧ (len : Int) ≤ 9223372036854775807 := by
  rcases h with ⟨rfl, rfl, rfl⟩ | ⟨x, rfl, hl, hm, hc⟩
  · exact ⟨fun i hi => by omega, by omega⟩
  · unfold maxLen at hm
    refine ⟨fun i hi => ?_, by omega⟩
    obtain ⟨h1, h2⟩ := hc i hi
    obtain ⟨b, o, spot⟩ := x
    have hs : spot = none := by simpa [Addr.add] using World.cell?_spot (hc 0 (by omega)).1
    subst hs
    rw [Go.WideShapes.add_plain] at h1 h2
    exact ⟨b, o, rfl, block_lt_of_cell h1, h1, by rw [Nat.add_assoc]; exact h2⟩
theorem PairV.chg {P : Nat → Prop} {w w' : World} {c : Option Addr} {n : Nat} {f g : Nat → Int} (h : PairV w c n f g) (k : Chg P w w') (hp : ∀ xb xo, c = some ⟨xb, xo, none⟩ → xb < w.heap.size → ¬ P xb) : PairV w' c n f g := by
  intro i hi
  obtain ⟨xb, xo, e, l, h1, h2⟩ := h i hi
  exact ⟨xb, xo, e, Nat.lt_of_lt_of_le l k.size, by rw [k.cell l (hp xb xo e l), h1], by rw [k.cell l (hp xb xo e l), h2]⟩
theorem PairV.keep {w w' : World} {c : Option Addr} {n : Nat} {f g : Nat → Int} (h : PairV w c n f g) (k : Chg nob w w') : PairV w' c n f g := h.chg k (fun _ _ _ _ x => x)
/-- Two values. -/
def pv2 (u v : Value) (i : Nat) : Value := if i = 0 then u else v
/-- Two ints. -/
def pi2 (x y : Int) : Nat → Value := pv2 (.int .i64 x) (.int .i64 y)
theorem row2_set {W : World} {g : Nat} {t : TypeId} {f : Nat → Value} (h : W.rowIs g t 2 f) (u v : Value) : ((W.setCell ⟨g, 0, none⟩ u).setCell ⟨g, 1, none⟩ v).rowIs g t 2 (pv2 u v) :=
  ((h.set 0 u).set 1 v).congr (fun i hi => by
    match i, hi with
    | 0, _ => rfl
    | 1, _ => rfl)
theorem row2_other {W : World} {g g' : Nat} {t : TypeId} {n : Nat} {f : Nat → Value} (h : W.rowIs g' t n f) (hne : g' ≠ g) (u v : Value) : ((W.setCell ⟨g, 0, none⟩ u).setCell ⟨g, 1, none⟩ v).rowIs g' t n f :=
  (h.setOther (a := ⟨g, 0, none⟩) hne u).setOther (a := ⟨g, 1, none⟩) hne v
theorem row2_new (W : World) (u v : Value) (t : TypeId) : (W.alloc (.cells #[u, v] t)).rowIs W.heap.size t 2 (pv2 u v) :=
  W.rowIs_alloc #[u, v] t (pv2 u v) (fun i hi => by
    match i, hi with
    | 0, _ => rfl
    | 1, _ => rfl)
theorem row2_c0 {W : World} {g : Nat} {t : TypeId} {u v : Value} (h : W.rowIs g t 2 (pv2 u v)) : W.cell? ⟨g, 0, none⟩ = some u := h.cell (by omega)
theorem row2_c1 {W : World} {g : Nat} {t : TypeId} {u v : Value} (h : W.rowIs g t 2 (pv2 u v)) : W.cell? ⟨g, 1, none⟩ = some v := h.cell (by omega)
theorem chg2_set {P : Nat → Prop} {w W : World} (h : Chg P w W) (g : Nat) (hg : g < w.heap.size → P g) (u v : Value) : Chg P w ((W.setCell ⟨g, 0, none⟩ u).setCell ⟨g, 1, none⟩ v) :=
  (h.setCell (p := ⟨g, 0, none⟩) hg u).setCell (p := ⟨g, 1, none⟩) hg v

end Go.Proofs.YtmnakafplpmphabDoor

namespace Go.Proofs.YtmnakafplpmphabDoor
open Go.RowKit

/-- What was there is there. -/
theorem Chg.look {w w' : World} (h : Chg nob w w') {b o : Nat} {v : Value} (c : w.cell? ⟨b, o, none⟩ = some v) : w'.cell? ⟨b, o, none⟩ = some v :=
  (h.cell (p := ⟨b, o, none⟩) (World.block_lt_of_cell? w _ c) (fun x => x)).trans c
/-- A new block of two cells is there. -/
theorem Chg.look2 {W w' : World} {u v : Value} {T : TypeId} (h : Chg nob (W.alloc (.cells #[u, v] T)) w') : w'.cell? ⟨W.heap.size, 0, none⟩ = some u ∧ w'.cell? ⟨W.heap.size, 1, none⟩ = some v :=
  ⟨h.look (by go_simp), h.look (by go_simp)⟩

end Go.Proofs.YtmnakafplpmphabDoor

namespace Go.Proofs.YtmnakafplpmphabDoor
open Go.ChangeShapes Go.WideShapes Go.ChangeAt Go.RowKit
set_option linter.unusedVariables false

/-- Both parts are numbers of the field. -/
def eok (a b : Int) : Bool := fok a && fok b
theorem eok_a {a b : Int} (h : eok a b = true) : fok a = true := by unfold eok at h; cases h1 : fok a <;> simp [h1] at h ⊢
theorem eok_b {a b : Int} (h : eok a b = true) : fok b = true := by unfold eok at h; cases h1 : fok b <;> simp [h1] at h ⊢
theorem eok_mk {a b : Int} (ha : fok a = true) (hb : fok b = true) : eok a b = true := by simp [eok, ha, hb]

set_option maxHeartbeats 400000 in
theorem extOK_any (a b : Int) (w : World) :
    Calls Tryd.prog 119 #[.agg #[.int .i64 a, .int .i64 b]] w fun e w' => e = .returned (.bool (eok a b)) ∧ Chg nob w w' := by
  cases ha : fok a
  · go_enter Tryd.func119, Tryd.ntmps119
    go_wp2_with (go_at_call 133; refine (fieldOK_any _ _).mono ?_; rintro e w' ⟨rfl, rfl⟩)
    go_ret
    exact ⟨ret_bool (by simp [eok, ha]), (Chg.refl _ _).alloc _⟩
  · cases hb : fok b
    all_goals
      go_enter Tryd.func119, Tryd.ntmps119
      go_wp2_with (go_at_call 133; refine (fieldOK_any _ _).mono ?_; rintro e w' ⟨rfl, rfl⟩)
      go_ret
      exact ⟨ret_bool (by simp [eok, ha, hb]), (Chg.refl _ _).alloc _⟩

theorem field0 (x y : Int) (w : World) : (Instr.field 57 (.agg #[.int .i64 x, .int .i64 y]) 0).run Tryd.prog w = .ok (.int .i64 x) w := by kernel_rfl

/-- What a power keeps in memory: the element, the result's place, the product. -/
structure PM (w W : World) (t : TypeId) (x1 x2 y1 y2 : Int) : Prop where
  rx : W.rowIs w.heap.size t 2 (pi2 x1 x2)
  rr : W.rowIs (w.heap.size + 1) t 2 (pi2 0 0)
  ry : W.rowIs (w.heap.size + 1 + 1) t 2 (pi2 y1 y2)
  chg : Chg nob w W
  size : w.heap.size + 3 ≤ W.heap.size
theorem PM.keep {w W W' : World} {t : TypeId} {x1 x2 y1 y2 : Int} (h : PM w W t x1 x2 y1 y2) (k : Chg nob W W') : PM w W' t x1 x2 y1 y2 :=
  ⟨rowIs_keep h.rx k, rowIs_keep h.rr k, rowIs_keep h.ry k, h.chg.trans k, Nat.le_trans h.size k.size⟩
theorem PM.setX {w W : World} {t : TypeId} {x1 x2 y1 y2 : Int} (h : PM w W t x1 x2 y1 y2) (u v : Int) : PM w ((W.setCell ⟨w.heap.size, 0, none⟩ (.int .i64 u)).setCell ⟨w.heap.size, 1, none⟩ (.int .i64 v)) t u v y1 y2 :=
  ⟨row2_set h.rx _ _, row2_other h.rr (by omega) _ _, row2_other h.ry (by omega) _ _, chg2_set h.chg _ (fun l => absurd l (by omega)) _ _, by simpa using h.size⟩
theorem PM.setY {w W : World} {t : TypeId} {x1 x2 y1 y2 : Int} (h : PM w W t x1 x2 y1 y2) (u v : Int) : PM w ((W.setCell ⟨w.heap.size + 1 + 1, 0, none⟩ (.int .i64 u)).setCell ⟨w.heap.size + 1 + 1, 1, none⟩ (.int .i64 v)) t x1 x2 u v :=
  ⟨row2_other h.rx (by omega) _ _, row2_other h.rr (by omega) _ _, row2_set h.ry _ _, chg2_set h.chg _ (fun l => absurd l (by omega)) _ _, by simpa using h.size⟩
theorem PM.new (w : World) (t : TypeId) (x1 x2 y1 y2 : Int) : PM w (((w.alloc (.cells #[.int .i64 x1, .int .i64 x2] t)).alloc (.cells #[.int .i64 0, .int .i64 0] t)).alloc (.cells #[.int .i64 y1, .int .i64 y2] t)) t x1 x2 y1 y2 :=
  ⟨((row2_new w _ _ t).alloc _).alloc _, by have h := (row2_new (w.alloc (.cells #[.int .i64 x1, .int .i64 x2] t)) (.int .i64 0) (.int .i64 0) t).alloc (.cells #[.int .i64 y1, .int .i64 y2] t); simpa [pi2] using h,
   by have h := row2_new ((w.alloc (.cells #[.int .i64 x1, .int .i64 x2] t)).alloc (.cells #[.int .i64 0, .int .i64 0] t)) (.int .i64 y1) (.int .i64 y2) t; simpa [pi2] using h, (((Chg.refl _ _).alloc _).alloc _).alloc _, by simp⟩

end Go.Proofs.YtmnakafplpmphabDoor

namespace Go.Proofs.YtmnakafplpmphabDoor
open Go.ChangeShapes Go.WideShapes Go.ChangeAt Go.RowKit
set_option linter.unusedVariables false
set_option linter.unusedSimpArgs false

/-- What is answered of two elements. -/
def eb (a b c d v : Int) : Int := if eok a b && eok c d then v else 0
def ebad (a b c d : Int) : Int := if eok a b && eok c d then 0 else 1
/-- What is answered of one. -/
def e1 (a b v : Int) : Int := if eok a b then v else 0
def e1bad (a b : Int) : Int := if eok a b then 0 else 1
/-- Of a power. -/
def powE1 (a b n : Int) : Int := if eok a b then (if n < 0 then 0 else (Fld.ep (a, b) n.toNat).1) else 0
def powE2 (a b n : Int) : Int := if eok a b then (if n < 0 then 0 else (Fld.ep (a, b) n.toNat).2) else 0
def powEc (a b n : Int) : Int := if eok a b then (if n < 0 then 4 else 0) else 1
/-- The element is 0. -/
def isz (a b : Int) : Bool := a == 0 && b == 0
def invE1 (a b : Int) : Int := if eok a b then (if isz a b then 0 else Fld.iA a b) else 0
def invE2 (a b : Int) : Int := if eok a b then (if isz a b then 0 else Fld.iB a b) else 0
def invEc (a b : Int) : Int := if eok a b then (if isz a b then 7 else 0) else 1

end Go.Proofs.YtmnakafplpmphabDoor

namespace Go.Proofs.YtmnakafplpmphabDoor
open Go.ChangeShapes Go.WideShapes Go.ChangeAt Go.RowKit
set_option linter.unusedVariables false
set_option linter.unusedSimpArgs false

set_option maxHeartbeats 400000 in
theorem sExtOK_any (a b : Int) (w : World) :
    Calls Tryd.prog 121 #[.agg #[.int .i64 a, .int .i64 b]] w fun e w' => e = .returned (.bool (eok a b)) ∧ Chg nob w w' := by
  cases ha : fok a
  · go_enter Tryd.func121, Tryd.ntmps121
    go_wp2_with (go_at_call 134; refine (sFieldOK_any _ _).mono ?_; rintro e w' ⟨rfl, rfl⟩)
    go_ret
    exact ⟨ret_bool (by simp [eok, ha]), (Chg.refl _ _).alloc _⟩
  · cases hb : fok b
    all_goals
      go_enter Tryd.func121, Tryd.ntmps121
      go_wp2_with (go_at_call 134; refine (sFieldOK_any _ _).mono ?_; rintro e w' ⟨rfl, rfl⟩)
      go_ret
      exact ⟨ret_bool (by simp [eok, ha, hb]), (Chg.refl _ _).alloc _⟩

end Go.Proofs.YtmnakafplpmphabDoor

namespace Go.Proofs.YtmnakafplpmphabDoor
open Go.ChangeShapes Go.WideShapes Go.ChangeAt Go.RowKit
set_option linter.unusedVariables false
set_option linter.unusedSimpArgs false

/-- As PM, a block between. -/
structure PN (w W : World) (t : TypeId) (x1 x2 y1 y2 : Int) : Prop where
  rx : W.rowIs w.heap.size t 2 (pi2 x1 x2)
  rr : W.rowIs (w.heap.size + 1) t 2 (pi2 0 0)
  ry : W.rowIs (w.heap.size + 1 + 1 + 1) t 2 (pi2 y1 y2)
  chg : Chg nob w W
  size : w.heap.size + 4 ≤ W.heap.size
theorem PN.keep {w W W' : World} {t : TypeId} {x1 x2 y1 y2 : Int} (h : PN w W t x1 x2 y1 y2) (k : Chg nob W W') : PN w W' t x1 x2 y1 y2 :=
  ⟨rowIs_keep h.rx k, rowIs_keep h.rr k, rowIs_keep h.ry k, h.chg.trans k, Nat.le_trans h.size k.size⟩
theorem PN.setX {w W : World} {t : TypeId} {x1 x2 y1 y2 : Int} (h : PN w W t x1 x2 y1 y2) (u v : Int) : PN w ((W.setCell ⟨w.heap.size, 0, none⟩ (.int .i64 u)).setCell ⟨w.heap.size, 1, none⟩ (.int .i64 v)) t u v y1 y2 :=
  ⟨row2_set h.rx _ _, row2_other h.rr (by omega) _ _, row2_other h.ry (by omega) _ _, chg2_set h.chg _ (fun l => absurd l (by omega)) _ _, by simpa using h.size⟩
theorem PN.setY {w W : World} {t : TypeId} {x1 x2 y1 y2 : Int} (h : PN w W t x1 x2 y1 y2) (u v : Int) : PN w ((W.setCell ⟨w.heap.size + 1 + 1 + 1, 0, none⟩ (.int .i64 u)).setCell ⟨w.heap.size + 1 + 1 + 1, 1, none⟩ (.int .i64 v)) t x1 x2 u v :=
  ⟨row2_other h.rx (by omega) _ _, row2_other h.rr (by omega) _ _, row2_set h.ry _ _, chg2_set h.chg _ (fun l => absurd l (by omega)) _ _, by simpa using h.size⟩
theorem PN.new (w : World) (t : TypeId) (x1 x2 y1 y2 : Int) : PN w ((((w.alloc (.cells #[.int .i64 x1, .int .i64 x2] t)).alloc (.cells #[.int .i64 0, .int .i64 0] t)).alloc (.cells #[.int .i64 y1, .int .i64 y2] t)).alloc (.cells #[.int .i64 y1, .int .i64 y2] t)) t x1 x2 y1 y2 :=
  ⟨(((row2_new w _ _ t).alloc _).alloc _).alloc _, by have h := ((row2_new (w.alloc (.cells #[.int .i64 x1, .int .i64 x2] t)) (.int .i64 0) (.int .i64 0) t).alloc (.cells #[.int .i64 y1, .int .i64 y2] t)).alloc (.cells #[.int .i64 y1, .int .i64 y2] t); simpa [pi2] using h,
   by have h := row2_new (((w.alloc (.cells #[.int .i64 x1, .int .i64 x2] t)).alloc (.cells #[.int .i64 0, .int .i64 0] t)).alloc (.cells #[.int .i64 y1, .int .i64 y2] t)) (.int .i64 y1) (.int .i64 y2) t; simpa [pi2] using h, ((((Chg.refl _ _).alloc _).alloc _).alloc _).alloc _, by simp⟩

end Go.Proofs.YtmnakafplpmphabDoor

namespace Go.Proofs.YtmnakafplpmphabDoor
open Go.ChangeShapes Go.WideShapes Go.ChangeAt Go.RowKit
set_option linter.unusedVariables false
set_option maxRecDepth 100000
set_option linter.unusedSimpArgs false

/-- The two parameters are where they were; nothing else has turned. -/
structure Two (w W : World) (a b c d : Int) : Prop where
  c0 : W.cell? ⟨w.heap.size, 0, none⟩ = some (.int .i64 a)
  c1 : W.cell? ⟨w.heap.size, 1, none⟩ = some (.int .i64 b)
  c2 : W.cell? ⟨w.heap.size + 1, 0, none⟩ = some (.int .i64 c)
  c3 : W.cell? ⟨w.heap.size + 1, 1, none⟩ = some (.int .i64 d)
  chg : Chg nob w W
  size : w.heap.size + 2 ≤ W.heap.size
theorem Two.keep {w W W' : World} {a b c d : Int} (h : Two w W a b c d) (k : Chg nob W W') : Two w W' a b c d :=
  ⟨k.look h.c0, k.look h.c1, k.look h.c2, k.look h.c3, h.chg.trans k, Nat.le_trans h.size k.size⟩
theorem Two.new (w : World) (a b c d : Int) (t : TypeId) : Two w ((w.alloc (.cells #[.int .i64 a, .int .i64 b] t)).alloc (.cells #[.int .i64 c, .int .i64 d] t)) a b c d :=
  ⟨by go_simp, by go_simp, by go_simp, by go_simp, ((Chg.refl _ _).alloc _).alloc _, by simp⟩
theorem Two.S {w W : World} {a b c d : Int} (h : Two w W a b c d) : W.cell? ⟨w.heap.size, 0, none⟩ = some (.int .i64 a) ∧ W.cell? ⟨w.heap.size, 1, none⟩ = some (.int .i64 b) ∧ W.cell? ⟨w.heap.size + 1, 0, none⟩ = some (.int .i64 c) ∧ W.cell? ⟨w.heap.size + 1, 1, none⟩ = some (.int .i64 d) := ⟨h.c0, h.c1, h.c2, h.c3⟩
/-- A block holds an element. -/
structure Elem (W : World) (g : Nat) (u v : Int) : Prop where
  c0 : W.cell? ⟨g, 0, none⟩ = some (.int .i64 u)
  c1 : W.cell? ⟨g, 1, none⟩ = some (.int .i64 v)
theorem Elem.keep {W W' : World} {g : Nat} {u v : Int} (h : Elem W g u v) (k : Chg nob W W') : Elem W' g u v := ⟨k.look h.c0, k.look h.c1⟩
theorem Elem.new (W : World) (u v : Int) (t : TypeId) : Elem (W.alloc (.cells #[.int .i64 u, .int .i64 v] t)) W.heap.size u v := ⟨by go_simp, by go_simp⟩
theorem Elem.set {W : World} {g : Nat} {x y : Value} (h0 : W.cell? ⟨g, 0, none⟩ = some x) (h1 : W.cell? ⟨g, 1, none⟩ = some y) (u v : Int) : Elem ((W.setCell ⟨g, 0, none⟩ (.int .i64 u)).setCell ⟨g, 1, none⟩ (.int .i64 v)) g u v :=
  ⟨by rw [World.cell?_setCell_other _ _ _ _ (by simp)]; exact World.cell?_setCell_same _ _ _ h0, World.cell?_setCell_same _ _ _ (u := y) (by rw [World.cell?_setCell_other _ _ _ _ (by simp), h1])⟩

end Go.Proofs.YtmnakafplpmphabDoor

namespace Go.Proofs.YtmnakafplpmphabDoor
open Go.ChangeShapes Go.WideShapes Go.ChangeAt Go.RowKit
set_option linter.unusedVariables false
set_option linter.unusedSimpArgs false

theorem infoExt : (Tryd.prog.info? 57).map (fun i => (i.zero, i.size, i.bytes)) = some (some (.agg #[.int .i64 0, .int .i64 0]), 2, 16) := by kernel_rfl
/-- Pairs of ints, cell by cell. -/
def pf (f g : Nat → Int) (i : Nat) : Value := .int .i64 (if i % 2 = 0 then f (i / 2) else g (i / 2))
theorem pf_even (f g : Nat → Int) (k : Nat) : pf f g (k * 2) = .int .i64 (f k) := by
  unfold pf; rw [if_pos (by omega), show k * 2 / 2 = k by omega]
theorem pf_odd (f g : Nat → Int) (k : Nat) : pf f g (k * 2 + 1) = .int .i64 (g k) := by
  unfold pf; rw [if_neg (by omega), show (k * 2 + 1) / 2 = k by omega]
/-- An own row of pairs can be read. -/
theorem PairV.of_row {w : World} {b : Nat} {t : TypeId} {n m : Nat} {f g : Nat → Int} (h : w.rowIs b t (m * 2) (pf f g)) (hm : n ≤ m) : PairV w (some ⟨b, 0, none⟩) n f g := by
  intro i hi
  refine ⟨b, 0, rfl, h.lt, ?_, ?_⟩
  · rw [Nat.zero_add, h.cell (by omega), pf_even]
  · rw [Nat.zero_add, h.cell (by omega), pf_odd]
theorem PairV.congr {w : World} {c : Option Addr} {n : Nat} {f g f' g' : Nat → Int} (h : PairV w c n f g) (e : ∀ i, i < n → f i = f' i ∧ g i = g' i) : PairV w c n f' g' := by
  intro i hi
  obtain ⟨xb, xo, e1, l, h1, h2⟩ := h i hi
  exact ⟨xb, xo, e1, l, by rw [h1, (e i hi).1], by rw [h2, (e i hi).2]⟩
/-- make([]T, n), T of two cells. -/
theorem wpList_make_pairs {P : Program} (w : World) {ops : Array Oper} {rest : List Oper} {o : Oper} {a : Act} {Q : Exit → Act → World → Prop}
    (hg : o.guard = none) (l c : Operand) (t : TypeId) (hop : o.op = Op.makeSlice t l c) (e : TypeId) (i : TypeInfo)
    (h1 : P.underlying t = some (.slice e)) (h2 : P.info? e = some i) (h3 : i.zero = some (.agg #[.int .i64 0, .int .i64 0])) (h4 : i.size = 2)
    (kl kc : IntKind) (L C : Int) (n : Nat) (hl : a.eval l = .int kl L) (hc : a.eval c = .int kc C) (hL : L = (n : Int)) (hC : C = (n : Int)) (b2 : i.bytes * n ≤ 281474976710656) (b3 : n ≤ 9223372036854775807)
    (hK : ∀ w', w'.rowIs w.heap.size e (n * 2) (pf (fun _ => 0) (fun _ => 0)) → Chg nob w w' → wpList P ops Q rest (a.put o.dst (.slice (some ⟨w.heap.size, 0, none⟩) n n)) w') :
    wpList P ops Q (o :: rest) a w := by
  refine wpList_plain hg fun K hK' => ?_
  have hb' : (i.bytes : Int) * (n : Int) ≤ 281474976710656 := by
    have h : ((i.bytes * n : Nat) : Int) ≤ 281474976710656 := by omega
    rwa [Int.natCast_mul] at h
  have hrun := run_make (P := P) w t e i _ h1 h2 h3 kl kc n n (by omega) (Int.le_refl _) hb' (by omega)
  simp only [Int.toNat_natCast, h4] at hrun
  subst hL
  subst hC
  unfold Oper.wp
  simp [execOp, hop, hl, hc, hrun, Result.andThen]
  refine hK' _ _ (hK _ ⟨_, Go.Deep.blk_alloc_new _ _, size_madeCells _ _, fun j hj => ?_⟩ ((Chg.refl _ _).alloc _))
  have h2 : j % 2 < 2 := Nat.mod_lt _ (by omega)
  rcases (by omega : j % 2 = 0 ∨ j % 2 = 1) with q | q <;> simp [madeCells, hj, Value.cells, q, pf]

/-- A copy: a new row at the heap's end. -/
def CopiedE (w : World) (n : Nat) (f g : Nat → Int) (e : Ending) (w' : World) : Prop :=
  e = .returned (.slice (some ⟨w.heap.size, 0, none⟩) n n) ∧ w'.rowIs w.heap.size 57 (n * 2) (pf f g) ∧ Chg nob w w'
/-- A row of which the first k pairs are copied. -/
def cpy (f g : Nat → Int) (k : Nat) (j : Nat) : Value := if j < k * 2 then pf f g j else .int .i64 0
theorem cpy_set {W : World} {b n : Nat} {t : TypeId} {f g : Nat → Int} {k : Nat} (h : W.rowIs b t (n * 2) (cpy f g k)) : ((W.setCell ⟨b, k * 2, none⟩ (.int .i64 (f k))).setCell ⟨b, k * 2 + 1, none⟩ (.int .i64 (g k))).rowIs b t (n * 2) (cpy f g (k + 1)) :=
  ((h.set (k * 2) _).set (k * 2 + 1) _).congr (fun i _ => by
    by_cases e1 : i = k * 2 + 1
    · subst e1; simp [cpy, pf_odd, show k * 2 + 1 < (k + 1) * 2 by omega]
    · by_cases e2 : i = k * 2
      · subst e2; simp [cpy, pf_even, show k * 2 < (k + 1) * 2 by omega]
      · by_cases e3 : i < k * 2
        · simp [cpy, e1, e2, e3, show i < (k + 1) * 2 by omega]
        · simp [cpy, e1, e2, e3, show ¬ i < (k + 1) * 2 by omega])

/-- All of the first n elements are right ones. -/
def okP (f g : Nat → Int) : Nat → Bool
  | 0 => true
  | n + 1 => okP f g n && eok (f n) (g n)
theorem okP_no (f g : Nat → Int) (k : Nat) (h : eok (f k) (g k) = false) : ∀ n, k < n → okP f g n = false := by
  intro n
  induction n with
  | zero => intro h; omega
  | succ n ih =>
    intro hn
    by_cases e : k = n
    · subst e; simp [okP, h]
    · simp [okP, ih (by omega)]
theorem okP_all (f g : Nat → Int) (n : Nat) (h : okP f g n = true) (i : Nat) (hi : i < n) : eok (f i) (g i) = true := by
  cases e : eok (f i) (g i)
  · rw [okP_no f g i e n hi] at h; cases h
  · rfl
theorem okP_of (f g : Nat → Int) (n : Nat) (h : ∀ i, i < n → eok (f i) (g i) = true) : okP f g n = true := by
  induction n with
  | zero => rfl
  | succ n ih => simp [okP, ih (fun i hi => h i (by omega)), h n (by omega)]

set_option maxHeartbeats 1000000 in
theorem extsOK_any (c : Option Addr) (n cap : Nat) (f g : Nat → Int) (w : World) (h : Hid (PairV w c n f g)) (hn : n ≤ 1099511627776) :
    Calls Tryd.prog 88 #[.slice c n cap] w fun e w' => e = .returned (.bool (okP f g n)) ∧ Chg nob w w' := by
  go_enter Tryd.func88, Tryd.ntmps88
  go_wp2
  go_loopw [7] (fun i W => ∃ k : Nat, k ≤ n ∧ i = .int .i64 k ∧ Hid (okP f g k = true) ∧ Hid (Chg nob w W)) (fun i _ => n - (intOf i).toNat)
  case atStart => exact ⟨0, Nat.zero_le _, rfl, hide rfl, hide (Chg.refl _ _)⟩
  case round =>
    obtain ⟨k, hk, rfl, HO, HC⟩ := hrel
    by_cases hlt : k < n
    · obtain ⟨xb, xo, rfl, hxb, hx0, hx1⟩ := (h.out.keep HC.out) k hlt
      cases hfk : eok (f k) (g k)
      · have HB := hide (okP_no f g k hfk n hlt)
        go_wp2_with (go_at_call 119; refine (extOK_any _ _ _).mono ?_; rintro e w1 ⟨rfl, k1⟩)
        go_ret
        exact ⟨ret_bool HB.out.symm, HC.out.trans (by repeat (first | with_reducible exact Chg.refl _ _ | with_reducible refine Chg.alloc ?_ _ | with_reducible refine Chg.trans ?_ (by assumption)))⟩
      · have HO2 := hide (show okP f g (k + 1) = true by simp [okP, HO.out, hfk])
        go_wp2_with (go_at_call 119; refine (extOK_any _ _ _).mono ?_; rintro e w1 ⟨rfl, k1⟩)
        go_roundw
        case rel => exact ⟨k + 1, by omega, by go_num, HO2, hide (HC.out.trans (by repeat (first | with_reducible exact Chg.refl _ _ | with_reducible refine Chg.alloc ?_ _ | with_reducible refine Chg.trans ?_ (by assumption))))⟩
        case measure => simp [intOf]; omega
    · obtain rfl : k = n := by omega
      go_wp2
      go_ret
      exact ⟨ret_bool HO.out.symm, HC.out⟩

set_option maxHeartbeats 1000000 in
theorem l02List_any (c : Option Addr) (n cap : Nat) (f g : Nat → Int) (w : World) (h : Hid (PairV w c n f g)) (hn : n ≤ 1099511627776) :
    Calls Tryd.prog 90 #[.slice c n cap] w fun e w' => e = .returned (.bool (okP f g n)) ∧ Chg nob w w' := by
  go_enter Tryd.func90, Tryd.ntmps90
  go_wp2
  go_loopw [3] (fun i W => ∃ k : Nat, k ≤ n ∧ i = .int .i64 k ∧ Hid (okP f g k = true) ∧ Hid (Chg nob w W)) (fun i _ => n - (intOf i).toNat)
  case atStart => exact ⟨0, Nat.zero_le _, rfl, hide rfl, hide (Chg.refl _ _)⟩
  case round =>
    obtain ⟨k, hk, rfl, HO, HC⟩ := hrel
    by_cases hlt : k < n
    · obtain ⟨xb, xo, rfl, hxb, hx0, hx1⟩ := (h.out.keep HC.out) k hlt
      cases hfk : eok (f k) (g k)
      · have HB := hide (okP_no f g k hfk n hlt)
        go_wp2_with (go_at_call 121; refine (sExtOK_any _ _ _).mono ?_; rintro e w1 ⟨rfl, k1⟩)
        go_ret
        exact ⟨ret_bool HB.out.symm, HC.out.trans (by repeat (first | with_reducible exact Chg.refl _ _ | with_reducible refine Chg.alloc ?_ _ | with_reducible refine Chg.trans ?_ (by assumption)))⟩
      · have HO2 := hide (show okP f g (k + 1) = true by simp [okP, HO.out, hfk])
        go_wp2_with (go_at_call 121; refine (sExtOK_any _ _ _).mono ?_; rintro e w1 ⟨rfl, k1⟩)
        go_roundw
        case rel => exact ⟨k + 1, by omega, by go_num, HO2, hide (HC.out.trans (by repeat (first | with_reducible exact Chg.refl _ _ | with_reducible refine Chg.alloc ?_ _ | with_reducible refine Chg.trans ?_ (by assumption))))⟩
        case measure => simp [intOf]; omega
    · obtain rfl : k = n := by omega
      go_wp2
      go_ret
      exact ⟨ret_bool HO.out.symm, HC.out⟩

end Go.Proofs.YtmnakafplpmphabDoor
