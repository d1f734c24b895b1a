/- Several texts in one: Blocks of four cells: laws. No program is named here. · Helpers of the exact laws over elements: what is kept in memory between their statements. No condition but those that are stated. · Slices of elements: what the laws' helpers and the tests of lists on them do: contracts. Conditions: rows that can be read, lengths of at most 2 to the 40. · Slices of elements that a call made: words; what is appended to an empty slice; what the laws' marks do. Conditions: rows that can be read, lengths of at most 2 to the 40. -/
import Derived.Test.YtkpohajmcngjcaaGreatDoorBzaa
import Derived.Test.YtkpohajmcngjcaaGreatDoorBzad
import Derived.Deep.CutRange
import Derived.ArgAppend
import Derived.Deep.AppendSrc
namespace Go.Proofs.YtkpohajmcngjcaaGreatDoor
open Go.RowKit
set_option linter.unusedVariables false

/-- Four values. -/
def pv4 (u v x y : Value) (i : Nat) : Value := if i = 0 then u else if i = 1 then v else if i = 2 then x else y
theorem row4_new (W : World) (u v x y : Value) (t : TypeId) : (W.alloc (.cells #[u, v, x, y] t)).rowIs W.heap.size t 4 (pv4 u v x y) :=
  World.rowIs_alloc W #[u, v, x, y] t (pv4 u v x y) (fun i hi => by
    match i, hi with
    | 0, _ => rfl
    | 1, _ => rfl
    | 2, _ => rfl
    | 3, _ => rfl)
section
variable {W : World} {g : Nat} {ty : TypeId} {f : Nat → Value}
theorem row4_s0 (h : W.rowIs g ty 4 f) (u : Value) : (W.setCell ⟨g, 0, none⟩ u).cell? ⟨g, 0, none⟩ = some u := by
  have := (h.set 0 u).cell (show 0 < 4 by omega); simpa using this
theorem row4_s1 (h : W.rowIs g ty 4 f) (u v : Value) : ((W.setCell ⟨g, 0, none⟩ u).setCell ⟨g, 1, none⟩ v).cell? ⟨g, 1, none⟩ = some v := by
  have := ((h.set 0 u).set 1 v).cell (show 1 < 4 by omega); simpa using this
theorem row4_s2 (h : W.rowIs g ty 4 f) (u v x : Value) : (((W.setCell ⟨g, 0, none⟩ u).setCell ⟨g, 1, none⟩ v).setCell ⟨g, 2, none⟩ x).cell? ⟨g, 2, none⟩ = some x := by
  have := (((h.set 0 u).set 1 v).set 2 x).cell (show 2 < 4 by omega); simpa using this
theorem row4_s3 (h : W.rowIs g ty 4 f) (u v x y : Value) : ((((W.setCell ⟨g, 0, none⟩ u).setCell ⟨g, 1, none⟩ v).setCell ⟨g, 2, none⟩ x).setCell ⟨g, 3, none⟩ y).cell? ⟨g, 3, none⟩ = some y := by
  have := ((((h.set 0 u).set 1 v).set 2 x).set 3 y).cell (show 3 < 4 by omega); simpa using this
end
theorem chg4_set {P : Nat → Prop} {w W : World} (h : Chg P w W) (g : Nat) (hg : g < w.heap.size → P g) (u v x y : Value) : Chg P w ((((W.setCell ⟨g, 0, none⟩ u).setCell ⟨g, 1, none⟩ v).setCell ⟨g, 2, none⟩ x).setCell ⟨g, 3, none⟩ y) :=
  (((h.setCell (p := ⟨g, 0, none⟩) hg u).setCell (p := ⟨g, 1, none⟩) hg v).setCell (p := ⟨g, 2, none⟩) hg x).setCell (p := ⟨g, 3, none⟩) hg y

theorem row4_set {W : World} {g : Nat} {ty : TypeId} {f : Nat → Value} (h : W.rowIs g ty 4 f) (u v x y : Value) : ((((W.setCell ⟨g, 0, none⟩ u).setCell ⟨g, 1, none⟩ v).setCell ⟨g, 2, none⟩ x).setCell ⟨g, 3, none⟩ y).rowIs g ty 4 (pv4 u v x y) :=
  ((((h.set 0 u).set 1 v).set 2 x).set 3 y).congr (fun i hi => by
    match i, hi with
    | 0, _ => rfl
    | 1, _ => rfl
    | 2, _ => rfl
    | 3, _ => rfl)
theorem row4_other {W : World} {g g' : Nat} {t : TypeId} {n : Nat} {f : Nat → Value} (h : W.rowIs g' t n f) (hne : g' ≠ g) (u v x y : Value) : ((((W.setCell ⟨g, 0, none⟩ u).setCell ⟨g, 1, none⟩ v).setCell ⟨g, 2, none⟩ x).setCell ⟨g, 3, none⟩ y).rowIs g' t n f :=
  (((h.setOther (a := ⟨g, 0, none⟩) hne u).setOther (a := ⟨g, 1, none⟩) hne v).setOther (a := ⟨g, 2, none⟩) hne x).setOther (a := ⟨g, 3, none⟩) hne y
theorem rowIs_kind {W : World} {b : Nat} {t u : TypeId} {n m : Nat} {f g : Nat → Value} (h : W.rowIs b t n f) (k : W.rowIs b u m g) : t = u := by
  obtain ⟨c, h1, _⟩ := h
  obtain ⟨d, k1, _⟩ := k
  rw [h1] at k1
  cases k1
  rfl

end Go.Proofs.YtkpohajmcngjcaaGreatDoor

namespace Go.Proofs.YtkpohajmcngjcaaGreatDoor
open Go.ChangeShapes Go.WideShapes Go.ChangeAt Go.RowKit
set_option linter.unusedVariables false
set_option maxRecDepth 100000
set_option linter.unusedSimpArgs false

/-- The two parameters are where they were; nothing else has turned. -/
structure Two (w W : World) (a b c d : Int) : Prop where
  c0 : W.cell? ⟨w.heap.size, 0, none⟩ = some (.int .i64 a)
  c1 : W.cell? ⟨w.heap.size, 1, none⟩ = some (.int .i64 b)
  c2 : W.cell? ⟨w.heap.size + 1, 0, none⟩ = some (.int .i64 c)
  c3 : W.cell? ⟨w.heap.size + 1, 1, none⟩ = some (.int .i64 d)
  chg : Chg nob w W
  size : w.heap.size + 2 ≤ W.heap.size
theorem Two.keep {w W W' : World} {a b c d : Int} (h : Two w W a b c d) (k : Chg nob W W') : Two w W' a b c d :=
  ⟨k.look h.c0, k.look h.c1, k.look h.c2, k.look h.c3, h.chg.trans k, Nat.le_trans h.size k.size⟩
theorem Two.new (w : World) (a b c d : Int) (t : TypeId) : Two w ((w.alloc (.cells #[.int .i64 a, .int .i64 b] t)).alloc (.cells #[.int .i64 c, .int .i64 d] t)) a b c d :=
  ⟨by go_simp, by go_simp, by go_simp, by go_simp, ((Chg.refl _ _).alloc _).alloc _, by simp⟩
theorem Two.S {w W : World} {a b c d : Int} (h : Two w W a b c d) : W.cell? ⟨w.heap.size, 0, none⟩ = some (.int .i64 a) ∧ W.cell? ⟨w.heap.size, 1, none⟩ = some (.int .i64 b) ∧ W.cell? ⟨w.heap.size + 1, 0, none⟩ = some (.int .i64 c) ∧ W.cell? ⟨w.heap.size + 1, 1, none⟩ = some (.int .i64 d) := ⟨h.c0, h.c1, h.c2, h.c3⟩
/-- A block holds an element. -/
structure Elem (W : World) (g : Nat) (u v : Int) : Prop where
  c0 : W.cell? ⟨g, 0, none⟩ = some (.int .i64 u)
  c1 : W.cell? ⟨g, 1, none⟩ = some (.int .i64 v)
theorem Elem.keep {W W' : World} {g : Nat} {u v : Int} (h : Elem W g u v) (k : Chg nob W W') : Elem W' g u v := ⟨k.look h.c0, k.look h.c1⟩
theorem Elem.new (W : World) (u v : Int) (t : TypeId) : Elem (W.alloc (.cells #[.int .i64 u, .int .i64 v] t)) W.heap.size u v := ⟨by go_simp, by go_simp⟩
theorem Elem.set {W : World} {g : Nat} {x y : Value} (h0 : W.cell? ⟨g, 0, none⟩ = some x) (h1 : W.cell? ⟨g, 1, none⟩ = some y) (u v : Int) : Elem ((W.setCell ⟨g, 0, none⟩ (.int .i64 u)).setCell ⟨g, 1, none⟩ (.int .i64 v)) g u v :=
  ⟨by rw [World.cell?_setCell_other _ _ _ _ (by simp)]; exact World.cell?_setCell_same _ _ _ h0, World.cell?_setCell_same _ _ _ (u := y) (by rw [World.cell?_setCell_other _ _ _ _ (by simp), h1])⟩


end Go.Proofs.YtkpohajmcngjcaaGreatDoor

namespace Go.Proofs.YtkpohajmcngjcaaGreatDoor
open Go.ChangeShapes Go.WideShapes Go.ChangeAt Go.RowKit
set_option linter.unusedVariables false
set_option linter.unusedSimpArgs false

theorem infoExt : (Tryz.prog.info? 62).map (fun i => (i.zero, i.size, i.bytes)) = some (some (.agg #[.int .i64 0, .int .i64 0]), 2, 16) := by kernel_rfl
/-- Pairs of ints, cell by cell. -/
def pf (f g : Nat → Int) (i : Nat) : Value := .int .i64 (if i % 2 = 0 then f (i / 2) else g (i / 2))
theorem pf_even (f g : Nat → Int) (k : Nat) : pf f g (k * 2) = .int .i64 (f k) := by
  unfold pf; rw [if_pos (by omega), show k * 2 / 2 = k by omega]
theorem pf_odd (f g : Nat → Int) (k : Nat) : pf f g (k * 2 + 1) = .int .i64 (g k) := by
  unfold pf; rw [if_neg (by omega), show (k * 2 + 1) / 2 = k by omega]
/-- An own row of pairs can be read. -/
theorem PairV.of_row {w : World} {b : Nat} {t : TypeId} {n m : Nat} {f g : Nat → Int} (h : w.rowIs b t (m * 2) (pf f g)) (hm : n ≤ m) : PairV w (some ⟨b, 0, none⟩) n f g := by
  intro i hi
  refine ⟨b, 0, rfl, h.lt, ?_, ?_⟩
  · rw [Nat.zero_add, h.cell (by omega), pf_even]
  · rw [Nat.zero_add, h.cell (by omega), pf_odd]
theorem PairV.congr {w : World} {c : Option Addr} {n : Nat} {f g f' g' : Nat → Int} (h : PairV w c n f g) (e : ∀ i, i < n → f i = f' i ∧ g i = g' i) : PairV w c n f' g' := by
  intro i hi
  obtain ⟨xb, xo, e1, l, h1, h2⟩ := h i hi
  exact ⟨xb, xo, e1, l, by rw [h1, (e i hi).1], by rw [h2, (e i hi).2]⟩
/-- make([]T, n), T of two cells. -/
theorem wpList_make_pairs {P : Program} (w : World) {ops : Array Oper} {rest : List Oper} {o : Oper} {a : Act} {Q : Exit → Act → World → Prop}
    (hg : o.guard = none) (l c : Operand) (t : TypeId) (hop : o.op = Op.makeSlice t l c) (e : TypeId) (i : TypeInfo)
    (h1 : P.underlying t = some (.slice e)) (h2 : P.info? e = some i) (h3 : i.zero = some (.agg #[.int .i64 0, .int .i64 0])) (h4 : i.size = 2)
    (kl kc : IntKind) (L C : Int) (n : Nat) (hl : a.eval l = .int kl L) (hc : a.eval c = .int kc C) (hL : L = (n : Int)) (hC : C = (n : Int)) (b2 : i.bytes * n ≤ 281474976710656) (b3 : n ≤ 9223372036854775807)
    (hK : ∀ w', w'.rowIs w.heap.size e (n * 2) (pf (fun _ => 0) (fun _ => 0)) → Chg nob w w' → wpList P ops Q rest (a.put o.dst (.slice (some ⟨w.heap.size, 0, none⟩) n n)) w') :
    wpList P ops Q (o :: rest) a w := by
  refine wpList_plain hg fun K hK' => ?_
  have hb' : (i.bytes : Int) * (n : Int) ≤ 281474976710656 := by
    have h : ((i.bytes * n : Nat) : Int) ≤ 281474976710656 := by omega
    rwa [Int.natCast_mul] at h
  have hrun := run_make (P := P) w t e i _ h1 h2 h3 kl kc n n (by omega) (Int.le_refl _) hb' (by omega)
  simp only [Int.toNat_natCast, h4] at hrun
  subst hL
  subst hC
  unfold Oper.wp
  simp [execOp, hop, hl, hc, hrun, Result.andThen]
  refine hK' _ _ (hK _ ⟨_, Go.Deep.blk_alloc_new _ _, size_madeCells _ _, fun j hj => ?_⟩ ((Chg.refl _ _).alloc _))
  have h2 : j % 2 < 2 := Nat.mod_lt _ (by omega)
  rcases (by omega : j % 2 = 0 ∨ j % 2 = 1) with q | q <;> simp [madeCells, hj, Value.cells, q, pf]

/-- All of the first n elements are right ones. -/
def okP (f g : Nat → Int) : Nat → Bool
  | 0 => true
  | n + 1 => okP f g n && eok (f n) (g n)
theorem okP_no (f g : Nat → Int) (k : Nat) (h : eok (f k) (g k) = false) : ∀ n, k < n → okP f g n = false := by
  intro n
  induction n with
  | zero => intro h; omega
  | succ n ih =>
    intro hn
    by_cases e : k = n
    · subst e; simp [okP, h]
    · simp [okP, ih (by omega)]
theorem okP_all (f g : Nat → Int) (n : Nat) (h : okP f g n = true) (i : Nat) (hi : i < n) : eok (f i) (g i) = true := by
  cases e : eok (f i) (g i)
  · rw [okP_no f g i e n hi] at h; cases h
  · rfl
theorem okP_of (f g : Nat → Int) (n : Nat) (h : ∀ i, i < n → eok (f i) (g i) = true) : okP f g n = true := by
  induction n with
  | zero => rfl
  | succ n ih => simp [okP, ih (fun i hi => h i (by omega)), h n (by omega)]

set_option maxHeartbeats 1000000 in
theorem extsOK_any (c : Option Addr) (n cap : Nat) (f g : Nat → Int) (w : World) (h : Hid (PairV w c n f g)) (hn : n ≤ 1099511627776) :
    Calls Tryz.prog 51 #[.slice c n cap] w fun e w' => e = .returned (.bool (okP f g n)) ∧ Chg nob w w' := by
  go_enter Tryz.func51, Tryz.ntmps51
  go_wp2
  go_loopw [7] (fun i W => ∃ k : Nat, k ≤ n ∧ i = .int .i64 k ∧ Hid (okP f g k = true) ∧ Hid (Chg nob w W)) (fun i _ => n - (intOf i).toNat)
  case atStart => exact ⟨0, Nat.zero_le _, rfl, hide rfl, hide (Chg.refl _ _)⟩
  case round =>
    obtain ⟨k, hk, rfl, HO, HC⟩ := hrel
    by_cases hlt : k < n
    · obtain ⟨xb, xo, rfl, hxb, hx0, hx1⟩ := (h.out.keep HC.out) k hlt
      cases hfk : eok (f k) (g k)
      · have HB := hide (okP_no f g k hfk n hlt)
        go_wp2_with (go_at_call 93; refine (extOK_any _ _ _).mono ?_; rintro e w1 ⟨rfl, k1⟩)
        go_ret
        exact ⟨ret_bool HB.out.symm, HC.out.trans (by repeat (first | with_reducible exact Chg.refl _ _ | with_reducible refine Chg.alloc ?_ _ | with_reducible refine Chg.trans ?_ (by assumption)))⟩
      · have HO2 := hide (show okP f g (k + 1) = true by simp [okP, HO.out, hfk])
        go_wp2_with (go_at_call 93; refine (extOK_any _ _ _).mono ?_; rintro e w1 ⟨rfl, k1⟩)
        go_roundw
        case rel => exact ⟨k + 1, by omega, by go_num, HO2, hide (HC.out.trans (by repeat (first | with_reducible exact Chg.refl _ _ | with_reducible refine Chg.alloc ?_ _ | with_reducible refine Chg.trans ?_ (by assumption))))⟩
        case measure => simp [intOf]; omega
    · obtain rfl : k = n := by omega
      go_wp2
      go_ret
      exact ⟨ret_bool HO.out.symm, HC.out⟩

set_option maxHeartbeats 1000000 in
theorem l02List_any (c : Option Addr) (n cap : Nat) (f g : Nat → Int) (w : World) (h : Hid (PairV w c n f g)) (hn : n ≤ 1099511627776) :
    Calls Tryz.prog 102 #[.slice c n cap] w fun e w' => e = .returned (.bool (okP f g n)) ∧ Chg nob w w' := by
  go_enter Tryz.func102, Tryz.ntmps102
  go_wp2
  go_loopw [3] (fun i W => ∃ k : Nat, k ≤ n ∧ i = .int .i64 k ∧ Hid (okP f g k = true) ∧ Hid (Chg nob w W)) (fun i _ => n - (intOf i).toNat)
  case atStart => exact ⟨0, Nat.zero_le _, rfl, hide rfl, hide (Chg.refl _ _)⟩
  case round =>
    obtain ⟨k, hk, rfl, HO, HC⟩ := hrel
    by_cases hlt : k < n
    · obtain ⟨xb, xo, rfl, hxb, hx0, hx1⟩ := (h.out.keep HC.out) k hlt
      cases hfk : eok (f k) (g k)
      · have HB := hide (okP_no f g k hfk n hlt)
        go_wp2_with (go_at_call 115; refine (sExtOK_any _ _ _).mono ?_; rintro e w1 ⟨rfl, k1⟩)
        go_ret
        exact ⟨ret_bool HB.out.symm, HC.out.trans (by repeat (first | with_reducible exact Chg.refl _ _ | with_reducible refine Chg.alloc ?_ _ | with_reducible refine Chg.trans ?_ (by assumption)))⟩
      · have HO2 := hide (show okP f g (k + 1) = true by simp [okP, HO.out, hfk])
        go_wp2_with (go_at_call 115; refine (sExtOK_any _ _ _).mono ?_; rintro e w1 ⟨rfl, k1⟩)
        go_roundw
        case rel => exact ⟨k + 1, by omega, by go_num, HO2, hide (HC.out.trans (by repeat (first | with_reducible exact Chg.refl _ _ | with_reducible refine Chg.alloc ?_ _ | with_reducible refine Chg.trans ?_ (by assumption))))⟩
        case measure => simp [intOf]; omega
    · obtain rfl : k = n := by omega
      go_wp2
      go_ret
      exact ⟨ret_bool HO.out.symm, HC.out⟩


end Go.Proofs.YtkpohajmcngjcaaGreatDoor

namespace Go.Proofs.YtkpohajmcngjcaaGreatDoor
open Go.ChangeShapes Go.WideShapes Go.ChangeAt Go.RowKit
set_option linter.unusedVariables false
set_option maxRecDepth 100000
set_option linter.unusedSimpArgs false

/-- n elements behind c in a block of the call's own (not below B), or none. -/
def OwnE (w : World) (B : Nat) (c : Option Addr) (n : Nat) (f g : Nat → Int) : Prop :=
  n = 0 ∨ ∃ (b N : Nat) (h : Nat → Value), c = some ⟨b, 0, none⟩ ∧ B ≤ b ∧ w.rowIs b 62 N h ∧ n * 2 ≤ N ∧ ∀ i, i < n * 2 → h i = pf f g i
theorem OwnE.zero {w : World} {B : Nat} {c : Option Addr} {f g : Nat → Int} : OwnE w B c 0 f g := .inl rfl
theorem OwnE.of_row {w : World} {B b n : Nat} {f g : Nat → Int} (h : w.rowIs b 62 (n * 2) (pf f g)) (hB : B ≤ b) : OwnE w B (some ⟨b, 0, none⟩) n f g := .inr ⟨b, n * 2, pf f g, rfl, hB, h, Nat.le_refl _, fun _ _ => rfl⟩
theorem OwnE.pairs {w : World} {B : Nat} {c : Option Addr} {n : Nat} {f g : Nat → Int} (h : OwnE w B c n f g) : PairV w c n f g := by
  rcases h with rfl | ⟨b, N, h, rfl, hB, hr, hN, he⟩
  · intro i hi; omega
  · intro i hi
    refine ⟨b, 0, rfl, hr.lt, ?_, ?_⟩
    · rw [Nat.zero_add, hr.cell (by omega), he _ (by omega), pf_even]
    · rw [Nat.zero_add, hr.cell (by omega), he _ (by omega), pf_odd]
theorem OwnE.low {w : World} {B B' : Nat} {c : Option Addr} {n : Nat} {f g : Nat → Int} (h : OwnE w B c n f g) (hB : B' ≤ B) : OwnE w B' c n f g := by
  rcases h with rfl | ⟨b, N, h, e, hb, r⟩
  · exact .inl rfl
  · exact .inr ⟨b, N, h, e, by omega, r⟩
theorem OwnE.congr {w : World} {B : Nat} {c : Option Addr} {n : Nat} {f g f' g' : Nat → Int} (h : OwnE w B c n f g) (e : ∀ i, i < n → f i = f' i ∧ g i = g' i) : OwnE w B c n f' g' := by
  rcases h with rfl | ⟨b, N, h, ec, hb, hr, hN, he⟩
  · exact .inl rfl
  · refine .inr ⟨b, N, h, ec, hb, hr, hN, fun i hi => ?_⟩
    rw [he i hi]
    unfold pf
    rw [(e (i / 2) (by omega)).1, (e (i / 2) (by omega)).2]
theorem OwnE.chg {P : Nat → Prop} {w w' : World} {B : Nat} {c : Option Addr} {n : Nat} {f g : Nat → Int} (h : OwnE w B c n f g) (k : Chg P w w') (hp : ∀ b, B ≤ b → c = some ⟨b, 0, none⟩ → ¬ P b) : OwnE w' B c n f g := by
  rcases h with rfl | ⟨b, N, h, e, hb, hr, r⟩
  · exact .inl rfl
  · exact .inr ⟨b, N, h, e, hb, rowIs_chg hr k (hp b hb e), r⟩
theorem OwnE.keep {w w' : World} {B : Nat} {c : Option Addr} {n : Nat} {f g : Nat → Int} (h : OwnE w B c n f g) (k : Chg nob w w') : OwnE w' B c n f g := h.chg k (fun _ _ _ x => x)
theorem OwnE.of_owns {w : World} {B n : Nat} {v : Value} {f g : Nat → Int} (ho : w.ownsRow B 62 2 v n ((List.range (n * 2)).map (pf f g))) : ∃ c cap, v = .slice c n cap ∧ n ≤ cap ∧ OwnE w B c n f g := by
  rcases ho.2 with ⟨rfl, rfl⟩ | ⟨b, cap, cur, rfl, hb, hcur, hl, _, hsz, ht⟩
  · exact ⟨none, 0, rfl, Nat.le_refl _, .inl rfl⟩
  · have hN : n * 2 ≤ cap * 2 := by omega
    refine ⟨_, cap, rfl, hl, .inr ⟨b, cap * 2, fun i => cur.toList[i]?.getD (.int .i64 0), rfl, hb, ⟨cur, hcur, hsz, fun i hi => ?_⟩, hN, fun i hi => ?_⟩⟩
    · have hi2 : i < cur.size := by omega
      simp [hi2]
    · have h1 : (cur.toList.take (n * 2))[i]? = some (pf f g i) := by rw [ht]; simp [List.getElem?_map, List.getElem?_range hi]
      rw [List.getElem?_take_of_lt hi] at h1
      show cur.toList[i]?.getD (.int .i64 0) = _
      rw [h1]; rfl

section
variable {P : Program}
/-- Elements onto an empty slice. -/
theorem wpList_append_pairs (w : World) {ops : Array Oper} {rest : List Oper} {o : Oper} {a : Act} {Q : Exit → Act → World → Prop}
    (s x : Operand) (t : TypeId) (hg : o.guard = none) (hop : o.op = Op.call { callee := Callee.builtin Builtin.append, args := #[s, x], argTypes := #[t, t] })
    (i : TypeInfo) (h1 : P.underlying t = some (.slice 62)) (h2 : P.info? 62 = some i) (h3 : i.zero = some (.agg #[.int .i64 0, .int .i64 0])) (h4 : i.size = 2) (h5 : i.bytes = 16)
    (e : Nat) (hgl : e < w.heap.size) (hs : a.eval s = .slice (some ⟨e, 0, none⟩) 0 0)
    (c : Option Addr) (n cap : Nat) (f g : Nat → Int) (hx : a.eval x = .slice c n cap) (hv : PairV w c n f g) (hn : n ≤ 1099511627776)
    (hK : ∀ c' cap' w', OwnE w' w.heap.size c' n f g → n ≤ cap' → (cap' : Int) ≤ 9223372036854775807 → Chg nob w w' → wpList P ops Q rest (a.put o.dst (.slice c' n cap')) w') :
    wpList P ops Q (o :: rest) a w := by
  by_cases hz : n = 0
  · subst hz
    have hsrc : Go.Src P i.size t (.slice c 0 cap) 0 [] w := by
      cases c with
      | none => exact Go.Src.ofNil w h1 cap
      | some ad => exact Go.Src.ofSlice w h1 ad 0 cap [] (by simp) (by intro j u h; simp at h) (by intro u h; cases h)
    have hrun := run_append_room_src (P := P) w t t o.type 62 i h1 h2 e 0 0 0 _ 0 [] hsrc (by omega) (by intro j h; simp at h) (by intro j h; simp at h)
    refine wpList_plain hg fun K hK' => ?_
    unfold Oper.wp
    simp [execOp, hop, resolve, invoke, builtin, hs, hx, hrun, Result.andThen]
    exact hK' _ _ (hK _ 0 _ (.inl rfl) (Nat.le_refl _) (by omega) (Chg.refl _ _))
  · obtain ⟨xb, xo, rfl, hxb, _, _⟩ := hv 0 (by omega)
    refine wpList_append_grows w hg s x t hop 62 i _ 2 16 h1 h2 h3 h4 h5 rfl (by decide) (some ⟨e, 0, none⟩) 0 0 [] hs (by intro h; cases h) rfl (by intro b _ j u h; simp at h) ⟨xb, xo, none⟩ n cap ((List.range (n * 2)).map (pf f g)) hx (by simp) ?_ ?_ (by omega) (by unfold maxLen; omega) (by omega) ?_
    · intro j u h
      by_cases hj : j < n * 2
      · rw [List.getElem?_map, List.getElem?_range hj] at h
        simp at h
        subst h
        rw [Go.WideShapes.add_plain]
        obtain ⟨yb, yo, ey, _, c1, c2⟩ := hv (j / 2) (by omega)
        simp at ey
        obtain ⟨rfl, rfl⟩ := ey
        rcases (show j % 2 = 0 ∨ j % 2 = 1 by omega) with q | q
        · rw [show xo + j = xo + j / 2 * 2 by omega, c1]
          unfold pf; rw [if_pos q]
        · rw [show xo + j = xo + j / 2 * 2 + 1 by omega, c2]
          unfold pf; rw [if_neg (by omega)]
      · rw [List.getElem?_eq_none (by simp; omega)] at h
        cases h
    · intro u hu
      simp at hu
      obtain ⟨j, _, rfl⟩ := hu
      rfl
    · intro v' w' hown hgr
      rw [Nat.zero_add, List.nil_append] at hown
      rcases hown.2 with ⟨_, h0⟩ | ⟨b, cp, cur, ev, _, _, hl, hm, _⟩
      · exact absurd h0 hz
      · obtain ⟨c', cap', e', hle, ho⟩ := OwnE.of_owns hown
        rw [e'] at ev
        simp at ev
        obtain ⟨rfl, rfl⟩ := ev
        subst e'
        exact hK _ _ w' ho hle (by unfold maxLen at hm; omega) ((Chg.refl _ _).grown hgr (fun k e => by cases e))
end

/-- The block of elements behind c. -/
def Mkb (w : World) (B : Nat) (c : Option Addr) (b : Nat) : Prop := B ≤ b ∧ c = some ⟨b, 0, none⟩ ∧ ∃ N h, w.rowIs b 62 N h
theorem Mkb.not {w : World} {B : Nat} {c : Option Addr} {b : Nat} {t : TypeId} {n : Nat} {f : Nat → Value} (h : w.rowIs b t n f) (ht : t ≠ 62) : ¬ Mkb w B c b := fun ⟨_, _, _, _, k⟩ => ht (rowIs_kind h k)
theorem Mkb.back {w : World} {B : Nat} {c : Option Addr} {i : Nat} {v : Array Value} {t : TypeId} (ht : t ≠ 62) (m : Mkb (w.alloc (.cells v t)) B c i) : Mkb w B c i := by
  obtain ⟨hb, hc, N, h, r⟩ := m
  by_cases e : i < w.heap.size
  · exact ⟨hb, hc, N, h, r.of_block (Go.Deep.blk_alloc_lt w _ i e).symm⟩
  · obtain ⟨d, r1, _⟩ := r
    have hl : i < (w.alloc (.cells v t)).heap.size := (Array.getElem?_eq_some_iff.1 r1).1
    simp at hl
    obtain rfl : i = w.heap.size := by omega
    rw [Go.Deep.blk_alloc_new] at r1
    cases r1
    exact absurd rfl ht

/-- A slice of elements of the call's own. -/
def ClAns (w : World) (n : Nat) (f g : Nat → Int) (e : Ending) (w' : World) : Prop :=
  ∃ (c : Option Addr) (cap : Nat), e = .returned (.slice c n cap) ∧ OwnE w' w.heap.size c n f g ∧ Chg nob w w'

/-- A source of the call's own. -/
def SrAns (w : World) (n : Nat) (f g : Nat → Int) (at' : Int) (st : ByteArray) (ct : Int) (e : Ending) (w' : World) : Prop :=
  ∃ (c : Option Addr) (cap : Nat), e = .returned (.agg #[.slice c n cap, .int .i64 at', .string st, .int .i64 ct]) ∧ OwnE w' w.heap.size c n f g ∧ Chg nob w w'

/-- A source of the call's own, and a code. -/
def SCAns (w : World) (code : Int) (n : Nat) (f g : Nat → Int) (at' : Int) (st : ByteArray) (ct : Int) (e : Ending) (w' : World) : Prop :=
  ∃ (c : Option Addr) (cap : Nat), e = .returned (.tuple #[.agg #[.slice c n cap, .int .i64 at', .string st, .int .i64 ct], .int .i64 code]) ∧ OwnE w' w.heap.size c n f g ∧ Chg nob w w'


end Go.Proofs.YtkpohajmcngjcaaGreatDoor
