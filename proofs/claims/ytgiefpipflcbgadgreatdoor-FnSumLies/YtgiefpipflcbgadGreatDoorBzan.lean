/- Several texts in one: Elements read from a string by the model: contracts. Conditions: those of each theorem. · What ReadExts answers: a contract. Condition: bytes that can be read. · What the model's reading of bytes answers: contracts. Conditions: bytes that can be read. · What the drawn source gives of elements, at a seat of any kind: contracts. Conditions: those of each theorem. -/
import Derived.Test.YtgiefpipflcbgadGreatDoorBzax
import Derived.Test.YtgiefpipflcbgadGreatDoorBzam
import Derived.Laws.BytesArg
import Derived.Test.YtgiefpipflcbgadGreatDoorBzbc
import Derived.Test.YtgiefpipflcbgadGreatDoorBzac
import Derived.Test.YtgiefpipflcbgadGreatDoorBzaa
import Derived.Test.YtgiefpipflcbgadGreatDoorBzaq
namespace Go.Proofs.YtgiefpipflcbgadGreatDoor
open Go.ChangeShapes Go.WideShapes Go.ChangeAt Go.RowKit
set_option linter.unusedVariables false
set_option linter.unusedSimpArgs false

theorem range_pair (f g : Nat → Int) (k : Nat) : (List.range (k * 2)).map (pf f g) ++ [.int .i64 (f k), .int .i64 (g k)] = (List.range ((k + 1) * 2)).map (pf f g) := by
  rw [show (k + 1) * 2 = k * 2 + 1 + 1 by omega, List.range_succ, List.range_succ]
  simp [pf_even, pf_odd]

end Go.Proofs.YtgiefpipflcbgadGreatDoor

namespace Go.Proofs.YtgiefpipflcbgadGreatDoor
open Go.ChangeShapes Go.WideShapes Go.ChangeAt Go.RowKit
set_option linter.unusedVariables false
set_option linter.unusedSimpArgs false

theorem RowV.whole {w : World} {c : Option Addr} {n : Nat} {f : Nat → Value} (h : RowV w c n f) (hn : 0 < n) : ∃ xb xo : Nat, c = some ⟨xb, xo, none⟩ ∧ xb < w.heap.size ∧ ∀ i, i < n → w.cell? ⟨xb, xo + i, none⟩ = some (f i) := by
  obtain ⟨xb, xo, e, l, _⟩ := h 0 hn
  refine ⟨xb, xo, e, l, fun i hi => ?_⟩
  obtain ⟨xb', xo', e', _, hc⟩ := h i hi
  rw [e] at e'
  obtain ⟨rfl, rfl⟩ : xb = xb' ∧ xo = xo' := by simpa using e'
  exact hc
/-- What the bytes say. -/
def rf (z : Nat → Int) (i : Nat) : Int := w4 z (i * 8)
def rg (z : Nat → Int) (i : Nat) : Int := w4 z (i * 8 + 4)
/-- The code of bytes. -/
def rc (z : Nat → Int) (n : Nat) : Int := if 65536 < n then 2 else if n % 8 = 0 then (if okP (rf z) (rg z) (n / 8) then (if 4096 < n / 8 then 6 else 0) else 3) else 3
def NoList (w : World) (code : Int) (e : Ending) (w' : World) : Prop := e = .returned (.tuple #[.slice none 0 0, .int .i64 code]) ∧ Chg nob w w'
def NewList (w : World) (n : Nat) (z : Nat → Int) (e : Ending) (w' : World) : Prop :=
  ∃ b : Nat, w.heap.size ≤ b ∧ e = .returned (.tuple #[.slice (some ⟨b, 0, none⟩) (n / 8) (n / 8), .int .i64 0]) ∧ w'.rowIs b 31 (n / 8 * 2) (pf (rf z) (rg z)) ∧ Chg nob w w'
def RAns (w : World) (n : Nat) (z : Nat → Int) (e : Ending) (w' : World) : Prop := (rc z n ≠ 0 ∧ NoList w (rc z n) e w') ∨ (rc z n = 0 ∧ NewList w n z e w')
theorem RAns.no {w w' : World} {n : Nat} {z : Nat → Int} {e : Ending} {code : Int} (hb : rc z n = code) (hc : code ≠ 0) (h : e = .returned (.tuple #[.slice none 0 0, .int .i64 code])) (k : Chg nob w w') : RAns w n z e w' :=
  .inl ⟨by rw [hb]; exact hc, by rw [hb]; exact ⟨h, k⟩⟩

end Go.Proofs.YtgiefpipflcbgadGreatDoor

namespace Go.Proofs.YtgiefpipflcbgadGreatDoor
open Go.ChangeShapes Go.WideShapes Go.ChangeAt Go.RowKit
set_option linter.unusedVariables false
set_option linter.unusedSimpArgs false

theorem news2 (W : World) (a b : Int) (T : TypeId) : ∀ j u, ([.int .i64 a, .int .i64 b] : List Value)[j]? = some u → (W.alloc (.cells #[.int .i64 a, .int .i64 b] T)).cell? ((⟨W.heap.size, 0, none⟩ : Addr).add j) = some u := by
  intro j u hj
  match j, hj with
  | 0, hj => simp at hj; subst hj; simp [Addr.add]
  | 1, hj => simp at hj; subst hj; simp [Addr.add]
  | j + 2, hj => simp at hj
theorem one2 (a b : Int) : ∀ u ∈ ([.int .i64 a, .int .i64 b] : List Value), u.oneCell' = true := by
  intro u hu
  simp at hu
  rcases hu with rfl | rfl <;> rfl

end Go.Proofs.YtgiefpipflcbgadGreatDoor

namespace Go.Proofs.YtgiefpipflcbgadGreatDoor
open Go.ChangeShapes Go.WideShapes Go.ChangeAt Go.RowKit
set_option linter.unusedVariables false
set_option maxRecDepth 100000
set_option linter.unusedSimpArgs false

set_option maxHeartbeats 2000000 in
theorem fieldC_any (n b : Nat) (w : World) (h : Src n w b) (hn : n ≤ 999999998000) :
    Calls Tryz.prog 114 #[.pointer (some ⟨b, 0, none⟩)] w fun e w' => DrawnC 0 2130706432 (n + 18) b w e w' := by
  have H := hide h
  clear h
  go_enter Tryz.func114, Tryz.ntmps114
  go_wp2_with fail
  refine (nextC_any 5 n b _ H.out (by omega) (by omega) (by omega)).mono ?_
  rintro e w1 ⟨r, rfl, r0, r1, hS, hB⟩
  have HS := hide hS
  have HB := hide hB
  clear hS H hB
  have hr : ((r == 0) = true) ∨ ((r == 0) = false ∧ (r == 1) = true) ∨ ((r == 0) = false ∧ (r == 1) = false) := by
    simp only [beq_iff_eq, beq_eq_false_iff_ne]
    omega
  rcases hr with g | ⟨g, g'⟩ | ⟨g, g'⟩
  · go_wp2_with fail
    refine (nextC_any 4 _ b _ HS.out (by omega) (by omega) (by omega)).mono ?_
    rintro e w2 ⟨s, rfl, s0, s1, hS2, hB2⟩
    have HS2 := hide hS2
    have HB2 := hide hB2
    clear hS2 hB2
    go_wp2
    go_ret
    exact ⟨s, rfl, s0, by omega, HS2.out.mono (by omega), HB.out.trans HB2.out⟩
  · go_wp2_with fail
    refine (nextC_any 3 _ b _ HS.out (by omega) (by omega) (by omega)).mono ?_
    rintro e w2 ⟨s, rfl, s0, s1, hS2, hB2⟩
    have HS2 := hide hS2
    have HB2 := hide hB2
    clear hS2 hB2
    go_wp2
    go_ret
    exact ⟨2130706432 - s, rfl, by omega, by omega, HS2.out.mono (by omega), HB.out.trans HB2.out⟩
  · go_wp2
    go_loopw [3, 4] (fun v i W => ∃ (k : Nat) (x : Int), k ≤ 5 ∧ i = .int .i64 k ∧ v = .int .i64 x ∧ 0 ≤ x ∧ x ≤ 2130706432 ∧ Hid (Src (n + 3 + 3 * k) W b) ∧ Hid (Chg (fun k => k = b) w W)) (fun _ i _ => 5 - (intOf i).toNat)
    case atStart => exact ⟨0, 0, by omega, rfl, rfl, by omega, by omega, HS, HB⟩
    case round =>
      obtain ⟨k, x, hk, rfl, rfl, x0, x1, GS, GB⟩ := hrel
      by_cases hlt : k < 5
      · go_wp2_with fail
        refine (nextC_any 256 _ b _ GS.out (by omega) (by omega) (by omega)).mono ?_
        rintro e w2 ⟨s, rfl, s0, s1, hS2, hB2⟩
        have HS2 := hide hS2
        have HB2 := hide hB2
        clear hS2 hB2
        go_wp2
        go_roundw
        case rel => exact ⟨k + 1, _, by omega, by go_num, rfl, by omega, by omega, hide (HS2.out.mono (by omega)), hide (GB.out.trans HB2.out)⟩
        case measure => simp [intOf]; omega
      · go_wp2
        go_ret
        exact ⟨x, rfl, x0, x1, GS.out.mono (by omega), GB.out⟩

/-- A drawn bool. -/
def DrawnB (n b : Nat) (w : World) (e : Ending) (w' : World) : Prop := ∃ r : Bool, e = .returned (.bool r) ∧ Src n w' b ∧ Chg (fun k => k = b) w w'

set_option maxHeartbeats 1000000 in
theorem chance_any (N : Int) (n b : Nat) (w : World) (h : Hid (Src n w b)) (hn : n ≤ 999999999000) (N1 : 1 < N) (N2 : N ≤ 1000000000) :
    Calls Tryz.prog 58 #[.pointer (some ⟨b, 0, none⟩), .int .i64 N] w fun e w' => DrawnB (n + 3) b w e w' := by
  go_enter Tryz.func58, Tryz.ntmps58
  go_wp2_with fail
  refine (nextC_any N n b _ h.out (by omega) N1 N2).mono ?_
  rintro e w' ⟨r, rfl, r0, r1, hS, hB⟩
  have HS := hide hS
  clear hS
  go_wp2
  go_ret
  exact ⟨_, rfl, HS.out, hB⟩

/-- A drawn element. -/
def DrawnE (n b : Nat) (w : World) (e : Ending) (w' : World) : Prop :=
  ∃ x y : Int, e = .returned (.agg #[.int .i64 x, .int .i64 y]) ∧ eok x y = true ∧ Src n w' b ∧ Chg (fun k => k = b) w w'
theorem look_src {w w' : World} {b g o : Nat} {v : Value} (h : Chg (fun k => k = b) w w') (hg : g ≠ b) (c : w.cell? ⟨g, o, none⟩ = some v) : w'.cell? ⟨g, o, none⟩ = some v :=
  (h.cell (p := ⟨g, o, none⟩) (World.block_lt_of_cell? w _ c) hg).trans c
theorem frozen_src {w w' : World} {b g o : Nat} (h : Chg (fun k => k = b) w w') (hg : g ≠ b) (l : g < w.heap.size) (c : w.frozen? ⟨g, o, none⟩ = false) : w'.frozen? ⟨g, o, none⟩ = false :=
  (World.frozen?_of_block (a := ⟨g, o, none⟩) (h.block g l hg)).trans c
/-- What the drawing of an element comes to, its place being new. -/
theorem drawnE_of {n b : Nat} {w W : World} {T : TypeId} (hb : b < w.heap.size) (x y : Int) (hS : Src n W b) (hC : Chg (fun k => k = b) (w.alloc (.cells #[.int .i64 0, .int .i64 0] T)) W) (hx : 0 ≤ x) (hx' : x ≤ 2130706432) (hy : 0 ≤ y) (hy' : y ≤ 2130706432) :
    eok x y = true ∧ Src n ((W.setCell ⟨w.heap.size, 0, none⟩ (.int .i64 x)).setCell ⟨w.heap.size, 1, none⟩ (.int .i64 y)) b ∧ Chg (fun k => k = b) w ((W.setCell ⟨w.heap.size, 0, none⟩ (.int .i64 x)).setCell ⟨w.heap.size, 1, none⟩ (.int .i64 y)) :=
  ⟨eok_mk (fok_mk hx (by omega)) (fok_mk hy (by omega)), hS.chg (P := fun k => k = w.heap.size) (chg2_set (Chg.refl (fun k => k = w.heap.size) _) w.heap.size (fun _ => rfl) _ _) (fun i hi => by omega), chg2_set (((Chg.refl _ _).alloc _).trans hC) w.heap.size (fun l => by omega) _ _⟩

set_option maxHeartbeats 2000000 in
theorem ext_any (n b : Nat) (w : World) (h : Src n w b) (hn : n ≤ 999999990000) :
    Calls Tryz.prog 88 #[.pointer (some ⟨b, 0, none⟩)] w fun e w' => DrawnE (n + 39) b w e w' := by
  have hb := h.lt
  have hne : w.heap.size ≠ b := by omega
  have H := hide (h.keep ((Chg.refl nob w).alloc (.cells #[.int .i64 0, .int .i64 0] 31)))
  clear h
  go_enter Tryz.func88, Tryz.ntmps88
  go_wp2_with fail
  refine (chance_any 4 n b _ H (by omega) (by omega) (by omega)).mono ?_
  rintro e w1 ⟨r, rfl, hS, hB⟩
  have HS := hide hS
  have HB := hide hB
  clear hS H hB
  cases r
  · go_wp2_with fail
    refine (fieldC_any _ b _ HS.out (by omega)).mono ?_
    rintro e w2 ⟨x, rfl, x0, x1, hS2, hB2⟩
    have HS2 := hide hS2
    have HB2 := hide (HB.out.trans hB2)
    clear hS2 hB2
    go_wp2_with fail
    refine (fieldC_any _ b _ HS2.out (by omega)).mono ?_
    rintro e w3 ⟨y, rfl, y0, y1, hS3, hB3⟩
    have HS3 := hide hS3
    have HB3 := hide (HB2.out.trans hB3)
    clear hS3 hB3
    have c0 : w3.cell? ⟨w.heap.size, 0, none⟩ = some (.int .i64 0) := look_src HB3.out hne (by go_simp)
    have c1 : w3.cell? ⟨w.heap.size, 1, none⟩ = some (.int .i64 0) := look_src HB3.out hne (by go_simp)
    have f0 : w3.frozen? ⟨w.heap.size, 0, none⟩ = false := frozen_src HB3.out hne (by simp) (by go_simp)
    have f1 : w3.frozen? ⟨w.heap.size, 1, none⟩ = false := frozen_src HB3.out hne (by simp) (by go_simp)
    go_wp2
    obtain ⟨q1, q2, q3⟩ := drawnE_of hb x y HS3.out HB3.out x0 x1 y0 y1
    exact bodyPost_ret (v := .agg #[.int .i64 x, .int .i64 y]) (by simp [results, Tryz.results88, go_sem, *]) rfl ⟨x, y, rfl, q1, q2.mono (by omega), q3⟩
  · go_wp2_with fail
    refine (fieldC_any _ b _ HS.out (by omega)).mono ?_
    rintro e w2 ⟨x, rfl, x0, x1, hS2, hB2⟩
    have HS2 := hide hS2
    have HB2 := hide (HB.out.trans hB2)
    clear hS2 hB2
    have c0 : w2.cell? ⟨w.heap.size, 0, none⟩ = some (.int .i64 0) := look_src HB2.out hne (by go_simp)
    have c1 : w2.cell? ⟨w.heap.size, 1, none⟩ = some (.int .i64 0) := look_src HB2.out hne (by go_simp)
    have f0 : w2.frozen? ⟨w.heap.size, 0, none⟩ = false := frozen_src HB2.out hne (by simp) (by go_simp)
    have f1 : w2.frozen? ⟨w.heap.size, 1, none⟩ = false := frozen_src HB2.out hne (by simp) (by go_simp)
    go_wp2
    obtain ⟨q1, q2, q3⟩ := drawnE_of hb x 0 HS2.out HB2.out x0 x1 (by omega) (by omega)
    exact bodyPost_ret (v := .agg #[.int .i64 x, .int .i64 0]) (by simp [results, Tryz.results88, go_sem, *]) rfl ⟨x, 0, rfl, q1, q2.mono (by omega), q3⟩

/-- A drawn list, in memory of its own. -/
def DrawnX (n m b : Nat) (w : World) (e : Ending) (w' : World) : Prop :=
  ∃ (f g : Nat → Int) (c0 : Option Addr) (cap0 : Nat), e = .returned (.slice c0 m cap0) ∧ OwnE w' w.heap.size c0 m f g ∧ okP f g m = true ∧ Src n w' b ∧ Chg (fun k => k = b) w w'
/-- A list, one element longer. -/
def ext1 (f : Nat → Int) (k : Nat) (x : Int) (i : Nat) : Int := if i = k then x else f i
theorem ext1_lt (f : Nat → Int) (k : Nat) (x : Int) (i : Nat) (h : i < k) : ext1 f k x i = f i := by unfold ext1; rw [if_neg (by omega)]
theorem ext1_at (f : Nat → Int) (k : Nat) (x : Int) : ext1 f k x k = x := by unfold ext1; rw [if_pos rfl]
theorem okP_ext (f g : Nat → Int) (k : Nat) (x y : Int) (h : okP f g k = true) (hx : eok x y = true) : okP (ext1 f k x) (ext1 g k y) (k + 1) = true :=
  okP_of _ _ _ (fun i hi => by
    by_cases e : i = k
    · subst e; rw [ext1_at, ext1_at]; exact hx
    · rw [ext1_lt f k x i (by omega), ext1_lt g k y i (by omega)]; exact okP_all f g k h i (by omega))
theorem row_ext (f g : Nat → Int) (k : Nat) (x y : Int) : (List.range (k * 2)).map (pf f g) ++ [.int .i64 x, .int .i64 y] = (List.range ((k + 1) * 2)).map (pf (ext1 f k x) (ext1 g k y)) := by
  rw [← range_pair, ext1_at, ext1_at]
  congr 1
  apply List.map_congr_left
  intro i hi
  have hi' : i < k * 2 := by simpa using hi
  unfold pf
  by_cases e : i % 2 = 0
  · rw [if_pos e, if_pos e, ext1_lt f k x (i / 2) (by omega)]
  · rw [if_neg e, if_neg e, ext1_lt g k y (i / 2) (by omega)]
theorem owns_src {w w' : World} {B b : Nat} {t : TypeId} {z : Nat} {v : Value} {n : Nat} {xs : List Value} (h : w.ownsRow B t z v n xs) (hb : b < B) (k : Chg (fun i => i = b) w w') : w'.ownsRow B t z v n xs :=
  h.kept (row := some b) ⟨k.os, k.tape, k.output, k.size, fun i hi hne => k.block i hi (fun e => hne (by rw [e]))⟩ (by
    cases e : v.ownBlock with
    | none => exact Or.inl rfl
    | some g => exact Or.inr (fun h2 => by have := (h.lt g e).1; simp at h2; omega))

set_option maxHeartbeats 2000000 in
theorem exts_any (m n b : Nat) (w : World) (h : Src n w b) (hn : n ≤ 999999980000) (hm : m ≤ 100) :
    Calls Tryz.prog 55 #[.pointer (some ⟨b, 0, none⟩), .int .i64 m] w fun e w' => DrawnX (n + 39 * m) m b w e w' := by
  obtain ⟨i0, hi, hz0, hz1, hz2⟩ := info_parts infoExt
  have HI := hide hi
  have HZ0 := hide hz0
  have HZ1 := hide hz1
  have HZ2 := hide hz2
  have hb := h.lt
  have H := hide (h.keep ((Chg.refl nob w).alloc (.cells #[] 31)))
  clear hi hz0 hz1 hz2 h
  go_enter Tryz.func55, Tryz.ntmps55
  go_wp2
  go_loopw [5, 6] (fun v i W => ∃ (k : Nat) (f g : Nat → Int), k ≤ m ∧ i = .int .i64 k ∧ Hid (W.ownsRow w.heap.size 31 2 v k ((List.range (k * 2)).map (pf f g))) ∧ Hid (okP f g k = true) ∧ Hid (Src (n + 39 * k) W b) ∧ Hid (Chg (fun i => i = b) w W)) (fun _ i _ => m - (intOf i).toNat)
  case atStart => exact ⟨0, fun _ => 0, fun _ => 0, Nat.zero_le _, rfl, hide (owns_none _ _ _ _ (Nat.le_refl _)), hide rfl, H, hide ((Chg.refl _ _).alloc _)⟩
  case round =>
    obtain ⟨k, f, g, hk, rfl, HW, HO, HS, HC⟩ := hrel
    have hsz := HC.out.size
    by_cases hlt : k < m
    · go_wp2_with fail
      refine (ext_any _ b _ HS.out (by omega)).mono ?_
      rintro e w1 ⟨x, y, rfl, hE, hS1, hB1⟩
      have HW1 := hide (owns_src HW.out hb hB1)
      have HO1 := hide (okP_ext f g k x y HO.out hE)
      have HS1 := hide hS1
      have HC1 := hide (HC.out.trans hB1)
      have hs1 := HC1.out.size
      clear hE hS1 hB1
      go_wp2_with (at_builtin; refine wpList_append_own _ rfl (.tmp 13) (.tmp 16) 26 rfl w.heap.size 31 i0 (.agg #[.int .i64 0, .int .i64 0]) 2 16 Tryz.underlying26 HI.out HZ0.out HZ1.out HZ2.out rfl (by decide) _ k _ rfl (HW1.out.alloc _) ⟨_, 0, none⟩ 1 1 [.int .i64 x, .int .i64 y] rfl rfl ?c1 ?c2 ?c3 ?c4 ?c5 ?c6)
      case c1 => exact news2 _ _ _ _
      case c2 => exact one2 _ _
      case c3 => unfold maxLen; omega
      case c4 => omega
      case c5 => simp; omega
      case c6 =>
        intro v' w2 hown hgr _
        have HW2 : Hid (w2.ownsRow w.heap.size 31 2 v' (k + 1) ((List.range ((k + 1) * 2)).map (pf (ext1 f k x) (ext1 g k y)))) := hide (by rw [← row_ext]; exact hown)
        have HC2 := hide ((HC1.out.alloc _).grown hgr (fun i e l => absurd (HW1.out.lt i e).1 (by omega)))
        have HS2 : Hid (Src (n + 39 * k + 39) w2 b) := hide ((HS1.out.keep ((Chg.refl nob w1).alloc (.cells #[.int .i64 x, .int .i64 y] 31))).chg (P := fun i => w.heap.size ≤ i) ((Chg.refl _ _).grown hgr (fun i e _ => (HW1.out.lt i e).1)) (fun i hi => by omega))
        clear hown hgr
        go_wp2
        go_roundw
        case rel => exact ⟨k + 1, _, _, by omega, by go_num, HW2, HO1, hide (HS2.out.mono (by omega)), HC2⟩
        case measure => simp [intOf]; omega
    · obtain rfl : k = m := by omega
      obtain ⟨c1, cap1, rfl, hle, hP⟩ := OwnE.of_owns HW.out
      have HP := hide hP
      clear hP hle
      go_wp2
      go_ret
      exact ⟨f, g, c1, cap1, rfl, HP.out, HO.out, HS.out, HC.out⟩

end Go.Proofs.YtgiefpipflcbgadGreatDoor
