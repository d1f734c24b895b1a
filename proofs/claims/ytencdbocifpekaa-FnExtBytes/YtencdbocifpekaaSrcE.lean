/- Drawn lists of elements, and lists found alike: contracts. Conditions: those of each theorem. -/
import Derived.Test.YtencdbocifpekaaSrcC
import Derived.Test.YtencdbocifpekaaRedR
namespace Go.Proofs.Ytencdbocifpekaa
open Go.ChangeShapes Go.WideShapes Go.ChangeAt Go.RowKit
set_option linter.unusedVariables false
set_option linter.unusedSimpArgs false

/-- A drawn list. -/
def DrawnL (n m b : Nat) (w : World) (e : Ending) (w' : World) : Prop :=
  ∃ (f g : Nat → Int) (c0 : Option Addr) (cap0 : Nat), e = .returned (.slice c0 m cap0) ∧ PairV w' c0 m f g ∧ okP f g m = true ∧ Src n w' b ∧ Chg (fun k => k = b) w w'
/-- A list, one element longer. -/
def ext1 (f : Nat → Int) (k : Nat) (x : Int) (i : Nat) : Int := if i = k then x else f i
theorem ext1_lt (f : Nat → Int) (k : Nat) (x : Int) (i : Nat) (h : i < k) : ext1 f k x i = f i := by unfold ext1; rw [if_neg (by omega)]
theorem ext1_at (f : Nat → Int) (k : Nat) (x : Int) : ext1 f k x k = x := by unfold ext1; rw [if_pos rfl]
theorem okP_ext (f g : Nat → Int) (k : Nat) (x y : Int) (h : okP f g k = true) (hx : eok x y = true) : okP (ext1 f k x) (ext1 g k y) (k + 1) = true :=
  okP_of _ _ _ (fun i hi => by
    by_cases e : i = k
    · subst e; rw [ext1_at, ext1_at]; exact hx
    · rw [ext1_lt f k x i (by omega), ext1_lt g k y i (by omega)]; exact okP_all f g k h i (by omega))
theorem row_ext (f g : Nat → Int) (k : Nat) (x y : Int) : (List.range (k * 2)).map (pf f g) ++ [.int .i64 x, .int .i64 y] = (List.range ((k + 1) * 2)).map (pf (ext1 f k x) (ext1 g k y)) := by
  rw [← range_pair, ext1_at, ext1_at]
  congr 1
  apply List.map_congr_left
  intro i hi
  have hi' : i < k * 2 := by simpa using hi
  unfold pf
  by_cases e : i % 2 = 0
  · rw [if_pos e, if_pos e, ext1_lt f k x (i / 2) (by omega)]
  · rw [if_neg e, if_neg e, ext1_lt g k y (i / 2) (by omega)]
theorem owns_src {w w' : World} {B b : Nat} {t : TypeId} {z : Nat} {v : Value} {n : Nat} {xs : List Value} (h : w.ownsRow B t z v n xs) (hb : b < B) (k : Chg (fun i => i = b) w w') : w'.ownsRow B t z v n xs :=
  h.kept (row := some b) ⟨k.os, k.tape, k.output, k.size, fun i hi hne => k.block i hi (fun e => hne (by rw [e]))⟩ (by
    cases e : v.ownBlock with
    | none => exact Or.inl rfl
    | some g => exact Or.inr (fun h2 => by have := (h.lt g e).1; simp at h2; omega))

set_option maxHeartbeats 2000000 in
theorem exts_any (m n b : Nat) (w : World) (h : Src n w b) (hn : n ≤ 999999980000) (hm : m ≤ 100) :
    Calls Try.prog 64 #[.pointer (some ⟨b, 0, none⟩), .int .i64 m] w fun e w' => DrawnL (n + 39 * m) m b w e w' := by
  obtain ⟨i0, hi, hz0, hz1, hz2⟩ := info_parts infoExt
  have HI := hide hi
  have HZ0 := hide hz0
  have HZ1 := hide hz1
  have HZ2 := hide hz2
  have hb := h.lt
  have H := hide (h.keep ((Chg.refl nob w).alloc (.cells #[] 37)))
  clear hi hz0 hz1 hz2 h
  go_enter Try.func64, Try.ntmps64
  go_wp2
  go_loopw [5, 6] (fun v i W => ∃ (k : Nat) (f g : Nat → Int), k ≤ m ∧ i = .int .i64 k ∧ Hid (W.ownsRow w.heap.size 37 2 v k ((List.range (k * 2)).map (pf f g))) ∧ Hid (okP f g k = true) ∧ Hid (Src (n + 39 * k) W b) ∧ Hid (Chg (fun i => i = b) w W)) (fun _ i _ => m - (intOf i).toNat)
  case atStart => exact ⟨0, fun _ => 0, fun _ => 0, Nat.zero_le _, rfl, hide (owns_none _ _ _ _ (Nat.le_refl _)), hide rfl, H, hide ((Chg.refl _ _).alloc _)⟩
  case round =>
    obtain ⟨k, f, g, hk, rfl, HW, HO, HS, HC⟩ := hrel
    have hsz := HC.out.size
    by_cases hlt : k < m
    · go_wp2_with fail
      refine (ext_any _ b _ HS.out (by omega)).mono ?_
      rintro e w1 ⟨x, y, rfl, hE, hS1, hB1⟩
      have HW1 := hide (owns_src HW.out hb hB1)
      have HO1 := hide (okP_ext f g k x y HO.out hE)
      have HS1 := hide hS1
      have HC1 := hide (HC.out.trans hB1)
      have hs1 := HC1.out.size
      clear hE hS1 hB1
      go_wp2_with (at_builtin; refine wpList_append_own _ rfl (.tmp 13) (.tmp 16) 45 rfl w.heap.size 37 i0 (.agg #[.int .i64 0, .int .i64 0]) 2 16 Try.underlying45 HI.out HZ0.out HZ1.out HZ2.out rfl (by decide) _ k _ rfl (HW1.out.alloc _) ⟨_, 0, none⟩ 1 1 [.int .i64 x, .int .i64 y] rfl rfl ?c1 ?c2 ?c3 ?c4 ?c5 ?c6)
      case c1 => exact news2 _ _ _ _
      case c2 => exact one2 _ _
      case c3 => unfold maxLen; omega
      case c4 => omega
      case c5 => simp; omega
      case c6 =>
        intro v' w2 hown hgr _
        have HW2 : Hid (w2.ownsRow w.heap.size 37 2 v' (k + 1) ((List.range ((k + 1) * 2)).map (pf (ext1 f k x) (ext1 g k y)))) := hide (by rw [← row_ext]; exact hown)
        have HC2 := hide ((HC1.out.alloc _).grown hgr (fun i e l => absurd (HW1.out.lt i e).1 (by omega)))
        have HS2 : Hid (Src (n + 39 * k + 39) w2 b) := hide ((HS1.out.keep ((Chg.refl nob w1).alloc (.cells #[.int .i64 x, .int .i64 y] 37))).chg (P := fun i => w.heap.size ≤ i) ((Chg.refl _ _).grown hgr (fun i e _ => (HW1.out.lt i e).1)) (fun i hi => by omega))
        clear hown hgr
        go_wp2
        go_roundw
        case rel => exact ⟨k + 1, _, _, by omega, by go_num, HW2, HO1, hide (HS2.out.mono (by omega)), HC2⟩
        case measure => simp [intOf]; omega
    · obtain rfl : k = m := by omega
      obtain ⟨c1, cap1, rfl, hP⟩ := pairs_of_owns HW.out
      have HP := hide hP
      clear hP
      go_wp2
      go_ret
      exact ⟨f, g, c1, cap1, rfl, HP.out, HO.out, HS.out, HC.out⟩

end Go.Proofs.Ytencdbocifpekaa
