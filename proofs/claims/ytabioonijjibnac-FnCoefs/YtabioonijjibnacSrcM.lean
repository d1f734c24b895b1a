/- Drawn lists of elements out of a code, lists found alike, places drawn: contracts. Conditions: those of each theorem. -/
import Derived.Test.YtabioonijjibnacSrcC
import Derived.Test.YtabioonijjibnacTabF
import Derived.Test.YtabioonijjibnacExtF
import Derived.Laws.AppendOwn
namespace Go.Proofs.Ytabioonijjibnac
open Go.ChangeShapes Go.WideShapes Go.ChangeAt Go.RowKit
set_option linter.unusedVariables false
set_option maxRecDepth 100000
set_option linter.unusedSimpArgs false

theorem flPairs {w : World} {B n : Nat} {v : Value} {f g : Nat → Int} (ho : w.ownsRow B 31 2 v n ((List.range (n * 2)).map (pf f g))) : ∃ c cap, v = .slice c n cap ∧ PairV w c n f g := by
  obtain ⟨c, cap, e, _, h⟩ := OwnE.of_owns ho
  exact ⟨c, cap, e, h.pairs⟩
/-- A drawn list. -/
def DrawnM (n m b : Nat) (w : World) (e : Ending) (w' : World) : Prop :=
  ∃ (f g : Nat → Int) (c0 : Option Addr) (cap0 : Nat), e = .returned (.slice c0 m cap0) ∧ PairV w' c0 m f g ∧ okP f g m = true ∧ Src n w' b ∧ Chg (fun k => k = b) w w'
/-- A list, one element longer. -/
def ext1 (f : Nat → Int) (k : Nat) (x : Int) (i : Nat) : Int := if i = k then x else f i
theorem ext1_lt (f : Nat → Int) (k : Nat) (x : Int) (i : Nat) (h : i < k) : ext1 f k x i = f i := by unfold ext1; rw [if_neg (by omega)]
theorem ext1_at (f : Nat → Int) (k : Nat) (x : Int) : ext1 f k x k = x := by unfold ext1; rw [if_pos rfl]
theorem okP_ext (f g : Nat → Int) (k : Nat) (x y : Int) (h : okP f g k = true) (hx : eok x y = true) : okP (ext1 f k x) (ext1 g k y) (k + 1) = true :=
  okP_of _ _ _ (fun i hi => by
    by_cases e : i = k
    · subst e; rw [ext1_at, ext1_at]; exact hx
    · rw [ext1_lt f k x i (by omega), ext1_lt g k y i (by omega)]; exact okP_all f g k h i (by omega))
theorem row_ext (f g : Nat → Int) (k : Nat) (x y : Int) : (List.range (k * 2)).map (pf f g) ++ [.int .i64 x, .int .i64 y] = (List.range ((k + 1) * 2)).map (pf (ext1 f k x) (ext1 g k y)) := by
  rw [← flPair, ext1_at, ext1_at]
  congr 1
  apply List.map_congr_left
  intro i hi
  have hi' : i < k * 2 := by simpa using hi
  unfold pf
  by_cases e : i % 2 = 0
  · rw [if_pos e, if_pos e, ext1_lt f k x (i / 2) (by omega)]
  · rw [if_neg e, if_neg e, ext1_lt g k y (i / 2) (by omega)]
theorem owns_src {w w' : World} {B b : Nat} {t : TypeId} {z : Nat} {v : Value} {n : Nat} {xs : List Value} (h : w.ownsRow B t z v n xs) (hb : b < B) (k : Chg (fun i => i = b) w w') : w'.ownsRow B t z v n xs :=
  h.kept (row := some b) ⟨k.os, k.tape, k.output, k.size, fun i hi hne => k.block i hi (fun e => hne (by rw [e]))⟩ (by
    cases e : v.ownBlock with
    | none => exact Or.inl rfl
    | some g => exact Or.inr (fun h2 => by have := (h.lt g e).1; simp at h2; omega))

set_option maxHeartbeats 2000000 in
theorem exts_any (m n b : Nat) (w : World) (h : Src n w b) (hn : n ≤ 999999980000) (hm : m ≤ 100) :
    Calls Try.prog 23 #[.pointer (some ⟨b, 0, none⟩), .int .i64 m] w fun e w' => DrawnM (n + 39 * m) m b w e w' := by
  obtain ⟨i0, hi, hz0, hz1, hz2⟩ := info_parts infoExt
  have HI := hide hi
  have HZ0 := hide hz0
  have HZ1 := hide hz1
  have HZ2 := hide hz2
  have hb := h.lt
  have H := hide (h.keep ((Chg.refl nob w).alloc (.cells #[] 31)))
  clear hi hz0 hz1 hz2 h
  go_enter Try.func23, Try.ntmps23
  go_wp2
  go_loopw [5, 6] (fun v i W => ∃ (k : Nat) (f g : Nat → Int), k ≤ m ∧ i = .int .i64 k ∧ Hid (W.ownsRow w.heap.size 31 2 v k ((List.range (k * 2)).map (pf f g))) ∧ Hid (okP f g k = true) ∧ Hid (Src (n + 39 * k) W b) ∧ Hid (Chg (fun i => i = b) w W)) (fun _ i _ => m - (intOf i).toNat)
  case atStart => exact ⟨0, fun _ => 0, fun _ => 0, Nat.zero_le _, rfl, hide (flNone _ _ _ _ (Nat.le_refl _)), hide rfl, H, hide ((Chg.refl _ _).alloc _)⟩
  case round =>
    obtain ⟨k, f, g, hk, rfl, HW, HO, HS, HC⟩ := hrel
    have hsz := HC.out.size
    by_cases hlt : k < m
    · go_wp2_with fail
      refine (ext_any _ b _ HS.out (by omega)).mono ?_
      rintro e w1 ⟨x, y, rfl, hE, hS1, hB1⟩
      have HW1 := hide (owns_src HW.out hb hB1)
      have HO1 := hide (okP_ext f g k x y HO.out hE)
      have HS1 := hide hS1
      have HC1 := hide (HC.out.trans hB1)
      have hs1 := HC1.out.size
      clear hE hS1 hB1
      go_wp2_with (at_builtin; refine wpList_append_own _ rfl (.tmp 13) (.tmp 16) 24 rfl w.heap.size 31 i0 (.agg #[.int .i64 0, .int .i64 0]) 2 16 Try.underlying24 HI.out HZ0.out HZ1.out HZ2.out rfl (by decide) _ k _ rfl (HW1.out.alloc _) ⟨_, 0, none⟩ 1 1 [.int .i64 x, .int .i64 y] rfl rfl ?c1 ?c2 ?c3 ?c4 ?c5 ?c6)
      case c1 => exact flNews _ _ _ _
      case c2 => exact flOne _ _
      case c3 => unfold maxLen; omega
      case c4 => omega
      case c5 => simp; omega
      case c6 =>
        intro v' w2 hown hgr _
        have HW2 : Hid (w2.ownsRow w.heap.size 31 2 v' (k + 1) ((List.range ((k + 1) * 2)).map (pf (ext1 f k x) (ext1 g k y)))) := hide (by rw [← row_ext]; exact hown)
        have HC2 := hide ((HC1.out.alloc _).grown hgr (fun i e l => absurd (HW1.out.lt i e).1 (by omega)))
        have HS2 : Hid (Src (n + 39 * k + 39) w2 b) := hide ((HS1.out.keep ((Chg.refl nob w1).alloc (.cells #[.int .i64 x, .int .i64 y] 31))).chg (P := fun i => w.heap.size ≤ i) ((Chg.refl _ _).grown hgr (fun i e _ => (HW1.out.lt i e).1)) (fun i hi => by omega))
        clear hown hgr
        go_wp2
        go_roundw
        case rel => exact ⟨k + 1, _, _, by omega, by go_num, HW2, HO1, hide (HS2.out.mono (by omega)), HC2⟩
        case measure => simp [intOf]; omega
    · obtain rfl : k = m := by omega
      obtain ⟨c1, cap1, rfl, hP⟩ := flPairs HW.out
      have HP := hide hP
      clear hP
      go_wp2
      go_ret
      exact ⟨f, g, c1, cap1, rfl, HP.out, HO.out, HS.out, HC.out⟩

/-- A drawn list out of a code. -/
def NewL (m : Nat) (w : World) (e : Ending) (w' : World) : Prop :=
  ∃ (f g : Nat → Int) (c0 : Option Addr) (cap0 : Nat), e = .returned (.slice c0 m cap0) ∧ PairV w' c0 m f g ∧ okP f g m = true ∧ Chg nob w w'

set_option maxHeartbeats 1000000 in
theorem extsOf_any (c : Option Addr) (len cap m : Nat) (w : World) (h : Bytes w c len) (hl : (len : Int) ≤ 9223372036854775807) (hm : m ≤ 100) :
    Calls Try.prog 7 #[.slice c len cap, .int .i64 m] w fun e w' => NewL m w e w' := by
  have H := hide h
  clear h
  go_enter Try.func7, Try.ntmps7
  go_wp2_with fail
  refine (l00Source_any c len cap _ H.out hl).mono ?_
  rintro e w1 ⟨rfl, hS, hB⟩
  have HS := hide hS
  have HB := hide (Chg.of_below hB)
  clear hS hB
  go_wp2_with fail
  refine (exts_any m 0 _ _ HS.out (by omega) hm).mono ?_
  rintro e w2 ⟨f, g, c0, cap0, rfl, hP, hO, hS2, hB2⟩
  have HP := hide hP
  have HO := hide hO
  have HC : Hid (Chg nob w w2) := hide ((HB.out.wide.trans hB2).mono (fun i hi e => by omega))
  clear hP hO hS2 hB2
  go_wp2
  go_ret
  exact ⟨f, g, c0, cap0, rfl, HP.out, HO.out, HC.out⟩

set_option maxHeartbeats 1000000 in
theorem sameExts_any (c d : Option Addr) (n m cap cap' : Nat) (f g f' g' : Nat → Int) (w : World) (h : Hid (PairV w c n f g)) (h' : Hid (PairV w d m f' g')) (hm : n = m) (he : ∀ i, i < n → f i = f' i ∧ g i = g' i) (hn : n ≤ 1099511627776) :
    Calls Try.prog 10 #[.slice c n cap, .slice d m cap'] w fun e w' => e = .returned (.bool true) ∧ Chg nob w w' := by
  subst hm
  have HE := hide he
  clear he
  go_enter Try.func10, Try.ntmps10
  go_wp2
  go_loopw [5] (fun i W => ∃ k : Nat, k ≤ n ∧ i = .int .i64 k ∧ Hid (Chg nob w W)) (fun i _ => n - (intOf i).toNat)
  case atStart => exact ⟨0, Nat.zero_le _, rfl, hide (Chg.refl _ _)⟩
  case round =>
    obtain ⟨k, hk, rfl, HC⟩ := hrel
    by_cases hlt : k < n
    · have hk0 : (0 : Int) ≤ (k : Int) := by omega
      have hk1 : (k : Int) < (n : Int) := by omega
      obtain ⟨xb, xo, rfl, hxb, hx0, hx1⟩ := (h.out.keep HC.out) k hlt
      obtain ⟨yb, yo, rfl, hyb, hy0, hy1⟩ := (h'.out.keep HC.out) k hlt
      rw [← (HE.out k hlt).1] at hy0
      rw [← (HE.out k hlt).2] at hy1
      go_wp2
      go_quiet (fail)
      go_wp2
      go_roundw
      case rel => exact ⟨k + 1, by omega, by go_num, hide (HC.out.drewN _)⟩
      case measure => simp [intOf]; omega
    · go_wp2
      go_ret
      exact ⟨rfl, HC.out⟩

theorem at_low (c : Option Addr) (len cap : Nat) (i n : Int) (w : World) (n1 : n ≤ 1) :
    Calls Try.prog 6 #[.slice c len cap, .int .i64 i, .int .i64 n] w fun e w' => e = .returned (.int .i64 0) ∧ w = w' := by
  go_enter Try.func6, Try.ntmps6
  go_wp2
  go_ret
  exact ⟨rfl, rfl⟩
/-- A place below n. -/
def AtM (n : Nat) (w : World) (e : Ending) (w' : World) : Prop := ∃ m : Nat, e = .returned (.int .i64 m) ∧ m < n ∧ Chg nob w w'
theorem at_pl (c : Option Addr) (len cap : Nat) (i n : Nat) (w : World) (h : Bytes w c len) (hl : (len : Int) ≤ 9223372036854775807) (hi : i ≤ 1000) (n1 : 1 ≤ n) (n2 : n ≤ 1000000000) :
    Calls Try.prog 6 #[.slice c len cap, .int .i64 (i : Int), .int .i64 (n : Int)] w fun e w' => AtM n w e w' := by
  by_cases hn : n = 1
  · refine (at_low c len cap i n w (by omega)).mono ?_
    rintro e w' ⟨rfl, rfl⟩
    exact ⟨0, rfl, by omega, Chg.refl _ _⟩
  · refine (at_any c len cap i n w h hl (by omega) (by omega) (by omega) (by omega)).mono ?_
    rintro e w' ⟨r, rfl, r0, r1, hb⟩
    exact ⟨r.toNat, by rw [Int.toNat_of_nonneg r0], by omega, Chg.of_below hb⟩

set_option maxHeartbeats 400000 in
theorem oneM_any (w : World) :
    Calls Try.prog 13 #[] w fun e w' => e = .returned (.agg #[.int .i64 El.on.v.1, .int .i64 El.on.v.2]) ∧ Chg nob w w' := by
  go_enter Try.func13, Try.ntmps13
  go_wp2
  exact bodyPost_ret (v := .agg #[.int .i64 1, .int .i64 0]) (by simp [results, Try.results13, go_sem]) rfl ⟨rfl, (Chg.refl nob w).alloc _⟩

theorem exAd_el (x y : El) (w : World) : Calls Try.prog 11 #[.agg #[.int .i64 x.v.1, .int .i64 x.v.2], .agg #[.int .i64 y.v.1, .int .i64 y.v.2]] w fun e w' => e = .returned (.tuple #[.agg #[.int .i64 (El.ad x y).v.1, .int .i64 (El.ad x y).v.2], .int .i64 0]) ∧ Chg nob w w' := by
  have q := extAdd_any x.v.1 x.v.2 y.v.1 y.v.2 w
  have hx := eok_el x
  have hy := eok_el y
  have e : ∀ v, eb x.v.1 x.v.2 y.v.1 y.v.2 v = v := fun v => by unfold eb; rw [hx, hy]; rfl
  rw [e, e, show ebad x.v.1 x.v.2 y.v.1 y.v.2 = 0 by unfold ebad; rw [hx, hy]; rfl] at q
  exact q

theorem exMl_el (x y : El) (w : World) : Calls Try.prog 21 #[.agg #[.int .i64 x.v.1, .int .i64 x.v.2], .agg #[.int .i64 y.v.1, .int .i64 y.v.2]] w fun e w' => e = .returned (.tuple #[.agg #[.int .i64 (El.ml x y).v.1, .int .i64 (El.ml x y).v.2], .int .i64 0]) ∧ Chg nob w w' := by
  have q := extMul_any x.v.1 x.v.2 y.v.1 y.v.2 w
  have hx := eok_el x
  have hy := eok_el y
  have e : ∀ v, eb x.v.1 x.v.2 y.v.1 y.v.2 v = v := fun v => by unfold eb; rw [hx, hy]; rfl
  rw [e, e, show ebad x.v.1 x.v.2 y.v.1 y.v.2 = 0 by unfold ebad; rw [hx, hy]; rfl] at q
  exact q
end Go.Proofs.Ytabioonijjibnac
