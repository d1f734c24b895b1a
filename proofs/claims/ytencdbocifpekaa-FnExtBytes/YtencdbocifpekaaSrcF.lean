/- Drawn lists out of a code, lists found alike, and bytes read back: contracts and plain facts. Conditions: those of each theorem. -/
import Derived.Test.YtencdbocifpekaaSrcE
import Derived.Test.YtencdbocifpekaaRedT
namespace Go.Proofs.Ytencdbocifpekaa
open Go.ChangeShapes Go.WideShapes Go.ChangeAt Go.RowKit
set_option linter.unusedVariables false
set_option linter.unusedSimpArgs false

/-- A drawn list out of a code. -/
def NewL (m : Nat) (w : World) (e : Ending) (w' : World) : Prop :=
  ∃ (f g : Nat → Int) (c0 : Option Addr) (cap0 : Nat), e = .returned (.slice c0 m cap0) ∧ PairV w' c0 m f g ∧ okP f g m = true ∧ Chg nob w w'

set_option maxHeartbeats 1000000 in
theorem extsOf_any (c : Option Addr) (len cap m : Nat) (w : World) (h : Bytes w c len) (hl : (len : Int) ≤ 9223372036854775807) (hm : m ≤ 100) :
    Calls Try.prog 32 #[.slice c len cap, .int .i64 m] w fun e w' => NewL m w e w' := by
  have H := hide h
  clear h
  go_enter Try.func32, Try.ntmps32
  go_wp2_with fail
  refine (l00Source_any c len cap _ H.out hl).mono ?_
  rintro e w1 ⟨rfl, hS, hB⟩
  have HS := hide hS
  have HB := hide (Chg.of_below hB)
  clear hS hB
  go_wp2_with fail
  refine (exts_any m 0 _ _ HS.out (by omega) hm).mono ?_
  rintro e w2 ⟨f, g, c0, cap0, rfl, hP, hO, hS2, hB2⟩
  have HP := hide hP
  have HO := hide hO
  have HC : Hid (Chg nob w w2) := hide ((HB.out.wide.trans hB2).mono (fun i hi e => by omega))
  clear hP hO hS2 hB2
  go_wp2
  go_ret
  exact ⟨f, g, c0, cap0, rfl, HP.out, HO.out, HC.out⟩

set_option maxHeartbeats 1000000 in
theorem sameExts_any (c d : Option Addr) (n m cap cap' : Nat) (f g f' g' : Nat → Int) (w : World) (h : Hid (PairV w c n f g)) (h' : Hid (PairV w d m f' g')) (hm : n = m) (he : ∀ i, i < n → f i = f' i ∧ g i = g' i) (hn : n ≤ 1099511627776) :
    Calls Try.prog 36 #[.slice c n cap, .slice d m cap'] w fun e w' => e = .returned (.bool true) ∧ Chg nob w w' := by
  subst hm
  have HE := hide he
  clear he
  go_enter Try.func36, Try.ntmps36
  go_wp2
  go_loopw [5] (fun i W => ∃ k : Nat, k ≤ n ∧ i = .int .i64 k ∧ Hid (Chg nob w W)) (fun i _ => n - (intOf i).toNat)
  case atStart => exact ⟨0, Nat.zero_le _, rfl, hide (Chg.refl _ _)⟩
  case round =>
    obtain ⟨k, hk, rfl, HC⟩ := hrel
    by_cases hlt : k < n
    · have hk0 : (0 : Int) ≤ (k : Int) := by omega
      have hk1 : (k : Int) < (n : Int) := by omega
      obtain ⟨xb, xo, rfl, hxb, hx0, hx1⟩ := (h.out.keep HC.out) k hlt
      obtain ⟨yb, yo, rfl, hyb, hy0, hy1⟩ := (h'.out.keep HC.out) k hlt
      rw [← (HE.out k hlt).1] at hy0
      rw [← (HE.out k hlt).2] at hy1
      go_wp2
      go_quiet (fail)
      go_wp2
      go_roundw
      case rel => exact ⟨k + 1, by omega, by go_num, hide (HC.out.drewN _)⟩
      case measure => simp [intOf]; omega
    · go_wp2
      go_ret
      exact ⟨rfl, HC.out⟩

/-! Bytes read back. -/
theorem w4_wb (a : Int) (h0 : 0 ≤ a) (h1 : a < 4294967296) : wb a 0 * 16777216 + wb a 1 * 65536 + wb a 2 * 256 + wb a 3 = a := by
  simp only [wb]
  omega
theorem byt_a (f g : Nat → Int) (k j : Nat) (h : j < 4) : byt f g (k * 8 + j) = wb (f k) j := by
  unfold byt
  rw [if_pos (by omega), show (k * 8 + j) / 8 = k by omega, show (k * 8 + j) % 8 = j by omega]
theorem byt_b (f g : Nat → Int) (k j : Nat) (h : j < 4) : byt f g (k * 8 + 4 + j) = wb (g k) j := by
  unfold byt
  rw [if_neg (by omega), show (k * 8 + 4 + j) / 8 = k by omega, show (k * 8 + 4 + j) % 8 - 4 = j by omega]
theorem rf_byt (f g : Nat → Int) (k : Nat) (h : eok (f k) (g k) = true) : rf (byt f g) k = f k := by
  have a0 := fok_lo (eok_a h)
  have a1 := fok_hi (eok_a h)
  unfold rf w4
  have e := byt_a f g k 0 (by omega)
  rw [Nat.add_zero] at e
  rw [e, byt_a f g k 1 (by omega), byt_a f g k 2 (by omega), byt_a f g k 3 (by omega)]
  exact w4_wb _ a0 (by omega)
theorem rg_byt (f g : Nat → Int) (k : Nat) (h : eok (f k) (g k) = true) : rg (byt f g) k = g k := by
  have b0 := fok_lo (eok_b h)
  have b1 := fok_hi (eok_b h)
  unfold rg w4
  have e := byt_b f g k 0 (by omega)
  rw [Nat.add_zero] at e
  rw [e, byt_b f g k 1 (by omega), byt_b f g k 2 (by omega), byt_b f g k 3 (by omega)]
  exact w4_wb _ b0 (by omega)
/-- The bytes of right elements are read. -/
theorem rc_byt (f g : Nat → Int) (n : Nat) (hn : n ≤ 4096) (h : okP f g n = true) : rc (byt f g) (n * 8) = 0 := by
  have hd : n * 8 / 8 = n := by omega
  have ho : okP (rf (byt f g)) (rg (byt f g)) n = true := by
    rw [okP_congr (rf (byt f g)) (rg (byt f g)) f g n (fun i hi => ⟨rf_byt f g i (okP_all f g n h i hi), rg_byt f g i (okP_all f g n h i hi)⟩)]
    exact h
  unfold rc
  rw [if_neg (by omega), if_pos (by omega), hd, ho, if_pos rfl, if_neg (by omega)]
theorem wb_w4 (a b c d : Int) (a0 : 0 ≤ a) (a1 : a < 256) (b0 : 0 ≤ b) (b1 : b < 256) (c0 : 0 ≤ c) (c1 : c < 256) (d0 : 0 ≤ d) (d1 : d < 256) :
    wb (a * 16777216 + b * 65536 + c * 256 + d) 0 = a ∧ wb (a * 16777216 + b * 65536 + c * 256 + d) 1 = b ∧ wb (a * 16777216 + b * 65536 + c * 256 + d) 2 = c ∧ wb (a * 16777216 + b * 65536 + c * 256 + d) 3 = d := by
  simp only [wb]
  omega
/-- What is read has just those bytes. -/
theorem byt_rf (z : Nat → Int) (hz : ∀ j, 0 ≤ z j ∧ z j < 256) (i : Nat) : byt (rf z) (rg z) i = z i := by
  have q := fun j => wb_w4 (z j) (z (j + 1)) (z (j + 2)) (z (j + 3)) (hz _).1 (hz _).2 (hz _).1 (hz _).2 (hz _).1 (hz _).2 (hz _).1 (hz _).2
  have hi : i = i / 8 * 8 + i % 8 := by omega
  have hr : i % 8 < 8 := Nat.mod_lt _ (by omega)
  generalize i / 8 = k at hi
  generalize i % 8 = r at hi hr
  subst hi
  by_cases h4 : r < 4
  · rw [byt_a (rf z) (rg z) k r h4]
    obtain ⟨q0, q1, q2, q3⟩ := q (k * 8)
    match r, h4 with
    | 0, _ => exact q0
    | 1, _ => exact q1
    | 2, _ => exact q2
    | 3, _ => exact q3
  · obtain ⟨t, rfl⟩ : ∃ t, r = 4 + t := ⟨r - 4, by omega⟩
    rw [← Nat.add_assoc, byt_b (rf z) (rg z) k t (by omega)]
    obtain ⟨q0, q1, q2, q3⟩ := q (k * 8 + 4)
    match t, (show t < 4 by omega) with
    | 0, _ => exact q0
    | 1, _ => exact q1
    | 2, _ => exact q2
    | 3, _ => exact q3

end Go.Proofs.Ytencdbocifpekaa
