/- What the tests of names answer: contracts of the walks of NameOK and of its model. Conditions: those of each theorem. -/
import Derived.Test.YtbmeikbiibfpmagRows
import Derived.WalkKit
import Derived.ProofKit
import Derived.OpenShut
namespace Go.Proofs.Ytbmeikbiibfpmag
open Go.ChangeShapes Go.WideShapes Go.ChangeAt Go.RowKit

theorem hide {p : Prop} (h : p) : Hid p := h
theorem ret_bool {a b : Bool} (h : a = b) : Ending.returned (.bool a) = .returned (.bool b) := by rw [h]
def digI (n : Int) : Bool := decide (48 ≤ n ∧ n ≤ 57)
def alphaI (n : Int) : Bool := decide ((97 ≤ n ∧ n ≤ 122) ∨ (65 ≤ n ∧ n ≤ 90) ∨ n = 95)
theorem dig_alpha {n : Int} (h : alphaI n = true) : digI n = false := by
  have := of_decide_eq_true h
  exact decide_eq_false (by omega)

set_option maxHeartbeats 400000 in
theorem isDigit_any (n : Int) (w : World) : Calls Try.prog 7 #[.int .u8 n] w fun e w' => e = .returned (.bool (digI n)) ∧ w' = w := by
  by_cases h0 : 48 ≤ n
  · by_cases h1 : n ≤ 57
    · have H := hide (show digI n = true from decide_eq_true ⟨h0, h1⟩)
      go_enter Try.func7, Try.ntmps7
      go_wp2
      go_ret
      exact ⟨ret_bool H.out.symm, rfl⟩
    · have H := hide (show digI n = false from decide_eq_false (fun x => h1 x.2))
      go_enter Try.func7, Try.ntmps7
      go_wp2
      go_ret
      exact ⟨ret_bool H.out.symm, rfl⟩
  · have H := hide (show digI n = false from decide_eq_false (fun x => h0 x.1))
    go_enter Try.func7, Try.ntmps7
    go_wp2
    go_ret
    exact ⟨ret_bool H.out.symm, rfl⟩

set_option maxHeartbeats 400000 in
theorem l00Digit_any (n : Int) (w : World) : Calls Try.prog 10 #[.int .u8 n] w fun e w' => e = .returned (.bool (digI n)) ∧ w' = w := by
  by_cases h0 : 48 ≤ n
  · by_cases h1 : n ≤ 57
    · have H := hide (show digI n = true from decide_eq_true ⟨h0, h1⟩)
      go_enter Try.func10, Try.ntmps10
      go_wp2
      go_ret
      exact ⟨ret_bool H.out.symm, rfl⟩
    · have H := hide (show digI n = false from decide_eq_false (fun x => h1 x.2))
      go_enter Try.func10, Try.ntmps10
      go_wp2
      go_ret
      exact ⟨ret_bool H.out.symm, rfl⟩
  · have H := hide (show digI n = false from decide_eq_false (fun x => h0 x.1))
    go_enter Try.func10, Try.ntmps10
    go_wp2
    go_ret
    exact ⟨ret_bool H.out.symm, rfl⟩

set_option maxHeartbeats 800000 in
theorem isNameLetter_any (n : Int) (w : World) : Calls Try.prog 8 #[.int .u8 n] w fun e w' => e = .returned (.bool (alphaI n)) ∧ w' = w := by
  have hc : (¬ 97 ≤ n ∧ ¬ 65 ≤ n ∧ (n == 95) = false ∧ Hid (alphaI n = false)) ∨ (¬ 97 ≤ n ∧ 65 ≤ n ∧ n ≤ 90 ∧ (n == 95) = false ∧ Hid (alphaI n = true)) ∨ (¬ 97 ≤ n ∧ 65 ≤ n ∧ ¬ n ≤ 90 ∧ (n == 95) = true ∧ Hid (alphaI n = true)) ∨ (¬ 97 ≤ n ∧ 65 ≤ n ∧ ¬ n ≤ 90 ∧ (n == 95) = false ∧ Hid (alphaI n = false)) ∨ (97 ≤ n ∧ n ≤ 122 ∧ Hid (alphaI n = true)) ∨ (97 ≤ n ∧ ¬ n ≤ 122 ∧ 65 ≤ n ∧ ¬ n ≤ 90 ∧ (n == 95) = false ∧ Hid (alphaI n = false)) := by
    simp only [Hid, alphaI, decide_eq_true_eq, decide_eq_false_iff_not, beq_iff_eq, beq_eq_false_iff_ne]
    omega
  rcases hc with ⟨h0, h1, h2, H⟩ | ⟨h0, h1, h2, h3, H⟩ | ⟨h0, h1, h2, h3, H⟩ | ⟨h0, h1, h2, h3, H⟩ | ⟨h0, h1, H⟩ | ⟨h0, h1, h2, h3, h4, H⟩
  all_goals
    go_enter Try.func8, Try.ntmps8
    go_wp2
    go_ret
    exact ⟨ret_bool H.out.symm, rfl⟩

set_option maxHeartbeats 800000 in
theorem l00Letter_any (n : Int) (w : World) : Calls Try.prog 9 #[.int .u8 n] w fun e w' => e = .returned (.bool (alphaI n)) ∧ w' = w := by
  have hc : (¬ 97 ≤ n ∧ ¬ 65 ≤ n ∧ (n == 95) = false ∧ Hid (alphaI n = false)) ∨ (¬ 97 ≤ n ∧ 65 ≤ n ∧ n ≤ 90 ∧ (n == 95) = false ∧ Hid (alphaI n = true)) ∨ (¬ 97 ≤ n ∧ 65 ≤ n ∧ ¬ n ≤ 90 ∧ (n == 95) = true ∧ Hid (alphaI n = true)) ∨ (¬ 97 ≤ n ∧ 65 ≤ n ∧ ¬ n ≤ 90 ∧ (n == 95) = false ∧ Hid (alphaI n = false)) ∨ (97 ≤ n ∧ n ≤ 122 ∧ Hid (alphaI n = true)) ∨ (97 ≤ n ∧ ¬ n ≤ 122 ∧ 65 ≤ n ∧ ¬ n ≤ 90 ∧ (n == 95) = false ∧ Hid (alphaI n = false)) := by
    simp only [Hid, alphaI, decide_eq_true_eq, decide_eq_false_iff_not, beq_iff_eq, beq_eq_false_iff_ne]
    omega
  rcases hc with ⟨h0, h1, h2, H⟩ | ⟨h0, h1, h2, h3, H⟩ | ⟨h0, h1, h2, h3, H⟩ | ⟨h0, h1, h2, h3, H⟩ | ⟨h0, h1, H⟩ | ⟨h0, h1, h2, h3, h4, H⟩
  all_goals
    go_enter Try.func9, Try.ntmps9
    go_wp2
    go_ret
    exact ⟨ret_bool H.out.symm, rfl⟩

/-- What a name is. -/
def NameP (s : ByteArray) : Prop := 1 ≤ s.size ∧ s.size ≤ 40 ∧ (∀ h : 0 < s.size, digI (s[0]'h).toNat = false) ∧ ∀ (i : Nat) (h : i < s.size), (alphaI (s[i]'h).toNat || digI (s[i]'h).toNat) = true
theorem not_iff {p : Prop} (h : ¬ p) : false = true ↔ p := ⟨fun x => absurd x (by decide), fun x => absurd x h⟩
/-- The answer: true just of a name. -/
def NameAns (s : ByteArray) (e : Ending) : Prop := ∃ b, e = .returned (.bool b) ∧ Hid (b = true ↔ NameP s)
theorem NameAns.yes {s : ByteArray} {e : Ending} (h : e = .returned (.bool true)) (k : Hid (NameP s)) : NameAns s e := ⟨true, h, fun _ => k, fun _ => rfl⟩
theorem NameAns.mk {s : ByteArray} {e : Ending} {b : Bool} (h : e = .returned (.bool b)) (k : Hid (b = true ↔ NameP s)) : NameAns s e := ⟨b, h, k⟩

set_option maxHeartbeats 800000 in
theorem nameOK_any (s : ByteArray) (w : World) (hs : s.size ≤ maxLen) :
    Calls Try.prog 5 #[.string s] w fun e w' => NameAns s e ∧ w' = w := by
  unfold maxLen at hs
  by_cases h1 : s.size < 1
  · have H := hide (show false = true ↔ NameP s from not_iff (fun h => by have := h.1; omega))
    have h1' : (s.size : Int) < 1 := by omega
    go_enter Try.func5, Try.ntmps5
    go_wp2_with (go_at_call 7; refine (isDigit_any _ _).mono ?_; rintro e w' ⟨rfl, rfl⟩)
    go_ret
    exact ⟨NameAns.mk rfl H, rfl⟩
  by_cases h2 : 40 < s.size
  · have H := hide (show false = true ↔ NameP s from not_iff (fun h => by have := h.2.1; omega))
    have h1' : ¬ (s.size : Int) < 1 := by omega
    have h2' : 40 < (s.size : Int) := by omega
    go_enter Try.func5, Try.ntmps5
    go_wp2_with (go_at_call 7; refine (isDigit_any _ _).mono ?_; rintro e w' ⟨rfl, rfl⟩)
    go_ret
    exact ⟨NameAns.mk rfl H, rfl⟩
  have p0 : 0 < s.size := by omega
  have h1' : ¬ (s.size : Int) < 1 := by omega
  have h2' : ¬ 40 < (s.size : Int) := by omega
  cases hd : digI (s[0]'p0).toNat
  · go_enter Try.func5, Try.ntmps5
    go_wp2_with (go_at_call 7; refine (isDigit_any _ _).mono ?_; rintro e w' ⟨rfl, rfl⟩)
    go_loop [3] (fun i => ∃ k : Nat, k ≤ s.size ∧ i = .int .i64 k ∧ Hid (∀ (j : Nat) (h : j < s.size), j < k → (alphaI (s[j]'h).toNat || digI (s[j]'h).toNat) = true)) (fun i => s.size - (intOf i).toNat)
    case atStart => exact ⟨0, Nat.zero_le _, rfl, hide (fun j _ h => by omega)⟩
    case round =>
      obtain ⟨k, hk, rfl, HK⟩ := hrel
      by_cases hlt : k < s.size
      · cases ha : alphaI (s[k]'hlt).toNat
        · cases hb : digI (s[k]'hlt).toNat
          · have H := hide (show false = true ↔ NameP s from not_iff (fun h => by have := h.2.2.2 k hlt; rw [ha, hb] at this; cases this))
            go_wp2_with (first | (go_at_call 7; refine (isDigit_any _ _).mono ?_; rintro e w' ⟨rfl, rfl⟩) | (go_at_call 8; refine (isNameLetter_any _ _).mono ?_; rintro e w' ⟨rfl, rfl⟩))
            go_ret
            exact ⟨NameAns.mk rfl H, rfl⟩
          · have HN := hide (show ∀ (j : Nat) (h : j < s.size), j < k + 1 → (alphaI (s[j]'h).toNat || digI (s[j]'h).toNat) = true from fun j h hj => by
              by_cases e : j = k
              · subst e; rw [ha, hb]; rfl
              · exact HK.out j h (by omega))
            go_wp2_with (first | (go_at_call 7; refine (isDigit_any _ _).mono ?_; rintro e w' ⟨rfl, rfl⟩) | (go_at_call 8; refine (isNameLetter_any _ _).mono ?_; rintro e w' ⟨rfl, rfl⟩))
            go_round
            case rel => exact ⟨k + 1, by omega, by go_num, HN⟩
            case measure => simp [intOf]; omega
        · have HN := hide (show ∀ (j : Nat) (h : j < s.size), j < k + 1 → (alphaI (s[j]'h).toNat || digI (s[j]'h).toNat) = true from fun j h hj => by
            by_cases e : j = k
            · subst e; rw [ha]; rfl
            · exact HK.out j h (by omega))
          go_wp2_with (first | (go_at_call 7; refine (isDigit_any _ _).mono ?_; rintro e w' ⟨rfl, rfl⟩) | (go_at_call 8; refine (isNameLetter_any _ _).mono ?_; rintro e w' ⟨rfl, rfl⟩))
          go_round
          case rel => exact ⟨k + 1, by omega, by go_num, HN⟩
          case measure => simp [intOf]; omega
      · have H := hide (show NameP s from ⟨by omega, by omega, fun _ => hd, fun i h => HK.out i h (by omega)⟩)
        go_wp2
        go_ret
        exact ⟨NameAns.yes rfl H, rfl⟩
  · have H := hide (show false = true ↔ NameP s from not_iff (fun h => by have := h.2.2.1 p0; rw [hd] at this; cases this))
    go_enter Try.func5, Try.ntmps5
    go_wp2_with (go_at_call 7; refine (isDigit_any _ _).mono ?_; rintro e w' ⟨rfl, rfl⟩)
    go_ret
    exact ⟨NameAns.mk rfl H, rfl⟩

set_option maxHeartbeats 800000 in
theorem l00Word_any (s : ByteArray) (w : World) (hs : s.size ≤ maxLen) :
    Calls Try.prog 6 #[.string s] w fun e w' => NameAns s e ∧ w' = w := by
  unfold maxLen at hs
  by_cases h1 : s.size < 1
  · have H := hide (show false = true ↔ NameP s from not_iff (fun h => by have := h.1; omega))
    have h1' : (s.size : Int) < 1 := by omega
    go_enter Try.func6, Try.ntmps6
    go_wp2_with (go_at_call 9; refine (l00Letter_any _ _).mono ?_; rintro e w' ⟨rfl, rfl⟩)
    go_ret
    exact ⟨NameAns.mk rfl H, rfl⟩
  by_cases h2 : 40 < s.size
  · have H := hide (show false = true ↔ NameP s from not_iff (fun h => by have := h.2.1; omega))
    have h1' : ¬ (s.size : Int) < 1 := by omega
    have h2' : 40 < (s.size : Int) := by omega
    go_enter Try.func6, Try.ntmps6
    go_wp2_with (go_at_call 9; refine (l00Letter_any _ _).mono ?_; rintro e w' ⟨rfl, rfl⟩)
    go_ret
    exact ⟨NameAns.mk rfl H, rfl⟩
  have p0 : 0 < s.size := by omega
  have h1' : ¬ (s.size : Int) < 1 := by omega
  have h2' : ¬ 40 < (s.size : Int) := by omega
  cases hd : alphaI (s[0]'p0).toNat
  · have H := hide (show false = true ↔ NameP s from not_iff (fun h => by have := h.2.2.2 0 p0; rw [hd, h.2.2.1 p0] at this; cases this))
    go_enter Try.func6, Try.ntmps6
    go_wp2_with (go_at_call 9; refine (l00Letter_any _ _).mono ?_; rintro e w' ⟨rfl, rfl⟩)
    go_ret
    exact ⟨NameAns.mk rfl H, rfl⟩
  · have HS := hide (show ∀ (j : Nat) (h : j < s.size), j < 1 → (alphaI (s[j]'h).toNat || digI (s[j]'h).toNat) = true from fun j h hj => by
      obtain rfl : j = 0 := by omega
      rw [hd]
      rfl)
    go_enter Try.func6, Try.ntmps6
    go_wp2_with (go_at_call 9; refine (l00Letter_any _ _).mono ?_; rintro e w' ⟨rfl, rfl⟩)
    go_loop [3] (fun i => ∃ k : Nat, 1 ≤ k ∧ k ≤ s.size ∧ i = .int .i64 k ∧ Hid (∀ (j : Nat) (h : j < s.size), j < k → (alphaI (s[j]'h).toNat || digI (s[j]'h).toNat) = true)) (fun i => s.size - (intOf i).toNat)
    case atStart => exact ⟨1, Nat.le_refl _, p0, rfl, HS⟩
    case round =>
      obtain ⟨k, hk1, hk, rfl, HK⟩ := hrel
      by_cases hlt : k < s.size
      · cases ha : alphaI (s[k]'hlt).toNat
        · cases hb : digI (s[k]'hlt).toNat
          · have H := hide (show false = true ↔ NameP s from not_iff (fun h => by have := h.2.2.2 k hlt; rw [ha, hb] at this; cases this))
            go_wp2_with (first | (go_at_call 10; refine (l00Digit_any _ _).mono ?_; rintro e w' ⟨rfl, rfl⟩) | (go_at_call 9; refine (l00Letter_any _ _).mono ?_; rintro e w' ⟨rfl, rfl⟩))
            go_ret
            exact ⟨NameAns.mk rfl H, rfl⟩
          · have HN := hide (show ∀ (j : Nat) (h : j < s.size), j < k + 1 → (alphaI (s[j]'h).toNat || digI (s[j]'h).toNat) = true from fun j h hj => by
              by_cases e : j = k
              · subst e; rw [ha, hb]; rfl
              · exact HK.out j h (by omega))
            go_wp2_with (first | (go_at_call 10; refine (l00Digit_any _ _).mono ?_; rintro e w' ⟨rfl, rfl⟩) | (go_at_call 9; refine (l00Letter_any _ _).mono ?_; rintro e w' ⟨rfl, rfl⟩))
            go_round
            case rel => exact ⟨k + 1, by omega, by omega, by go_num, HN⟩
            case measure => simp [intOf]; omega
        · have HN := hide (show ∀ (j : Nat) (h : j < s.size), j < k + 1 → (alphaI (s[j]'h).toNat || digI (s[j]'h).toNat) = true from fun j h hj => by
            by_cases e : j = k
            · subst e; rw [ha]; rfl
            · exact HK.out j h (by omega))
          go_wp2_with (first | (go_at_call 10; refine (l00Digit_any _ _).mono ?_; rintro e w' ⟨rfl, rfl⟩) | (go_at_call 9; refine (l00Letter_any _ _).mono ?_; rintro e w' ⟨rfl, rfl⟩))
          go_round
          case rel => exact ⟨k + 1, by omega, by omega, by go_num, HN⟩
          case measure => simp [intOf]; omega
      · have H := hide (show NameP s from ⟨by omega, by omega, fun _ => dig_alpha hd, fun i h => HK.out i h (by omega)⟩)
        go_wp2
        go_ret
        exact ⟨NameAns.yes rfl H, rfl⟩

set_option maxHeartbeats 400000 in
theorem sNameOK_any (s : ByteArray) (w : World) (hs : s.size ≤ maxLen) :
    Calls Try.prog 4 #[.string s] w fun e w' => NameAns s e ∧ w' = w := by
  go_enter Try.func4, Try.ntmps4
  go_wp2_with (go_at_call 6; refine (l00Word_any _ _ hs).mono ?_; rintro e w' ⟨⟨b, rfl, H⟩, rfl⟩)
  go_ret
  exact ⟨NameAns.mk rfl H, rfl⟩
end Go.Proofs.Ytbmeikbiibfpmag
