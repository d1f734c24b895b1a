/- What the model's looks at numbers of leaves and at leaves answer: contracts. Conditions: rows that can be read. -/
import Derived.Test.YtabioonijjibnabDoorStrB
namespace Go.Proofs.YtabioonijjibnabDoor
open Go.ChangeShapes Go.WideShapes Go.ChangeAt Go.RowKit
set_option linter.unusedVariables false
set_option maxRecDepth 100000
set_option linter.unusedSimpArgs false

/-- 1, 2, 4 to 256. -/
def pw (n : Int) : Bool := (List.range 9).any fun j => decide (n = ((2 ^ j : Nat) : Int))
theorem pw_yes (n : Int) (j : Nat) (hj : j ≤ 8) (h : n = ((2 ^ j : Nat) : Int)) : pw n = true := by
  unfold pw
  rw [List.any_eq_true]
  exact ⟨j, by simp; omega, by simpa using h⟩
theorem pw_no (n : Int) (h : ∀ j, j < 9 → ¬ n = ((2 ^ j : Nat) : Int)) : pw n = false := by
  unfold pw
  rw [List.any_eq_false]
  intro j hj
  simp at hj
  simpa using h j hj
theorem pw_ex (n : Int) (h : pw n = true) : ∃ j, j ≤ 8 ∧ n = ((2 ^ j : Nat) : Int) := by
  unfold pw at h
  rw [List.any_eq_true] at h
  obtain ⟨j, hj, hn⟩ := h
  simp at hj
  exact ⟨j, by omega, by simpa using hn⟩
theorem two_le (j : Nat) (h : j ≤ 8) : 2 ^ j ≤ 256 := Nat.pow_le_pow_right (by decide) h
theorem two_pos (j : Nat) : 1 ≤ 2 ^ j := Nat.one_le_two_pow

set_option maxHeartbeats 1000000 in
theorem sPower_any (n : Int) (w : World) :
    Calls Tryd.prog 108 #[.int .i64 n, .int .i64 256] w fun e w' => e = .returned (.bool (pw n)) ∧ w' = w := by
  go_enter Tryd.func108, Tryd.ntmps108
  go_wp2
  go_loop [5] (fun v => ∃ j q : Nat, j ≤ 9 ∧ v = .int .i64 (q : Int) ∧ Hid (q = 2 ^ j) ∧ Hid (∀ i, i < j → ¬ n = ((2 ^ i : Nat) : Int))) (fun v => 600 - (intOf v).toNat)
  case atStart => exact ⟨0, 1, by omega, rfl, hik rfl, hik (fun i hi => absurd hi (by omega))⟩
  case round =>
    obtain ⟨j, q, hj, rfl, HQ, HN⟩ := hrel
    by_cases hjt : j ≤ 8
    · have q1 : q ≤ 256 := by have := two_le j hjt; have := HQ.out; omega
      have q0 : 1 ≤ q := by have := two_pos j; have := HQ.out; omega
      have q1' : (q : Int) ≤ 256 := by omega
      by_cases hn : n = (q : Int)
      · have HP := hik (pw_yes n j hjt (by rw [hn, HQ.out]))
        have hb : (n == (q : Int)) = true := by simpa using hn
        have HNN := hik hn
        clear hn
        go_wp2
        go_ret
        exact ⟨ret_of (congrArg Value.bool HP.out.symm), rfl⟩
      · have hb : (n == (q : Int)) = false := by simpa using hn
        go_wp2
        go_round
        case rel => exact ⟨j + 1, q * 2, by omega, by go_num, hik (by rw [Nat.pow_succ, HQ.out]), hik (fun i hi => by
          by_cases e : i = j
          · subst e; rw [← HQ.out]; exact hn
          · exact HN.out i (by omega))⟩
        case measure => simp [intOf]; omega
    · obtain rfl : j = 9 := by omega
      have hq : q = 512 := HQ.out
      have q1' : ¬ (q : Int) ≤ 256 := by omega
      have HP := hik (pw_no n HN.out)
      clear hq
      go_wp2
      go_ret
      exact ⟨ret_of (congrArg Value.bool HP.out.symm), rfl⟩

/-- A leaf is too long. -/
def anyL (n : Nat) (L : Nat → ByteArray) : Bool := (List.range n).any fun i => decide (64 < (L i).size)
/-- The code of leaves. -/
def lvc (n : Nat) (L : Nat → ByteArray) : Int := if 4096 < n then 2 else if pw n then (if anyL n L then 4 else 0) else 8
theorem lvc_ok {n : Nat} {L : Nat → ByteArray} (h : lvc n L = 0) : pw n = true ∧ n ≤ 256 ∧ ∀ i, i < n → (L i).size ≤ 64 := by
  unfold lvc at h
  by_cases h1 : 4096 < n
  · rw [if_pos h1] at h; omega
  · rw [if_neg h1] at h
    cases hp : pw n
    · rw [hp] at h; simp at h
    · rw [hp] at h
      cases ha : anyL n L
      · refine ⟨rfl, ?_, fun i hi => ?_⟩
        · obtain ⟨j, hj, hn⟩ := pw_ex n hp
          have := two_le j hj
          omega
        · unfold anyL at ha
          rw [List.any_eq_false] at ha
          have := ha i (by simpa using hi)
          simp at this
          exact this
      · rw [ha] at h; simp at h

set_option maxHeartbeats 1000000 in
theorem sLeaves_any (c : Option Addr) (n cap : Nat) (L : Nat → ByteArray) (w : World) (h : Hid (RowV w c n (sb L))) (hz : Hid (∀ i, i < n → (L i).size ≤ 9223372036854775807)) (hn : (n : Int) ≤ 9223372036854775807) :
    Calls Tryd.prog 59 #[.slice c n cap] w fun e w' => e = .returned (.int .i64 (lvc n L)) ∧ w' = w := by
  by_cases h1 : 4096 < n
  · have h1' : 4096 < (n : Int) := by omega
    have HL := hik (show lvc n L = 2 from if_pos h1)
    go_enter Tryd.func59, Tryd.ntmps59
    go_wp2
    go_ret
    exact ⟨ret_of (congrArg (Value.int .i64) HL.out.symm), rfl⟩
  have h1' : ¬ 4096 < (n : Int) := by omega
  cases hp : pw n
  · have HL := hik (show lvc n L = 8 by unfold lvc; rw [if_neg h1, hp]; simp)
    go_enter Tryd.func59, Tryd.ntmps59
    go_wp2_with (go_at_call 108; refine (sPower_any (n : Int) _).mono ?_; rintro e W1 ⟨rfl, hw⟩; have hw := hw.symm; subst hw)
    go_ret
    exact ⟨ret_of (congrArg (Value.int .i64) HL.out.symm), rfl⟩
  · go_enter Tryd.func59, Tryd.ntmps59
    go_wp2_with (go_at_call 108; refine (sPower_any (n : Int) _).mono ?_; rintro e W1 ⟨rfl, hw⟩; have hw := hw.symm; subst hw)
    go_loop [3] (fun i => ∃ k : Nat, k ≤ n ∧ i = .int .i64 k ∧ Hid (∀ j, j < k → ¬ 64 < (L j).size)) (fun i => n - (intOf i).toNat)
    case atStart => exact ⟨0, Nat.zero_le _, rfl, hik (fun j hj => absurd hj (by omega))⟩
    case round =>
      obtain ⟨k, hk, rfl, HL⟩ := hrel
      by_cases hlt : k < n
      · obtain ⟨xb, xo, rfl, hxb, hcell⟩ := h.out k hlt
        have hx : _ = some (Value.string (L k)) := hcell
        have hzk := hz.out k hlt
        clear hcell
        by_cases hs : 64 < (L k).size
        · have hs' : 64 < ((L k).size : Int) := by omega
          have HC := hik (show lvc n L = 4 by
            have ha : anyL n L = true := by
              unfold anyL; rw [List.any_eq_true]; exact ⟨k, by simpa using hlt, by simpa using hs⟩
            unfold lvc; rw [if_neg h1, hp, ha]; simp)
          go_wp2
          go_ret
          exact ⟨ret_of (congrArg (Value.int .i64) HC.out.symm), rfl⟩
        · have hs' : ¬ 64 < ((L k).size : Int) := by omega
          go_wp2
          go_round
          case rel => exact ⟨k + 1, by omega, by go_num, hik (fun j hj => by
            by_cases e : j = k
            · subst e; exact hs
            · exact HL.out j (by omega))⟩
          case measure => simp [intOf]; omega
      · obtain rfl : k = n := by omega
        have HC := hik (show lvc k L = 0 by
          have ha : anyL k L = false := by
            unfold anyL; rw [List.any_eq_false]; intro j hj; simp at hj; simpa using HL.out j hj
          unfold lvc; rw [if_neg h1, hp, ha]; simp)
        go_wp2
        go_ret
        exact ⟨ret_of (congrArg (Value.int .i64) HC.out.symm), rfl⟩
end Go.Proofs.YtabioonijjibnabDoor
