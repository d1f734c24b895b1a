/- What the program's looks at numbers of leaves, at leaves and at places answer: contracts. Conditions: rows that can be read. -/
import Derived.Test.YtabioonijjibnabDoorMrkP
import Derived.Test.YtabioonijjibnabDoorMrkQ
namespace Go.Proofs.YtabioonijjibnabDoor
open Go.ChangeShapes Go.WideShapes Go.ChangeAt Go.RowKit
set_option linter.unusedVariables false
set_option maxRecDepth 100000
set_option linter.unusedSimpArgs false

theorem pw_bits : ∀ m : Nat, m < 257 → 1 ≤ m → (bits .and .i64 (m : Int) ((m : Int) - 1) == 0) = pw (m : Int) := by decide +kernel
theorem pw_low {n : Int} (h : ¬ 1 ≤ n) : pw n = false := by
  cases hp : pw n
  · rfl
  · obtain ⟨j, hj, hn⟩ := pw_ex n hp
    have := two_pos j
    omega
theorem pw_high {n : Int} (h : ¬ n ≤ 256) : pw n = false := by
  cases hp : pw n
  · rfl
  · obtain ⟨j, hj, hn⟩ := pw_ex n hp
    have := two_le j hj
    omega

set_option maxHeartbeats 1000000 in
theorem isPow2_any (n : Int) (w : World) :
    Calls Tryd.prog 131 #[.int .i64 n] w fun e w' => e = .returned (.bool (decide (1 ≤ n) && (bits .and .i64 n (IntKind.i64.wrap (n - 1)) == 0))) ∧ w = w' := by
  by_cases h0 : 1 ≤ n
  · obtain ⟨q, hq⟩ : ∃ q, q = IntKind.i64.wrap (n - 1) := ⟨_, rfl⟩
    rw [← hq, decide_eq_true h0, Bool.true_and]
    have hq' := hq.symm
    clear hq
    obtain ⟨b, hb⟩ : ∃ b, b = (bits .and .i64 n q == 0) := ⟨_, rfl⟩
    rw [← hb]
    have hb' := hb.symm
    clear hb
    cases b
    · go_enter Tryd.func131, Tryd.ntmps131
      go_wp2
      go_ret
      exact ⟨rfl, rfl⟩
    · go_enter Tryd.func131, Tryd.ntmps131
      go_wp2
      go_ret
      exact ⟨rfl, rfl⟩
  · rw [decide_eq_false h0, Bool.false_and]
    go_enter Tryd.func131, Tryd.ntmps131
    go_wp2
    go_ret
    exact ⟨rfl, rfl⟩

set_option maxHeartbeats 1000000 in
theorem leafCountOK_any (n : Int) (w : World) :
    Calls Tryd.prog 106 #[.int .i64 n] w fun e w' => e = .returned (.bool (pw n)) ∧ w = w' := by
  obtain ⟨b, hb⟩ : ∃ b, b = (decide (1 ≤ n) && (bits .and .i64 n (IntKind.i64.wrap (n - 1)) == 0)) := ⟨_, rfl⟩
  by_cases h1 : n ≤ 256
  · have H := hik (show pw n = b by
      rw [hb]
      by_cases h0 : 1 ≤ n
      · obtain ⟨m, rfl⟩ : ∃ m : Nat, n = (m : Int) := ⟨n.toNat, by omega⟩
        have v1 : IntKind.i64.wrap ((m : Int) - 1) = (m : Int) - 1 := by rw [IntKind.wrap_i64]; omega
        rw [v1, pw_bits m (by omega) (by omega), decide_eq_true h0, Bool.true_and]
      · rw [pw_low h0, decide_eq_false h0, Bool.false_and])
    rw [H.out]
    have HB := hik hb
    clear hb
    cases b
    · go_enter Tryd.func106, Tryd.ntmps106
      go_wp2_with (go_at_call 131; refine (isPow2_any n _).mono ?_; rintro e W1 ⟨he, rfl⟩; rw [← HB.out] at he; subst he)
      go_ret
      exact ⟨rfl, rfl⟩
    · go_enter Tryd.func106, Tryd.ntmps106
      go_wp2_with (go_at_call 131; refine (isPow2_any n _).mono ?_; rintro e W1 ⟨he, rfl⟩; rw [← HB.out] at he; subst he)
      go_ret
      exact ⟨rfl, rfl⟩
  · have H := hik (pw_high h1)
    have HB := hik hb
    clear hb
    cases b
    · go_enter Tryd.func106, Tryd.ntmps106
      go_wp2_with (go_at_call 131; refine (isPow2_any n _).mono ?_; rintro e W1 ⟨he, rfl⟩; rw [← HB.out] at he; subst he)
      go_ret
      exact ⟨by rw [H.out]; rfl, rfl⟩
    · go_enter Tryd.func106, Tryd.ntmps106
      go_wp2_with (go_at_call 131; refine (isPow2_any n _).mono ?_; rintro e W1 ⟨he, rfl⟩; rw [← HB.out] at he; subst he)
      go_ret
      exact ⟨ret_of (congrArg Value.bool (by rw [H.out]; exact decide_eq_false (by omega))), rfl⟩

/-- The code of a place. -/
def plc (n i : Int) : Int := if pw n = true then (if inB i 0 (n - 1) = true then 0 else 4) else 8

set_option maxHeartbeats 1000000 in
theorem placeCode_any (n i : Int) (w : World) :
    Calls Tryd.prog 61 #[.int .i64 n, .int .i64 i] w fun e w' => e = .returned (.int .i64 (plc n i)) ∧ w = w' := by
  cases hp : pw n
  · have E := hik (show plc n i = 8 by unfold plc; rw [hp]; rfl)
    go_enter Tryd.func61, Tryd.ntmps61
    go_wp2_with (go_at_call 106; refine (leafCountOK_any n _).mono ?_; rintro e W1 ⟨rfl, hw⟩; subst hw)
    go_ret
    exact ⟨by rw [E.out]; rfl, rfl⟩
  · by_cases h0 : i < 0
    · have E := hik (show plc n i = 4 by
        have : inB i 0 (n - 1) = false := decide_eq_false (fun x => by omega)
        unfold plc; rw [hp, this]; rfl)
      go_enter Tryd.func61, Tryd.ntmps61
      go_wp2_with (go_at_call 106; refine (leafCountOK_any n _).mono ?_; rintro e W1 ⟨rfl, hw⟩; subst hw)
      go_ret
      exact ⟨by rw [E.out]; rfl, rfl⟩
    · by_cases h1 : n ≤ i
      · have E := hik (show plc n i = 4 by
          have : inB i 0 (n - 1) = false := decide_eq_false (fun x => by omega)
          unfold plc; rw [hp, this]; rfl)
        go_enter Tryd.func61, Tryd.ntmps61
        go_wp2_with (go_at_call 106; refine (leafCountOK_any n _).mono ?_; rintro e W1 ⟨rfl, hw⟩; subst hw)
        go_ret
        exact ⟨by rw [E.out]; rfl, rfl⟩
      · have E := hik (show plc n i = 0 by
          have : inB i 0 (n - 1) = true := decide_eq_true ⟨by omega, by omega⟩
          unfold plc; rw [hp, this]; rfl)
        go_enter Tryd.func61, Tryd.ntmps61
        go_wp2_with (go_at_call 106; refine (leafCountOK_any n _).mono ?_; rintro e W1 ⟨rfl, hw⟩; subst hw)
        go_ret
        exact ⟨by rw [E.out]; rfl, rfl⟩
set_option maxHeartbeats 1000000 in
theorem leavesCode_any (c : Option Addr) (n cap : Nat) (L : Nat → ByteArray) (w : World) (h : Hid (RowV w c n (sb L))) (hz : Hid (∀ i, i < n → (L i).size ≤ 9223372036854775807)) (hn : (n : Int) ≤ 9223372036854775807) :
    Calls Tryd.prog 57 #[.slice c n cap] w fun e w' => e = .returned (.int .i64 (lvc n L)) ∧ w = w' := by
  by_cases h1 : 4096 < n
  · have h1' : 4096 < (n : Int) := by omega
    have HL := hik (show lvc n L = 2 from if_pos h1)
    go_enter Tryd.func57, Tryd.ntmps57
    go_wp2
    go_ret
    exact ⟨ret_of (congrArg (Value.int .i64) HL.out.symm), rfl⟩
  have h1' : ¬ 4096 < (n : Int) := by omega
  cases hp : pw n
  · have HL := hik (show lvc n L = 8 by unfold lvc; rw [if_neg h1, hp]; simp)
    go_enter Tryd.func57, Tryd.ntmps57
    go_wp2_with (go_at_call 106; refine (leafCountOK_any (n : Int) _).mono ?_; rintro e W1 ⟨rfl, hw⟩; subst hw)
    go_ret
    exact ⟨ret_of (congrArg (Value.int .i64) HL.out.symm), rfl⟩
  · go_enter Tryd.func57, Tryd.ntmps57
    go_wp2_with (go_at_call 106; refine (leafCountOK_any (n : Int) _).mono ?_; rintro e W1 ⟨rfl, hw⟩; subst hw)
    go_loop [14] (fun i => ∃ k : Nat, k ≤ n ∧ i = .int .i64 k ∧ Hid (∀ j, j < k → ¬ 64 < (L j).size)) (fun i => n - (intOf i).toNat)
    case atStart => exact ⟨0, Nat.zero_le _, rfl, hik (fun j hj => absurd hj (by omega))⟩
    case round =>
      obtain ⟨k, hk, rfl, HL⟩ := hrel
      by_cases hlt : k < n
      · obtain ⟨xb, xo, rfl, hxb, hcell⟩ := h.out k hlt
        have hx : _ = some (Value.string (L k)) := hcell
        have hzk := hz.out k hlt
        clear hcell
        by_cases hs : 64 < (L k).size
        · have hs' : 64 < ((L k).size : Int) := by omega
          have HC := hik (show lvc n L = 4 by
            have ha : anyL n L = true := by
              unfold anyL; rw [List.any_eq_true]; exact ⟨k, by simpa using hlt, by simpa using hs⟩
            unfold lvc; rw [if_neg h1, hp, ha]; simp)
          go_wp2
          go_ret
          exact ⟨ret_of (congrArg (Value.int .i64) HC.out.symm), rfl⟩
        · have hs' : ¬ 64 < ((L k).size : Int) := by omega
          go_wp2
          go_round
          case rel => exact ⟨k + 1, by omega, by go_num, hik (fun j hj => by
            by_cases e : j = k
            · subst e; exact hs
            · exact HL.out j (by omega))⟩
          case measure => simp [intOf]; omega
      · obtain rfl : k = n := by omega
        have HC := hik (show lvc k L = 0 by
          have ha : anyL k L = false := by
            unfold anyL; rw [List.any_eq_false]; intro j hj; simp at hj; simpa using HL.out j hj
          unfold lvc; rw [if_neg h1, hp, ha]; simp)
        go_wp2
        go_ret
        exact ⟨ret_of (congrArg (Value.int .i64) HC.out.symm), rfl⟩
end Go.Proofs.YtabioonijjibnabDoor
