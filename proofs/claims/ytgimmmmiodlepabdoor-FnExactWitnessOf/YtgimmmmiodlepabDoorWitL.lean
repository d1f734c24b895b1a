/- The laws' marks on slices of ints of a call's own, from any number on: contracts. -/
import Derived.Test.YtgimmmmiodlepabDoorRnAn
namespace Go.Proofs.YtgimmmmiodlepabDoor
open Go.ChangeShapes Go.WideShapes Go.ChangeAt Go.RowKit
set_option linter.unusedVariables false
set_option maxRecDepth 100000
set_option linter.unusedSimpArgs false

set_option maxHeartbeats 1000000 in
theorem markIntS_atq (g o n N cap : Nat) (h0 : Nat → Value) (q : Int) (w : World) (h : Hid (w.rowIs g 3 N h0)) (hN : o + n ≤ N) (hn : n ≤ 1099511627776) (q0 : 0 ≤ q) (q1 : q ≤ 1099511627776) (hi : Hid (∀ i, i < n → ∃ x, h0 (o + i) = .int .i64 x)) :
    Calls Tryd.prog 20 #[.slice (some ⟨g, o, none⟩) n cap, .int .i64 q] w fun e w' => e = .returned (.int .i64 (q + n)) ∧ (∃ h', w'.rowIs g 3 N h' ∧ ∀ i, i < n → h' (o + i) = .int .i64 (q + i)) ∧ Chg (fun b => b = g) w w' := by
  go_enter Tryd.func20, Tryd.ntmps20
  go_wp2
  go_loopw [1, 5] (fun v i W => ∃ k : Nat, k ≤ n ∧ i = .int .i64 k ∧ v = .int .i64 (q + k) ∧ Hid (∃ h', W.rowIs g 3 N h' ∧ (∀ i, i < k → h' (o + i) = .int .i64 (q + i)) ∧ ∀ i, i < n → ∃ x, h' (o + i) = .int .i64 x) ∧ Hid (Chg (fun b => b = g) w W)) (fun _ i _ => n - (intOf i).toNat)
  case atStart => exact ⟨0, Nat.zero_le _, rfl, by simp, hik ⟨h0, h.out, fun i hi => by omega, hi.out⟩, hik (Chg.refl _ _)⟩
  case round =>
    obtain ⟨k, hk, rfl, rfl, HR, HC⟩ := hrel
    by_cases hlt : k < n
    · have hkn : ((k : Nat) : Int) < n := by omega
      obtain ⟨h', hr, hd, hx⟩ := HR.out
      obtain ⟨x, ex⟩ := hx k hlt
      have hg := hr.cell (i := o + k) (by omega)
      rw [ex] at hg
      have hf := hr.frozen (o + k)
      have HR2 := hik (show ∃ h'', World.rowIs _ g 3 N h'' ∧ (∀ i, i < k + 1 → h'' (o + i) = .int .i64 (q + i)) ∧ ∀ i, i < n → ∃ x, h'' (o + i) = .int .i64 x from ⟨_, hr.set (o + k) (.int .i64 (q + k)), fun i hi => by
        by_cases e : i = k
        · subst e; simp
        · simp [e]; exact hd i (by omega), fun i hi => by
        by_cases e : i = k
        · subst e; exact ⟨q + i, by simp⟩
        · obtain ⟨y, ey⟩ := hx i hi; exact ⟨y, by simp [e]; exact ey⟩⟩)
      have HC2 := hik (HC.out.setCell (p := ⟨g, o + k, none⟩) (fun _ => rfl) (.int .i64 (q + k)))
      clear hr hd hx ex
      go_wp2
      go_roundw
      case rel => exact ⟨k + 1, by omega, by go_num, by go_num, HR2, HC2⟩
      case measure => simp [intOf]; omega
    · obtain rfl : k = n := by omega
      go_wp2
      go_ret
      obtain ⟨h', hr, hd, _⟩ := HR.out
      exact ⟨rfl, ⟨h', hr, hd⟩, HC.out⟩
set_option maxHeartbeats 400000 in
theorem markIntS_noneq (c : Option Addr) (cap : Nat) (q : Int) (w : World) : Calls Tryd.prog 20 #[.slice c 0 cap, .int .i64 q] w fun e w' => e = .returned (.int .i64 q) ∧ Chg nob w w' := by
  go_enter Tryd.func20, Tryd.ntmps20
  go_wp2
  go_loopw [1, 5] (fun v i W => i = .int .i64 0 ∧ v = .int .i64 q ∧ Hid (Chg nob w W)) (fun _ _ _ => 0)
  case atStart => exact ⟨rfl, rfl, hik (Chg.refl _ _)⟩
  case round =>
    obtain ⟨rfl, rfl, HC⟩ := hrel
    go_wp2
    go_ret
    exact ⟨rfl, HC.out⟩
theorem markJ_ownq (B : Nat) (c : Option Addr) (n cap : Nat) (f : Nat → Int) (q : Int) (w : World) (h : Hid (OwnJ w B c n f)) (hn : n ≤ 1099511627776) (q0 : 0 ≤ q) (q1 : q ≤ 1099511627776) :
    Calls Tryd.prog 20 #[.slice c n cap, .int .i64 q] w fun e w' => e = .returned (.int .i64 (q + n)) ∧ OwnJ w' B c n (fun i => q + i) ∧ Chg (fun b => B ≤ b ∧ 0 < n ∧ ∃ o, c = some ⟨b, o, none⟩) w w' := by
  by_cases h0 : n = 0
  · subst h0
    refine (markIntS_noneq c cap q w).mono ?_
    rintro e w' ⟨rfl, k⟩
    exact ⟨by simp, .inl rfl, k.wide⟩
  · rcases h.out with q' | ⟨g, o, N, hh, hb, rfl, hN, r, hv⟩
    · exact absurd q' h0
    · refine (markIntS_atq g o n N cap hh q w (hik r) hN hn q0 q1 (hik (fun i hi => ⟨f i, hv i hi⟩))).mono ?_
      rintro e w' ⟨rfl, ⟨h', r', hd⟩, k⟩
      exact ⟨rfl, .inr ⟨g, o, N, h', hb, rfl, hN, r', fun i hi => hd i hi⟩, k.mono (fun i _ e => ⟨by rw [e]; exact hb, by omega, o, by rw [e]⟩)⟩
set_option maxHeartbeats 1000000 in
theorem heldIntS_q (c : Option Addr) (n cap : Nat) (q : Int) (w : World) (h : Hid (RowV w c n (iv (fun i => q + i)))) (hn : n ≤ 1099511627776) (q0 : 0 ≤ q) (q1 : q ≤ 1099511627776) :
    Calls Tryd.prog 21 #[.slice c n cap, .int .i64 q] w fun e w' => e = .returned (.int .i64 (q + n)) ∧ Chg nob w w' := by
  go_enter Tryd.func21, Tryd.ntmps21
  go_wp2
  go_loopw [1, 5] (fun v i W => ∃ k : Nat, k ≤ n ∧ i = .int .i64 k ∧ v = .int .i64 (q + k) ∧ Hid (Chg nob w W)) (fun _ i _ => n - (intOf i).toNat)
  case atStart => exact ⟨0, Nat.zero_le _, rfl, by simp, hik (Chg.refl _ _)⟩
  case round =>
    obtain ⟨k, hk, rfl, rfl, HC⟩ := hrel
    by_cases hlt : k < n
    · obtain ⟨xb, xo, rfl, hxb, hcell⟩ := (h.out.keep HC.out) k hlt
      have hx : _ = some (Value.int .i64 (q + (k : Int))) := hcell
      clear hcell
      go_wp2
      go_roundw
      case rel => exact ⟨k + 1, by omega, by go_num, by go_num, HC⟩
      case measure => simp [intOf]; omega
    · obtain rfl : k = n := by omega
      go_wp2
      go_ret
      exact ⟨rfl, HC.out⟩
end Go.Proofs.YtgimmmmiodlepabDoor
