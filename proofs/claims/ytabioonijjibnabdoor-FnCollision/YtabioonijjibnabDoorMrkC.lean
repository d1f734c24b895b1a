/- What the model's checks of paths answer: contracts. Conditions: rows that can be read. -/
import Derived.Test.YtabioonijjibnabDoorMrkU
namespace Go.Proofs.YtabioonijjibnabDoor
open Go.ChangeShapes Go.WideShapes Go.ChangeAt Go.RowKit
set_option linter.unusedVariables false
set_option maxRecDepth 100000
set_option linter.unusedSimpArgs false

/-- The code of a question about a path. -/
def akc (r : ByteArray) (n i : Int) (t : ByteArray) (d : Nat) : Int := if 65536 < r.size ∨ 65536 < t.size ∨ 4096 < d then 2 else if pw n = true then (if inB i 0 (n - 1) = true then 0 else 4) else 8

set_option maxHeartbeats 2000000 in
theorem sAsk_any (r : ByteArray) (n i : Int) (t : ByteArray) (c : Option Addr) (d cap : Nat) (w : World) (hr : (r.size : Int) ≤ 9223372036854775807) (ht : (t.size : Int) ≤ 9223372036854775807) (hd : (d : Int) ≤ 9223372036854775807) :
    Calls Tryd.prog 68 #[.string r, .int .i64 n, .int .i64 i, .string t, .slice c d cap] w fun e w' => e = .returned (.int .i64 (akc r n i t d)) ∧ w' = w := by
  by_cases h1 : 65536 < (r.size : Int)
  · have E := hik (show akc r n i t d = 2 from if_pos (.inl (by omega)))
    go_enter Tryd.func68, Tryd.ntmps68
    go_wp2
    go_ret
    exact ⟨by rw [E.out]; rfl, rfl⟩
  by_cases h2 : 65536 < (t.size : Int)
  · have E := hik (show akc r n i t d = 2 from if_pos (.inr (.inl (by omega))))
    go_enter Tryd.func68, Tryd.ntmps68
    go_wp2
    go_ret
    exact ⟨by rw [E.out]; rfl, rfl⟩
  by_cases h3 : 4096 < (d : Int)
  · have E := hik (show akc r n i t d = 2 from if_pos (.inr (.inr (by omega))))
    go_enter Tryd.func68, Tryd.ntmps68
    go_wp2
    go_ret
    exact ⟨by rw [E.out]; rfl, rfl⟩
  have HE := hik (show akc r n i t d = if pw n = true then (if inB i 0 (n - 1) = true then 0 else 4) else 8 from if_neg (by omega))
  cases hp : pw n
  · have E := hik (show akc r n i t d = 8 by rw [HE.out, hp]; rfl)
    go_enter Tryd.func68, Tryd.ntmps68
    go_wp2_with (go_at_call 108; refine (sPower_any n _).mono ?_; rintro e W1 ⟨rfl, hw⟩; have hw := hw.symm; subst hw)
    go_ret
    exact ⟨by rw [E.out]; rfl, rfl⟩
  · obtain ⟨j, hj, hn⟩ := pw_ex n hp
    have hn1 : 1 ≤ n := by have := two_pos j; omega
    have hn2 : n ≤ 256 := by have := two_le j hj; omega
    have v1 : IntKind.i64.wrap (n - 1) = n - 1 := by rw [IntKind.wrap_i64]; omega
    clear hn hj
    cases hb : inB i 0 (n - 1)
    · have E := hik (show akc r n i t d = 4 by rw [HE.out, hp, hb]; rfl)
      go_enter Tryd.func68, Tryd.ntmps68
      go_wp2_with (first | (go_at_call 108; refine (sPower_any n _).mono ?_; rintro e W1 ⟨rfl, hw⟩; have hw := hw.symm; subst hw) | (go_at_call 63; refine (sIn_any _ _ _ _).mono ?_; rintro e W1 ⟨rfl, hw⟩; have hw := hw.symm; subst hw))
      go_ret
      exact ⟨by rw [E.out]; rfl, rfl⟩
    · have E := hik (show akc r n i t d = 0 by rw [HE.out, hp, hb]; rfl)
      go_enter Tryd.func68, Tryd.ntmps68
      go_wp2_with (first | (go_at_call 108; refine (sPower_any n _).mono ?_; rintro e W1 ⟨rfl, hw⟩; have hw := hw.symm; subst hw) | (go_at_call 63; refine (sIn_any _ _ _ _).mono ?_; rintro e W1 ⟨rfl, hw⟩; have hw := hw.symm; subst hw))
      go_ret
      exact ⟨by rw [E.out]; rfl, rfl⟩

theorem w64_pow (d : Nat) (h : d ≤ 20) : wrap64 ((2 : Int) ^ d) = (2 : Int) ^ d := by
  have e : ((2 : Int) ^ d) = ((2 ^ d : Nat) : Int) := by simp
  have h1 := Nat.pow_le_pow_right (show 0 < 2 by omega) h
  rw [e]
  generalize 2 ^ d = x at h1
  exact IntWalk.wrap64_in _ ⟨by omega, by omega⟩

/-- Does a path lead to a root? -/
def ckb (r : ByteArray) (n : Int) (i : Nat) (t : ByteArray) (d : Nat) (P : Nat → ByteArray) : Bool :=
  if 64 < t.size ∨ ¬ n = ((2 ^ min 20 d : Nat) : Int) then false else if ∀ k, k < d → (P k).size = 32 then ((upT i t P d).2.toList == r.toList) else false

set_option maxHeartbeats 2000000 in
theorem sCheck_any (r : ByteArray) (n : Int) (i : Nat) (t : ByteArray) (c : Option Addr) (d cap : Nat) (P : Nat → ByteArray) (w : World) (h : Hid (RowV w c d (sb P))) (hz : Hid (∀ k, k < d → (P k).size ≤ 9223372036854775807)) (ht : (t.size : Int) ≤ 9223372036854775807) (hd : d ≤ 4096) (hn : pw n = true) (hi : i < 256) :
    Calls Tryd.prog 69 #[.string r, .int .i64 n, .int .i64 i, .string t, .slice c d cap] w fun e w' => e = .returned (.bool (ckb r n i t d P)) ∧ Chg nob w w' := by
  by_cases h1 : 64 < (t.size : Int)
  · have E := hik (show ckb r n i t d P = false from if_pos (.inl (by omega)))
    go_enter Tryd.func69, Tryd.ntmps69
    go_wp2
    go_ret
    exact ⟨by rw [E.out]; rfl, Chg.refl _ _⟩
  by_cases h2 : n = ((2 ^ min 20 d : Nat) : Int)
  · have hd8 : d ≤ 8 := by
      obtain ⟨j, hj, hn⟩ := pw_ex n hn
      have e : 2 ^ min 20 d = 2 ^ j := by rw [h2] at hn; exact Int.ofNat.inj hn
      have e2 := two_le j hj
      by_cases q : 9 ≤ min 20 d
      · have := Nat.pow_le_pow_right (show 0 < 2 by omega) q
        omega
      · omega
    have HE := hik (show ckb r n i t d P = if ∀ k, k < d → (P k).size = 32 then ((upT i t P d).2.toList == r.toList) else false from if_neg (fun q => q.elim (fun q => by omega) (fun q => q h2)))
    have hm : min 20 d = d := by omega
    have hm' : min 20 (d : Int) = d := by omega
    rw [hm] at h2
    have h2' : wrap64 ((2 : Int) ^ d) = n := by rw [w64_pow d (by omega), h2]; simp
    clear h2
    go_enter Tryd.func69, Tryd.ntmps69
    go_wp2
    go_loopw [11] (fun v W => ∃ k : Nat, k ≤ d ∧ v = .int .i64 k ∧ Hid (∀ j, j < k → (P j).size = 32) ∧ W = w) (fun v _ => d - (intOf v).toNat)
    case atStart => exact ⟨0, Nat.zero_le _, rfl, hik (fun j hj => absurd hj (by omega)), rfl⟩
    case round =>
      obtain ⟨k, hk, rfl, HK, rfl⟩ := hrel
      by_cases hlt : k < d
      · obtain ⟨xb, xo, rfl, hxb, hcell⟩ := h.out k hlt
        have hx : _ = some (Value.string (P k)) := hcell
        clear hcell
        have hzk : ((P k).size : Int) ≤ 9223372036854775807 := by have := hz.out k hlt; omega
        by_cases hs : ((P k).size : Int) = 32
        · go_wp2
          go_roundw
          case rel => exact ⟨k + 1, by omega, by go_num, hik (fun j hj => by
            by_cases e : j = k
            · subst e; omega
            · exact HK.out j (by omega)), trivial⟩
          case measure => simp [intOf]; omega
        · have E := hik (show ckb r n i t d P = false by rw [HE.out, if_neg (fun q => hs (by rw [q k hlt]; rfl))])
          go_wp2
          go_ret
          exact ⟨by rw [E.out]; rfl, Chg.refl _ _⟩
      · obtain rfl : k = d := by omega
        have E := hik (show ckb r n i t k P = ((upT i t P k).2.toList == r.toList) by rw [HE.out, if_pos HK.out])
        go_wp2_with (go_at_call 77; refine (sUp_any i t c k cap P _ h HK (by omega) hi (by omega)).mono ?_; rintro e W3 ⟨v3, rfl, o3, k3⟩; have G3 := hik k3; clear o3 k3)
        go_ret
        exact ⟨by rw [E.out]; rfl, G3.out⟩
  · have E := hik (show ckb r n i t d P = false from if_pos (.inr h2))
    by_cases h3 : 20 ≤ d
    · have hm : min 20 d = 20 := by omega
      have hm' : min 20 (d : Int) = 20 := by omega
      rw [hm] at h2
      have h2' : ¬ n = 1048576 := h2
      clear h2
      go_enter Tryd.func69, Tryd.ntmps69
      go_wp2
      go_ret
      exact ⟨by rw [E.out]; rfl, Chg.refl _ _⟩
    · have hm : min 20 d = d := by omega
      have hm' : min 20 (d : Int) = d := by omega
      rw [hm] at h2
      obtain ⟨q, hq⟩ : ∃ q : Int, q = 2 ^ d := ⟨_, rfl⟩
      have e1 : wrap64 ((2 : Int) ^ d) = q := by rw [w64_pow d (by omega), hq]
      have h2' : ¬ n = q := by rw [hq]; intro e; exact h2 (by rw [e]; simp)
      clear h2 hq
      go_enter Tryd.func69, Tryd.ntmps69
      go_wp2
      go_ret
      exact ⟨by rw [E.out]; rfl, Chg.refl _ _⟩
theorem akc_ok {r : ByteArray} {n i : Int} {t : ByteArray} {d : Nat} (h : akc r n i t d = 0) : r.size ≤ 65536 ∧ t.size ≤ 65536 ∧ d ≤ 4096 ∧ pw n = true ∧ 0 ≤ i ∧ i < 256 ∧ i < n := by
  unfold akc at h
  split at h
  · exact absurd h (by decide)
  · split at h
    · rename_i h1 h2
      split at h
      · rename_i h3
        have q := of_decide_eq_true h3
        obtain ⟨j, hj, hn⟩ := pw_ex n h2
        have e2 := two_le j hj
        exact ⟨by omega, by omega, by omega, h2, by omega, by omega, by omega⟩
      · exact absurd h (by decide)
    · exact absurd h (by decide)
/-- The answer of a check. -/
def cpb (r : ByteArray) (n i : Int) (t : ByteArray) (d : Nat) (P : Nat → ByteArray) : Bool := if akc r n i t d = 0 then ckb r n i.toNat t d P else false

set_option maxHeartbeats 2000000 in
theorem sCheckPath_any (r : ByteArray) (n i : Int) (t : ByteArray) (c : Option Addr) (d cap : Nat) (P : Nat → ByteArray) (w : World) (h : Hid (RowV w c d (sb P))) (hz : Hid (∀ k, k < d → (P k).size ≤ 9223372036854775807)) (hr : (r.size : Int) ≤ 9223372036854775807) (ht : (t.size : Int) ≤ 9223372036854775807) (hd : (d : Int) ≤ 9223372036854775807) :
    Calls Tryd.prog 21 #[.string r, .int .i64 n, .int .i64 i, .string t, .slice c d cap] w fun e w' => e = .returned (.tuple #[.bool (cpb r n i t d P), .int .i64 (akc r n i t d)]) ∧ Chg nob w w' := by
  by_cases h1 : 65536 < (r.size : Int)
  · have e1 : akc r n i t d = 2 := if_pos (.inl (by omega))
    have E := hik (show cpb r n i t d P = false ∧ akc r n i t d = 2 from ⟨by unfold cpb; rw [e1]; rfl, e1⟩)
    clear e1
    go_enter Tryd.func21, Tryd.ntmps21
    go_wp2
    go_ret2
    exact ⟨by rw [E.out.1, E.out.2]; rfl, Chg.refl _ _⟩
  by_cases h2 : 65536 < (t.size : Int)
  · have e1 : akc r n i t d = 2 := if_pos (.inr (.inl (by omega)))
    have E := hik (show cpb r n i t d P = false ∧ akc r n i t d = 2 from ⟨by unfold cpb; rw [e1]; rfl, e1⟩)
    clear e1
    go_enter Tryd.func21, Tryd.ntmps21
    go_wp2
    go_ret2
    exact ⟨by rw [E.out.1, E.out.2]; rfl, Chg.refl _ _⟩
  by_cases h3 : 4096 < (d : Int)
  · have e1 : akc r n i t d = 2 := if_pos (.inr (.inr (by omega)))
    have E := hik (show cpb r n i t d P = false ∧ akc r n i t d = 2 from ⟨by unfold cpb; rw [e1]; rfl, e1⟩)
    clear e1
    go_enter Tryd.func21, Tryd.ntmps21
    go_wp2
    go_ret2
    exact ⟨by rw [E.out.1, E.out.2]; rfl, Chg.refl _ _⟩
  by_cases h4 : akc r n i t d = 0
  · obtain ⟨_, _, _, hp, i0, i1, _⟩ := akc_ok h4
    obtain ⟨m, rfl⟩ : ∃ m : Nat, i = (m : Int) := ⟨i.toNat, by omega⟩
    have E := hik (show cpb r n m t d P = ckb r n m t d P from by unfold cpb; rw [if_pos h4, Int.toNat_natCast])
    have hb : (akc r n m t d != 0) = false := by simp [h4]
    have E2 := hik h4
    have HP := hik hp
    clear h4 hp
    go_enter Tryd.func21, Tryd.ntmps21
    go_wp2_with (first | (go_at_call 68; refine (sAsk_any r n m t c d cap _ hr ht hd).mono ?_; rintro e W1 ⟨rfl, hw⟩; have hw := hw.symm; subst hw) | (go_at_call 69; refine (sCheck_any r n m t c d cap P _ h hz ht (by omega) HP.out (by omega)).mono ?_; rintro e W2 ⟨rfl, k2⟩; have G2 := hik k2; clear k2))
    go_ret2
    exact ⟨by rw [E.out, E2.out]; rfl, G2.out⟩
  · have E := hik (show cpb r n i t d P = false from by unfold cpb; rw [if_neg h4])
    have hb : (akc r n i t d != 0) = true := by simpa using h4
    clear h4
    go_enter Tryd.func21, Tryd.ntmps21
    go_wp2_with (go_at_call 68; refine (sAsk_any r n i t c d cap _ hr ht hd).mono ?_; rintro e W1 ⟨rfl, hw⟩; have hw := hw.symm; subst hw)
    go_ret2
    exact ⟨by rw [E.out]; rfl, Chg.refl _ _⟩
end Go.Proofs.YtabioonijjibnabDoor
