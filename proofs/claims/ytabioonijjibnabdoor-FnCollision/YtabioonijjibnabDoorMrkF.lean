/- Each leaf's path leads to the root, and the codes are those of right calls: plain facts of the functions that the contracts name. No program is walked here. -/
import Derived.Test.YtabioonijjibnabDoorMrkX
namespace Go.Proofs.YtabioonijjibnabDoor

/-- 1, 2, 4 to 256 leaves of at most 64 bytes are right. -/
theorem lvc_right {j : Nat} {L : Nat → ByteArray} (hj : j ≤ 8) (hL : ∀ i, i < 2 ^ j → (L i).size ≤ 64) : lvc (2 ^ j) L = 0 := by
  have h1 : ¬ 4096 < 2 ^ j := by have := two_le j hj; omega
  have h2 : pw ((2 ^ j : Nat) : Int) = true := pw_yes _ j hj rfl
  unfold lvc
  rw [if_neg h1, h2]
  have h3 : anyL (2 ^ j) L = false := by
    unfold anyL
    rw [List.any_eq_false]
    intro x hx
    have hx' : x < 2 ^ j := by simpa using hx
    have := hL x hx'
    simp; omega
  rw [h3]; rfl
theorem mpc_right {n : Nat} {L : Nat → ByteArray} {i : Nat} (h : lvc n L = 0) (hi : i < n) : mpc n L i = 0 := by
  have e : inB (i : Int) 0 ((n : Int) - 1) = true := decide_eq_true ⟨by omega, by omega⟩
  unfold mpc; rw [if_pos h, e]; rfl
theorem pth_up (L : Nat → ByteArray) (i k : Nat) : (upT i (L i) (pth L i) k).2 = lev L k (i / 2 ^ k) := upT_lev L i k
theorem akc_right {n : Nat} {L : Nat → ByteArray} {i : Nat} (r t : ByteArray) (h : lvc n L = 0) (hi : i < n) (hr : r.size ≤ 65536) (ht : t.size ≤ 65536) : akc r n i t (Nat.log2 n) = 0 := by
  obtain ⟨h8, hn⟩ := lvc_pow h
  have e : inB (i : Int) 0 ((n : Int) - 1) = true := decide_eq_true ⟨by omega, by omega⟩
  have h2 : pw (n : Int) = true := pw_yes _ _ h8 (by rw [← hn])
  unfold akc
  rw [if_neg (by omega), if_pos h2, if_pos e]
/-- The leaf at its place, with its path, leads to the root. -/
theorem ckb_right {n : Nat} {L : Nat → ByteArray} {i : Nat} (h : lvc n L = 0) (hi : i < n) : ckb (mrt n L) n i (L i) (Nat.log2 n) (pth L i) = true := by
  obtain ⟨h8, hn⟩ := lvc_pow h
  have hs := (lvc_ok h).2.2 i hi
  have e : min 20 (Nat.log2 n) = Nat.log2 n := by omega
  unfold ckb
  rw [if_neg (by rw [e, ← hn]; exact fun q => q.elim (fun q => by omega) (fun q => q rfl)), if_pos (fun k _ => pth_size L i k), pth_up]
  have e2 : i / 2 ^ Nat.log2 n = 0 := Nat.div_eq_of_lt (by omega)
  rw [e2]
  unfold mrt
  rw [if_pos h]
  simp
theorem cpb_right {n : Nat} {L : Nat → ByteArray} {i : Nat} (h : lvc n L = 0) (hi : i < n) : cpb (mrt n L) n i (L i) (Nat.log2 n) (pth L i) = true := by
  have hs := (lvc_ok h).2.2 i hi
  have hr : (mrt n L).size ≤ 65536 := by unfold mrt; rw [if_pos h, lev_size]; omega
  unfold cpb
  rw [if_pos (akc_right (mrt n L) (L i) h hi hr (by omega)), Int.toNat_natCast]
  exact ckb_right h hi
end Go.Proofs.YtabioonijjibnabDoor
