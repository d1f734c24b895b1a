/- What the model's roots and paths are: contracts. Conditions: rows that can be read. -/
import Derived.Test.YtabioonijjibnabDoorMrkL
namespace Go.Proofs.YtabioonijjibnabDoor
open Go.ChangeShapes Go.WideShapes Go.ChangeAt Go.RowKit
set_option linter.unusedVariables false
set_option maxRecDepth 100000
set_option linter.unusedSimpArgs false

theorem lsv_top (hh cc : Nat → Nat) (d : Nat) : lsv hh cc d d = .slice (some ⟨hh d, 0, none⟩) 1 (cc d) := by
  unfold lsv; rw [Nat.sub_self]

set_option maxHeartbeats 1000000 in
theorem sRoot_any (c : Option Addr) (n cap d : Nat) (L : Nat → ByteArray) (w : World) (h : Hid (RowV w c n (sb L))) (hz : Hid (∀ i, i < n → (L i).size ≤ 65535)) (hd : d ≤ 8) (hnd : Hid (n = 2 ^ d)) :
    Calls Tryd.prog 60 #[.slice c n cap] w fun e w' => e = .returned (.string (lev L d 0)) ∧ Chg nob w w' := by
  go_enter Tryd.func60, Tryd.ntmps60
  go_wp2_with fail
  refine (sLevels_any c n cap d L _ h hz hd hnd.out).mono ?_
  rintro e W1 ⟨g, capo, hh, cc, rfl, hl, k1⟩
  have HL := hik hl
  have G1 := hik k1
  clear hl k1
  have c0 : W1.cell? ⟨g, d, none⟩ = some (.slice (some ⟨hh d, 0, none⟩) 1 (cc d)) := by rw [← lsv_top]; exact HL.out.cell d (Nat.le_refl _)
  have c1 : W1.cell? ⟨hh d, 0, none⟩ = some (.string (lev L d 0)) := by
    obtain ⟨xb, xo, e, _, hc⟩ := HL.out.row d (Nat.le_refl _) 0 (Nat.two_pow_pos _)
    obtain ⟨rfl, rfl⟩ : hh d = xb ∧ 0 = xo := by simpa using e
    exact hc
  have e1 : ((d : Int) + 1 - 1) = (d : Int) := by omega
  have e2 : (d : Int) < (d : Int) + 1 := by omega
  have hd' : (d : Int) ≤ 8 := by omega
  go_wp2
  go_ret
  exact ⟨rfl, G1.out⟩

/-- The root by the leaves' code. -/
def mrt (n : Nat) (L : Nat → ByteArray) : ByteArray := if lvc n L = 0 then lev L (Nat.log2 n) 0 else ⟨#[]⟩
theorem lvc_pow {n : Nat} {L : Nat → ByteArray} (h : lvc n L = 0) : Nat.log2 n ≤ 8 ∧ n = 2 ^ Nat.log2 n := by
  obtain ⟨hp, _, _⟩ := lvc_ok h
  obtain ⟨j, hj, hn⟩ := pw_ex n hp
  have e : n = 2 ^ j := by exact_mod_cast hn
  rw [e, Nat.log2_two_pow]
  exact ⟨hj, rfl⟩

set_option maxHeartbeats 1000000 in
theorem sMerkleRoot_any (c : Option Addr) (n cap : Nat) (L : Nat → ByteArray) (w : World) (h : Hid (RowV w c n (sb L))) (hz : Hid (∀ i, i < n → (L i).size ≤ 9223372036854775807)) (hn : (n : Int) ≤ 9223372036854775807) :
    Calls Tryd.prog 17 #[.slice c n cap] w fun e w' => e = .returned (.tuple #[.string (mrt n L), .int .i64 (lvc n L)]) ∧ Chg nob w w' := by
  by_cases h1 : 4096 < n
  · have h1' : 4096 < (n : Int) := by omega
    have e2 : lvc n L = 2 := if_pos h1
    have e1 : mrt n L = ⟨#[]⟩ := by unfold mrt; rw [e2]; rfl
    rw [e1, e2]
    go_enter Tryd.func17, Tryd.ntmps17
    go_wp2
    go_ret2
    exact ⟨rfl, Chg.refl _ _⟩
  have h1' : ¬ 4096 < (n : Int) := by omega
  by_cases h2 : lvc n L = 0
  · have e1 : mrt n L = lev L (Nat.log2 n) 0 := if_pos h2
    have H2 := hik h2
    have hb : (lvc n L != 0) = false := by simp [h2]
    rw [e1]
    clear e1 h2
    go_enter Tryd.func17, Tryd.ntmps17
    go_wp2_with (first | (go_at_call 59; refine (sLeaves_any c n cap L _ h hz hn).mono ?_; rintro e W1 ⟨rfl, hw⟩; have hw := hw.symm; subst hw) | (go_at_call 60; refine (sRoot_any c n cap (Nat.log2 n) L _ h (hik (fun i hi => by have := (lvc_ok H2.out).2.2 i hi; omega)) (lvc_pow H2.out).1 (hik (lvc_pow H2.out).2)).mono ?_; rintro e W2 ⟨rfl, k2⟩))
    go_ret2
    rw [H2.out]
    exact ⟨rfl, k2⟩
  · have e1 : mrt n L = ⟨#[]⟩ := if_neg h2
    have hb : (lvc n L != 0) = true := by simpa using h2
    rw [e1]
    clear e1
    go_enter Tryd.func17, Tryd.ntmps17
    go_wp2_with (go_at_call 59; refine (sLeaves_any c n cap L _ h hz hn).mono ?_; rintro e W1 ⟨rfl, hw⟩; have hw := hw.symm; subst hw)
    go_ret2
    exact ⟨rfl, Chg.refl _ _⟩
end Go.Proofs.YtabioonijjibnabDoor
