/- A matrix times a vector: contracts of both sides. -/
import Derived.Test.YtjaopbaapldceaaFrwS
namespace Go.Proofs.Ytjaopbaapldceaa
open Go.ChangeShapes Go.WideShapes Go.ChangeAt Go.RowKit
set_option linter.unusedVariables false
set_option maxRecDepth 100000
set_option linter.unusedSimpArgs false

/-- 1, 2, 4 to 32. -/
def p5 (n : Nat) : Bool := (List.range 6).any fun j => decide (n = 2 ^ j)
theorem p5_yes {n j : Nat} (hj : j ≤ 5) (h : n = 2 ^ j) : p5 n = true := by
  unfold p5
  rw [List.any_eq_true]
  exact ⟨j, by simp; omega, by simpa using h⟩
theorem p5_ex {n : Nat} (h : p5 n = true) : ∃ j, j ≤ 5 ∧ n = 2 ^ j := by
  unfold p5 at h
  rw [List.any_eq_true] at h
  obtain ⟨j, hj, hn⟩ := h
  simp at hj
  exact ⟨j, by omega, by simpa using hn⟩
theorem p5_high {n : Nat} (h : 32 < n) : p5 n = false := by
  cases hp : p5 n
  · rfl
  · obtain ⟨j, hj, hn⟩ := p5_ex hp
    have := pow5 hj
    omega
theorem p5_bits : ∀ m : Nat, m < 33 → 1 ≤ m → (bits .and .i64 (m : Int) ((m : Int) - 1) == 0) = p5 m := by decide +kernel
/-- What the program's look at powers of two answers. -/
def q25 (n : Nat) : Bool := decide (1 ≤ n) && (bits .and .i64 (n : Int) ((n : Int) - 1) == 0)
theorem q25_p5 {n : Nat} (h : n ≤ 32) : q25 n = p5 n := by
  unfold q25
  by_cases h0 : 1 ≤ n
  · rw [p5_bits n (by omega) h0, decide_eq_true h0]; rfl
  · obtain rfl : n = 0 := by omega
    rfl
/-- What is told of a matrix and a vector. -/
def mmc (n : Nat) (X : Nat → En) (rows : Int) (m : Nat) (z : Nat → Int) : Int := if 4096 < n ∨ 4096 < m then 2 else if lgb rows = false ∨ p5 m = false then 4 else if elm (2 ^ rows.toNat) m n X = false ∨ fds m z = false then 1 else 0
/-- The answer: a row of the call's own, a code. -/
def MmAns (w : World) (code : Int) (N : Nat) (f : Nat → Int) (e : Ending) (w' : World) : Prop :=
  ∃ c cap, e = .returned (.tuple #[.slice c (if code = 0 then N else 0) cap, .int .i64 code]) ∧ (code = 0 → ∃ g, w.heap.size ≤ g ∧ c = some ⟨g, 0, none⟩ ∧ w'.rowIs g 3 N (iv f)) ∧ Chg nob w w'
theorem MmAns.no {w w' : World} {code k : Int} {N : Nat} {f : Nat → Int} {e : Ending} {c : Option Addr} {cap : Nat} (h : code = k) (hk : k ≠ 0) (he : e = .returned (.tuple #[.slice c 0 cap, .int .i64 k])) (kk : Chg nob w w') : MmAns w code N f e w' :=
  ⟨c, cap, by rw [h, if_neg hk]; exact he, fun q => absurd (h.symm.trans q) hk, kk⟩
theorem MmAns.yes {w w' : World} {code : Int} {N : Nat} {f : Nat → Int} {e : Ending} {g cap : Nat} (h : code = 0) (hg : w.heap.size ≤ g) (he : e = .returned (.tuple #[.slice (some ⟨g, 0, none⟩) N cap, .int .i64 0])) (hr : w'.rowIs g 3 N (iv f)) (kk : Chg nob w w') : MmAns w code N f e w' :=
  ⟨some ⟨g, 0, none⟩, cap, by rw [if_pos h, h]; exact he, fun _ => ⟨g, hg, rfl, hr⟩, kk⟩

set_option maxHeartbeats 1000000 in
theorem isPow5_any (n : Nat) (w : World) (hn : n ≤ 1099511627776) : Calls Try.prog 26 #[.int .i64 (n : Int)] w fun e w' => e = .returned (.bool (q25 n)) ∧ w' = w := by
  by_cases h0 : 1 ≤ n
  · have h1 : 1 ≤ (n : Int) := by omega
    obtain ⟨b, hb⟩ : ∃ b, b = (bits .and .i64 (n : Int) ((n : Int) - 1) == 0) := ⟨_, rfl⟩
    have HQ := hik (show q25 n = b by unfold q25; rw [decide_eq_true h0, ← hb]; rfl)
    have v1 : IntKind.i64.wrap ((n : Int) - 1) = (n : Int) - 1 := by rw [IntKind.wrap_i64]; omega
    have hb' := hb.symm
    clear hb
    rw [HQ.out]
    cases b
    · go_enter Try.func26, Try.ntmps26
      go_wp2
      go_ret
      exact ⟨rfl, rfl⟩
    · go_enter Try.func26, Try.ntmps26
      go_wp2
      go_ret
      exact ⟨rfl, rfl⟩
  · obtain rfl : n = 0 := by omega
    go_enter Try.func26, Try.ntmps26
    go_wp2
    go_ret
    exact ⟨rfl, rfl⟩

set_option maxHeartbeats 1000000 in
theorem mulMx_any (c : Option Addr) (n cap : Nat) (X : Nat → En) (rows : Int) (cz : Option Addr) (m capz : Nat) (z : Nat → Int) (w : World) (hv : Hid (EntV w c n X)) (hz : Hid (RowV w cz m (iv z))) (hn : n ≤ 1099511627776) (hm : m ≤ 1099511627776) :
    Calls Try.prog 10 #[.slice c n cap, .int .i64 rows, .slice cz m capz] w fun e w' => MmAns w (mmc n X rows m z) (2 ^ rows.toNat) (rsE X z n) e w' := by
  by_cases h1 : 4096 < n
  · have h1' : (4096 : Int) < n := by omega
    have HC := hik (show mmc n X rows m z = 2 by simp [mmc, h1])
    go_enter Try.func10, Try.ntmps10
    go_wp2
    go_ret2
    exact MmAns.no HC.out (by omega) rfl (Chg.refl _ _)
  have h1' : ¬ (4096 : Int) < n := by omega
  by_cases h2 : 4096 < m
  · have h2' : (4096 : Int) < m := by omega
    have HC := hik (show mmc n X rows m z = 2 by simp [mmc, h2])
    go_enter Try.func10, Try.ntmps10
    go_wp2
    go_ret2
    exact MmAns.no HC.out (by omega) rfl (Chg.refl _ _)
  have h2' : ¬ (4096 : Int) < m := by omega
  have hC : mmc n X rows m z = if lgb rows = false ∨ p5 m = false then 4 else if elm (2 ^ rows.toNat) m n X = false ∨ fds m z = false then 1 else 0 := by unfold mmc; rw [if_neg (by omega)]
  cases h3 : lgb rows with
  | false =>
    have HC := hik (show mmc n X rows m z = 4 by rw [hC, if_pos (.inl h3)])
    clear hC
    go_enter Try.func10, Try.ntmps10
    go_wp2_with (go_at_call 25; refine (isLog_any _ _).mono ?_; rintro e w' ⟨rfl, hw⟩; have hw := hw.symm; subst hw)
    go_ret2
    exact MmAns.no HC.out (by omega) rfl (Chg.refl _ _)
  | true =>
  have hip := isPow5_any m w hm
  cases h4 : q25 m with
  | false =>
    have hp5 : p5 m = false := by
      by_cases h32 : m ≤ 32
      · rw [← q25_p5 h32]; exact h4
      · exact p5_high (by omega)
    have HC := hik (show mmc n X rows m z = 4 by rw [hC, if_pos (.inr hp5)])
    rw [h4] at hip
    clear hC hp5
    go_enter Try.func10, Try.ntmps10
    go_wp2_with (first | (go_at_call 25; refine (isLog_any _ _).mono ?_; rintro e w' ⟨rfl, hw⟩; have hw := hw.symm; subst hw) | (go_at_call 26; refine hip.mono ?_; rintro e w' ⟨rfl, hw⟩; have hw := hw.symm; subst hw))
    go_ret2
    exact MmAns.no HC.out (by omega) rfl (Chg.refl _ _)
  | true =>
  rw [h4] at hip
  by_cases h5 : 32 < m
  · have h5' : (32 : Int) < m := by omega
    have HC := hik (show mmc n X rows m z = 4 by rw [hC, if_pos (.inr (p5_high h5))])
    clear hC
    go_enter Try.func10, Try.ntmps10
    go_wp2_with (first | (go_at_call 25; refine (isLog_any _ _).mono ?_; rintro e w' ⟨rfl, hw⟩; have hw := hw.symm; subst hw) | (go_at_call 26; refine hip.mono ?_; rintro e w' ⟨rfl, hw⟩; have hw := hw.symm; subst hw))
    go_ret2
    exact MmAns.no HC.out (by omega) rfl (Chg.refl _ _)
  have h5' : ¬ (32 : Int) < m := by omega
  have hp5 : p5 m = true := by rw [← q25_p5 (by omega)]; exact h4
  have hr5 : 1 ≤ rows ∧ rows ≤ 5 := by simpa [lgb] using h3
  obtain ⟨rr, rfl⟩ : ∃ rr : Nat, rows = (rr : Int) := ⟨rows.toNat, by omega⟩
  rw [show ((rr : Nat) : Int).toNat = rr by omega] at hC ⊢
  rw [if_neg (by rw [h3, hp5]; simp)] at hC
  have hsh := wp2 rr (by omega)
  have hR32 := pow5 (show rr ≤ 5 by omega)
  have hpc := pow_cast rr
  have hmm := @run_makeMap Try.prog
  have G0 := hik (show Grd (w.alloc (.map #[] 0)) w.heap.size 0 (.map []) from World.ownsMap_made w _ _ _)
  have KB := hik ((Chg.refl nob w).alloc (.map #[] 0))
  have him := isMatrix_any w.heap.size 0 _ c n cap X (2 ^ rr) m _ G0 (hik (hv.out.keep KB.out)) hn (by rw [← hpc]; omega) (by omega)
  have HNE := hik (show ∀ k : Nat, k < w.heap.size → ¬ k = w.heap.size from fun k hk => by omega)
  cases h6 : elm (2 ^ rr) m n X with
  | false =>
    have HC := hik (show mmc n X ((rr : Nat) : Int) m z = 1 by rw [hC, if_pos (.inl h6)])
    rw [h6] at him
    clear hC hpc
    go_enter Try.func10, Try.ntmps10
    go_wp2_with (first | (go_at_call 25; refine (isLog_any _ _).mono ?_; rintro e w' ⟨rfl, hw⟩; have hw := hw.symm; subst hw) | (go_at_call 26; refine hip.mono ?_; rintro e w' ⟨rfl, hw⟩; have hw := hw.symm; subst hw) | (go_at_call 27; refine him.mono ?_; rintro e w1 ⟨rfl, g1, k1⟩; have K1 := hik (KB.out.near k1 (fun i e => by omega)); clear k1 g1))
    go_ret2
    exact MmAns.no HC.out (by omega) rfl K1.out
  | true =>
  have hfn := fun W (k : Hid (Chg nob w W)) => numsOK_any cz m capz z W (hik (hz.out.keep k.out)) hm
  cases h7 : fds m z with
  | false =>
    have HC := hik (show mmc n X ((rr : Nat) : Int) m z = 1 by rw [hC, if_pos (.inr h7)])
    rw [h6] at him
    rw [h7] at hfn
    clear hC hpc
    go_enter Try.func10, Try.ntmps10
    go_wp2_with (first | (go_at_call 25; refine (isLog_any _ _).mono ?_; rintro e w' ⟨rfl, hw⟩; have hw := hw.symm; subst hw) | (go_at_call 26; refine hip.mono ?_; rintro e w' ⟨rfl, hw⟩; have hw := hw.symm; subst hw) | (go_at_call 27; refine him.mono ?_; rintro e w1 ⟨rfl, g1, k1⟩; have K1 := hik (KB.out.near k1 (fun i e => by omega)); clear k1 g1) | (go_at_call 19; refine (hfn _ K1).mono ?_; rintro e w2 ⟨rfl, hw⟩; have hw := hw.symm; subst hw))
    go_ret2
    exact MmAns.no HC.out (by omega) rfl K1.out
  | true =>
  have HC := hik (show mmc n X ((rr : Nat) : Int) m z = 0 by rw [hC, if_neg (by rw [h6, h7]; simp)])
  rw [← hpc] at h6
  obtain ⟨n2, wX⟩ := elm_parts h6
  have HFD := hik (fun i (hi : i < m) => fds_at h7 hi)
  have hrs := fun W (k : Hid (Chg nob w W)) => rowSums_any c n cap X (2 ^ rr) cz m capz z W (hik (hv.out.keep k.out)) (hik (hz.out.keep k.out)) n2 (by omega) (by omega) (hik wX) HFD
  rw [hpc] at h6
  rw [h6] at him
  rw [h7] at hfn
  rw [hpc] at hrs
  generalize hR : 2 ^ rr = R at hrs
  clear hC hpc hR32 wX h7 h6
  go_enter Try.func10, Try.ntmps10
  go_wp2_with (first | (go_at_call 25; refine (isLog_any _ _).mono ?_; rintro e w' ⟨rfl, hw⟩; have hw := hw.symm; subst hw) | (go_at_call 26; refine hip.mono ?_; rintro e w' ⟨rfl, hw⟩; have hw := hw.symm; subst hw) | (go_at_call 27; refine him.mono ?_; rintro e w1 ⟨rfl, g1, k1⟩; have K1 := hik (KB.out.near k1 (fun i e => by omega)); clear k1 g1) | (go_at_call 19; refine (hfn _ K1).mono ?_; rintro e w2 ⟨rfl, hw⟩; have hw := hw.symm; subst hw) | (go_at_call 28; refine (hrs _ K1).mono ?_; rintro e w3 ⟨rfl, r3, k3⟩; have K3 := hik (K1.out.trans k3); have R3 := hik r3; clear k3 r3))
  go_ret2
  exact MmAns.yes HC.out K1.out.size rfl R3.out K3.out

end Go.Proofs.Ytjaopbaapldceaa
