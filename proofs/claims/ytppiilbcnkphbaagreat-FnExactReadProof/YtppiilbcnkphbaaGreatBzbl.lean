/- Several texts in one: What ReadOpening tells is small: plain. · What ReadProof tells is small: plain. -/
import Derived.Test.YtppiilbcnkphbaaGreatBzap
import Derived.Test.YtppiilbcnkphbaaGreatBzao
import Derived.Test.YtppiilbcnkphbaaGreatBzbm
namespace Go.Proofs.YtppiilbcnkphbaaGreat
open Go.ChangeShapes Go.WideShapes Go.ChangeAt Go.RowKit
set_option linter.unusedVariables false
theorem sumN_bd (f : Nat → Nat) (B : Nat) (h : ∀ i, f i ≤ B) : ∀ n, sumN f n ≤ n * B
  | 0 => Nat.zero_le _
  | n + 1 => by
    have a := sumN_bd f B h n
    have b := h n
    rw [Nat.succ_mul]
    simp only [sumN]
    omega
theorem rdO_mc (z : Nat → Int) (v r q k : Nat) (hv : v ≤ 6) (hr : r ≤ 3) (hq : q ≤ 8) : (rdO z v r q k).mc ≤ 100000 := by
  have h1 := sumN_bd (rdO z v r q k).rl 3 (fun _ => Nat.le_refl 3) (rdO z v r q k).nr
  have h2 := sumN_bd (fun i => ((rdO z v r q k).q i).mc) 1000 (fun i => by
    have h3 := sumN_bd ((rdO z v r q k).q i).l 9 (fun j => by show v + r - 1 - j ≤ 9; omega) ((rdO z v r q k).q i).nq
    unfold QD.mc
    have e1 : ((rdO z v r q k).q i).np = 2 * v := rfl
    have e2 : ((rdO z v r q k).q i).nq = v := rfl
    rw [e2] at h3 ⊢
    rw [e1]
    omega) (rdO z v r q k).nq
  have e3 : (rdO z v r q k).nr = v := rfl
  have e4 : (rdO z v r q k).nq = q := rfl
  have e5 : (rdO z v r q k).nt = v - 1 := rfl
  unfold OD.mc
  rw [e3] at h1 ⊢
  rw [e4] at h2 ⊢
  rw [e5]
  omega

end Go.Proofs.YtppiilbcnkphbaaGreat

namespace Go.Proofs.YtppiilbcnkphbaaGreat
open Go.ChangeShapes Go.WideShapes Go.ChangeAt Go.RowKit
set_option linter.unusedVariables false
theorem prv_small (n : Nat) (z : Nat → Int) (s : Sy) (r q g : Int) : (prv n z s r q g).small ∧ (prv n z s r q g).mc ≤ 200000 := by
  unfold prv
  by_cases hc : prc n z s r q g = 0
  · rw [if_pos hc]
    unfold prc at hc
    by_cases h1 : 65536 < n
    · rw [if_pos h1] at hc
      omega
    · rw [if_neg h1] at hc
      cases hs : (sysb s && stb r q g)
      · rw [hs, if_neg (by decide)] at hc
        omega
      · have hb : sysb s = true ∧ stb r q g = true := by simpa using hs
        obtain ⟨R0, R1, C0, C1⟩ := sysb_b9 hb.1
        obtain ⟨⟨r0, r1⟩, ⟨q0, q1⟩, g0, g1⟩ := stb_parts hb.2
        refine ⟨rdP_small z _ _ _ _ 0 (by omega) (by omega) (by omega) (by omega), ?_⟩
        have a1 := rdO_mc z (s.q.toNat - 1) r.toNat q.toNat (0 + 32 + 32 * s.r.toNat + 24 + 24 * s.q.toNat + 8) (by omega) (by omega) (by omega)
        have a2 := sumN_bd (rdP z s.r.toNat s.q.toNat r.toNat q.toNat 0).gl 4 (fun _ => Nat.le_refl 4) s.r.toNat
        have a3 := sumN_bd (rdP z s.r.toNat s.q.toNat r.toNat q.toNat 0).wl 3 (fun _ => Nat.le_refl 3) s.q.toNat
        show 2 * sumN (rdP z s.r.toNat s.q.toNat r.toNat q.toNat 0).gl s.r.toNat + 2 * sumN (rdP z s.r.toNat s.q.toNat r.toNat q.toNat 0).wl s.q.toNat + (rdO z (s.q.toNat - 1) r.toNat q.toNat (0 + 32 + 32 * s.r.toNat + 24 + 24 * s.q.toNat + 8)).mc ≤ 200000
        omega
  · rw [if_neg hc]
    refine ⟨⟨by decide, ⟨by decide, fun i j hi => absurd hi (by show ¬ i < 0; omega)⟩, ⟨by decide, fun i j hi => absurd hi (by show ¬ i < 0; omega)⟩, ⟨⟨by decide, fun i j hi => absurd hi (by show ¬ i < 0; omega)⟩, ⟨by decide, fun i hi => absurd hi (by show ¬ i < 0; omega)⟩, ⟨by decide, fun i j hi => absurd hi (by show ¬ i < 0; omega)⟩⟩⟩, by decide⟩

end Go.Proofs.YtppiilbcnkphbaaGreat
