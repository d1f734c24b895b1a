/- The first row that fails: the model's contracts; and whether there is none: both sides'. -/
import Derived.Test.YtjaopbaapldceaaFrwX
import Derived.Test.YtjaopbaapldceaaRsmS
import Derived.Test.YtjaopbaapldceaaSysS
namespace Go.Proofs.Ytjaopbaapldceaa
open Go.ChangeShapes Go.WideShapes Go.ChangeAt Go.RowKit
set_option linter.unusedVariables false
set_option maxRecDepth 100000
set_option linter.unusedSimpArgs false

set_option maxHeartbeats 2000000 in
theorem sat_any (s : Sy) (a : SyA) (c : Option Addr) (m cap : Nat) (z : Nat → Int) (w : World) (hv : Hid (SyV w s a)) (hs : s.small) (hz : Hid (RowV w c m (iv z))) (hm : m ≤ 1099511627776) :
    Calls Try.prog 13 #[.agg #[.int .i64 s.r, .int .i64 s.q, .int .i64 s.p, .slice a.cA s.nA a.pA, .slice a.cB s.nB a.pB, .slice a.cC s.nC a.pC], .slice c m cap] w fun e w' => e = .returned (.tuple #[.bool (stv s m z).1, .int .i64 (stv s m z).2]) ∧ Chg nob w w' := by
  have KB := hik ((Chg.refl nob w).alloc (.cells #[.int .i64 s.r, .int .i64 s.q, .int .i64 s.p, .slice a.cA s.nA a.pA, .slice a.cB s.nB a.pB, .slice a.cC s.nC a.pC] 25))
  have hco := failedRow_any s a c m cap z (w.alloc (.cells #[.int .i64 s.r, .int .i64 s.q, .int .i64 s.p, .slice a.cA s.nA a.pA, .slice a.cB s.nB a.pB, .slice a.cC s.nC a.pC] 25)) (hik (hv.out.keep KB.out)) hs (hik (hz.out.keep KB.out)) hm
  have hst : stv s m z = if (frv s m z).2 = 5 then (true, 0) else (false, (frv s m z).2) := by
    unfold stv frv
    by_cases h0 : cfc s m z = 0
    · rw [if_pos h0, if_pos h0]
      cases frr s z with
      | none => simp [frm, frj]
      | some i => simp [frm, frj]; first | omega | exact decide_eq_false (by omega)
    · rw [if_neg h0, if_neg h0, if_neg (cfc_five s m z)]
  have HV := hik hst
  clear hst
  generalize frv s m z = F at hco HV
  obtain ⟨f1, f2⟩ := F
  simp only at hco HV
  by_cases h5 : f2 = 5
  · subst h5
    go_enter Try.func13, Try.ntmps13
    go_wp2_with fail
    refine hco.mono ?_
    rintro e w1 ⟨rfl, k1⟩
    have K1 := hik (KB.out.trans k1)
    clear k1 hco
    go_wp2
    go_ret2
    exact ⟨by rw [HV.out]; rfl, K1.out⟩
  · have h5' : (f2 == 5) = false := by simp [h5]
    rw [if_neg h5] at HV
    go_enter Try.func13, Try.ntmps13
    go_wp2_with fail
    refine hco.mono ?_
    rintro e w1 ⟨rfl, k1⟩
    have K1 := hik (KB.out.trans k1)
    clear k1 hco
    go_wp2
    go_ret2
    exact ⟨by rw [HV.out]; rfl, K1.out⟩


end Go.Proofs.Ytjaopbaapldceaa
