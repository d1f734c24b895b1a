/- How many gates of a kind a circuit has: the model's contract. -/
import Derived.Test.YtgimmmmiodlepaaDoorCirS
import Derived.Test.YtgimmmmiodlepaaDoorCouM
namespace Go.Proofs.YtgimmmmiodlepaaDoor
open Go.ChangeShapes Go.WideShapes Go.ChangeAt Go.RowKit
set_option linter.unusedVariables false
set_option maxRecDepth 100000
set_option linter.unusedSimpArgs false


set_option maxHeartbeats 4000000 in
theorem sCountOf_any (c : Option Addr) (n cap : Nat) (G : Nat → Gt) (o : Int) (w : World) (hv : Hid (GatV w c n G)) (hn : n ≤ 1099511627776) :
    Calls Tryd.prog 16 #[.agg #[.slice c n cap], .int .i64 o] w fun e w' => e = .returned (.tuple #[.int .i64 (cnv n G o), .int .i64 (cnc n G o)]) ∧ Chg nob w w' := by
  have KB := hik ((Chg.refl nob w).alloc (.cells #[.slice c n cap] 25))
  have x0 : World.cell? (w.alloc (.cells #[.slice c n cap] 25)) ⟨w.heap.size, 0, none⟩ = some (.slice c n cap) := by go_simp
  have hok := sCircuitOK_any c n cap G (w.alloc (.cells #[.slice c n cap] 25)) (hik (hv.out.keep KB.out)) hn
  cases h1 : crb n G with
  | false =>
    have HC := hik (show cnc n G o = 19 by unfold cnc; rw [if_pos h1])
    have HV := hik (show cnv n G o = 0 by unfold cnv; rw [HC.out]; rfl)
    rw [h1] at hok
    rw [HC.out, HV.out]
    go_enter Tryd.func16, Tryd.ntmps16
    go_wp2_with (go_at_call 12; refine hok.mono ?_; rintro e W1 ⟨rfl, k1⟩; have K1 := hik (KB.out.trans k1); have x1 := k1.look x0; clear k1)
    go_ret2
    exact ⟨rfl, K1.out⟩
  | true =>
  rw [h1] at hok
  by_cases ho : 1 ≤ o ∧ o ≤ 8
  · have HC := hik (show cnc n G o = 0 by unfold cnc; rw [if_neg (by rw [h1]; simp), if_neg (fun q => q ho)])
    have HV := hik (show cnv n G o = (ctg o n G : Nat) by unfold cnv; rw [HC.out]; rfl)
    rw [HC.out, HV.out]
    have hop : inW o 1 8 = true := by exact decide_eq_true ho
    have hct := fun W (k : Hid (Chg nob w W)) => sCount_any c n cap G o W (hik (hv.out.keep k.out)) hn
    generalize ctg o n G = C at hct
    go_enter Tryd.func16, Tryd.ntmps16
    go_wp2_with (first | (go_at_call 12; refine hok.mono ?_; rintro e W1 ⟨rfl, k1⟩; have K1 := hik (KB.out.trans k1); have x1 := k1.look x0; clear k1) | (go_at_call 41; refine (l01In_any _ _ _ _).mono ?_; rw [hop]; rintro e w' ⟨rfl, hw⟩; have hw := hw.symm; subst hw) | (go_at_call 42; refine (hct _ K1).mono ?_; rintro e W2 ⟨rfl, k2⟩; have K2 := hik (K1.out.trans k2); clear k2))
    go_ret2
    exact ⟨rfl, K2.out⟩
  · have HC := hik (show cnc n G o = 4 by unfold cnc; rw [if_neg (by rw [h1]; simp), if_pos ho])
    have HV := hik (show cnv n G o = 0 by unfold cnv; rw [HC.out]; rfl)
    rw [HC.out, HV.out]
    have hop : inW o 1 8 = false := by exact decide_eq_false ho
    go_enter Tryd.func16, Tryd.ntmps16
    go_wp2_with (first | (go_at_call 12; refine hok.mono ?_; rintro e W1 ⟨rfl, k1⟩; have K1 := hik (KB.out.trans k1); have x1 := k1.look x0; clear k1) | (go_at_call 41; refine (l01In_any _ _ _ _).mono ?_; rw [hop]; rintro e w' ⟨rfl, hw⟩; have hw := hw.symm; subst hw))
    go_ret2
    exact ⟨rfl, K1.out⟩
end Go.Proofs.YtgimmmmiodlepaaDoor
