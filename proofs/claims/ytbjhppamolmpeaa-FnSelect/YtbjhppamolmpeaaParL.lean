/- For the laws on settings: equal settings; what a selected setting has: contracts and plain facts. No condition but those that each theorem states. -/
import Derived.Test.YtbjhppamolmpeaaParQ
namespace Go.Proofs.Ytbjhppamolmpeaa
open Go.ChangeShapes Go.WideShapes Go.ChangeAt Go.RowKit
set_option linter.unusedVariables false
set_option maxRecDepth 100000
set_option linter.unusedSimpArgs false

set_option maxHeartbeats 1000000 in
theorem eqSetting_any (a b d : Int) (w : World) :
    Calls Try.prog 16 #[.agg #[.int .i64 a, .int .i64 b, .int .i64 d], .agg #[.int .i64 a, .int .i64 b, .int .i64 d]] w fun e w' => e = .returned (.bool true) ∧ Chg nob w w' := by
  go_enter Try.func16, Try.ntmps16
  go_wp2
  go_ret
  exact ⟨rfl, ((Chg.refl _ _).alloc _).alloc _⟩
theorem stb_mk {r q g : Int} (r0 : 1 ≤ r) (r1 : r ≤ 3) (q0 : 1 ≤ q) (q1 : q ≤ 8) (g0 : 0 ≤ g) (g1 : g ≤ 12) : stb r q g = true := decide_eq_true ⟨⟨r0, r1⟩, ⟨q0, q1⟩, g0, g1⟩
theorem btB_mk {b : Int} (b0 : 0 ≤ b) (b1 : b ≤ 16) : btB b = true := decide_eq_true ⟨b0, b1⟩
/-- No setting has the bits. -/
theorem sl_none {b g : Int} {r : Nat} (r0 : 1 ≤ r) (r1 : r < 4) (b0 : 0 ≤ b) (b1 : b ≤ 16) (g0 : 0 ≤ g) (g1 : g ≤ 12) (h : ¬ slQ b r g ≤ 8) :
    slC b r g = 16 ∧ slV b r g 0 = 0 ∧ slV b r g 1 = 0 ∧ slV b r g 2 = 0 ∧ qvC r 8 g = 0 ∧ qvV r 8 g = (qbN r 8 : Int) + g ∧ (qbN r 8 : Int) + g < b ∧ qbN r 8 < 8 := by
  have hs := stb_mk (r := r) (q := 8) (g := g) (by omega) (by omega) (by omega) (by omega) g0 g1
  have hs1 := stb_mk (r := r) (q := 1) (g := g) (by omega) (by omega) (by omega) (by omega) g0 g1
  have hb := btB_mk b0 b1
  have hc : slC b r g = 16 := by unfold slC slB; rw [hs1, hb, Bool.and_self, if_pos rfl, if_neg h]
  have hv : ∀ i, slV b r g i = 0 := fun i => by unfold slV; rw [hc, if_neg (by omega)]
  have hk := sl_k r r0 r1 b g b1 g0 8 (by omega) (by omega)
  rw [decide_eq_decide] at hk
  refine ⟨hc, hv 0, hv 1, hv 2, by unfold qvC; rw [hs]; rfl, by unfold qvV; rw [hs]; rfl, ?_, qb_lt r r1 r0 8 (by omega) (by omega)⟩
  have : ¬ (b ≤ (qbN r 8 : Int) + g) := fun q => h (hk.1 q)
  omega
/-- The setting that is selected. -/
theorem sl_some {b g : Int} {r : Nat} (r0 : 1 ≤ r) (r1 : r < 4) (b0 : 0 ≤ b) (b1 : b ≤ 16) (g0 : 0 ≤ g) (g1 : g ≤ 12) (h : slQ b r g ≤ 8) :
    ∃ K : Nat, 1 ≤ K ∧ K ≤ 8 ∧ slC b r g = 0 ∧ slV b r g 0 = r ∧ slV b r g 1 = (K : Int) ∧ slV b r g 2 = g ∧ qvC r K g = 0 ∧ qvV r K g = (qbN r K : Int) + g ∧ seC r K g b = 0 ∧ seV r K g b = true ∧ b ≤ (qbN r K : Int) + g ∧ qbN r K < 8 ∧ (1 < K → qvC r ((K : Int) - 1) g = 0 ∧ qvV r ((K : Int) - 1) g = (qbN r (K - 1) : Int) + g ∧ seC r ((K : Int) - 1) g b = 0 ∧ seV r ((K : Int) - 1) g b = false ∧ (qbN r (K - 1) : Int) + g < b ∧ qbN r (K - 1) ≤ qbN r K) := by
  have hl := (sl_low r r0 r1 b g b1 g0).1
  refine ⟨slQ b r g, by omega, h, ?_⟩
  have hk := fun q h1 h2 => sl_k r r0 r1 b g b1 g0 q h1 h2
  have h1 : 1 ≤ slQ b r g := by omega
  generalize hK : slQ b r g = K at h hk h1
  have hs := fun (q : Int) (q0 : 1 ≤ q) (q1 : q ≤ 8) => stb_mk (r := r) (q := q) (g := g) (by omega) (by omega) q0 q1 g0 g1
  have hb := btB_mk b0 b1
  have hc : slC b r g = 0 := by unfold slC slB; rw [hs 1 (by omega) (by omega), hb, Bool.and_self, if_pos rfl, hK, if_pos h]
  have e1 := hk K (by omega) h1
  rw [decide_eq_decide] at e1
  have e2 := e1.2 (Nat.le_refl _)
  have l2 := qb_lt r r1 r0 K (by omega) h1
  refine ⟨hc, by unfold slV; rw [hc]; rfl, by unfold slV; rw [hc, hK]; rfl, by unfold slV; rw [hc]; rfl, by unfold qvC; rw [hs _ (by omega) (by omega)]; rfl, by unfold qvV; rw [hs _ (by omega) (by omega)]; rfl, by unfold seC; rw [hs _ (by omega) (by omega), hb]; rfl, by unfold seV; rw [hs _ (by omega) (by omega), hb, Int.toNat_natCast, Int.toNat_natCast]; simpa using e2, e2, by omega, fun k1 => ?_⟩
  have e3 := hk (K - 1) (by omega) (by omega)
  rw [decide_eq_decide] at e3
  have e4 : ¬ (b ≤ (qbN r (K - 1) : Int) + g) := fun q => by have := e3.1 q; omega
  have m3 := qb_mono r r1 r0 K (by omega) h1
  have c1 : (K : Int) - 1 = ((K - 1 : Nat) : Int) := by omega
  rw [c1]
  refine ⟨by unfold qvC; rw [hs _ (by omega) (by omega)]; rfl, by unfold qvV; rw [hs _ (by omega) (by omega)]; rfl, by unfold seC; rw [hs _ (by omega) (by omega), hb]; rfl, by unfold seV; rw [hs _ (by omega) (by omega), hb, Int.toNat_natCast, Int.toNat_natCast]; simpa using e4, by omega, m3⟩
end Go.Proofs.Ytbjhppamolmpeaa
