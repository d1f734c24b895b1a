/- Several texts in one: What the model's BoundTable answers: a contract. Conditions: rows that can be read, lengths of at most 2 to the 40. · What the program's BoundTable answers: a contract. Conditions: rows that can be read, lengths of at most 2 to the 40. -/
import Derived.Test.YtkfahghcbkdafaaBzaw
import Derived.Test.YtkfahghcbkdafaaLawSy
namespace Go.Proofs.Ytkfahghcbkdafaa
open Go.ChangeShapes Go.WideShapes Go.ChangeAt Go.RowKit
set_option linter.unusedVariables false
set_option maxRecDepth 100000
set_option linter.unusedSimpArgs false

theorem pairs3 (W : World) (a2 b2 a3 b3 a4 b4 : Int) : PairV (W.alloc (.cells #[.int .i64 a2, .int .i64 b2, .int .i64 a3, .int .i64 b3, .int .i64 a4, .int .i64 b4] 38)) (some ⟨W.heap.size, 0, none⟩) 3 (pk3 a2 a3 a4) (pk3 b2 b3 b4) := by
  intro i hi
  refine ⟨W.heap.size, 0, rfl, by simp, ?_, ?_⟩ <;> (rcases (show i = 0 ∨ i = 1 ∨ i = 2 by omega) with rfl | rfl | rfl <;> simp [pk3])

set_option maxHeartbeats 4000000 in
theorem sBoundX_any (s : Sy) (a : SyA) (cx : Option Addr) (n capx : Nat) (f g : Nat → Int) (a2 b2 a3 b3 a4 b4 : Int) (w : World) (hv : Hid (SyV w s a)) (hs : s.small) (hp : Hid (PairV w cx n f g)) (hn : n ≤ 1099511627776) :
    Calls Try.prog 6 #[.agg #[.int .i64 s.r, .int .i64 s.q, .int .i64 s.p, .slice a.cA s.nA a.pA, .slice a.cB s.nB a.pB, .slice a.cC s.nC a.pC], .slice cx n capx, .agg #[.int .i64 a2, .int .i64 b2], .agg #[.int .i64 a3, .int .i64 b3], .agg #[.int .i64 a4, .int .i64 b4]] w fun e w' => TbC w (bdc s n f g (pk3 a2 a3 a4) (pk3 b2 b3 b4)) (bdn s n f g (pk3 a2 a3 a4) (pk3 b2 b3 b4)) (bdv s n f g (pk3 a2 a3 a4) (pk3 b2 b3 b4)) e w' := by
  by_cases h1 : 4096 < n
  · have h1' : (4096 : Int) < n := by omega
    have HC := hik (show bdc s n f g (pk3 a2 a3 a4) (pk3 b2 b3 b4) = 2 by simp [bdc, h1])
    have HM := hik (show bdn s n f g (pk3 a2 a3 a4) (pk3 b2 b3 b4) = 0 by unfold bdn; rw [HC.out]; rfl)
    have KB := hik (((((Chg.refl nob w).alloc (.cells #[.int .i64 s.r, .int .i64 s.q, .int .i64 s.p, .slice a.cA s.nA a.pA, .slice a.cB s.nB a.pB, .slice a.cC s.nC a.pC] 35)).alloc (.cells #[.int .i64 a2, .int .i64 b2] 38)).alloc (.cells #[.int .i64 a3, .int .i64 b3] 38)).alloc (.cells #[.int .i64 a4, .int .i64 b4] 38))
    have x0 : World.cell? ((((w.alloc (.cells #[.int .i64 s.r, .int .i64 s.q, .int .i64 s.p, .slice a.cA s.nA a.pA, .slice a.cB s.nB a.pB, .slice a.cC s.nC a.pC] 35)).alloc (.cells #[.int .i64 a2, .int .i64 b2] 38)).alloc (.cells #[.int .i64 a3, .int .i64 b3] 38)).alloc (.cells #[.int .i64 a4, .int .i64 b4] 38)) ⟨w.heap.size, 0, none⟩ = some (.int .i64 s.r) := by go_simp
    have x1 : World.cell? ((((w.alloc (.cells #[.int .i64 s.r, .int .i64 s.q, .int .i64 s.p, .slice a.cA s.nA a.pA, .slice a.cB s.nB a.pB, .slice a.cC s.nC a.pC] 35)).alloc (.cells #[.int .i64 a2, .int .i64 b2] 38)).alloc (.cells #[.int .i64 a3, .int .i64 b3] 38)).alloc (.cells #[.int .i64 a4, .int .i64 b4] 38)) ⟨w.heap.size, 1, none⟩ = some (.int .i64 s.q) := by go_simp
    have x2 : World.cell? ((((w.alloc (.cells #[.int .i64 s.r, .int .i64 s.q, .int .i64 s.p, .slice a.cA s.nA a.pA, .slice a.cB s.nB a.pB, .slice a.cC s.nC a.pC] 35)).alloc (.cells #[.int .i64 a2, .int .i64 b2] 38)).alloc (.cells #[.int .i64 a3, .int .i64 b3] 38)).alloc (.cells #[.int .i64 a4, .int .i64 b4] 38)) ⟨w.heap.size, 2, none⟩ = some (.int .i64 s.p) := by go_simp
    have x3 : World.cell? ((((w.alloc (.cells #[.int .i64 s.r, .int .i64 s.q, .int .i64 s.p, .slice a.cA s.nA a.pA, .slice a.cB s.nB a.pB, .slice a.cC s.nC a.pC] 35)).alloc (.cells #[.int .i64 a2, .int .i64 b2] 38)).alloc (.cells #[.int .i64 a3, .int .i64 b3] 38)).alloc (.cells #[.int .i64 a4, .int .i64 b4] 38)) ⟨w.heap.size, 3, none⟩ = some (.slice a.cA s.nA a.pA) := by go_simp
    have x4 : World.cell? ((((w.alloc (.cells #[.int .i64 s.r, .int .i64 s.q, .int .i64 s.p, .slice a.cA s.nA a.pA, .slice a.cB s.nB a.pB, .slice a.cC s.nC a.pC] 35)).alloc (.cells #[.int .i64 a2, .int .i64 b2] 38)).alloc (.cells #[.int .i64 a3, .int .i64 b3] 38)).alloc (.cells #[.int .i64 a4, .int .i64 b4] 38)) ⟨w.heap.size, 4, none⟩ = some (.slice a.cB s.nB a.pB) := by go_simp
    have x5 : World.cell? ((((w.alloc (.cells #[.int .i64 s.r, .int .i64 s.q, .int .i64 s.p, .slice a.cA s.nA a.pA, .slice a.cB s.nB a.pB, .slice a.cC s.nC a.pC] 35)).alloc (.cells #[.int .i64 a2, .int .i64 b2] 38)).alloc (.cells #[.int .i64 a3, .int .i64 b3] 38)).alloc (.cells #[.int .i64 a4, .int .i64 b4] 38)) ⟨w.heap.size, 5, none⟩ = some (.slice a.cC s.nC a.pC) := by go_simp
    have p0 : World.cell? ((((w.alloc (.cells #[.int .i64 s.r, .int .i64 s.q, .int .i64 s.p, .slice a.cA s.nA a.pA, .slice a.cB s.nB a.pB, .slice a.cC s.nC a.pC] 35)).alloc (.cells #[.int .i64 a2, .int .i64 b2] 38)).alloc (.cells #[.int .i64 a3, .int .i64 b3] 38)).alloc (.cells #[.int .i64 a4, .int .i64 b4] 38)) ⟨w.heap.size + 1, 0, none⟩ = some (.int .i64 a2) := by go_simp
    have p1 : World.cell? ((((w.alloc (.cells #[.int .i64 s.r, .int .i64 s.q, .int .i64 s.p, .slice a.cA s.nA a.pA, .slice a.cB s.nB a.pB, .slice a.cC s.nC a.pC] 35)).alloc (.cells #[.int .i64 a2, .int .i64 b2] 38)).alloc (.cells #[.int .i64 a3, .int .i64 b3] 38)).alloc (.cells #[.int .i64 a4, .int .i64 b4] 38)) ⟨w.heap.size + 1, 1, none⟩ = some (.int .i64 b2) := by go_simp
    have q0 : World.cell? ((((w.alloc (.cells #[.int .i64 s.r, .int .i64 s.q, .int .i64 s.p, .slice a.cA s.nA a.pA, .slice a.cB s.nB a.pB, .slice a.cC s.nC a.pC] 35)).alloc (.cells #[.int .i64 a2, .int .i64 b2] 38)).alloc (.cells #[.int .i64 a3, .int .i64 b3] 38)).alloc (.cells #[.int .i64 a4, .int .i64 b4] 38)) ⟨w.heap.size + 2, 0, none⟩ = some (.int .i64 a3) := by go_simp
    have q1 : World.cell? ((((w.alloc (.cells #[.int .i64 s.r, .int .i64 s.q, .int .i64 s.p, .slice a.cA s.nA a.pA, .slice a.cB s.nB a.pB, .slice a.cC s.nC a.pC] 35)).alloc (.cells #[.int .i64 a2, .int .i64 b2] 38)).alloc (.cells #[.int .i64 a3, .int .i64 b3] 38)).alloc (.cells #[.int .i64 a4, .int .i64 b4] 38)) ⟨w.heap.size + 2, 1, none⟩ = some (.int .i64 b3) := by go_simp
    have r0 : World.cell? ((((w.alloc (.cells #[.int .i64 s.r, .int .i64 s.q, .int .i64 s.p, .slice a.cA s.nA a.pA, .slice a.cB s.nB a.pB, .slice a.cC s.nC a.pC] 35)).alloc (.cells #[.int .i64 a2, .int .i64 b2] 38)).alloc (.cells #[.int .i64 a3, .int .i64 b3] 38)).alloc (.cells #[.int .i64 a4, .int .i64 b4] 38)) ⟨w.heap.size + 3, 0, none⟩ = some (.int .i64 a4) := by go_simp
    have r1 : World.cell? ((((w.alloc (.cells #[.int .i64 s.r, .int .i64 s.q, .int .i64 s.p, .slice a.cA s.nA a.pA, .slice a.cB s.nB a.pB, .slice a.cC s.nC a.pC] 35)).alloc (.cells #[.int .i64 a2, .int .i64 b2] 38)).alloc (.cells #[.int .i64 a3, .int .i64 b3] 38)).alloc (.cells #[.int .i64 a4, .int .i64 b4] 38)) ⟨w.heap.size + 3, 1, none⟩ = some (.int .i64 b4) := by go_simp
    have BX := hik (cel6 x0 x1 x2 x3 x4 x5)
    go_enter Try.func6, Try.ntmps6
    go_upto_region 1 with fail
    have EX := hik (show (World.cell? (((((w.alloc (.cells #[.int .i64 s.r, .int .i64 s.q, .int .i64 s.p, .slice a.cA s.nA a.pA, .slice a.cB s.nB a.pB, .slice a.cC s.nC a.pC] 35)).alloc (.cells #[.int .i64 a2, .int .i64 b2] 38)).alloc (.cells #[.int .i64 a3, .int .i64 b3] 38)).alloc (.cells #[.int .i64 a4, .int .i64 b4] 38))) ⟨w.heap.size + 1, 0, none⟩ = some (.int .i64 a2) ∧ World.cell? (((((w.alloc (.cells #[.int .i64 s.r, .int .i64 s.q, .int .i64 s.p, .slice a.cA s.nA a.pA, .slice a.cB s.nB a.pB, .slice a.cC s.nC a.pC] 35)).alloc (.cells #[.int .i64 a2, .int .i64 b2] 38)).alloc (.cells #[.int .i64 a3, .int .i64 b3] 38)).alloc (.cells #[.int .i64 a4, .int .i64 b4] 38))) ⟨w.heap.size + 1, 1, none⟩ = some (.int .i64 b2) ∧ World.cell? (((((w.alloc (.cells #[.int .i64 s.r, .int .i64 s.q, .int .i64 s.p, .slice a.cA s.nA a.pA, .slice a.cB s.nB a.pB, .slice a.cC s.nC a.pC] 35)).alloc (.cells #[.int .i64 a2, .int .i64 b2] 38)).alloc (.cells #[.int .i64 a3, .int .i64 b3] 38)).alloc (.cells #[.int .i64 a4, .int .i64 b4] 38))) ⟨w.heap.size + 2, 0, none⟩ = some (.int .i64 a3) ∧ World.cell? (((((w.alloc (.cells #[.int .i64 s.r, .int .i64 s.q, .int .i64 s.p, .slice a.cA s.nA a.pA, .slice a.cB s.nB a.pB, .slice a.cC s.nC a.pC] 35)).alloc (.cells #[.int .i64 a2, .int .i64 b2] 38)).alloc (.cells #[.int .i64 a3, .int .i64 b3] 38)).alloc (.cells #[.int .i64 a4, .int .i64 b4] 38))) ⟨w.heap.size + 2, 1, none⟩ = some (.int .i64 b3) ∧ World.cell? (((((w.alloc (.cells #[.int .i64 s.r, .int .i64 s.q, .int .i64 s.p, .slice a.cA s.nA a.pA, .slice a.cB s.nB a.pB, .slice a.cC s.nC a.pC] 35)).alloc (.cells #[.int .i64 a2, .int .i64 b2] 38)).alloc (.cells #[.int .i64 a3, .int .i64 b3] 38)).alloc (.cells #[.int .i64 a4, .int .i64 b4] 38))) ⟨w.heap.size + 3, 0, none⟩ = some (.int .i64 a4) ∧ World.cell? (((((w.alloc (.cells #[.int .i64 s.r, .int .i64 s.q, .int .i64 s.p, .slice a.cA s.nA a.pA, .slice a.cB s.nB a.pB, .slice a.cC s.nC a.pC] 35)).alloc (.cells #[.int .i64 a2, .int .i64 b2] 38)).alloc (.cells #[.int .i64 a3, .int .i64 b3] 38)).alloc (.cells #[.int .i64 a4, .int .i64 b4] 38))) ⟨w.heap.size + 3, 1, none⟩ = some (.int .i64 b4)) from ⟨p0, p1, q0, q1, r0, r1⟩)
    clear x0 x1 x2 x3 x4 x5 p0 p1 q0 q1 r0 r1
    generalize ((((w.alloc (.cells #[.int .i64 s.r, .int .i64 s.q, .int .i64 s.p, .slice a.cA s.nA a.pA, .slice a.cB s.nB a.pB, .slice a.cC s.nC a.pC] 35)).alloc (.cells #[.int .i64 a2, .int .i64 b2] 38)).alloc (.cells #[.int .i64 a3, .int .i64 b3] 38)).alloc (.cells #[.int .i64 a4, .int .i64 b4] 38)) = B at KB BX EX ⊢
    go_wp2
    go_ret2
    exact TbC.empty HC.out HM.out (by omega) (KB.out.alloc _)
  have h1' : ¬ (4096 : Int) < n := by omega
  have hC : bdc s n f g (pk3 a2 a3 a4) (pk3 b2 b3 b4) = if sysb s = false ∨ okP f g n = false ∨ okP (pk3 a2 a3 a4) (pk3 b2 b3 b4) 3 = false then 1 else if ¬ (n : Int) = s.r then 8 else 0 := by unfold bdc; rw [if_neg h1]
  cases h2 : sysb s with
  | false =>
    have HC := hik (show bdc s n f g (pk3 a2 a3 a4) (pk3 b2 b3 b4) = 1 by rw [hC, if_pos (.inl h2)])
    have HM := hik (show bdn s n f g (pk3 a2 a3 a4) (pk3 b2 b3 b4) = 0 by unfold bdn; rw [HC.out]; rfl)
    have H2 := hik h2
    clear hC h2
    have KB := hik (((((Chg.refl nob w).alloc (.cells #[.int .i64 s.r, .int .i64 s.q, .int .i64 s.p, .slice a.cA s.nA a.pA, .slice a.cB s.nB a.pB, .slice a.cC s.nC a.pC] 35)).alloc (.cells #[.int .i64 a2, .int .i64 b2] 38)).alloc (.cells #[.int .i64 a3, .int .i64 b3] 38)).alloc (.cells #[.int .i64 a4, .int .i64 b4] 38))
    have x0 : World.cell? ((((w.alloc (.cells #[.int .i64 s.r, .int .i64 s.q, .int .i64 s.p, .slice a.cA s.nA a.pA, .slice a.cB s.nB a.pB, .slice a.cC s.nC a.pC] 35)).alloc (.cells #[.int .i64 a2, .int .i64 b2] 38)).alloc (.cells #[.int .i64 a3, .int .i64 b3] 38)).alloc (.cells #[.int .i64 a4, .int .i64 b4] 38)) ⟨w.heap.size, 0, none⟩ = some (.int .i64 s.r) := by go_simp
    have x1 : World.cell? ((((w.alloc (.cells #[.int .i64 s.r, .int .i64 s.q, .int .i64 s.p, .slice a.cA s.nA a.pA, .slice a.cB s.nB a.pB, .slice a.cC s.nC a.pC] 35)).alloc (.cells #[.int .i64 a2, .int .i64 b2] 38)).alloc (.cells #[.int .i64 a3, .int .i64 b3] 38)).alloc (.cells #[.int .i64 a4, .int .i64 b4] 38)) ⟨w.heap.size, 1, none⟩ = some (.int .i64 s.q) := by go_simp
    have x2 : World.cell? ((((w.alloc (.cells #[.int .i64 s.r, .int .i64 s.q, .int .i64 s.p, .slice a.cA s.nA a.pA, .slice a.cB s.nB a.pB, .slice a.cC s.nC a.pC] 35)).alloc (.cells #[.int .i64 a2, .int .i64 b2] 38)).alloc (.cells #[.int .i64 a3, .int .i64 b3] 38)).alloc (.cells #[.int .i64 a4, .int .i64 b4] 38)) ⟨w.heap.size, 2, none⟩ = some (.int .i64 s.p) := by go_simp
    have x3 : World.cell? ((((w.alloc (.cells #[.int .i64 s.r, .int .i64 s.q, .int .i64 s.p, .slice a.cA s.nA a.pA, .slice a.cB s.nB a.pB, .slice a.cC s.nC a.pC] 35)).alloc (.cells #[.int .i64 a2, .int .i64 b2] 38)).alloc (.cells #[.int .i64 a3, .int .i64 b3] 38)).alloc (.cells #[.int .i64 a4, .int .i64 b4] 38)) ⟨w.heap.size, 3, none⟩ = some (.slice a.cA s.nA a.pA) := by go_simp
    have x4 : World.cell? ((((w.alloc (.cells #[.int .i64 s.r, .int .i64 s.q, .int .i64 s.p, .slice a.cA s.nA a.pA, .slice a.cB s.nB a.pB, .slice a.cC s.nC a.pC] 35)).alloc (.cells #[.int .i64 a2, .int .i64 b2] 38)).alloc (.cells #[.int .i64 a3, .int .i64 b3] 38)).alloc (.cells #[.int .i64 a4, .int .i64 b4] 38)) ⟨w.heap.size, 4, none⟩ = some (.slice a.cB s.nB a.pB) := by go_simp
    have x5 : World.cell? ((((w.alloc (.cells #[.int .i64 s.r, .int .i64 s.q, .int .i64 s.p, .slice a.cA s.nA a.pA, .slice a.cB s.nB a.pB, .slice a.cC s.nC a.pC] 35)).alloc (.cells #[.int .i64 a2, .int .i64 b2] 38)).alloc (.cells #[.int .i64 a3, .int .i64 b3] 38)).alloc (.cells #[.int .i64 a4, .int .i64 b4] 38)) ⟨w.heap.size, 5, none⟩ = some (.slice a.cC s.nC a.pC) := by go_simp
    have p0 : World.cell? ((((w.alloc (.cells #[.int .i64 s.r, .int .i64 s.q, .int .i64 s.p, .slice a.cA s.nA a.pA, .slice a.cB s.nB a.pB, .slice a.cC s.nC a.pC] 35)).alloc (.cells #[.int .i64 a2, .int .i64 b2] 38)).alloc (.cells #[.int .i64 a3, .int .i64 b3] 38)).alloc (.cells #[.int .i64 a4, .int .i64 b4] 38)) ⟨w.heap.size + 1, 0, none⟩ = some (.int .i64 a2) := by go_simp
    have p1 : World.cell? ((((w.alloc (.cells #[.int .i64 s.r, .int .i64 s.q, .int .i64 s.p, .slice a.cA s.nA a.pA, .slice a.cB s.nB a.pB, .slice a.cC s.nC a.pC] 35)).alloc (.cells #[.int .i64 a2, .int .i64 b2] 38)).alloc (.cells #[.int .i64 a3, .int .i64 b3] 38)).alloc (.cells #[.int .i64 a4, .int .i64 b4] 38)) ⟨w.heap.size + 1, 1, none⟩ = some (.int .i64 b2) := by go_simp
    have q0 : World.cell? ((((w.alloc (.cells #[.int .i64 s.r, .int .i64 s.q, .int .i64 s.p, .slice a.cA s.nA a.pA, .slice a.cB s.nB a.pB, .slice a.cC s.nC a.pC] 35)).alloc (.cells #[.int .i64 a2, .int .i64 b2] 38)).alloc (.cells #[.int .i64 a3, .int .i64 b3] 38)).alloc (.cells #[.int .i64 a4, .int .i64 b4] 38)) ⟨w.heap.size + 2, 0, none⟩ = some (.int .i64 a3) := by go_simp
    have q1 : World.cell? ((((w.alloc (.cells #[.int .i64 s.r, .int .i64 s.q, .int .i64 s.p, .slice a.cA s.nA a.pA, .slice a.cB s.nB a.pB, .slice a.cC s.nC a.pC] 35)).alloc (.cells #[.int .i64 a2, .int .i64 b2] 38)).alloc (.cells #[.int .i64 a3, .int .i64 b3] 38)).alloc (.cells #[.int .i64 a4, .int .i64 b4] 38)) ⟨w.heap.size + 2, 1, none⟩ = some (.int .i64 b3) := by go_simp
    have r0 : World.cell? ((((w.alloc (.cells #[.int .i64 s.r, .int .i64 s.q, .int .i64 s.p, .slice a.cA s.nA a.pA, .slice a.cB s.nB a.pB, .slice a.cC s.nC a.pC] 35)).alloc (.cells #[.int .i64 a2, .int .i64 b2] 38)).alloc (.cells #[.int .i64 a3, .int .i64 b3] 38)).alloc (.cells #[.int .i64 a4, .int .i64 b4] 38)) ⟨w.heap.size + 3, 0, none⟩ = some (.int .i64 a4) := by go_simp
    have r1 : World.cell? ((((w.alloc (.cells #[.int .i64 s.r, .int .i64 s.q, .int .i64 s.p, .slice a.cA s.nA a.pA, .slice a.cB s.nB a.pB, .slice a.cC s.nC a.pC] 35)).alloc (.cells #[.int .i64 a2, .int .i64 b2] 38)).alloc (.cells #[.int .i64 a3, .int .i64 b3] 38)).alloc (.cells #[.int .i64 a4, .int .i64 b4] 38)) ⟨w.heap.size + 3, 1, none⟩ = some (.int .i64 b4) := by go_simp
    have BX := hik (cel6 x0 x1 x2 x3 x4 x5)
    go_enter Try.func6, Try.ntmps6
    go_upto_region 1 with fail
    have EX := hik (show (World.cell? (((((w.alloc (.cells #[.int .i64 s.r, .int .i64 s.q, .int .i64 s.p, .slice a.cA s.nA a.pA, .slice a.cB s.nB a.pB, .slice a.cC s.nC a.pC] 35)).alloc (.cells #[.int .i64 a2, .int .i64 b2] 38)).alloc (.cells #[.int .i64 a3, .int .i64 b3] 38)).alloc (.cells #[.int .i64 a4, .int .i64 b4] 38))) ⟨w.heap.size + 1, 0, none⟩ = some (.int .i64 a2) ∧ World.cell? (((((w.alloc (.cells #[.int .i64 s.r, .int .i64 s.q, .int .i64 s.p, .slice a.cA s.nA a.pA, .slice a.cB s.nB a.pB, .slice a.cC s.nC a.pC] 35)).alloc (.cells #[.int .i64 a2, .int .i64 b2] 38)).alloc (.cells #[.int .i64 a3, .int .i64 b3] 38)).alloc (.cells #[.int .i64 a4, .int .i64 b4] 38))) ⟨w.heap.size + 1, 1, none⟩ = some (.int .i64 b2) ∧ World.cell? (((((w.alloc (.cells #[.int .i64 s.r, .int .i64 s.q, .int .i64 s.p, .slice a.cA s.nA a.pA, .slice a.cB s.nB a.pB, .slice a.cC s.nC a.pC] 35)).alloc (.cells #[.int .i64 a2, .int .i64 b2] 38)).alloc (.cells #[.int .i64 a3, .int .i64 b3] 38)).alloc (.cells #[.int .i64 a4, .int .i64 b4] 38))) ⟨w.heap.size + 2, 0, none⟩ = some (.int .i64 a3) ∧ World.cell? (((((w.alloc (.cells #[.int .i64 s.r, .int .i64 s.q, .int .i64 s.p, .slice a.cA s.nA a.pA, .slice a.cB s.nB a.pB, .slice a.cC s.nC a.pC] 35)).alloc (.cells #[.int .i64 a2, .int .i64 b2] 38)).alloc (.cells #[.int .i64 a3, .int .i64 b3] 38)).alloc (.cells #[.int .i64 a4, .int .i64 b4] 38))) ⟨w.heap.size + 2, 1, none⟩ = some (.int .i64 b3) ∧ World.cell? (((((w.alloc (.cells #[.int .i64 s.r, .int .i64 s.q, .int .i64 s.p, .slice a.cA s.nA a.pA, .slice a.cB s.nB a.pB, .slice a.cC s.nC a.pC] 35)).alloc (.cells #[.int .i64 a2, .int .i64 b2] 38)).alloc (.cells #[.int .i64 a3, .int .i64 b3] 38)).alloc (.cells #[.int .i64 a4, .int .i64 b4] 38))) ⟨w.heap.size + 3, 0, none⟩ = some (.int .i64 a4) ∧ World.cell? (((((w.alloc (.cells #[.int .i64 s.r, .int .i64 s.q, .int .i64 s.p, .slice a.cA s.nA a.pA, .slice a.cB s.nB a.pB, .slice a.cC s.nC a.pC] 35)).alloc (.cells #[.int .i64 a2, .int .i64 b2] 38)).alloc (.cells #[.int .i64 a3, .int .i64 b3] 38)).alloc (.cells #[.int .i64 a4, .int .i64 b4] 38))) ⟨w.heap.size + 3, 1, none⟩ = some (.int .i64 b4)) from ⟨p0, p1, q0, q1, r0, r1⟩)
    clear x0 x1 x2 x3 x4 x5 p0 p1 q0 q1 r0 r1
    generalize ((((w.alloc (.cells #[.int .i64 s.r, .int .i64 s.q, .int .i64 s.p, .slice a.cA s.nA a.pA, .slice a.cB s.nB a.pB, .slice a.cC s.nC a.pC] 35)).alloc (.cells #[.int .i64 a2, .int .i64 b2] 38)).alloc (.cells #[.int .i64 a3, .int .i64 b3] 38)).alloc (.cells #[.int .i64 a4, .int .i64 b4] 38)) = B at KB BX EX ⊢
    obtain ⟨x0, x1, x2, x3, x4, x5⟩ := BX.out.six
    go_wp2_with fail
    refine (sSysOK_any s a _ (hik (hv.out.keep KB.out)) hs).mono ?_
    rw [H2.out]
    rintro e W1 ⟨rfl, k1⟩
    replace KB := hik (KB.out.trans k1)
    replace BX := hik (BX.out.keep k1)
    replace EX := hik (show World.cell? _ ⟨w.heap.size + 1, 0, none⟩ = some (.int .i64 a2) ∧ World.cell? _ ⟨w.heap.size + 1, 1, none⟩ = some (.int .i64 b2) ∧ World.cell? _ ⟨w.heap.size + 2, 0, none⟩ = some (.int .i64 a3) ∧ World.cell? _ ⟨w.heap.size + 2, 1, none⟩ = some (.int .i64 b3) ∧ World.cell? _ ⟨w.heap.size + 3, 0, none⟩ = some (.int .i64 a4) ∧ World.cell? _ ⟨w.heap.size + 3, 1, none⟩ = some (.int .i64 b4) from ⟨k1.see EX.out.1, k1.see EX.out.2.1, k1.see EX.out.2.2.1, k1.see EX.out.2.2.2.1, k1.see EX.out.2.2.2.2.1, k1.see EX.out.2.2.2.2.2⟩)
    clear k1 x0 x1 x2 x3 x4 x5
    go_wp2
    go_ret2
    exact TbC.empty HC.out HM.out (by omega) (KB.out.alloc _)
  | true =>
  have H2 := hik h2
  cases h3 : okP f g n with
  | false =>
    have HC := hik (show bdc s n f g (pk3 a2 a3 a4) (pk3 b2 b3 b4) = 1 by rw [hC, if_pos (.inr (.inl h3))])
    have HM := hik (show bdn s n f g (pk3 a2 a3 a4) (pk3 b2 b3 b4) = 0 by unfold bdn; rw [HC.out]; rfl)
    have H3 := hik h3
    clear hC h2 h3
    have KB := hik (((((Chg.refl nob w).alloc (.cells #[.int .i64 s.r, .int .i64 s.q, .int .i64 s.p, .slice a.cA s.nA a.pA, .slice a.cB s.nB a.pB, .slice a.cC s.nC a.pC] 35)).alloc (.cells #[.int .i64 a2, .int .i64 b2] 38)).alloc (.cells #[.int .i64 a3, .int .i64 b3] 38)).alloc (.cells #[.int .i64 a4, .int .i64 b4] 38))
    have x0 : World.cell? ((((w.alloc (.cells #[.int .i64 s.r, .int .i64 s.q, .int .i64 s.p, .slice a.cA s.nA a.pA, .slice a.cB s.nB a.pB, .slice a.cC s.nC a.pC] 35)).alloc (.cells #[.int .i64 a2, .int .i64 b2] 38)).alloc (.cells #[.int .i64 a3, .int .i64 b3] 38)).alloc (.cells #[.int .i64 a4, .int .i64 b4] 38)) ⟨w.heap.size, 0, none⟩ = some (.int .i64 s.r) := by go_simp
    have x1 : World.cell? ((((w.alloc (.cells #[.int .i64 s.r, .int .i64 s.q, .int .i64 s.p, .slice a.cA s.nA a.pA, .slice a.cB s.nB a.pB, .slice a.cC s.nC a.pC] 35)).alloc (.cells #[.int .i64 a2, .int .i64 b2] 38)).alloc (.cells #[.int .i64 a3, .int .i64 b3] 38)).alloc (.cells #[.int .i64 a4, .int .i64 b4] 38)) ⟨w.heap.size, 1, none⟩ = some (.int .i64 s.q) := by go_simp
    have x2 : World.cell? ((((w.alloc (.cells #[.int .i64 s.r, .int .i64 s.q, .int .i64 s.p, .slice a.cA s.nA a.pA, .slice a.cB s.nB a.pB, .slice a.cC s.nC a.pC] 35)).alloc (.cells #[.int .i64 a2, .int .i64 b2] 38)).alloc (.cells #[.int .i64 a3, .int .i64 b3] 38)).alloc (.cells #[.int .i64 a4, .int .i64 b4] 38)) ⟨w.heap.size, 2, none⟩ = some (.int .i64 s.p) := by go_simp
    have x3 : World.cell? ((((w.alloc (.cells #[.int .i64 s.r, .int .i64 s.q, .int .i64 s.p, .slice a.cA s.nA a.pA, .slice a.cB s.nB a.pB, .slice a.cC s.nC a.pC] 35)).alloc (.cells #[.int .i64 a2, .int .i64 b2] 38)).alloc (.cells #[.int .i64 a3, .int .i64 b3] 38)).alloc (.cells #[.int .i64 a4, .int .i64 b4] 38)) ⟨w.heap.size, 3, none⟩ = some (.slice a.cA s.nA a.pA) := by go_simp
    have x4 : World.cell? ((((w.alloc (.cells #[.int .i64 s.r, .int .i64 s.q, .int .i64 s.p, .slice a.cA s.nA a.pA, .slice a.cB s.nB a.pB, .slice a.cC s.nC a.pC] 35)).alloc (.cells #[.int .i64 a2, .int .i64 b2] 38)).alloc (.cells #[.int .i64 a3, .int .i64 b3] 38)).alloc (.cells #[.int .i64 a4, .int .i64 b4] 38)) ⟨w.heap.size, 4, none⟩ = some (.slice a.cB s.nB a.pB) := by go_simp
    have x5 : World.cell? ((((w.alloc (.cells #[.int .i64 s.r, .int .i64 s.q, .int .i64 s.p, .slice a.cA s.nA a.pA, .slice a.cB s.nB a.pB, .slice a.cC s.nC a.pC] 35)).alloc (.cells #[.int .i64 a2, .int .i64 b2] 38)).alloc (.cells #[.int .i64 a3, .int .i64 b3] 38)).alloc (.cells #[.int .i64 a4, .int .i64 b4] 38)) ⟨w.heap.size, 5, none⟩ = some (.slice a.cC s.nC a.pC) := by go_simp
    have p0 : World.cell? ((((w.alloc (.cells #[.int .i64 s.r, .int .i64 s.q, .int .i64 s.p, .slice a.cA s.nA a.pA, .slice a.cB s.nB a.pB, .slice a.cC s.nC a.pC] 35)).alloc (.cells #[.int .i64 a2, .int .i64 b2] 38)).alloc (.cells #[.int .i64 a3, .int .i64 b3] 38)).alloc (.cells #[.int .i64 a4, .int .i64 b4] 38)) ⟨w.heap.size + 1, 0, none⟩ = some (.int .i64 a2) := by go_simp
    have p1 : World.cell? ((((w.alloc (.cells #[.int .i64 s.r, .int .i64 s.q, .int .i64 s.p, .slice a.cA s.nA a.pA, .slice a.cB s.nB a.pB, .slice a.cC s.nC a.pC] 35)).alloc (.cells #[.int .i64 a2, .int .i64 b2] 38)).alloc (.cells #[.int .i64 a3, .int .i64 b3] 38)).alloc (.cells #[.int .i64 a4, .int .i64 b4] 38)) ⟨w.heap.size + 1, 1, none⟩ = some (.int .i64 b2) := by go_simp
    have q0 : World.cell? ((((w.alloc (.cells #[.int .i64 s.r, .int .i64 s.q, .int .i64 s.p, .slice a.cA s.nA a.pA, .slice a.cB s.nB a.pB, .slice a.cC s.nC a.pC] 35)).alloc (.cells #[.int .i64 a2, .int .i64 b2] 38)).alloc (.cells #[.int .i64 a3, .int .i64 b3] 38)).alloc (.cells #[.int .i64 a4, .int .i64 b4] 38)) ⟨w.heap.size + 2, 0, none⟩ = some (.int .i64 a3) := by go_simp
    have q1 : World.cell? ((((w.alloc (.cells #[.int .i64 s.r, .int .i64 s.q, .int .i64 s.p, .slice a.cA s.nA a.pA, .slice a.cB s.nB a.pB, .slice a.cC s.nC a.pC] 35)).alloc (.cells #[.int .i64 a2, .int .i64 b2] 38)).alloc (.cells #[.int .i64 a3, .int .i64 b3] 38)).alloc (.cells #[.int .i64 a4, .int .i64 b4] 38)) ⟨w.heap.size + 2, 1, none⟩ = some (.int .i64 b3) := by go_simp
    have r0 : World.cell? ((((w.alloc (.cells #[.int .i64 s.r, .int .i64 s.q, .int .i64 s.p, .slice a.cA s.nA a.pA, .slice a.cB s.nB a.pB, .slice a.cC s.nC a.pC] 35)).alloc (.cells #[.int .i64 a2, .int .i64 b2] 38)).alloc (.cells #[.int .i64 a3, .int .i64 b3] 38)).alloc (.cells #[.int .i64 a4, .int .i64 b4] 38)) ⟨w.heap.size + 3, 0, none⟩ = some (.int .i64 a4) := by go_simp
    have r1 : World.cell? ((((w.alloc (.cells #[.int .i64 s.r, .int .i64 s.q, .int .i64 s.p, .slice a.cA s.nA a.pA, .slice a.cB s.nB a.pB, .slice a.cC s.nC a.pC] 35)).alloc (.cells #[.int .i64 a2, .int .i64 b2] 38)).alloc (.cells #[.int .i64 a3, .int .i64 b3] 38)).alloc (.cells #[.int .i64 a4, .int .i64 b4] 38)) ⟨w.heap.size + 3, 1, none⟩ = some (.int .i64 b4) := by go_simp
    have BX := hik (cel6 x0 x1 x2 x3 x4 x5)
    go_enter Try.func6, Try.ntmps6
    go_upto_region 1 with fail
    have EX := hik (show (World.cell? (((((w.alloc (.cells #[.int .i64 s.r, .int .i64 s.q, .int .i64 s.p, .slice a.cA s.nA a.pA, .slice a.cB s.nB a.pB, .slice a.cC s.nC a.pC] 35)).alloc (.cells #[.int .i64 a2, .int .i64 b2] 38)).alloc (.cells #[.int .i64 a3, .int .i64 b3] 38)).alloc (.cells #[.int .i64 a4, .int .i64 b4] 38))) ⟨w.heap.size + 1, 0, none⟩ = some (.int .i64 a2) ∧ World.cell? (((((w.alloc (.cells #[.int .i64 s.r, .int .i64 s.q, .int .i64 s.p, .slice a.cA s.nA a.pA, .slice a.cB s.nB a.pB, .slice a.cC s.nC a.pC] 35)).alloc (.cells #[.int .i64 a2, .int .i64 b2] 38)).alloc (.cells #[.int .i64 a3, .int .i64 b3] 38)).alloc (.cells #[.int .i64 a4, .int .i64 b4] 38))) ⟨w.heap.size + 1, 1, none⟩ = some (.int .i64 b2) ∧ World.cell? (((((w.alloc (.cells #[.int .i64 s.r, .int .i64 s.q, .int .i64 s.p, .slice a.cA s.nA a.pA, .slice a.cB s.nB a.pB, .slice a.cC s.nC a.pC] 35)).alloc (.cells #[.int .i64 a2, .int .i64 b2] 38)).alloc (.cells #[.int .i64 a3, .int .i64 b3] 38)).alloc (.cells #[.int .i64 a4, .int .i64 b4] 38))) ⟨w.heap.size + 2, 0, none⟩ = some (.int .i64 a3) ∧ World.cell? (((((w.alloc (.cells #[.int .i64 s.r, .int .i64 s.q, .int .i64 s.p, .slice a.cA s.nA a.pA, .slice a.cB s.nB a.pB, .slice a.cC s.nC a.pC] 35)).alloc (.cells #[.int .i64 a2, .int .i64 b2] 38)).alloc (.cells #[.int .i64 a3, .int .i64 b3] 38)).alloc (.cells #[.int .i64 a4, .int .i64 b4] 38))) ⟨w.heap.size + 2, 1, none⟩ = some (.int .i64 b3) ∧ World.cell? (((((w.alloc (.cells #[.int .i64 s.r, .int .i64 s.q, .int .i64 s.p, .slice a.cA s.nA a.pA, .slice a.cB s.nB a.pB, .slice a.cC s.nC a.pC] 35)).alloc (.cells #[.int .i64 a2, .int .i64 b2] 38)).alloc (.cells #[.int .i64 a3, .int .i64 b3] 38)).alloc (.cells #[.int .i64 a4, .int .i64 b4] 38))) ⟨w.heap.size + 3, 0, none⟩ = some (.int .i64 a4) ∧ World.cell? (((((w.alloc (.cells #[.int .i64 s.r, .int .i64 s.q, .int .i64 s.p, .slice a.cA s.nA a.pA, .slice a.cB s.nB a.pB, .slice a.cC s.nC a.pC] 35)).alloc (.cells #[.int .i64 a2, .int .i64 b2] 38)).alloc (.cells #[.int .i64 a3, .int .i64 b3] 38)).alloc (.cells #[.int .i64 a4, .int .i64 b4] 38))) ⟨w.heap.size + 3, 1, none⟩ = some (.int .i64 b4)) from ⟨p0, p1, q0, q1, r0, r1⟩)
    clear x0 x1 x2 x3 x4 x5 p0 p1 q0 q1 r0 r1
    generalize ((((w.alloc (.cells #[.int .i64 s.r, .int .i64 s.q, .int .i64 s.p, .slice a.cA s.nA a.pA, .slice a.cB s.nB a.pB, .slice a.cC s.nC a.pC] 35)).alloc (.cells #[.int .i64 a2, .int .i64 b2] 38)).alloc (.cells #[.int .i64 a3, .int .i64 b3] 38)).alloc (.cells #[.int .i64 a4, .int .i64 b4] 38)) = B at KB BX EX ⊢
    obtain ⟨x0, x1, x2, x3, x4, x5⟩ := BX.out.six
    go_wp2_with fail
    refine (sSysOK_any s a _ (hik (hv.out.keep KB.out)) hs).mono ?_
    rw [H2.out]
    rintro e W1 ⟨rfl, k1⟩
    replace KB := hik (KB.out.trans k1)
    replace BX := hik (BX.out.keep k1)
    replace EX := hik (show World.cell? _ ⟨w.heap.size + 1, 0, none⟩ = some (.int .i64 a2) ∧ World.cell? _ ⟨w.heap.size + 1, 1, none⟩ = some (.int .i64 b2) ∧ World.cell? _ ⟨w.heap.size + 2, 0, none⟩ = some (.int .i64 a3) ∧ World.cell? _ ⟨w.heap.size + 2, 1, none⟩ = some (.int .i64 b3) ∧ World.cell? _ ⟨w.heap.size + 3, 0, none⟩ = some (.int .i64 a4) ∧ World.cell? _ ⟨w.heap.size + 3, 1, none⟩ = some (.int .i64 b4) from ⟨k1.see EX.out.1, k1.see EX.out.2.1, k1.see EX.out.2.2.1, k1.see EX.out.2.2.2.1, k1.see EX.out.2.2.2.2.1, k1.see EX.out.2.2.2.2.2⟩)
    clear k1 x0 x1 x2 x3 x4 x5
    go_wp2_with fail
    refine (l02List_any cx n capx f g _ (hik (PairV.keep hp.out KB.out)) hn).mono ?_
    rw [H3.out]
    rintro e W2 ⟨rfl, k2⟩
    replace KB := hik (KB.out.trans k2)
    replace BX := hik (BX.out.keep k2)
    replace EX := hik (show World.cell? _ ⟨w.heap.size + 1, 0, none⟩ = some (.int .i64 a2) ∧ World.cell? _ ⟨w.heap.size + 1, 1, none⟩ = some (.int .i64 b2) ∧ World.cell? _ ⟨w.heap.size + 2, 0, none⟩ = some (.int .i64 a3) ∧ World.cell? _ ⟨w.heap.size + 2, 1, none⟩ = some (.int .i64 b3) ∧ World.cell? _ ⟨w.heap.size + 3, 0, none⟩ = some (.int .i64 a4) ∧ World.cell? _ ⟨w.heap.size + 3, 1, none⟩ = some (.int .i64 b4) from ⟨k2.see EX.out.1, k2.see EX.out.2.1, k2.see EX.out.2.2.1, k2.see EX.out.2.2.2.1, k2.see EX.out.2.2.2.2.1, k2.see EX.out.2.2.2.2.2⟩)
    clear k2
    go_wp2
    go_ret2
    exact TbC.empty HC.out HM.out (by omega) (KB.out.alloc _)
  | true =>
  have H3 := hik h3
  cases h4 : okP (pk3 a2 a3 a4) (pk3 b2 b3 b4) 3 with
  | false =>
    have HC := hik (show bdc s n f g (pk3 a2 a3 a4) (pk3 b2 b3 b4) = 1 by rw [hC, if_pos (.inr (.inr h4))])
    have HM := hik (show bdn s n f g (pk3 a2 a3 a4) (pk3 b2 b3 b4) = 0 by unfold bdn; rw [HC.out]; rfl)
    have H4 := hik h4
    clear hC h2 h3 h4
    have KB := hik (((((Chg.refl nob w).alloc (.cells #[.int .i64 s.r, .int .i64 s.q, .int .i64 s.p, .slice a.cA s.nA a.pA, .slice a.cB s.nB a.pB, .slice a.cC s.nC a.pC] 35)).alloc (.cells #[.int .i64 a2, .int .i64 b2] 38)).alloc (.cells #[.int .i64 a3, .int .i64 b3] 38)).alloc (.cells #[.int .i64 a4, .int .i64 b4] 38))
    have x0 : World.cell? ((((w.alloc (.cells #[.int .i64 s.r, .int .i64 s.q, .int .i64 s.p, .slice a.cA s.nA a.pA, .slice a.cB s.nB a.pB, .slice a.cC s.nC a.pC] 35)).alloc (.cells #[.int .i64 a2, .int .i64 b2] 38)).alloc (.cells #[.int .i64 a3, .int .i64 b3] 38)).alloc (.cells #[.int .i64 a4, .int .i64 b4] 38)) ⟨w.heap.size, 0, none⟩ = some (.int .i64 s.r) := by go_simp
    have x1 : World.cell? ((((w.alloc (.cells #[.int .i64 s.r, .int .i64 s.q, .int .i64 s.p, .slice a.cA s.nA a.pA, .slice a.cB s.nB a.pB, .slice a.cC s.nC a.pC] 35)).alloc (.cells #[.int .i64 a2, .int .i64 b2] 38)).alloc (.cells #[.int .i64 a3, .int .i64 b3] 38)).alloc (.cells #[.int .i64 a4, .int .i64 b4] 38)) ⟨w.heap.size, 1, none⟩ = some (.int .i64 s.q) := by go_simp
    have x2 : World.cell? ((((w.alloc (.cells #[.int .i64 s.r, .int .i64 s.q, .int .i64 s.p, .slice a.cA s.nA a.pA, .slice a.cB s.nB a.pB, .slice a.cC s.nC a.pC] 35)).alloc (.cells #[.int .i64 a2, .int .i64 b2] 38)).alloc (.cells #[.int .i64 a3, .int .i64 b3] 38)).alloc (.cells #[.int .i64 a4, .int .i64 b4] 38)) ⟨w.heap.size, 2, none⟩ = some (.int .i64 s.p) := by go_simp
    have x3 : World.cell? ((((w.alloc (.cells #[.int .i64 s.r, .int .i64 s.q, .int .i64 s.p, .slice a.cA s.nA a.pA, .slice a.cB s.nB a.pB, .slice a.cC s.nC a.pC] 35)).alloc (.cells #[.int .i64 a2, .int .i64 b2] 38)).alloc (.cells #[.int .i64 a3, .int .i64 b3] 38)).alloc (.cells #[.int .i64 a4, .int .i64 b4] 38)) ⟨w.heap.size, 3, none⟩ = some (.slice a.cA s.nA a.pA) := by go_simp
    have x4 : World.cell? ((((w.alloc (.cells #[.int .i64 s.r, .int .i64 s.q, .int .i64 s.p, .slice a.cA s.nA a.pA, .slice a.cB s.nB a.pB, .slice a.cC s.nC a.pC] 35)).alloc (.cells #[.int .i64 a2, .int .i64 b2] 38)).alloc (.cells #[.int .i64 a3, .int .i64 b3] 38)).alloc (.cells #[.int .i64 a4, .int .i64 b4] 38)) ⟨w.heap.size, 4, none⟩ = some (.slice a.cB s.nB a.pB) := by go_simp
    have x5 : World.cell? ((((w.alloc (.cells #[.int .i64 s.r, .int .i64 s.q, .int .i64 s.p, .slice a.cA s.nA a.pA, .slice a.cB s.nB a.pB, .slice a.cC s.nC a.pC] 35)).alloc (.cells #[.int .i64 a2, .int .i64 b2] 38)).alloc (.cells #[.int .i64 a3, .int .i64 b3] 38)).alloc (.cells #[.int .i64 a4, .int .i64 b4] 38)) ⟨w.heap.size, 5, none⟩ = some (.slice a.cC s.nC a.pC) := by go_simp
    have p0 : World.cell? ((((w.alloc (.cells #[.int .i64 s.r, .int .i64 s.q, .int .i64 s.p, .slice a.cA s.nA a.pA, .slice a.cB s.nB a.pB, .slice a.cC s.nC a.pC] 35)).alloc (.cells #[.int .i64 a2, .int .i64 b2] 38)).alloc (.cells #[.int .i64 a3, .int .i64 b3] 38)).alloc (.cells #[.int .i64 a4, .int .i64 b4] 38)) ⟨w.heap.size + 1, 0, none⟩ = some (.int .i64 a2) := by go_simp
    have p1 : World.cell? ((((w.alloc (.cells #[.int .i64 s.r, .int .i64 s.q, .int .i64 s.p, .slice a.cA s.nA a.pA, .slice a.cB s.nB a.pB, .slice a.cC s.nC a.pC] 35)).alloc (.cells #[.int .i64 a2, .int .i64 b2] 38)).alloc (.cells #[.int .i64 a3, .int .i64 b3] 38)).alloc (.cells #[.int .i64 a4, .int .i64 b4] 38)) ⟨w.heap.size + 1, 1, none⟩ = some (.int .i64 b2) := by go_simp
    have q0 : World.cell? ((((w.alloc (.cells #[.int .i64 s.r, .int .i64 s.q, .int .i64 s.p, .slice a.cA s.nA a.pA, .slice a.cB s.nB a.pB, .slice a.cC s.nC a.pC] 35)).alloc (.cells #[.int .i64 a2, .int .i64 b2] 38)).alloc (.cells #[.int .i64 a3, .int .i64 b3] 38)).alloc (.cells #[.int .i64 a4, .int .i64 b4] 38)) ⟨w.heap.size + 2, 0, none⟩ = some (.int .i64 a3) := by go_simp
    have q1 : World.cell? ((((w.alloc (.cells #[.int .i64 s.r, .int .i64 s.q, .int .i64 s.p, .slice a.cA s.nA a.pA, .slice a.cB s.nB a.pB, .slice a.cC s.nC a.pC] 35)).alloc (.cells #[.int .i64 a2, .int .i64 b2] 38)).alloc (.cells #[.int .i64 a3, .int .i64 b3] 38)).alloc (.cells #[.int .i64 a4, .int .i64 b4] 38)) ⟨w.heap.size + 2, 1, none⟩ = some (.int .i64 b3) := by go_simp
    have r0 : World.cell? ((((w.alloc (.cells #[.int .i64 s.r, .int .i64 s.q, .int .i64 s.p, .slice a.cA s.nA a.pA, .slice a.cB s.nB a.pB, .slice a.cC s.nC a.pC] 35)).alloc (.cells #[.int .i64 a2, .int .i64 b2] 38)).alloc (.cells #[.int .i64 a3, .int .i64 b3] 38)).alloc (.cells #[.int .i64 a4, .int .i64 b4] 38)) ⟨w.heap.size + 3, 0, none⟩ = some (.int .i64 a4) := by go_simp
    have r1 : World.cell? ((((w.alloc (.cells #[.int .i64 s.r, .int .i64 s.q, .int .i64 s.p, .slice a.cA s.nA a.pA, .slice a.cB s.nB a.pB, .slice a.cC s.nC a.pC] 35)).alloc (.cells #[.int .i64 a2, .int .i64 b2] 38)).alloc (.cells #[.int .i64 a3, .int .i64 b3] 38)).alloc (.cells #[.int .i64 a4, .int .i64 b4] 38)) ⟨w.heap.size + 3, 1, none⟩ = some (.int .i64 b4) := by go_simp
    have BX := hik (cel6 x0 x1 x2 x3 x4 x5)
    go_enter Try.func6, Try.ntmps6
    go_upto_region 1 with fail
    have EX := hik (show (World.cell? (((((w.alloc (.cells #[.int .i64 s.r, .int .i64 s.q, .int .i64 s.p, .slice a.cA s.nA a.pA, .slice a.cB s.nB a.pB, .slice a.cC s.nC a.pC] 35)).alloc (.cells #[.int .i64 a2, .int .i64 b2] 38)).alloc (.cells #[.int .i64 a3, .int .i64 b3] 38)).alloc (.cells #[.int .i64 a4, .int .i64 b4] 38))) ⟨w.heap.size + 1, 0, none⟩ = some (.int .i64 a2) ∧ World.cell? (((((w.alloc (.cells #[.int .i64 s.r, .int .i64 s.q, .int .i64 s.p, .slice a.cA s.nA a.pA, .slice a.cB s.nB a.pB, .slice a.cC s.nC a.pC] 35)).alloc (.cells #[.int .i64 a2, .int .i64 b2] 38)).alloc (.cells #[.int .i64 a3, .int .i64 b3] 38)).alloc (.cells #[.int .i64 a4, .int .i64 b4] 38))) ⟨w.heap.size + 1, 1, none⟩ = some (.int .i64 b2) ∧ World.cell? (((((w.alloc (.cells #[.int .i64 s.r, .int .i64 s.q, .int .i64 s.p, .slice a.cA s.nA a.pA, .slice a.cB s.nB a.pB, .slice a.cC s.nC a.pC] 35)).alloc (.cells #[.int .i64 a2, .int .i64 b2] 38)).alloc (.cells #[.int .i64 a3, .int .i64 b3] 38)).alloc (.cells #[.int .i64 a4, .int .i64 b4] 38))) ⟨w.heap.size + 2, 0, none⟩ = some (.int .i64 a3) ∧ World.cell? (((((w.alloc (.cells #[.int .i64 s.r, .int .i64 s.q, .int .i64 s.p, .slice a.cA s.nA a.pA, .slice a.cB s.nB a.pB, .slice a.cC s.nC a.pC] 35)).alloc (.cells #[.int .i64 a2, .int .i64 b2] 38)).alloc (.cells #[.int .i64 a3, .int .i64 b3] 38)).alloc (.cells #[.int .i64 a4, .int .i64 b4] 38))) ⟨w.heap.size + 2, 1, none⟩ = some (.int .i64 b3) ∧ World.cell? (((((w.alloc (.cells #[.int .i64 s.r, .int .i64 s.q, .int .i64 s.p, .slice a.cA s.nA a.pA, .slice a.cB s.nB a.pB, .slice a.cC s.nC a.pC] 35)).alloc (.cells #[.int .i64 a2, .int .i64 b2] 38)).alloc (.cells #[.int .i64 a3, .int .i64 b3] 38)).alloc (.cells #[.int .i64 a4, .int .i64 b4] 38))) ⟨w.heap.size + 3, 0, none⟩ = some (.int .i64 a4) ∧ World.cell? (((((w.alloc (.cells #[.int .i64 s.r, .int .i64 s.q, .int .i64 s.p, .slice a.cA s.nA a.pA, .slice a.cB s.nB a.pB, .slice a.cC s.nC a.pC] 35)).alloc (.cells #[.int .i64 a2, .int .i64 b2] 38)).alloc (.cells #[.int .i64 a3, .int .i64 b3] 38)).alloc (.cells #[.int .i64 a4, .int .i64 b4] 38))) ⟨w.heap.size + 3, 1, none⟩ = some (.int .i64 b4)) from ⟨p0, p1, q0, q1, r0, r1⟩)
    clear x0 x1 x2 x3 x4 x5 p0 p1 q0 q1 r0 r1
    generalize ((((w.alloc (.cells #[.int .i64 s.r, .int .i64 s.q, .int .i64 s.p, .slice a.cA s.nA a.pA, .slice a.cB s.nB a.pB, .slice a.cC s.nC a.pC] 35)).alloc (.cells #[.int .i64 a2, .int .i64 b2] 38)).alloc (.cells #[.int .i64 a3, .int .i64 b3] 38)).alloc (.cells #[.int .i64 a4, .int .i64 b4] 38)) = B at KB BX EX ⊢
    obtain ⟨x0, x1, x2, x3, x4, x5⟩ := BX.out.six
    go_wp2_with fail
    refine (sSysOK_any s a _ (hik (hv.out.keep KB.out)) hs).mono ?_
    rw [H2.out]
    rintro e W1 ⟨rfl, k1⟩
    replace KB := hik (KB.out.trans k1)
    replace BX := hik (BX.out.keep k1)
    replace EX := hik (show World.cell? _ ⟨w.heap.size + 1, 0, none⟩ = some (.int .i64 a2) ∧ World.cell? _ ⟨w.heap.size + 1, 1, none⟩ = some (.int .i64 b2) ∧ World.cell? _ ⟨w.heap.size + 2, 0, none⟩ = some (.int .i64 a3) ∧ World.cell? _ ⟨w.heap.size + 2, 1, none⟩ = some (.int .i64 b3) ∧ World.cell? _ ⟨w.heap.size + 3, 0, none⟩ = some (.int .i64 a4) ∧ World.cell? _ ⟨w.heap.size + 3, 1, none⟩ = some (.int .i64 b4) from ⟨k1.see EX.out.1, k1.see EX.out.2.1, k1.see EX.out.2.2.1, k1.see EX.out.2.2.2.1, k1.see EX.out.2.2.2.2.1, k1.see EX.out.2.2.2.2.2⟩)
    clear k1 x0 x1 x2 x3 x4 x5
    go_wp2_with fail
    refine (l02List_any cx n capx f g _ (hik (PairV.keep hp.out KB.out)) hn).mono ?_
    rw [H3.out]
    rintro e W2 ⟨rfl, k2⟩
    replace KB := hik (KB.out.trans k2)
    replace BX := hik (BX.out.keep k2)
    replace EX := hik (show World.cell? _ ⟨w.heap.size + 1, 0, none⟩ = some (.int .i64 a2) ∧ World.cell? _ ⟨w.heap.size + 1, 1, none⟩ = some (.int .i64 b2) ∧ World.cell? _ ⟨w.heap.size + 2, 0, none⟩ = some (.int .i64 a3) ∧ World.cell? _ ⟨w.heap.size + 2, 1, none⟩ = some (.int .i64 b3) ∧ World.cell? _ ⟨w.heap.size + 3, 0, none⟩ = some (.int .i64 a4) ∧ World.cell? _ ⟨w.heap.size + 3, 1, none⟩ = some (.int .i64 b4) from ⟨k2.see EX.out.1, k2.see EX.out.2.1, k2.see EX.out.2.2.1, k2.see EX.out.2.2.2.1, k2.see EX.out.2.2.2.2.1, k2.see EX.out.2.2.2.2.2⟩)
    clear k2
    obtain ⟨p0, p1, q0, q1, r0, r1⟩ := EX.out
    go_wp2_with fail
    have KT := hik ((Chg.refl nob W2).alloc (.cells #[.int .i64 a2, .int .i64 b2, .int .i64 a3, .int .i64 b3, .int .i64 a4, .int .i64 b4] 38))
    have PT := hik (pairs3 W2 a2 b2 a3 b3 a4 b4)
    replace KB := hik (KB.out.trans KT.out)
    replace BX := hik (BX.out.keep KT.out)
    replace EX := hik (show World.cell? _ ⟨w.heap.size + 1, 0, none⟩ = some (.int .i64 a2) ∧ World.cell? _ ⟨w.heap.size + 1, 1, none⟩ = some (.int .i64 b2) ∧ World.cell? _ ⟨w.heap.size + 2, 0, none⟩ = some (.int .i64 a3) ∧ World.cell? _ ⟨w.heap.size + 2, 1, none⟩ = some (.int .i64 b3) ∧ World.cell? _ ⟨w.heap.size + 3, 0, none⟩ = some (.int .i64 a4) ∧ World.cell? _ ⟨w.heap.size + 3, 1, none⟩ = some (.int .i64 b4) from ⟨KT.out.see EX.out.1, KT.out.see EX.out.2.1, KT.out.see EX.out.2.2.1, KT.out.see EX.out.2.2.2.1, KT.out.see EX.out.2.2.2.2.1, KT.out.see EX.out.2.2.2.2.2⟩)
    clear p0 p1 q0 q1 r0 r1
    generalize hW3 : W2.alloc (.cells #[.int .i64 a2, .int .i64 b2, .int .i64 a3, .int .i64 b3, .int .i64 a4, .int .i64 b4] 38) = W3 at KB BX EX PT ⊢
    clear hW3 KT
    refine (l02List_any _ 3 3 (pk3 a2 a3 a4) (pk3 b2 b3 b4) _ PT (by omega)).mono ?_
    rw [H4.out]
    rintro e W4 ⟨rfl, k4⟩
    replace KB := hik (KB.out.trans k4)
    replace BX := hik (BX.out.keep k4)
    replace EX := hik (show World.cell? _ ⟨w.heap.size + 1, 0, none⟩ = some (.int .i64 a2) ∧ World.cell? _ ⟨w.heap.size + 1, 1, none⟩ = some (.int .i64 b2) ∧ World.cell? _ ⟨w.heap.size + 2, 0, none⟩ = some (.int .i64 a3) ∧ World.cell? _ ⟨w.heap.size + 2, 1, none⟩ = some (.int .i64 b3) ∧ World.cell? _ ⟨w.heap.size + 3, 0, none⟩ = some (.int .i64 a4) ∧ World.cell? _ ⟨w.heap.size + 3, 1, none⟩ = some (.int .i64 b4) from ⟨k4.see EX.out.1, k4.see EX.out.2.1, k4.see EX.out.2.2.1, k4.see EX.out.2.2.2.1, k4.see EX.out.2.2.2.2.1, k4.see EX.out.2.2.2.2.2⟩)
    clear k4 PT
    go_wp2
    go_ret2
    exact TbC.empty HC.out HM.out (by omega) (KB.out.alloc _)
  | true =>
  have H4 := hik h4
  rw [if_neg (by rw [h2, h3, h4]; simp)] at hC
  by_cases h5 : ¬ (n : Int) = s.r
  · have HC := hik (show bdc s n f g (pk3 a2 a3 a4) (pk3 b2 b3 b4) = 8 by rw [hC, if_pos h5])
    have HM := hik (show bdn s n f g (pk3 a2 a3 a4) (pk3 b2 b3 b4) = 0 by unfold bdn; rw [HC.out]; rfl)
    clear hC h2 h3 h4
    have h5' : ((n : Int) != s.r) = true := by simpa using h5
    have KB := hik (((((Chg.refl nob w).alloc (.cells #[.int .i64 s.r, .int .i64 s.q, .int .i64 s.p, .slice a.cA s.nA a.pA, .slice a.cB s.nB a.pB, .slice a.cC s.nC a.pC] 35)).alloc (.cells #[.int .i64 a2, .int .i64 b2] 38)).alloc (.cells #[.int .i64 a3, .int .i64 b3] 38)).alloc (.cells #[.int .i64 a4, .int .i64 b4] 38))
    have x0 : World.cell? ((((w.alloc (.cells #[.int .i64 s.r, .int .i64 s.q, .int .i64 s.p, .slice a.cA s.nA a.pA, .slice a.cB s.nB a.pB, .slice a.cC s.nC a.pC] 35)).alloc (.cells #[.int .i64 a2, .int .i64 b2] 38)).alloc (.cells #[.int .i64 a3, .int .i64 b3] 38)).alloc (.cells #[.int .i64 a4, .int .i64 b4] 38)) ⟨w.heap.size, 0, none⟩ = some (.int .i64 s.r) := by go_simp
    have x1 : World.cell? ((((w.alloc (.cells #[.int .i64 s.r, .int .i64 s.q, .int .i64 s.p, .slice a.cA s.nA a.pA, .slice a.cB s.nB a.pB, .slice a.cC s.nC a.pC] 35)).alloc (.cells #[.int .i64 a2, .int .i64 b2] 38)).alloc (.cells #[.int .i64 a3, .int .i64 b3] 38)).alloc (.cells #[.int .i64 a4, .int .i64 b4] 38)) ⟨w.heap.size, 1, none⟩ = some (.int .i64 s.q) := by go_simp
    have x2 : World.cell? ((((w.alloc (.cells #[.int .i64 s.r, .int .i64 s.q, .int .i64 s.p, .slice a.cA s.nA a.pA, .slice a.cB s.nB a.pB, .slice a.cC s.nC a.pC] 35)).alloc (.cells #[.int .i64 a2, .int .i64 b2] 38)).alloc (.cells #[.int .i64 a3, .int .i64 b3] 38)).alloc (.cells #[.int .i64 a4, .int .i64 b4] 38)) ⟨w.heap.size, 2, none⟩ = some (.int .i64 s.p) := by go_simp
    have x3 : World.cell? ((((w.alloc (.cells #[.int .i64 s.r, .int .i64 s.q, .int .i64 s.p, .slice a.cA s.nA a.pA, .slice a.cB s.nB a.pB, .slice a.cC s.nC a.pC] 35)).alloc (.cells #[.int .i64 a2, .int .i64 b2] 38)).alloc (.cells #[.int .i64 a3, .int .i64 b3] 38)).alloc (.cells #[.int .i64 a4, .int .i64 b4] 38)) ⟨w.heap.size, 3, none⟩ = some (.slice a.cA s.nA a.pA) := by go_simp
    have x4 : World.cell? ((((w.alloc (.cells #[.int .i64 s.r, .int .i64 s.q, .int .i64 s.p, .slice a.cA s.nA a.pA, .slice a.cB s.nB a.pB, .slice a.cC s.nC a.pC] 35)).alloc (.cells #[.int .i64 a2, .int .i64 b2] 38)).alloc (.cells #[.int .i64 a3, .int .i64 b3] 38)).alloc (.cells #[.int .i64 a4, .int .i64 b4] 38)) ⟨w.heap.size, 4, none⟩ = some (.slice a.cB s.nB a.pB) := by go_simp
    have x5 : World.cell? ((((w.alloc (.cells #[.int .i64 s.r, .int .i64 s.q, .int .i64 s.p, .slice a.cA s.nA a.pA, .slice a.cB s.nB a.pB, .slice a.cC s.nC a.pC] 35)).alloc (.cells #[.int .i64 a2, .int .i64 b2] 38)).alloc (.cells #[.int .i64 a3, .int .i64 b3] 38)).alloc (.cells #[.int .i64 a4, .int .i64 b4] 38)) ⟨w.heap.size, 5, none⟩ = some (.slice a.cC s.nC a.pC) := by go_simp
    have p0 : World.cell? ((((w.alloc (.cells #[.int .i64 s.r, .int .i64 s.q, .int .i64 s.p, .slice a.cA s.nA a.pA, .slice a.cB s.nB a.pB, .slice a.cC s.nC a.pC] 35)).alloc (.cells #[.int .i64 a2, .int .i64 b2] 38)).alloc (.cells #[.int .i64 a3, .int .i64 b3] 38)).alloc (.cells #[.int .i64 a4, .int .i64 b4] 38)) ⟨w.heap.size + 1, 0, none⟩ = some (.int .i64 a2) := by go_simp
    have p1 : World.cell? ((((w.alloc (.cells #[.int .i64 s.r, .int .i64 s.q, .int .i64 s.p, .slice a.cA s.nA a.pA, .slice a.cB s.nB a.pB, .slice a.cC s.nC a.pC] 35)).alloc (.cells #[.int .i64 a2, .int .i64 b2] 38)).alloc (.cells #[.int .i64 a3, .int .i64 b3] 38)).alloc (.cells #[.int .i64 a4, .int .i64 b4] 38)) ⟨w.heap.size + 1, 1, none⟩ = some (.int .i64 b2) := by go_simp
    have q0 : World.cell? ((((w.alloc (.cells #[.int .i64 s.r, .int .i64 s.q, .int .i64 s.p, .slice a.cA s.nA a.pA, .slice a.cB s.nB a.pB, .slice a.cC s.nC a.pC] 35)).alloc (.cells #[.int .i64 a2, .int .i64 b2] 38)).alloc (.cells #[.int .i64 a3, .int .i64 b3] 38)).alloc (.cells #[.int .i64 a4, .int .i64 b4] 38)) ⟨w.heap.size + 2, 0, none⟩ = some (.int .i64 a3) := by go_simp
    have q1 : World.cell? ((((w.alloc (.cells #[.int .i64 s.r, .int .i64 s.q, .int .i64 s.p, .slice a.cA s.nA a.pA, .slice a.cB s.nB a.pB, .slice a.cC s.nC a.pC] 35)).alloc (.cells #[.int .i64 a2, .int .i64 b2] 38)).alloc (.cells #[.int .i64 a3, .int .i64 b3] 38)).alloc (.cells #[.int .i64 a4, .int .i64 b4] 38)) ⟨w.heap.size + 2, 1, none⟩ = some (.int .i64 b3) := by go_simp
    have r0 : World.cell? ((((w.alloc (.cells #[.int .i64 s.r, .int .i64 s.q, .int .i64 s.p, .slice a.cA s.nA a.pA, .slice a.cB s.nB a.pB, .slice a.cC s.nC a.pC] 35)).alloc (.cells #[.int .i64 a2, .int .i64 b2] 38)).alloc (.cells #[.int .i64 a3, .int .i64 b3] 38)).alloc (.cells #[.int .i64 a4, .int .i64 b4] 38)) ⟨w.heap.size + 3, 0, none⟩ = some (.int .i64 a4) := by go_simp
    have r1 : World.cell? ((((w.alloc (.cells #[.int .i64 s.r, .int .i64 s.q, .int .i64 s.p, .slice a.cA s.nA a.pA, .slice a.cB s.nB a.pB, .slice a.cC s.nC a.pC] 35)).alloc (.cells #[.int .i64 a2, .int .i64 b2] 38)).alloc (.cells #[.int .i64 a3, .int .i64 b3] 38)).alloc (.cells #[.int .i64 a4, .int .i64 b4] 38)) ⟨w.heap.size + 3, 1, none⟩ = some (.int .i64 b4) := by go_simp
    have BX := hik (cel6 x0 x1 x2 x3 x4 x5)
    go_enter Try.func6, Try.ntmps6
    go_upto_region 1 with fail
    have EX := hik (show (World.cell? (((((w.alloc (.cells #[.int .i64 s.r, .int .i64 s.q, .int .i64 s.p, .slice a.cA s.nA a.pA, .slice a.cB s.nB a.pB, .slice a.cC s.nC a.pC] 35)).alloc (.cells #[.int .i64 a2, .int .i64 b2] 38)).alloc (.cells #[.int .i64 a3, .int .i64 b3] 38)).alloc (.cells #[.int .i64 a4, .int .i64 b4] 38))) ⟨w.heap.size + 1, 0, none⟩ = some (.int .i64 a2) ∧ World.cell? (((((w.alloc (.cells #[.int .i64 s.r, .int .i64 s.q, .int .i64 s.p, .slice a.cA s.nA a.pA, .slice a.cB s.nB a.pB, .slice a.cC s.nC a.pC] 35)).alloc (.cells #[.int .i64 a2, .int .i64 b2] 38)).alloc (.cells #[.int .i64 a3, .int .i64 b3] 38)).alloc (.cells #[.int .i64 a4, .int .i64 b4] 38))) ⟨w.heap.size + 1, 1, none⟩ = some (.int .i64 b2) ∧ World.cell? (((((w.alloc (.cells #[.int .i64 s.r, .int .i64 s.q, .int .i64 s.p, .slice a.cA s.nA a.pA, .slice a.cB s.nB a.pB, .slice a.cC s.nC a.pC] 35)).alloc (.cells #[.int .i64 a2, .int .i64 b2] 38)).alloc (.cells #[.int .i64 a3, .int .i64 b3] 38)).alloc (.cells #[.int .i64 a4, .int .i64 b4] 38))) ⟨w.heap.size + 2, 0, none⟩ = some (.int .i64 a3) ∧ World.cell? (((((w.alloc (.cells #[.int .i64 s.r, .int .i64 s.q, .int .i64 s.p, .slice a.cA s.nA a.pA, .slice a.cB s.nB a.pB, .slice a.cC s.nC a.pC] 35)).alloc (.cells #[.int .i64 a2, .int .i64 b2] 38)).alloc (.cells #[.int .i64 a3, .int .i64 b3] 38)).alloc (.cells #[.int .i64 a4, .int .i64 b4] 38))) ⟨w.heap.size + 2, 1, none⟩ = some (.int .i64 b3) ∧ World.cell? (((((w.alloc (.cells #[.int .i64 s.r, .int .i64 s.q, .int .i64 s.p, .slice a.cA s.nA a.pA, .slice a.cB s.nB a.pB, .slice a.cC s.nC a.pC] 35)).alloc (.cells #[.int .i64 a2, .int .i64 b2] 38)).alloc (.cells #[.int .i64 a3, .int .i64 b3] 38)).alloc (.cells #[.int .i64 a4, .int .i64 b4] 38))) ⟨w.heap.size + 3, 0, none⟩ = some (.int .i64 a4) ∧ World.cell? (((((w.alloc (.cells #[.int .i64 s.r, .int .i64 s.q, .int .i64 s.p, .slice a.cA s.nA a.pA, .slice a.cB s.nB a.pB, .slice a.cC s.nC a.pC] 35)).alloc (.cells #[.int .i64 a2, .int .i64 b2] 38)).alloc (.cells #[.int .i64 a3, .int .i64 b3] 38)).alloc (.cells #[.int .i64 a4, .int .i64 b4] 38))) ⟨w.heap.size + 3, 1, none⟩ = some (.int .i64 b4)) from ⟨p0, p1, q0, q1, r0, r1⟩)
    clear x0 x1 x2 x3 x4 x5 p0 p1 q0 q1 r0 r1
    generalize ((((w.alloc (.cells #[.int .i64 s.r, .int .i64 s.q, .int .i64 s.p, .slice a.cA s.nA a.pA, .slice a.cB s.nB a.pB, .slice a.cC s.nC a.pC] 35)).alloc (.cells #[.int .i64 a2, .int .i64 b2] 38)).alloc (.cells #[.int .i64 a3, .int .i64 b3] 38)).alloc (.cells #[.int .i64 a4, .int .i64 b4] 38)) = B at KB BX EX ⊢
    obtain ⟨x0, x1, x2, x3, x4, x5⟩ := BX.out.six
    go_wp2_with fail
    refine (sSysOK_any s a _ (hik (hv.out.keep KB.out)) hs).mono ?_
    rw [H2.out]
    rintro e W1 ⟨rfl, k1⟩
    replace KB := hik (KB.out.trans k1)
    replace BX := hik (BX.out.keep k1)
    replace EX := hik (show World.cell? _ ⟨w.heap.size + 1, 0, none⟩ = some (.int .i64 a2) ∧ World.cell? _ ⟨w.heap.size + 1, 1, none⟩ = some (.int .i64 b2) ∧ World.cell? _ ⟨w.heap.size + 2, 0, none⟩ = some (.int .i64 a3) ∧ World.cell? _ ⟨w.heap.size + 2, 1, none⟩ = some (.int .i64 b3) ∧ World.cell? _ ⟨w.heap.size + 3, 0, none⟩ = some (.int .i64 a4) ∧ World.cell? _ ⟨w.heap.size + 3, 1, none⟩ = some (.int .i64 b4) from ⟨k1.see EX.out.1, k1.see EX.out.2.1, k1.see EX.out.2.2.1, k1.see EX.out.2.2.2.1, k1.see EX.out.2.2.2.2.1, k1.see EX.out.2.2.2.2.2⟩)
    clear k1 x0 x1 x2 x3 x4 x5
    go_wp2_with fail
    refine (l02List_any cx n capx f g _ (hik (PairV.keep hp.out KB.out)) hn).mono ?_
    rw [H3.out]
    rintro e W2 ⟨rfl, k2⟩
    replace KB := hik (KB.out.trans k2)
    replace BX := hik (BX.out.keep k2)
    replace EX := hik (show World.cell? _ ⟨w.heap.size + 1, 0, none⟩ = some (.int .i64 a2) ∧ World.cell? _ ⟨w.heap.size + 1, 1, none⟩ = some (.int .i64 b2) ∧ World.cell? _ ⟨w.heap.size + 2, 0, none⟩ = some (.int .i64 a3) ∧ World.cell? _ ⟨w.heap.size + 2, 1, none⟩ = some (.int .i64 b3) ∧ World.cell? _ ⟨w.heap.size + 3, 0, none⟩ = some (.int .i64 a4) ∧ World.cell? _ ⟨w.heap.size + 3, 1, none⟩ = some (.int .i64 b4) from ⟨k2.see EX.out.1, k2.see EX.out.2.1, k2.see EX.out.2.2.1, k2.see EX.out.2.2.2.1, k2.see EX.out.2.2.2.2.1, k2.see EX.out.2.2.2.2.2⟩)
    clear k2
    obtain ⟨p0, p1, q0, q1, r0, r1⟩ := EX.out
    go_wp2_with fail
    have KT := hik ((Chg.refl nob W2).alloc (.cells #[.int .i64 a2, .int .i64 b2, .int .i64 a3, .int .i64 b3, .int .i64 a4, .int .i64 b4] 38))
    have PT := hik (pairs3 W2 a2 b2 a3 b3 a4 b4)
    replace KB := hik (KB.out.trans KT.out)
    replace BX := hik (BX.out.keep KT.out)
    replace EX := hik (show World.cell? _ ⟨w.heap.size + 1, 0, none⟩ = some (.int .i64 a2) ∧ World.cell? _ ⟨w.heap.size + 1, 1, none⟩ = some (.int .i64 b2) ∧ World.cell? _ ⟨w.heap.size + 2, 0, none⟩ = some (.int .i64 a3) ∧ World.cell? _ ⟨w.heap.size + 2, 1, none⟩ = some (.int .i64 b3) ∧ World.cell? _ ⟨w.heap.size + 3, 0, none⟩ = some (.int .i64 a4) ∧ World.cell? _ ⟨w.heap.size + 3, 1, none⟩ = some (.int .i64 b4) from ⟨KT.out.see EX.out.1, KT.out.see EX.out.2.1, KT.out.see EX.out.2.2.1, KT.out.see EX.out.2.2.2.1, KT.out.see EX.out.2.2.2.2.1, KT.out.see EX.out.2.2.2.2.2⟩)
    clear p0 p1 q0 q1 r0 r1
    generalize hW3 : W2.alloc (.cells #[.int .i64 a2, .int .i64 b2, .int .i64 a3, .int .i64 b3, .int .i64 a4, .int .i64 b4] 38) = W3 at KB BX EX PT ⊢
    clear hW3 KT
    refine (l02List_any _ 3 3 (pk3 a2 a3 a4) (pk3 b2 b3 b4) _ PT (by omega)).mono ?_
    rw [H4.out]
    rintro e W4 ⟨rfl, k4⟩
    replace KB := hik (KB.out.trans k4)
    replace BX := hik (BX.out.keep k4)
    replace EX := hik (show World.cell? _ ⟨w.heap.size + 1, 0, none⟩ = some (.int .i64 a2) ∧ World.cell? _ ⟨w.heap.size + 1, 1, none⟩ = some (.int .i64 b2) ∧ World.cell? _ ⟨w.heap.size + 2, 0, none⟩ = some (.int .i64 a3) ∧ World.cell? _ ⟨w.heap.size + 2, 1, none⟩ = some (.int .i64 b3) ∧ World.cell? _ ⟨w.heap.size + 3, 0, none⟩ = some (.int .i64 a4) ∧ World.cell? _ ⟨w.heap.size + 3, 1, none⟩ = some (.int .i64 b4) from ⟨k4.see EX.out.1, k4.see EX.out.2.1, k4.see EX.out.2.2.1, k4.see EX.out.2.2.2.1, k4.see EX.out.2.2.2.2.1, k4.see EX.out.2.2.2.2.2⟩)
    clear k4 PT
    obtain ⟨x0, x1, x2, x3, x4, x5⟩ := BX.out.six
    go_wp2
    go_ret2
    exact TbC.empty HC.out HM.out (by omega) (KB.out.alloc _)
  have h5 : (n : Int) = s.r := by omega
  have HC := hik (show bdc s n f g (pk3 a2 a3 a4) (pk3 b2 b3 b4) = 0 by rw [hC, if_neg (by omega)])
  obtain ⟨rr, mm, er, eq_, r1, r5, m1, m4, _⟩ := sysb_parts h2
  have hq : s.q = ((mm + 1 : Nat) : Int) := eq_
  obtain ⟨M, hMM⟩ : ∃ M, M = mm + 1 := ⟨_, rfl⟩
  rw [← hMM] at hq
  have hM5 : M ≤ 5 := by omega
  have hn5 : n ≤ 5 := by omega
  have HMq := hik (show s.q.toNat = M by rw [hq, Int.toNat_natCast])
  have HRq := hik (show s.r.toNat = n by rw [← h5, Int.toNat_natCast])
  have HN := hik (show bdn s n f g (pk3 a2 a3 a4) (pk3 b2 b3 b4) = 2 ^ M by unfold bdn; rw [HC.out, HMq.out]; rfl)
  have HV := hik (show bdv s n f g (pk3 a2 a3 a4) (pk3 b2 b3 b4) = btK s (El.eqp (elF f g) n) (elF (pk3 a2 a3 a4) (pk3 b2 b3 b4)) 3 from rfl)
  have hpE := hik (PairE.of hp.out h3)
  have H5 := hik h5
  have HQ := hik hq
  have hsb := hik (sysb_ent h2).1
  have h32 : 2 ^ M ≤ 32 := pow5 hM5
  clear hC h2 h3 eq_ er hq hMM
  have KB := hik (((((Chg.refl nob w).alloc (.cells #[.int .i64 s.r, .int .i64 s.q, .int .i64 s.p, .slice a.cA s.nA a.pA, .slice a.cB s.nB a.pB, .slice a.cC s.nC a.pC] 35)).alloc (.cells #[.int .i64 a2, .int .i64 b2] 38)).alloc (.cells #[.int .i64 a3, .int .i64 b3] 38)).alloc (.cells #[.int .i64 a4, .int .i64 b4] 38))
  have x0 : World.cell? ((((w.alloc (.cells #[.int .i64 s.r, .int .i64 s.q, .int .i64 s.p, .slice a.cA s.nA a.pA, .slice a.cB s.nB a.pB, .slice a.cC s.nC a.pC] 35)).alloc (.cells #[.int .i64 a2, .int .i64 b2] 38)).alloc (.cells #[.int .i64 a3, .int .i64 b3] 38)).alloc (.cells #[.int .i64 a4, .int .i64 b4] 38)) ⟨w.heap.size, 0, none⟩ = some (.int .i64 s.r) := by go_simp
  have x1 : World.cell? ((((w.alloc (.cells #[.int .i64 s.r, .int .i64 s.q, .int .i64 s.p, .slice a.cA s.nA a.pA, .slice a.cB s.nB a.pB, .slice a.cC s.nC a.pC] 35)).alloc (.cells #[.int .i64 a2, .int .i64 b2] 38)).alloc (.cells #[.int .i64 a3, .int .i64 b3] 38)).alloc (.cells #[.int .i64 a4, .int .i64 b4] 38)) ⟨w.heap.size, 1, none⟩ = some (.int .i64 s.q) := by go_simp
  have x2 : World.cell? ((((w.alloc (.cells #[.int .i64 s.r, .int .i64 s.q, .int .i64 s.p, .slice a.cA s.nA a.pA, .slice a.cB s.nB a.pB, .slice a.cC s.nC a.pC] 35)).alloc (.cells #[.int .i64 a2, .int .i64 b2] 38)).alloc (.cells #[.int .i64 a3, .int .i64 b3] 38)).alloc (.cells #[.int .i64 a4, .int .i64 b4] 38)) ⟨w.heap.size, 2, none⟩ = some (.int .i64 s.p) := by go_simp
  have x3 : World.cell? ((((w.alloc (.cells #[.int .i64 s.r, .int .i64 s.q, .int .i64 s.p, .slice a.cA s.nA a.pA, .slice a.cB s.nB a.pB, .slice a.cC s.nC a.pC] 35)).alloc (.cells #[.int .i64 a2, .int .i64 b2] 38)).alloc (.cells #[.int .i64 a3, .int .i64 b3] 38)).alloc (.cells #[.int .i64 a4, .int .i64 b4] 38)) ⟨w.heap.size, 3, none⟩ = some (.slice a.cA s.nA a.pA) := by go_simp
  have x4 : World.cell? ((((w.alloc (.cells #[.int .i64 s.r, .int .i64 s.q, .int .i64 s.p, .slice a.cA s.nA a.pA, .slice a.cB s.nB a.pB, .slice a.cC s.nC a.pC] 35)).alloc (.cells #[.int .i64 a2, .int .i64 b2] 38)).alloc (.cells #[.int .i64 a3, .int .i64 b3] 38)).alloc (.cells #[.int .i64 a4, .int .i64 b4] 38)) ⟨w.heap.size, 4, none⟩ = some (.slice a.cB s.nB a.pB) := by go_simp
  have x5 : World.cell? ((((w.alloc (.cells #[.int .i64 s.r, .int .i64 s.q, .int .i64 s.p, .slice a.cA s.nA a.pA, .slice a.cB s.nB a.pB, .slice a.cC s.nC a.pC] 35)).alloc (.cells #[.int .i64 a2, .int .i64 b2] 38)).alloc (.cells #[.int .i64 a3, .int .i64 b3] 38)).alloc (.cells #[.int .i64 a4, .int .i64 b4] 38)) ⟨w.heap.size, 5, none⟩ = some (.slice a.cC s.nC a.pC) := by go_simp
  have p0 : World.cell? ((((w.alloc (.cells #[.int .i64 s.r, .int .i64 s.q, .int .i64 s.p, .slice a.cA s.nA a.pA, .slice a.cB s.nB a.pB, .slice a.cC s.nC a.pC] 35)).alloc (.cells #[.int .i64 a2, .int .i64 b2] 38)).alloc (.cells #[.int .i64 a3, .int .i64 b3] 38)).alloc (.cells #[.int .i64 a4, .int .i64 b4] 38)) ⟨w.heap.size + 1, 0, none⟩ = some (.int .i64 a2) := by go_simp
  have p1 : World.cell? ((((w.alloc (.cells #[.int .i64 s.r, .int .i64 s.q, .int .i64 s.p, .slice a.cA s.nA a.pA, .slice a.cB s.nB a.pB, .slice a.cC s.nC a.pC] 35)).alloc (.cells #[.int .i64 a2, .int .i64 b2] 38)).alloc (.cells #[.int .i64 a3, .int .i64 b3] 38)).alloc (.cells #[.int .i64 a4, .int .i64 b4] 38)) ⟨w.heap.size + 1, 1, none⟩ = some (.int .i64 b2) := by go_simp
  have q0 : World.cell? ((((w.alloc (.cells #[.int .i64 s.r, .int .i64 s.q, .int .i64 s.p, .slice a.cA s.nA a.pA, .slice a.cB s.nB a.pB, .slice a.cC s.nC a.pC] 35)).alloc (.cells #[.int .i64 a2, .int .i64 b2] 38)).alloc (.cells #[.int .i64 a3, .int .i64 b3] 38)).alloc (.cells #[.int .i64 a4, .int .i64 b4] 38)) ⟨w.heap.size + 2, 0, none⟩ = some (.int .i64 a3) := by go_simp
  have q1 : World.cell? ((((w.alloc (.cells #[.int .i64 s.r, .int .i64 s.q, .int .i64 s.p, .slice a.cA s.nA a.pA, .slice a.cB s.nB a.pB, .slice a.cC s.nC a.pC] 35)).alloc (.cells #[.int .i64 a2, .int .i64 b2] 38)).alloc (.cells #[.int .i64 a3, .int .i64 b3] 38)).alloc (.cells #[.int .i64 a4, .int .i64 b4] 38)) ⟨w.heap.size + 2, 1, none⟩ = some (.int .i64 b3) := by go_simp
  have r0 : World.cell? ((((w.alloc (.cells #[.int .i64 s.r, .int .i64 s.q, .int .i64 s.p, .slice a.cA s.nA a.pA, .slice a.cB s.nB a.pB, .slice a.cC s.nC a.pC] 35)).alloc (.cells #[.int .i64 a2, .int .i64 b2] 38)).alloc (.cells #[.int .i64 a3, .int .i64 b3] 38)).alloc (.cells #[.int .i64 a4, .int .i64 b4] 38)) ⟨w.heap.size + 3, 0, none⟩ = some (.int .i64 a4) := by go_simp
  have r1 : World.cell? ((((w.alloc (.cells #[.int .i64 s.r, .int .i64 s.q, .int .i64 s.p, .slice a.cA s.nA a.pA, .slice a.cB s.nB a.pB, .slice a.cC s.nC a.pC] 35)).alloc (.cells #[.int .i64 a2, .int .i64 b2] 38)).alloc (.cells #[.int .i64 a3, .int .i64 b3] 38)).alloc (.cells #[.int .i64 a4, .int .i64 b4] 38)) ⟨w.heap.size + 3, 1, none⟩ = some (.int .i64 b4) := by go_simp
  have BX := hik (cel6 x0 x1 x2 x3 x4 x5)
  go_enter Try.func6, Try.ntmps6
  go_upto_region 1 with fail
  have EX := hik (show (World.cell? (((((w.alloc (.cells #[.int .i64 s.r, .int .i64 s.q, .int .i64 s.p, .slice a.cA s.nA a.pA, .slice a.cB s.nB a.pB, .slice a.cC s.nC a.pC] 35)).alloc (.cells #[.int .i64 a2, .int .i64 b2] 38)).alloc (.cells #[.int .i64 a3, .int .i64 b3] 38)).alloc (.cells #[.int .i64 a4, .int .i64 b4] 38))) ⟨w.heap.size + 1, 0, none⟩ = some (.int .i64 a2) ∧ World.cell? (((((w.alloc (.cells #[.int .i64 s.r, .int .i64 s.q, .int .i64 s.p, .slice a.cA s.nA a.pA, .slice a.cB s.nB a.pB, .slice a.cC s.nC a.pC] 35)).alloc (.cells #[.int .i64 a2, .int .i64 b2] 38)).alloc (.cells #[.int .i64 a3, .int .i64 b3] 38)).alloc (.cells #[.int .i64 a4, .int .i64 b4] 38))) ⟨w.heap.size + 1, 1, none⟩ = some (.int .i64 b2) ∧ World.cell? (((((w.alloc (.cells #[.int .i64 s.r, .int .i64 s.q, .int .i64 s.p, .slice a.cA s.nA a.pA, .slice a.cB s.nB a.pB, .slice a.cC s.nC a.pC] 35)).alloc (.cells #[.int .i64 a2, .int .i64 b2] 38)).alloc (.cells #[.int .i64 a3, .int .i64 b3] 38)).alloc (.cells #[.int .i64 a4, .int .i64 b4] 38))) ⟨w.heap.size + 2, 0, none⟩ = some (.int .i64 a3) ∧ World.cell? (((((w.alloc (.cells #[.int .i64 s.r, .int .i64 s.q, .int .i64 s.p, .slice a.cA s.nA a.pA, .slice a.cB s.nB a.pB, .slice a.cC s.nC a.pC] 35)).alloc (.cells #[.int .i64 a2, .int .i64 b2] 38)).alloc (.cells #[.int .i64 a3, .int .i64 b3] 38)).alloc (.cells #[.int .i64 a4, .int .i64 b4] 38))) ⟨w.heap.size + 2, 1, none⟩ = some (.int .i64 b3) ∧ World.cell? (((((w.alloc (.cells #[.int .i64 s.r, .int .i64 s.q, .int .i64 s.p, .slice a.cA s.nA a.pA, .slice a.cB s.nB a.pB, .slice a.cC s.nC a.pC] 35)).alloc (.cells #[.int .i64 a2, .int .i64 b2] 38)).alloc (.cells #[.int .i64 a3, .int .i64 b3] 38)).alloc (.cells #[.int .i64 a4, .int .i64 b4] 38))) ⟨w.heap.size + 3, 0, none⟩ = some (.int .i64 a4) ∧ World.cell? (((((w.alloc (.cells #[.int .i64 s.r, .int .i64 s.q, .int .i64 s.p, .slice a.cA s.nA a.pA, .slice a.cB s.nB a.pB, .slice a.cC s.nC a.pC] 35)).alloc (.cells #[.int .i64 a2, .int .i64 b2] 38)).alloc (.cells #[.int .i64 a3, .int .i64 b3] 38)).alloc (.cells #[.int .i64 a4, .int .i64 b4] 38))) ⟨w.heap.size + 3, 1, none⟩ = some (.int .i64 b4)) from ⟨p0, p1, q0, q1, r0, r1⟩)
  clear x0 x1 x2 x3 x4 x5 p0 p1 q0 q1 r0 r1
  generalize ((((w.alloc (.cells #[.int .i64 s.r, .int .i64 s.q, .int .i64 s.p, .slice a.cA s.nA a.pA, .slice a.cB s.nB a.pB, .slice a.cC s.nC a.pC] 35)).alloc (.cells #[.int .i64 a2, .int .i64 b2] 38)).alloc (.cells #[.int .i64 a3, .int .i64 b3] 38)).alloc (.cells #[.int .i64 a4, .int .i64 b4] 38)) = B at KB BX EX ⊢
  obtain ⟨x0, x1, x2, x3, x4, x5⟩ := BX.out.six
  go_wp2_with fail
  refine (sSysOK_any s a _ (hik (hv.out.keep KB.out)) hs).mono ?_
  rw [H2.out]
  rintro e W1 ⟨rfl, k1⟩
  replace KB := hik (KB.out.trans k1)
  replace BX := hik (BX.out.keep k1)
  replace EX := hik (show World.cell? _ ⟨w.heap.size + 1, 0, none⟩ = some (.int .i64 a2) ∧ World.cell? _ ⟨w.heap.size + 1, 1, none⟩ = some (.int .i64 b2) ∧ World.cell? _ ⟨w.heap.size + 2, 0, none⟩ = some (.int .i64 a3) ∧ World.cell? _ ⟨w.heap.size + 2, 1, none⟩ = some (.int .i64 b3) ∧ World.cell? _ ⟨w.heap.size + 3, 0, none⟩ = some (.int .i64 a4) ∧ World.cell? _ ⟨w.heap.size + 3, 1, none⟩ = some (.int .i64 b4) from ⟨k1.see EX.out.1, k1.see EX.out.2.1, k1.see EX.out.2.2.1, k1.see EX.out.2.2.2.1, k1.see EX.out.2.2.2.2.1, k1.see EX.out.2.2.2.2.2⟩)
  clear k1 x0 x1 x2 x3 x4 x5
  go_wp2_with fail
  refine (l02List_any cx n capx f g _ (hik (PairV.keep hp.out KB.out)) hn).mono ?_
  rw [H3.out]
  rintro e W2 ⟨rfl, k2⟩
  replace KB := hik (KB.out.trans k2)
  replace BX := hik (BX.out.keep k2)
  replace EX := hik (show World.cell? _ ⟨w.heap.size + 1, 0, none⟩ = some (.int .i64 a2) ∧ World.cell? _ ⟨w.heap.size + 1, 1, none⟩ = some (.int .i64 b2) ∧ World.cell? _ ⟨w.heap.size + 2, 0, none⟩ = some (.int .i64 a3) ∧ World.cell? _ ⟨w.heap.size + 2, 1, none⟩ = some (.int .i64 b3) ∧ World.cell? _ ⟨w.heap.size + 3, 0, none⟩ = some (.int .i64 a4) ∧ World.cell? _ ⟨w.heap.size + 3, 1, none⟩ = some (.int .i64 b4) from ⟨k2.see EX.out.1, k2.see EX.out.2.1, k2.see EX.out.2.2.1, k2.see EX.out.2.2.2.1, k2.see EX.out.2.2.2.2.1, k2.see EX.out.2.2.2.2.2⟩)
  clear k2
  obtain ⟨p0, p1, q0, q1, r0, r1⟩ := EX.out
  go_wp2_with fail
  have KT := hik ((Chg.refl nob W2).alloc (.cells #[.int .i64 a2, .int .i64 b2, .int .i64 a3, .int .i64 b3, .int .i64 a4, .int .i64 b4] 38))
  have PT := hik (pairs3 W2 a2 b2 a3 b3 a4 b4)
  replace KB := hik (KB.out.trans KT.out)
  replace BX := hik (BX.out.keep KT.out)
  replace EX := hik (show World.cell? _ ⟨w.heap.size + 1, 0, none⟩ = some (.int .i64 a2) ∧ World.cell? _ ⟨w.heap.size + 1, 1, none⟩ = some (.int .i64 b2) ∧ World.cell? _ ⟨w.heap.size + 2, 0, none⟩ = some (.int .i64 a3) ∧ World.cell? _ ⟨w.heap.size + 2, 1, none⟩ = some (.int .i64 b3) ∧ World.cell? _ ⟨w.heap.size + 3, 0, none⟩ = some (.int .i64 a4) ∧ World.cell? _ ⟨w.heap.size + 3, 1, none⟩ = some (.int .i64 b4) from ⟨KT.out.see EX.out.1, KT.out.see EX.out.2.1, KT.out.see EX.out.2.2.1, KT.out.see EX.out.2.2.2.1, KT.out.see EX.out.2.2.2.2.1, KT.out.see EX.out.2.2.2.2.2⟩)
  clear p0 p1 q0 q1 r0 r1
  generalize hW3 : W2.alloc (.cells #[.int .i64 a2, .int .i64 b2, .int .i64 a3, .int .i64 b3, .int .i64 a4, .int .i64 b4] 38) = W3 at KB BX EX PT ⊢
  clear hW3 KT
  refine (l02List_any _ 3 3 (pk3 a2 a3 a4) (pk3 b2 b3 b4) _ PT (by omega)).mono ?_
  rw [H4.out]
  rintro e W4 ⟨rfl, k4⟩
  replace KB := hik (KB.out.trans k4)
  replace BX := hik (BX.out.keep k4)
  replace EX := hik (show World.cell? _ ⟨w.heap.size + 1, 0, none⟩ = some (.int .i64 a2) ∧ World.cell? _ ⟨w.heap.size + 1, 1, none⟩ = some (.int .i64 b2) ∧ World.cell? _ ⟨w.heap.size + 2, 0, none⟩ = some (.int .i64 a3) ∧ World.cell? _ ⟨w.heap.size + 2, 1, none⟩ = some (.int .i64 b3) ∧ World.cell? _ ⟨w.heap.size + 3, 0, none⟩ = some (.int .i64 a4) ∧ World.cell? _ ⟨w.heap.size + 3, 1, none⟩ = some (.int .i64 b4) from ⟨k4.see EX.out.1, k4.see EX.out.2.1, k4.see EX.out.2.2.1, k4.see EX.out.2.2.2.1, k4.see EX.out.2.2.2.2.1, k4.see EX.out.2.2.2.2.2⟩)
  clear k4 PT
  
  obtain ⟨x0, x1, x2, x3, x4, x5⟩ := BX.out.six
  rw [← H5.out] at x0
  have hnn : ((n : Int) != (n : Int)) = false := by simp
  rw [HQ.out] at x1
  obtain ⟨p0, p1, q0, q1, r0, r1⟩ := EX.out
  go_wp2_with fail
  have KT := hik ((Chg.refl nob W4).alloc (.cells #[.int .i64 a2, .int .i64 b2, .int .i64 a3, .int .i64 b3, .int .i64 a4, .int .i64 b4] 38))
  have PT := hik (PairE.of (pairs3 W4 a2 b2 a3 b3 a4 b4) h4)
  replace KB := hik (KB.out.trans KT.out)
  replace BX := hik (BX.out.keep KT.out)
  replace EX := hik (show World.cell? _ ⟨w.heap.size + 1, 0, none⟩ = some (.int .i64 a2) ∧ World.cell? _ ⟨w.heap.size + 1, 1, none⟩ = some (.int .i64 b2) ∧ World.cell? _ ⟨w.heap.size + 2, 0, none⟩ = some (.int .i64 a3) ∧ World.cell? _ ⟨w.heap.size + 2, 1, none⟩ = some (.int .i64 b3) ∧ World.cell? _ ⟨w.heap.size + 3, 0, none⟩ = some (.int .i64 a4) ∧ World.cell? _ ⟨w.heap.size + 3, 1, none⟩ = some (.int .i64 b4) from ⟨KT.out.see EX.out.1, KT.out.see EX.out.2.1, KT.out.see EX.out.2.2.1, KT.out.see EX.out.2.2.2.1, KT.out.see EX.out.2.2.2.2.1, KT.out.see EX.out.2.2.2.2.2⟩)
  clear p0 p1 q0 q1 r0 r1 x0 x1 x2 x3 x4 x5 hnn h4
  generalize hW5 : W4.alloc (.cells #[.int .i64 a2, .int .i64 b2, .int .i64 a3, .int .i64 b3, .int .i64 a4, .int .i64 b4] 38) = W5 at KB BX EX PT ⊢
  clear hW5 KT
  refine (sBound_el s a _ _ M cx n capx (elF f g) _ 3 (elF (pk3 a2 a3 a4) (pk3 b2 b3 b4)) _ (hik (hv.out.keep KB.out)) (hik (PairE.keep hpE.out KB.out)) PT H2 HMq HRq hM5 hn5).mono ?_
  rintro e W6 ⟨b6, rfl, hb6, r6, k6⟩
  have R6 := hik r6
  have K6 := hik (KB.out.trans k6)
  have HB6 := hik (Nat.le_trans KB.out.size hb6)
  clear r6 k6 hb6
  go_wp2
  go_ret2
  exact TbC.some HC.out HN.out (Nat.le_refl _) (Int.le_trans (Int.ofNat_le.2 h32) (by decide)) ((RowE.own R6.out HB6.out).congr (fun i _ => by rw [HV.out]; exact ⟨rfl, rfl⟩)) K6.out

end Go.Proofs.Ytkfahghcbkdafaa

namespace Go.Proofs.Ytkfahghcbkdafaa
open Go.ChangeShapes Go.WideShapes Go.ChangeAt Go.RowKit
set_option linter.unusedVariables false
set_option maxRecDepth 100000
set_option linter.unusedSimpArgs false

theorem pairs3r {W : World} {g : Nat} {t : TypeId} {a2 b2 a3 b3 a4 b4 : Int} (h : W.rowIs g t 6 (fun i => (#[.int .i64 a2, .int .i64 b2, .int .i64 a3, .int .i64 b3, .int .i64 a4, .int .i64 b4] : Array Value).getD i undef)) : PairV W (some ⟨g, 0, none⟩) 3 (pk3 a2 a3 a4) (pk3 b2 b3 b4) := by
  intro i hi
  refine ⟨g, 0, rfl, h.lt, ?_, ?_⟩ <;> (rw [Nat.zero_add, h.cell (by omega)]; rcases (show i = 0 ∨ i = 1 ∨ i = 2 by omega) with rfl | rfl | rfl <;> simp [pk3])

set_option maxHeartbeats 4000000 in
theorem boundX_any (s : Sy) (a : SyA) (cx : Option Addr) (n capx : Nat) (f g : Nat → Int) (a2 b2 a3 b3 a4 b4 : Int) (w : World) (hv : Hid (SyV w s a)) (hs : s.small) (hp : Hid (PairV w cx n f g)) (hn : n ≤ 1099511627776) :
    Calls Try.prog 10 #[.agg #[.int .i64 s.r, .int .i64 s.q, .int .i64 s.p, .slice a.cA s.nA a.pA, .slice a.cB s.nB a.pB, .slice a.cC s.nC a.pC], .slice cx n capx, .agg #[.int .i64 a2, .int .i64 b2], .agg #[.int .i64 a3, .int .i64 b3], .agg #[.int .i64 a4, .int .i64 b4]] w fun e w' => TbC w (bdc s n f g (pk3 a2 a3 a4) (pk3 b2 b3 b4)) (bdn s n f g (pk3 a2 a3 a4) (pk3 b2 b3 b4)) (bdv s n f g (pk3 a2 a3 a4) (pk3 b2 b3 b4)) e w' := by
  by_cases h1 : 4096 < n
  · have h1' : (4096 : Int) < n := by omega
    have HC := hik (show bdc s n f g (pk3 a2 a3 a4) (pk3 b2 b3 b4) = 2 by simp [bdc, h1])
    have HM := hik (show bdn s n f g (pk3 a2 a3 a4) (pk3 b2 b3 b4) = 0 by unfold bdn; rw [HC.out]; rfl)
    have KB := hik (((((Chg.refl nob w).alloc (.cells #[.int .i64 s.r, .int .i64 s.q, .int .i64 s.p, .slice a.cA s.nA a.pA, .slice a.cB s.nB a.pB, .slice a.cC s.nC a.pC] 35)).alloc (.cells #[.int .i64 a2, .int .i64 b2] 38)).alloc (.cells #[.int .i64 a3, .int .i64 b3] 38)).alloc (.cells #[.int .i64 a4, .int .i64 b4] 38))
    have x0 : World.cell? ((((w.alloc (.cells #[.int .i64 s.r, .int .i64 s.q, .int .i64 s.p, .slice a.cA s.nA a.pA, .slice a.cB s.nB a.pB, .slice a.cC s.nC a.pC] 35)).alloc (.cells #[.int .i64 a2, .int .i64 b2] 38)).alloc (.cells #[.int .i64 a3, .int .i64 b3] 38)).alloc (.cells #[.int .i64 a4, .int .i64 b4] 38)) ⟨w.heap.size, 0, none⟩ = some (.int .i64 s.r) := by go_simp
    have x1 : World.cell? ((((w.alloc (.cells #[.int .i64 s.r, .int .i64 s.q, .int .i64 s.p, .slice a.cA s.nA a.pA, .slice a.cB s.nB a.pB, .slice a.cC s.nC a.pC] 35)).alloc (.cells #[.int .i64 a2, .int .i64 b2] 38)).alloc (.cells #[.int .i64 a3, .int .i64 b3] 38)).alloc (.cells #[.int .i64 a4, .int .i64 b4] 38)) ⟨w.heap.size, 1, none⟩ = some (.int .i64 s.q) := by go_simp
    have x2 : World.cell? ((((w.alloc (.cells #[.int .i64 s.r, .int .i64 s.q, .int .i64 s.p, .slice a.cA s.nA a.pA, .slice a.cB s.nB a.pB, .slice a.cC s.nC a.pC] 35)).alloc (.cells #[.int .i64 a2, .int .i64 b2] 38)).alloc (.cells #[.int .i64 a3, .int .i64 b3] 38)).alloc (.cells #[.int .i64 a4, .int .i64 b4] 38)) ⟨w.heap.size, 2, none⟩ = some (.int .i64 s.p) := by go_simp
    have x3 : World.cell? ((((w.alloc (.cells #[.int .i64 s.r, .int .i64 s.q, .int .i64 s.p, .slice a.cA s.nA a.pA, .slice a.cB s.nB a.pB, .slice a.cC s.nC a.pC] 35)).alloc (.cells #[.int .i64 a2, .int .i64 b2] 38)).alloc (.cells #[.int .i64 a3, .int .i64 b3] 38)).alloc (.cells #[.int .i64 a4, .int .i64 b4] 38)) ⟨w.heap.size, 3, none⟩ = some (.slice a.cA s.nA a.pA) := by go_simp
    have x4 : World.cell? ((((w.alloc (.cells #[.int .i64 s.r, .int .i64 s.q, .int .i64 s.p, .slice a.cA s.nA a.pA, .slice a.cB s.nB a.pB, .slice a.cC s.nC a.pC] 35)).alloc (.cells #[.int .i64 a2, .int .i64 b2] 38)).alloc (.cells #[.int .i64 a3, .int .i64 b3] 38)).alloc (.cells #[.int .i64 a4, .int .i64 b4] 38)) ⟨w.heap.size, 4, none⟩ = some (.slice a.cB s.nB a.pB) := by go_simp
    have x5 : World.cell? ((((w.alloc (.cells #[.int .i64 s.r, .int .i64 s.q, .int .i64 s.p, .slice a.cA s.nA a.pA, .slice a.cB s.nB a.pB, .slice a.cC s.nC a.pC] 35)).alloc (.cells #[.int .i64 a2, .int .i64 b2] 38)).alloc (.cells #[.int .i64 a3, .int .i64 b3] 38)).alloc (.cells #[.int .i64 a4, .int .i64 b4] 38)) ⟨w.heap.size, 5, none⟩ = some (.slice a.cC s.nC a.pC) := by go_simp
    have p0 : World.cell? ((((w.alloc (.cells #[.int .i64 s.r, .int .i64 s.q, .int .i64 s.p, .slice a.cA s.nA a.pA, .slice a.cB s.nB a.pB, .slice a.cC s.nC a.pC] 35)).alloc (.cells #[.int .i64 a2, .int .i64 b2] 38)).alloc (.cells #[.int .i64 a3, .int .i64 b3] 38)).alloc (.cells #[.int .i64 a4, .int .i64 b4] 38)) ⟨w.heap.size + 1, 0, none⟩ = some (.int .i64 a2) := by go_simp
    have p1 : World.cell? ((((w.alloc (.cells #[.int .i64 s.r, .int .i64 s.q, .int .i64 s.p, .slice a.cA s.nA a.pA, .slice a.cB s.nB a.pB, .slice a.cC s.nC a.pC] 35)).alloc (.cells #[.int .i64 a2, .int .i64 b2] 38)).alloc (.cells #[.int .i64 a3, .int .i64 b3] 38)).alloc (.cells #[.int .i64 a4, .int .i64 b4] 38)) ⟨w.heap.size + 1, 1, none⟩ = some (.int .i64 b2) := by go_simp
    have q0 : World.cell? ((((w.alloc (.cells #[.int .i64 s.r, .int .i64 s.q, .int .i64 s.p, .slice a.cA s.nA a.pA, .slice a.cB s.nB a.pB, .slice a.cC s.nC a.pC] 35)).alloc (.cells #[.int .i64 a2, .int .i64 b2] 38)).alloc (.cells #[.int .i64 a3, .int .i64 b3] 38)).alloc (.cells #[.int .i64 a4, .int .i64 b4] 38)) ⟨w.heap.size + 2, 0, none⟩ = some (.int .i64 a3) := by go_simp
    have q1 : World.cell? ((((w.alloc (.cells #[.int .i64 s.r, .int .i64 s.q, .int .i64 s.p, .slice a.cA s.nA a.pA, .slice a.cB s.nB a.pB, .slice a.cC s.nC a.pC] 35)).alloc (.cells #[.int .i64 a2, .int .i64 b2] 38)).alloc (.cells #[.int .i64 a3, .int .i64 b3] 38)).alloc (.cells #[.int .i64 a4, .int .i64 b4] 38)) ⟨w.heap.size + 2, 1, none⟩ = some (.int .i64 b3) := by go_simp
    have r0 : World.cell? ((((w.alloc (.cells #[.int .i64 s.r, .int .i64 s.q, .int .i64 s.p, .slice a.cA s.nA a.pA, .slice a.cB s.nB a.pB, .slice a.cC s.nC a.pC] 35)).alloc (.cells #[.int .i64 a2, .int .i64 b2] 38)).alloc (.cells #[.int .i64 a3, .int .i64 b3] 38)).alloc (.cells #[.int .i64 a4, .int .i64 b4] 38)) ⟨w.heap.size + 3, 0, none⟩ = some (.int .i64 a4) := by go_simp
    have r1 : World.cell? ((((w.alloc (.cells #[.int .i64 s.r, .int .i64 s.q, .int .i64 s.p, .slice a.cA s.nA a.pA, .slice a.cB s.nB a.pB, .slice a.cC s.nC a.pC] 35)).alloc (.cells #[.int .i64 a2, .int .i64 b2] 38)).alloc (.cells #[.int .i64 a3, .int .i64 b3] 38)).alloc (.cells #[.int .i64 a4, .int .i64 b4] 38)) ⟨w.heap.size + 3, 1, none⟩ = some (.int .i64 b4) := by go_simp
    have BX := hik (cel6 x0 x1 x2 x3 x4 x5)
    go_enter Try.func10, Try.ntmps10
    go_upto_region 1 with fail
    have EX := hik (show (World.cell? (((((w.alloc (.cells #[.int .i64 s.r, .int .i64 s.q, .int .i64 s.p, .slice a.cA s.nA a.pA, .slice a.cB s.nB a.pB, .slice a.cC s.nC a.pC] 35)).alloc (.cells #[.int .i64 a2, .int .i64 b2] 38)).alloc (.cells #[.int .i64 a3, .int .i64 b3] 38)).alloc (.cells #[.int .i64 a4, .int .i64 b4] 38))) ⟨w.heap.size + 1, 0, none⟩ = some (.int .i64 a2) ∧ World.cell? (((((w.alloc (.cells #[.int .i64 s.r, .int .i64 s.q, .int .i64 s.p, .slice a.cA s.nA a.pA, .slice a.cB s.nB a.pB, .slice a.cC s.nC a.pC] 35)).alloc (.cells #[.int .i64 a2, .int .i64 b2] 38)).alloc (.cells #[.int .i64 a3, .int .i64 b3] 38)).alloc (.cells #[.int .i64 a4, .int .i64 b4] 38))) ⟨w.heap.size + 1, 1, none⟩ = some (.int .i64 b2) ∧ World.cell? (((((w.alloc (.cells #[.int .i64 s.r, .int .i64 s.q, .int .i64 s.p, .slice a.cA s.nA a.pA, .slice a.cB s.nB a.pB, .slice a.cC s.nC a.pC] 35)).alloc (.cells #[.int .i64 a2, .int .i64 b2] 38)).alloc (.cells #[.int .i64 a3, .int .i64 b3] 38)).alloc (.cells #[.int .i64 a4, .int .i64 b4] 38))) ⟨w.heap.size + 2, 0, none⟩ = some (.int .i64 a3) ∧ World.cell? (((((w.alloc (.cells #[.int .i64 s.r, .int .i64 s.q, .int .i64 s.p, .slice a.cA s.nA a.pA, .slice a.cB s.nB a.pB, .slice a.cC s.nC a.pC] 35)).alloc (.cells #[.int .i64 a2, .int .i64 b2] 38)).alloc (.cells #[.int .i64 a3, .int .i64 b3] 38)).alloc (.cells #[.int .i64 a4, .int .i64 b4] 38))) ⟨w.heap.size + 2, 1, none⟩ = some (.int .i64 b3) ∧ World.cell? (((((w.alloc (.cells #[.int .i64 s.r, .int .i64 s.q, .int .i64 s.p, .slice a.cA s.nA a.pA, .slice a.cB s.nB a.pB, .slice a.cC s.nC a.pC] 35)).alloc (.cells #[.int .i64 a2, .int .i64 b2] 38)).alloc (.cells #[.int .i64 a3, .int .i64 b3] 38)).alloc (.cells #[.int .i64 a4, .int .i64 b4] 38))) ⟨w.heap.size + 3, 0, none⟩ = some (.int .i64 a4) ∧ World.cell? (((((w.alloc (.cells #[.int .i64 s.r, .int .i64 s.q, .int .i64 s.p, .slice a.cA s.nA a.pA, .slice a.cB s.nB a.pB, .slice a.cC s.nC a.pC] 35)).alloc (.cells #[.int .i64 a2, .int .i64 b2] 38)).alloc (.cells #[.int .i64 a3, .int .i64 b3] 38)).alloc (.cells #[.int .i64 a4, .int .i64 b4] 38))) ⟨w.heap.size + 3, 1, none⟩ = some (.int .i64 b4)) from ⟨p0, p1, q0, q1, r0, r1⟩)
    clear x0 x1 x2 x3 x4 x5 p0 p1 q0 q1 r0 r1
    generalize ((((w.alloc (.cells #[.int .i64 s.r, .int .i64 s.q, .int .i64 s.p, .slice a.cA s.nA a.pA, .slice a.cB s.nB a.pB, .slice a.cC s.nC a.pC] 35)).alloc (.cells #[.int .i64 a2, .int .i64 b2] 38)).alloc (.cells #[.int .i64 a3, .int .i64 b3] 38)).alloc (.cells #[.int .i64 a4, .int .i64 b4] 38)) = B at KB BX EX ⊢
    go_wp2
    go_ret2
    exact TbC.none HC.out HM.out KB.out
  have h1' : ¬ (4096 : Int) < n := by omega
  have hC : bdc s n f g (pk3 a2 a3 a4) (pk3 b2 b3 b4) = if sysb s = false ∨ okP f g n = false ∨ okP (pk3 a2 a3 a4) (pk3 b2 b3 b4) 3 = false then 1 else if ¬ (n : Int) = s.r then 8 else 0 := by unfold bdc; rw [if_neg h1]
  cases h2 : sysb s with
  | false =>
    have HC := hik (show bdc s n f g (pk3 a2 a3 a4) (pk3 b2 b3 b4) = 1 by rw [hC, if_pos (.inl h2)])
    have HM := hik (show bdn s n f g (pk3 a2 a3 a4) (pk3 b2 b3 b4) = 0 by unfold bdn; rw [HC.out]; rfl)
    have H2 := hik h2
    clear hC h2
    have KB := hik (((((Chg.refl nob w).alloc (.cells #[.int .i64 s.r, .int .i64 s.q, .int .i64 s.p, .slice a.cA s.nA a.pA, .slice a.cB s.nB a.pB, .slice a.cC s.nC a.pC] 35)).alloc (.cells #[.int .i64 a2, .int .i64 b2] 38)).alloc (.cells #[.int .i64 a3, .int .i64 b3] 38)).alloc (.cells #[.int .i64 a4, .int .i64 b4] 38))
    have x0 : World.cell? ((((w.alloc (.cells #[.int .i64 s.r, .int .i64 s.q, .int .i64 s.p, .slice a.cA s.nA a.pA, .slice a.cB s.nB a.pB, .slice a.cC s.nC a.pC] 35)).alloc (.cells #[.int .i64 a2, .int .i64 b2] 38)).alloc (.cells #[.int .i64 a3, .int .i64 b3] 38)).alloc (.cells #[.int .i64 a4, .int .i64 b4] 38)) ⟨w.heap.size, 0, none⟩ = some (.int .i64 s.r) := by go_simp
    have x1 : World.cell? ((((w.alloc (.cells #[.int .i64 s.r, .int .i64 s.q, .int .i64 s.p, .slice a.cA s.nA a.pA, .slice a.cB s.nB a.pB, .slice a.cC s.nC a.pC] 35)).alloc (.cells #[.int .i64 a2, .int .i64 b2] 38)).alloc (.cells #[.int .i64 a3, .int .i64 b3] 38)).alloc (.cells #[.int .i64 a4, .int .i64 b4] 38)) ⟨w.heap.size, 1, none⟩ = some (.int .i64 s.q) := by go_simp
    have x2 : World.cell? ((((w.alloc (.cells #[.int .i64 s.r, .int .i64 s.q, .int .i64 s.p, .slice a.cA s.nA a.pA, .slice a.cB s.nB a.pB, .slice a.cC s.nC a.pC] 35)).alloc (.cells #[.int .i64 a2, .int .i64 b2] 38)).alloc (.cells #[.int .i64 a3, .int .i64 b3] 38)).alloc (.cells #[.int .i64 a4, .int .i64 b4] 38)) ⟨w.heap.size, 2, none⟩ = some (.int .i64 s.p) := by go_simp
    have x3 : World.cell? ((((w.alloc (.cells #[.int .i64 s.r, .int .i64 s.q, .int .i64 s.p, .slice a.cA s.nA a.pA, .slice a.cB s.nB a.pB, .slice a.cC s.nC a.pC] 35)).alloc (.cells #[.int .i64 a2, .int .i64 b2] 38)).alloc (.cells #[.int .i64 a3, .int .i64 b3] 38)).alloc (.cells #[.int .i64 a4, .int .i64 b4] 38)) ⟨w.heap.size, 3, none⟩ = some (.slice a.cA s.nA a.pA) := by go_simp
    have x4 : World.cell? ((((w.alloc (.cells #[.int .i64 s.r, .int .i64 s.q, .int .i64 s.p, .slice a.cA s.nA a.pA, .slice a.cB s.nB a.pB, .slice a.cC s.nC a.pC] 35)).alloc (.cells #[.int .i64 a2, .int .i64 b2] 38)).alloc (.cells #[.int .i64 a3, .int .i64 b3] 38)).alloc (.cells #[.int .i64 a4, .int .i64 b4] 38)) ⟨w.heap.size, 4, none⟩ = some (.slice a.cB s.nB a.pB) := by go_simp
    have x5 : World.cell? ((((w.alloc (.cells #[.int .i64 s.r, .int .i64 s.q, .int .i64 s.p, .slice a.cA s.nA a.pA, .slice a.cB s.nB a.pB, .slice a.cC s.nC a.pC] 35)).alloc (.cells #[.int .i64 a2, .int .i64 b2] 38)).alloc (.cells #[.int .i64 a3, .int .i64 b3] 38)).alloc (.cells #[.int .i64 a4, .int .i64 b4] 38)) ⟨w.heap.size, 5, none⟩ = some (.slice a.cC s.nC a.pC) := by go_simp
    have p0 : World.cell? ((((w.alloc (.cells #[.int .i64 s.r, .int .i64 s.q, .int .i64 s.p, .slice a.cA s.nA a.pA, .slice a.cB s.nB a.pB, .slice a.cC s.nC a.pC] 35)).alloc (.cells #[.int .i64 a2, .int .i64 b2] 38)).alloc (.cells #[.int .i64 a3, .int .i64 b3] 38)).alloc (.cells #[.int .i64 a4, .int .i64 b4] 38)) ⟨w.heap.size + 1, 0, none⟩ = some (.int .i64 a2) := by go_simp
    have p1 : World.cell? ((((w.alloc (.cells #[.int .i64 s.r, .int .i64 s.q, .int .i64 s.p, .slice a.cA s.nA a.pA, .slice a.cB s.nB a.pB, .slice a.cC s.nC a.pC] 35)).alloc (.cells #[.int .i64 a2, .int .i64 b2] 38)).alloc (.cells #[.int .i64 a3, .int .i64 b3] 38)).alloc (.cells #[.int .i64 a4, .int .i64 b4] 38)) ⟨w.heap.size + 1, 1, none⟩ = some (.int .i64 b2) := by go_simp
    have q0 : World.cell? ((((w.alloc (.cells #[.int .i64 s.r, .int .i64 s.q, .int .i64 s.p, .slice a.cA s.nA a.pA, .slice a.cB s.nB a.pB, .slice a.cC s.nC a.pC] 35)).alloc (.cells #[.int .i64 a2, .int .i64 b2] 38)).alloc (.cells #[.int .i64 a3, .int .i64 b3] 38)).alloc (.cells #[.int .i64 a4, .int .i64 b4] 38)) ⟨w.heap.size + 2, 0, none⟩ = some (.int .i64 a3) := by go_simp
    have q1 : World.cell? ((((w.alloc (.cells #[.int .i64 s.r, .int .i64 s.q, .int .i64 s.p, .slice a.cA s.nA a.pA, .slice a.cB s.nB a.pB, .slice a.cC s.nC a.pC] 35)).alloc (.cells #[.int .i64 a2, .int .i64 b2] 38)).alloc (.cells #[.int .i64 a3, .int .i64 b3] 38)).alloc (.cells #[.int .i64 a4, .int .i64 b4] 38)) ⟨w.heap.size + 2, 1, none⟩ = some (.int .i64 b3) := by go_simp
    have r0 : World.cell? ((((w.alloc (.cells #[.int .i64 s.r, .int .i64 s.q, .int .i64 s.p, .slice a.cA s.nA a.pA, .slice a.cB s.nB a.pB, .slice a.cC s.nC a.pC] 35)).alloc (.cells #[.int .i64 a2, .int .i64 b2] 38)).alloc (.cells #[.int .i64 a3, .int .i64 b3] 38)).alloc (.cells #[.int .i64 a4, .int .i64 b4] 38)) ⟨w.heap.size + 3, 0, none⟩ = some (.int .i64 a4) := by go_simp
    have r1 : World.cell? ((((w.alloc (.cells #[.int .i64 s.r, .int .i64 s.q, .int .i64 s.p, .slice a.cA s.nA a.pA, .slice a.cB s.nB a.pB, .slice a.cC s.nC a.pC] 35)).alloc (.cells #[.int .i64 a2, .int .i64 b2] 38)).alloc (.cells #[.int .i64 a3, .int .i64 b3] 38)).alloc (.cells #[.int .i64 a4, .int .i64 b4] 38)) ⟨w.heap.size + 3, 1, none⟩ = some (.int .i64 b4) := by go_simp
    have BX := hik (cel6 x0 x1 x2 x3 x4 x5)
    go_enter Try.func10, Try.ntmps10
    go_upto_region 1 with fail
    have EX := hik (show (World.cell? (((((w.alloc (.cells #[.int .i64 s.r, .int .i64 s.q, .int .i64 s.p, .slice a.cA s.nA a.pA, .slice a.cB s.nB a.pB, .slice a.cC s.nC a.pC] 35)).alloc (.cells #[.int .i64 a2, .int .i64 b2] 38)).alloc (.cells #[.int .i64 a3, .int .i64 b3] 38)).alloc (.cells #[.int .i64 a4, .int .i64 b4] 38))) ⟨w.heap.size + 1, 0, none⟩ = some (.int .i64 a2) ∧ World.cell? (((((w.alloc (.cells #[.int .i64 s.r, .int .i64 s.q, .int .i64 s.p, .slice a.cA s.nA a.pA, .slice a.cB s.nB a.pB, .slice a.cC s.nC a.pC] 35)).alloc (.cells #[.int .i64 a2, .int .i64 b2] 38)).alloc (.cells #[.int .i64 a3, .int .i64 b3] 38)).alloc (.cells #[.int .i64 a4, .int .i64 b4] 38))) ⟨w.heap.size + 1, 1, none⟩ = some (.int .i64 b2) ∧ World.cell? (((((w.alloc (.cells #[.int .i64 s.r, .int .i64 s.q, .int .i64 s.p, .slice a.cA s.nA a.pA, .slice a.cB s.nB a.pB, .slice a.cC s.nC a.pC] 35)).alloc (.cells #[.int .i64 a2, .int .i64 b2] 38)).alloc (.cells #[.int .i64 a3, .int .i64 b3] 38)).alloc (.cells #[.int .i64 a4, .int .i64 b4] 38))) ⟨w.heap.size + 2, 0, none⟩ = some (.int .i64 a3) ∧ World.cell? (((((w.alloc (.cells #[.int .i64 s.r, .int .i64 s.q, .int .i64 s.p, .slice a.cA s.nA a.pA, .slice a.cB s.nB a.pB, .slice a.cC s.nC a.pC] 35)).alloc (.cells #[.int .i64 a2, .int .i64 b2] 38)).alloc (.cells #[.int .i64 a3, .int .i64 b3] 38)).alloc (.cells #[.int .i64 a4, .int .i64 b4] 38))) ⟨w.heap.size + 2, 1, none⟩ = some (.int .i64 b3) ∧ World.cell? (((((w.alloc (.cells #[.int .i64 s.r, .int .i64 s.q, .int .i64 s.p, .slice a.cA s.nA a.pA, .slice a.cB s.nB a.pB, .slice a.cC s.nC a.pC] 35)).alloc (.cells #[.int .i64 a2, .int .i64 b2] 38)).alloc (.cells #[.int .i64 a3, .int .i64 b3] 38)).alloc (.cells #[.int .i64 a4, .int .i64 b4] 38))) ⟨w.heap.size + 3, 0, none⟩ = some (.int .i64 a4) ∧ World.cell? (((((w.alloc (.cells #[.int .i64 s.r, .int .i64 s.q, .int .i64 s.p, .slice a.cA s.nA a.pA, .slice a.cB s.nB a.pB, .slice a.cC s.nC a.pC] 35)).alloc (.cells #[.int .i64 a2, .int .i64 b2] 38)).alloc (.cells #[.int .i64 a3, .int .i64 b3] 38)).alloc (.cells #[.int .i64 a4, .int .i64 b4] 38))) ⟨w.heap.size + 3, 1, none⟩ = some (.int .i64 b4)) from ⟨p0, p1, q0, q1, r0, r1⟩)
    clear x0 x1 x2 x3 x4 x5 p0 p1 q0 q1 r0 r1
    generalize ((((w.alloc (.cells #[.int .i64 s.r, .int .i64 s.q, .int .i64 s.p, .slice a.cA s.nA a.pA, .slice a.cB s.nB a.pB, .slice a.cC s.nC a.pC] 35)).alloc (.cells #[.int .i64 a2, .int .i64 b2] 38)).alloc (.cells #[.int .i64 a3, .int .i64 b3] 38)).alloc (.cells #[.int .i64 a4, .int .i64 b4] 38)) = B at KB BX EX ⊢
    obtain ⟨p0, p1, q0, q1, r0, r1⟩ := EX.out
    go_upto_region 4 with fail
    have KT := hik ((Chg.refl nob B).alloc (.cells #[.int .i64 a2, .int .i64 b2, .int .i64 a3, .int .i64 b3, .int .i64 a4, .int .i64 b4] 50))
    have PT := hik (rowNn B 6 #[.int .i64 a2, .int .i64 b2, .int .i64 a3, .int .i64 b3, .int .i64 a4, .int .i64 b4] 50 rfl)
    replace KB := hik (KB.out.trans KT.out)
    replace BX := hik (BX.out.keep KT.out)
    replace EX := hik (show World.cell? _ ⟨w.heap.size + 1, 0, none⟩ = some (.int .i64 a2) ∧ World.cell? _ ⟨w.heap.size + 1, 1, none⟩ = some (.int .i64 b2) ∧ World.cell? _ ⟨w.heap.size + 2, 0, none⟩ = some (.int .i64 a3) ∧ World.cell? _ ⟨w.heap.size + 2, 1, none⟩ = some (.int .i64 b3) ∧ World.cell? _ ⟨w.heap.size + 3, 0, none⟩ = some (.int .i64 a4) ∧ World.cell? _ ⟨w.heap.size + 3, 1, none⟩ = some (.int .i64 b4) from ⟨KT.out.see EX.out.1, KT.out.see EX.out.2.1, KT.out.see EX.out.2.2.1, KT.out.see EX.out.2.2.2.1, KT.out.see EX.out.2.2.2.2.1, KT.out.see EX.out.2.2.2.2.2⟩)
    clear p0 p1 q0 q1 r0 r1
    generalize hW0 : B.alloc (.cells #[.int .i64 a2, .int .i64 b2, .int .i64 a3, .int .i64 b3, .int .i64 a4, .int .i64 b4] 50) = W0 at KB BX EX PT ⊢
    clear hW0 KT
    have hgw := PT.out.lt
    generalize hGW : B.heap.size = gW at PT hgw ⊢
    clear hGW hgw
    obtain ⟨x0, x1, x2, x3, x4, x5⟩ := BX.out.six
    go_wp2_with fail
    refine (sysOK_any s a _ (hik (hv.out.keep KB.out)) hs).mono ?_
    rw [H2.out]
    rintro e W1 ⟨rfl, k1⟩
    replace KB := hik (KB.out.trans k1)
    replace BX := hik (BX.out.keep k1)
    replace EX := hik (show World.cell? _ ⟨w.heap.size + 1, 0, none⟩ = some (.int .i64 a2) ∧ World.cell? _ ⟨w.heap.size + 1, 1, none⟩ = some (.int .i64 b2) ∧ World.cell? _ ⟨w.heap.size + 2, 0, none⟩ = some (.int .i64 a3) ∧ World.cell? _ ⟨w.heap.size + 2, 1, none⟩ = some (.int .i64 b3) ∧ World.cell? _ ⟨w.heap.size + 3, 0, none⟩ = some (.int .i64 a4) ∧ World.cell? _ ⟨w.heap.size + 3, 1, none⟩ = some (.int .i64 b4) from ⟨k1.see EX.out.1, k1.see EX.out.2.1, k1.see EX.out.2.2.1, k1.see EX.out.2.2.2.1, k1.see EX.out.2.2.2.2.1, k1.see EX.out.2.2.2.2.2⟩)
    replace PT := hik (rowIs_keep PT.out k1)
    clear k1 x0 x1 x2 x3 x4 x5
    go_wp2
    go_ret2
    exact TbC.none HC.out HM.out KB.out
  | true =>
  have H2 := hik h2
  cases h3 : okP f g n with
  | false =>
    have HC := hik (show bdc s n f g (pk3 a2 a3 a4) (pk3 b2 b3 b4) = 1 by rw [hC, if_pos (.inr (.inl h3))])
    have HM := hik (show bdn s n f g (pk3 a2 a3 a4) (pk3 b2 b3 b4) = 0 by unfold bdn; rw [HC.out]; rfl)
    have H3 := hik h3
    clear hC h2 h3
    have KB := hik (((((Chg.refl nob w).alloc (.cells #[.int .i64 s.r, .int .i64 s.q, .int .i64 s.p, .slice a.cA s.nA a.pA, .slice a.cB s.nB a.pB, .slice a.cC s.nC a.pC] 35)).alloc (.cells #[.int .i64 a2, .int .i64 b2] 38)).alloc (.cells #[.int .i64 a3, .int .i64 b3] 38)).alloc (.cells #[.int .i64 a4, .int .i64 b4] 38))
    have x0 : World.cell? ((((w.alloc (.cells #[.int .i64 s.r, .int .i64 s.q, .int .i64 s.p, .slice a.cA s.nA a.pA, .slice a.cB s.nB a.pB, .slice a.cC s.nC a.pC] 35)).alloc (.cells #[.int .i64 a2, .int .i64 b2] 38)).alloc (.cells #[.int .i64 a3, .int .i64 b3] 38)).alloc (.cells #[.int .i64 a4, .int .i64 b4] 38)) ⟨w.heap.size, 0, none⟩ = some (.int .i64 s.r) := by go_simp
    have x1 : World.cell? ((((w.alloc (.cells #[.int .i64 s.r, .int .i64 s.q, .int .i64 s.p, .slice a.cA s.nA a.pA, .slice a.cB s.nB a.pB, .slice a.cC s.nC a.pC] 35)).alloc (.cells #[.int .i64 a2, .int .i64 b2] 38)).alloc (.cells #[.int .i64 a3, .int .i64 b3] 38)).alloc (.cells #[.int .i64 a4, .int .i64 b4] 38)) ⟨w.heap.size, 1, none⟩ = some (.int .i64 s.q) := by go_simp
    have x2 : World.cell? ((((w.alloc (.cells #[.int .i64 s.r, .int .i64 s.q, .int .i64 s.p, .slice a.cA s.nA a.pA, .slice a.cB s.nB a.pB, .slice a.cC s.nC a.pC] 35)).alloc (.cells #[.int .i64 a2, .int .i64 b2] 38)).alloc (.cells #[.int .i64 a3, .int .i64 b3] 38)).alloc (.cells #[.int .i64 a4, .int .i64 b4] 38)) ⟨w.heap.size, 2, none⟩ = some (.int .i64 s.p) := by go_simp
    have x3 : World.cell? ((((w.alloc (.cells #[.int .i64 s.r, .int .i64 s.q, .int .i64 s.p, .slice a.cA s.nA a.pA, .slice a.cB s.nB a.pB, .slice a.cC s.nC a.pC] 35)).alloc (.cells #[.int .i64 a2, .int .i64 b2] 38)).alloc (.cells #[.int .i64 a3, .int .i64 b3] 38)).alloc (.cells #[.int .i64 a4, .int .i64 b4] 38)) ⟨w.heap.size, 3, none⟩ = some (.slice a.cA s.nA a.pA) := by go_simp
    have x4 : World.cell? ((((w.alloc (.cells #[.int .i64 s.r, .int .i64 s.q, .int .i64 s.p, .slice a.cA s.nA a.pA, .slice a.cB s.nB a.pB, .slice a.cC s.nC a.pC] 35)).alloc (.cells #[.int .i64 a2, .int .i64 b2] 38)).alloc (.cells #[.int .i64 a3, .int .i64 b3] 38)).alloc (.cells #[.int .i64 a4, .int .i64 b4] 38)) ⟨w.heap.size, 4, none⟩ = some (.slice a.cB s.nB a.pB) := by go_simp
    have x5 : World.cell? ((((w.alloc (.cells #[.int .i64 s.r, .int .i64 s.q, .int .i64 s.p, .slice a.cA s.nA a.pA, .slice a.cB s.nB a.pB, .slice a.cC s.nC a.pC] 35)).alloc (.cells #[.int .i64 a2, .int .i64 b2] 38)).alloc (.cells #[.int .i64 a3, .int .i64 b3] 38)).alloc (.cells #[.int .i64 a4, .int .i64 b4] 38)) ⟨w.heap.size, 5, none⟩ = some (.slice a.cC s.nC a.pC) := by go_simp
    have p0 : World.cell? ((((w.alloc (.cells #[.int .i64 s.r, .int .i64 s.q, .int .i64 s.p, .slice a.cA s.nA a.pA, .slice a.cB s.nB a.pB, .slice a.cC s.nC a.pC] 35)).alloc (.cells #[.int .i64 a2, .int .i64 b2] 38)).alloc (.cells #[.int .i64 a3, .int .i64 b3] 38)).alloc (.cells #[.int .i64 a4, .int .i64 b4] 38)) ⟨w.heap.size + 1, 0, none⟩ = some (.int .i64 a2) := by go_simp
    have p1 : World.cell? ((((w.alloc (.cells #[.int .i64 s.r, .int .i64 s.q, .int .i64 s.p, .slice a.cA s.nA a.pA, .slice a.cB s.nB a.pB, .slice a.cC s.nC a.pC] 35)).alloc (.cells #[.int .i64 a2, .int .i64 b2] 38)).alloc (.cells #[.int .i64 a3, .int .i64 b3] 38)).alloc (.cells #[.int .i64 a4, .int .i64 b4] 38)) ⟨w.heap.size + 1, 1, none⟩ = some (.int .i64 b2) := by go_simp
    have q0 : World.cell? ((((w.alloc (.cells #[.int .i64 s.r, .int .i64 s.q, .int .i64 s.p, .slice a.cA s.nA a.pA, .slice a.cB s.nB a.pB, .slice a.cC s.nC a.pC] 35)).alloc (.cells #[.int .i64 a2, .int .i64 b2] 38)).alloc (.cells #[.int .i64 a3, .int .i64 b3] 38)).alloc (.cells #[.int .i64 a4, .int .i64 b4] 38)) ⟨w.heap.size + 2, 0, none⟩ = some (.int .i64 a3) := by go_simp
    have q1 : World.cell? ((((w.alloc (.cells #[.int .i64 s.r, .int .i64 s.q, .int .i64 s.p, .slice a.cA s.nA a.pA, .slice a.cB s.nB a.pB, .slice a.cC s.nC a.pC] 35)).alloc (.cells #[.int .i64 a2, .int .i64 b2] 38)).alloc (.cells #[.int .i64 a3, .int .i64 b3] 38)).alloc (.cells #[.int .i64 a4, .int .i64 b4] 38)) ⟨w.heap.size + 2, 1, none⟩ = some (.int .i64 b3) := by go_simp
    have r0 : World.cell? ((((w.alloc (.cells #[.int .i64 s.r, .int .i64 s.q, .int .i64 s.p, .slice a.cA s.nA a.pA, .slice a.cB s.nB a.pB, .slice a.cC s.nC a.pC] 35)).alloc (.cells #[.int .i64 a2, .int .i64 b2] 38)).alloc (.cells #[.int .i64 a3, .int .i64 b3] 38)).alloc (.cells #[.int .i64 a4, .int .i64 b4] 38)) ⟨w.heap.size + 3, 0, none⟩ = some (.int .i64 a4) := by go_simp
    have r1 : World.cell? ((((w.alloc (.cells #[.int .i64 s.r, .int .i64 s.q, .int .i64 s.p, .slice a.cA s.nA a.pA, .slice a.cB s.nB a.pB, .slice a.cC s.nC a.pC] 35)).alloc (.cells #[.int .i64 a2, .int .i64 b2] 38)).alloc (.cells #[.int .i64 a3, .int .i64 b3] 38)).alloc (.cells #[.int .i64 a4, .int .i64 b4] 38)) ⟨w.heap.size + 3, 1, none⟩ = some (.int .i64 b4) := by go_simp
    have BX := hik (cel6 x0 x1 x2 x3 x4 x5)
    go_enter Try.func10, Try.ntmps10
    go_upto_region 1 with fail
    have EX := hik (show (World.cell? (((((w.alloc (.cells #[.int .i64 s.r, .int .i64 s.q, .int .i64 s.p, .slice a.cA s.nA a.pA, .slice a.cB s.nB a.pB, .slice a.cC s.nC a.pC] 35)).alloc (.cells #[.int .i64 a2, .int .i64 b2] 38)).alloc (.cells #[.int .i64 a3, .int .i64 b3] 38)).alloc (.cells #[.int .i64 a4, .int .i64 b4] 38))) ⟨w.heap.size + 1, 0, none⟩ = some (.int .i64 a2) ∧ World.cell? (((((w.alloc (.cells #[.int .i64 s.r, .int .i64 s.q, .int .i64 s.p, .slice a.cA s.nA a.pA, .slice a.cB s.nB a.pB, .slice a.cC s.nC a.pC] 35)).alloc (.cells #[.int .i64 a2, .int .i64 b2] 38)).alloc (.cells #[.int .i64 a3, .int .i64 b3] 38)).alloc (.cells #[.int .i64 a4, .int .i64 b4] 38))) ⟨w.heap.size + 1, 1, none⟩ = some (.int .i64 b2) ∧ World.cell? (((((w.alloc (.cells #[.int .i64 s.r, .int .i64 s.q, .int .i64 s.p, .slice a.cA s.nA a.pA, .slice a.cB s.nB a.pB, .slice a.cC s.nC a.pC] 35)).alloc (.cells #[.int .i64 a2, .int .i64 b2] 38)).alloc (.cells #[.int .i64 a3, .int .i64 b3] 38)).alloc (.cells #[.int .i64 a4, .int .i64 b4] 38))) ⟨w.heap.size + 2, 0, none⟩ = some (.int .i64 a3) ∧ World.cell? (((((w.alloc (.cells #[.int .i64 s.r, .int .i64 s.q, .int .i64 s.p, .slice a.cA s.nA a.pA, .slice a.cB s.nB a.pB, .slice a.cC s.nC a.pC] 35)).alloc (.cells #[.int .i64 a2, .int .i64 b2] 38)).alloc (.cells #[.int .i64 a3, .int .i64 b3] 38)).alloc (.cells #[.int .i64 a4, .int .i64 b4] 38))) ⟨w.heap.size + 2, 1, none⟩ = some (.int .i64 b3) ∧ World.cell? (((((w.alloc (.cells #[.int .i64 s.r, .int .i64 s.q, .int .i64 s.p, .slice a.cA s.nA a.pA, .slice a.cB s.nB a.pB, .slice a.cC s.nC a.pC] 35)).alloc (.cells #[.int .i64 a2, .int .i64 b2] 38)).alloc (.cells #[.int .i64 a3, .int .i64 b3] 38)).alloc (.cells #[.int .i64 a4, .int .i64 b4] 38))) ⟨w.heap.size + 3, 0, none⟩ = some (.int .i64 a4) ∧ World.cell? (((((w.alloc (.cells #[.int .i64 s.r, .int .i64 s.q, .int .i64 s.p, .slice a.cA s.nA a.pA, .slice a.cB s.nB a.pB, .slice a.cC s.nC a.pC] 35)).alloc (.cells #[.int .i64 a2, .int .i64 b2] 38)).alloc (.cells #[.int .i64 a3, .int .i64 b3] 38)).alloc (.cells #[.int .i64 a4, .int .i64 b4] 38))) ⟨w.heap.size + 3, 1, none⟩ = some (.int .i64 b4)) from ⟨p0, p1, q0, q1, r0, r1⟩)
    clear x0 x1 x2 x3 x4 x5 p0 p1 q0 q1 r0 r1
    generalize ((((w.alloc (.cells #[.int .i64 s.r, .int .i64 s.q, .int .i64 s.p, .slice a.cA s.nA a.pA, .slice a.cB s.nB a.pB, .slice a.cC s.nC a.pC] 35)).alloc (.cells #[.int .i64 a2, .int .i64 b2] 38)).alloc (.cells #[.int .i64 a3, .int .i64 b3] 38)).alloc (.cells #[.int .i64 a4, .int .i64 b4] 38)) = B at KB BX EX ⊢
    obtain ⟨p0, p1, q0, q1, r0, r1⟩ := EX.out
    go_upto_region 4 with fail
    have KT := hik ((Chg.refl nob B).alloc (.cells #[.int .i64 a2, .int .i64 b2, .int .i64 a3, .int .i64 b3, .int .i64 a4, .int .i64 b4] 50))
    have PT := hik (rowNn B 6 #[.int .i64 a2, .int .i64 b2, .int .i64 a3, .int .i64 b3, .int .i64 a4, .int .i64 b4] 50 rfl)
    replace KB := hik (KB.out.trans KT.out)
    replace BX := hik (BX.out.keep KT.out)
    replace EX := hik (show World.cell? _ ⟨w.heap.size + 1, 0, none⟩ = some (.int .i64 a2) ∧ World.cell? _ ⟨w.heap.size + 1, 1, none⟩ = some (.int .i64 b2) ∧ World.cell? _ ⟨w.heap.size + 2, 0, none⟩ = some (.int .i64 a3) ∧ World.cell? _ ⟨w.heap.size + 2, 1, none⟩ = some (.int .i64 b3) ∧ World.cell? _ ⟨w.heap.size + 3, 0, none⟩ = some (.int .i64 a4) ∧ World.cell? _ ⟨w.heap.size + 3, 1, none⟩ = some (.int .i64 b4) from ⟨KT.out.see EX.out.1, KT.out.see EX.out.2.1, KT.out.see EX.out.2.2.1, KT.out.see EX.out.2.2.2.1, KT.out.see EX.out.2.2.2.2.1, KT.out.see EX.out.2.2.2.2.2⟩)
    clear p0 p1 q0 q1 r0 r1
    generalize hW0 : B.alloc (.cells #[.int .i64 a2, .int .i64 b2, .int .i64 a3, .int .i64 b3, .int .i64 a4, .int .i64 b4] 50) = W0 at KB BX EX PT ⊢
    clear hW0 KT
    have hgw := PT.out.lt
    generalize hGW : B.heap.size = gW at PT hgw ⊢
    clear hGW hgw
    obtain ⟨x0, x1, x2, x3, x4, x5⟩ := BX.out.six
    go_wp2_with fail
    refine (sysOK_any s a _ (hik (hv.out.keep KB.out)) hs).mono ?_
    rw [H2.out]
    rintro e W1 ⟨rfl, k1⟩
    replace KB := hik (KB.out.trans k1)
    replace BX := hik (BX.out.keep k1)
    replace EX := hik (show World.cell? _ ⟨w.heap.size + 1, 0, none⟩ = some (.int .i64 a2) ∧ World.cell? _ ⟨w.heap.size + 1, 1, none⟩ = some (.int .i64 b2) ∧ World.cell? _ ⟨w.heap.size + 2, 0, none⟩ = some (.int .i64 a3) ∧ World.cell? _ ⟨w.heap.size + 2, 1, none⟩ = some (.int .i64 b3) ∧ World.cell? _ ⟨w.heap.size + 3, 0, none⟩ = some (.int .i64 a4) ∧ World.cell? _ ⟨w.heap.size + 3, 1, none⟩ = some (.int .i64 b4) from ⟨k1.see EX.out.1, k1.see EX.out.2.1, k1.see EX.out.2.2.1, k1.see EX.out.2.2.2.1, k1.see EX.out.2.2.2.2.1, k1.see EX.out.2.2.2.2.2⟩)
    replace PT := hik (rowIs_keep PT.out k1)
    clear k1 x0 x1 x2 x3 x4 x5
    go_wp2_with fail
    refine (extsOK_any cx n capx f g _ (hik (PairV.keep hp.out KB.out)) hn).mono ?_
    rw [H3.out]
    rintro e W2 ⟨rfl, k2⟩
    replace KB := hik (KB.out.trans k2)
    replace BX := hik (BX.out.keep k2)
    replace EX := hik (show World.cell? _ ⟨w.heap.size + 1, 0, none⟩ = some (.int .i64 a2) ∧ World.cell? _ ⟨w.heap.size + 1, 1, none⟩ = some (.int .i64 b2) ∧ World.cell? _ ⟨w.heap.size + 2, 0, none⟩ = some (.int .i64 a3) ∧ World.cell? _ ⟨w.heap.size + 2, 1, none⟩ = some (.int .i64 b3) ∧ World.cell? _ ⟨w.heap.size + 3, 0, none⟩ = some (.int .i64 a4) ∧ World.cell? _ ⟨w.heap.size + 3, 1, none⟩ = some (.int .i64 b4) from ⟨k2.see EX.out.1, k2.see EX.out.2.1, k2.see EX.out.2.2.1, k2.see EX.out.2.2.2.1, k2.see EX.out.2.2.2.2.1, k2.see EX.out.2.2.2.2.2⟩)
    replace PT := hik (rowIs_keep PT.out k2)
    clear k2
    go_wp2
    go_ret2
    exact TbC.none HC.out HM.out KB.out
  | true =>
  have H3 := hik h3
  cases h4 : okP (pk3 a2 a3 a4) (pk3 b2 b3 b4) 3 with
  | false =>
    have HC := hik (show bdc s n f g (pk3 a2 a3 a4) (pk3 b2 b3 b4) = 1 by rw [hC, if_pos (.inr (.inr h4))])
    have HM := hik (show bdn s n f g (pk3 a2 a3 a4) (pk3 b2 b3 b4) = 0 by unfold bdn; rw [HC.out]; rfl)
    have H4 := hik h4
    clear hC h2 h3 h4
    have KB := hik (((((Chg.refl nob w).alloc (.cells #[.int .i64 s.r, .int .i64 s.q, .int .i64 s.p, .slice a.cA s.nA a.pA, .slice a.cB s.nB a.pB, .slice a.cC s.nC a.pC] 35)).alloc (.cells #[.int .i64 a2, .int .i64 b2] 38)).alloc (.cells #[.int .i64 a3, .int .i64 b3] 38)).alloc (.cells #[.int .i64 a4, .int .i64 b4] 38))
    have x0 : World.cell? ((((w.alloc (.cells #[.int .i64 s.r, .int .i64 s.q, .int .i64 s.p, .slice a.cA s.nA a.pA, .slice a.cB s.nB a.pB, .slice a.cC s.nC a.pC] 35)).alloc (.cells #[.int .i64 a2, .int .i64 b2] 38)).alloc (.cells #[.int .i64 a3, .int .i64 b3] 38)).alloc (.cells #[.int .i64 a4, .int .i64 b4] 38)) ⟨w.heap.size, 0, none⟩ = some (.int .i64 s.r) := by go_simp
    have x1 : World.cell? ((((w.alloc (.cells #[.int .i64 s.r, .int .i64 s.q, .int .i64 s.p, .slice a.cA s.nA a.pA, .slice a.cB s.nB a.pB, .slice a.cC s.nC a.pC] 35)).alloc (.cells #[.int .i64 a2, .int .i64 b2] 38)).alloc (.cells #[.int .i64 a3, .int .i64 b3] 38)).alloc (.cells #[.int .i64 a4, .int .i64 b4] 38)) ⟨w.heap.size, 1, none⟩ = some (.int .i64 s.q) := by go_simp
    have x2 : World.cell? ((((w.alloc (.cells #[.int .i64 s.r, .int .i64 s.q, .int .i64 s.p, .slice a.cA s.nA a.pA, .slice a.cB s.nB a.pB, .slice a.cC s.nC a.pC] 35)).alloc (.cells #[.int .i64 a2, .int .i64 b2] 38)).alloc (.cells #[.int .i64 a3, .int .i64 b3] 38)).alloc (.cells #[.int .i64 a4, .int .i64 b4] 38)) ⟨w.heap.size, 2, none⟩ = some (.int .i64 s.p) := by go_simp
    have x3 : World.cell? ((((w.alloc (.cells #[.int .i64 s.r, .int .i64 s.q, .int .i64 s.p, .slice a.cA s.nA a.pA, .slice a.cB s.nB a.pB, .slice a.cC s.nC a.pC] 35)).alloc (.cells #[.int .i64 a2, .int .i64 b2] 38)).alloc (.cells #[.int .i64 a3, .int .i64 b3] 38)).alloc (.cells #[.int .i64 a4, .int .i64 b4] 38)) ⟨w.heap.size, 3, none⟩ = some (.slice a.cA s.nA a.pA) := by go_simp
    have x4 : World.cell? ((((w.alloc (.cells #[.int .i64 s.r, .int .i64 s.q, .int .i64 s.p, .slice a.cA s.nA a.pA, .slice a.cB s.nB a.pB, .slice a.cC s.nC a.pC] 35)).alloc (.cells #[.int .i64 a2, .int .i64 b2] 38)).alloc (.cells #[.int .i64 a3, .int .i64 b3] 38)).alloc (.cells #[.int .i64 a4, .int .i64 b4] 38)) ⟨w.heap.size, 4, none⟩ = some (.slice a.cB s.nB a.pB) := by go_simp
    have x5 : World.cell? ((((w.alloc (.cells #[.int .i64 s.r, .int .i64 s.q, .int .i64 s.p, .slice a.cA s.nA a.pA, .slice a.cB s.nB a.pB, .slice a.cC s.nC a.pC] 35)).alloc (.cells #[.int .i64 a2, .int .i64 b2] 38)).alloc (.cells #[.int .i64 a3, .int .i64 b3] 38)).alloc (.cells #[.int .i64 a4, .int .i64 b4] 38)) ⟨w.heap.size, 5, none⟩ = some (.slice a.cC s.nC a.pC) := by go_simp
    have p0 : World.cell? ((((w.alloc (.cells #[.int .i64 s.r, .int .i64 s.q, .int .i64 s.p, .slice a.cA s.nA a.pA, .slice a.cB s.nB a.pB, .slice a.cC s.nC a.pC] 35)).alloc (.cells #[.int .i64 a2, .int .i64 b2] 38)).alloc (.cells #[.int .i64 a3, .int .i64 b3] 38)).alloc (.cells #[.int .i64 a4, .int .i64 b4] 38)) ⟨w.heap.size + 1, 0, none⟩ = some (.int .i64 a2) := by go_simp
    have p1 : World.cell? ((((w.alloc (.cells #[.int .i64 s.r, .int .i64 s.q, .int .i64 s.p, .slice a.cA s.nA a.pA, .slice a.cB s.nB a.pB, .slice a.cC s.nC a.pC] 35)).alloc (.cells #[.int .i64 a2, .int .i64 b2] 38)).alloc (.cells #[.int .i64 a3, .int .i64 b3] 38)).alloc (.cells #[.int .i64 a4, .int .i64 b4] 38)) ⟨w.heap.size + 1, 1, none⟩ = some (.int .i64 b2) := by go_simp
    have q0 : World.cell? ((((w.alloc (.cells #[.int .i64 s.r, .int .i64 s.q, .int .i64 s.p, .slice a.cA s.nA a.pA, .slice a.cB s.nB a.pB, .slice a.cC s.nC a.pC] 35)).alloc (.cells #[.int .i64 a2, .int .i64 b2] 38)).alloc (.cells #[.int .i64 a3, .int .i64 b3] 38)).alloc (.cells #[.int .i64 a4, .int .i64 b4] 38)) ⟨w.heap.size + 2, 0, none⟩ = some (.int .i64 a3) := by go_simp
    have q1 : World.cell? ((((w.alloc (.cells #[.int .i64 s.r, .int .i64 s.q, .int .i64 s.p, .slice a.cA s.nA a.pA, .slice a.cB s.nB a.pB, .slice a.cC s.nC a.pC] 35)).alloc (.cells #[.int .i64 a2, .int .i64 b2] 38)).alloc (.cells #[.int .i64 a3, .int .i64 b3] 38)).alloc (.cells #[.int .i64 a4, .int .i64 b4] 38)) ⟨w.heap.size + 2, 1, none⟩ = some (.int .i64 b3) := by go_simp
    have r0 : World.cell? ((((w.alloc (.cells #[.int .i64 s.r, .int .i64 s.q, .int .i64 s.p, .slice a.cA s.nA a.pA, .slice a.cB s.nB a.pB, .slice a.cC s.nC a.pC] 35)).alloc (.cells #[.int .i64 a2, .int .i64 b2] 38)).alloc (.cells #[.int .i64 a3, .int .i64 b3] 38)).alloc (.cells #[.int .i64 a4, .int .i64 b4] 38)) ⟨w.heap.size + 3, 0, none⟩ = some (.int .i64 a4) := by go_simp
    have r1 : World.cell? ((((w.alloc (.cells #[.int .i64 s.r, .int .i64 s.q, .int .i64 s.p, .slice a.cA s.nA a.pA, .slice a.cB s.nB a.pB, .slice a.cC s.nC a.pC] 35)).alloc (.cells #[.int .i64 a2, .int .i64 b2] 38)).alloc (.cells #[.int .i64 a3, .int .i64 b3] 38)).alloc (.cells #[.int .i64 a4, .int .i64 b4] 38)) ⟨w.heap.size + 3, 1, none⟩ = some (.int .i64 b4) := by go_simp
    have BX := hik (cel6 x0 x1 x2 x3 x4 x5)
    go_enter Try.func10, Try.ntmps10
    go_upto_region 1 with fail
    have EX := hik (show (World.cell? (((((w.alloc (.cells #[.int .i64 s.r, .int .i64 s.q, .int .i64 s.p, .slice a.cA s.nA a.pA, .slice a.cB s.nB a.pB, .slice a.cC s.nC a.pC] 35)).alloc (.cells #[.int .i64 a2, .int .i64 b2] 38)).alloc (.cells #[.int .i64 a3, .int .i64 b3] 38)).alloc (.cells #[.int .i64 a4, .int .i64 b4] 38))) ⟨w.heap.size + 1, 0, none⟩ = some (.int .i64 a2) ∧ World.cell? (((((w.alloc (.cells #[.int .i64 s.r, .int .i64 s.q, .int .i64 s.p, .slice a.cA s.nA a.pA, .slice a.cB s.nB a.pB, .slice a.cC s.nC a.pC] 35)).alloc (.cells #[.int .i64 a2, .int .i64 b2] 38)).alloc (.cells #[.int .i64 a3, .int .i64 b3] 38)).alloc (.cells #[.int .i64 a4, .int .i64 b4] 38))) ⟨w.heap.size + 1, 1, none⟩ = some (.int .i64 b2) ∧ World.cell? (((((w.alloc (.cells #[.int .i64 s.r, .int .i64 s.q, .int .i64 s.p, .slice a.cA s.nA a.pA, .slice a.cB s.nB a.pB, .slice a.cC s.nC a.pC] 35)).alloc (.cells #[.int .i64 a2, .int .i64 b2] 38)).alloc (.cells #[.int .i64 a3, .int .i64 b3] 38)).alloc (.cells #[.int .i64 a4, .int .i64 b4] 38))) ⟨w.heap.size + 2, 0, none⟩ = some (.int .i64 a3) ∧ World.cell? (((((w.alloc (.cells #[.int .i64 s.r, .int .i64 s.q, .int .i64 s.p, .slice a.cA s.nA a.pA, .slice a.cB s.nB a.pB, .slice a.cC s.nC a.pC] 35)).alloc (.cells #[.int .i64 a2, .int .i64 b2] 38)).alloc (.cells #[.int .i64 a3, .int .i64 b3] 38)).alloc (.cells #[.int .i64 a4, .int .i64 b4] 38))) ⟨w.heap.size + 2, 1, none⟩ = some (.int .i64 b3) ∧ World.cell? (((((w.alloc (.cells #[.int .i64 s.r, .int .i64 s.q, .int .i64 s.p, .slice a.cA s.nA a.pA, .slice a.cB s.nB a.pB, .slice a.cC s.nC a.pC] 35)).alloc (.cells #[.int .i64 a2, .int .i64 b2] 38)).alloc (.cells #[.int .i64 a3, .int .i64 b3] 38)).alloc (.cells #[.int .i64 a4, .int .i64 b4] 38))) ⟨w.heap.size + 3, 0, none⟩ = some (.int .i64 a4) ∧ World.cell? (((((w.alloc (.cells #[.int .i64 s.r, .int .i64 s.q, .int .i64 s.p, .slice a.cA s.nA a.pA, .slice a.cB s.nB a.pB, .slice a.cC s.nC a.pC] 35)).alloc (.cells #[.int .i64 a2, .int .i64 b2] 38)).alloc (.cells #[.int .i64 a3, .int .i64 b3] 38)).alloc (.cells #[.int .i64 a4, .int .i64 b4] 38))) ⟨w.heap.size + 3, 1, none⟩ = some (.int .i64 b4)) from ⟨p0, p1, q0, q1, r0, r1⟩)
    clear x0 x1 x2 x3 x4 x5 p0 p1 q0 q1 r0 r1
    generalize ((((w.alloc (.cells #[.int .i64 s.r, .int .i64 s.q, .int .i64 s.p, .slice a.cA s.nA a.pA, .slice a.cB s.nB a.pB, .slice a.cC s.nC a.pC] 35)).alloc (.cells #[.int .i64 a2, .int .i64 b2] 38)).alloc (.cells #[.int .i64 a3, .int .i64 b3] 38)).alloc (.cells #[.int .i64 a4, .int .i64 b4] 38)) = B at KB BX EX ⊢
    obtain ⟨p0, p1, q0, q1, r0, r1⟩ := EX.out
    go_upto_region 4 with fail
    have KT := hik ((Chg.refl nob B).alloc (.cells #[.int .i64 a2, .int .i64 b2, .int .i64 a3, .int .i64 b3, .int .i64 a4, .int .i64 b4] 50))
    have PT := hik (rowNn B 6 #[.int .i64 a2, .int .i64 b2, .int .i64 a3, .int .i64 b3, .int .i64 a4, .int .i64 b4] 50 rfl)
    replace KB := hik (KB.out.trans KT.out)
    replace BX := hik (BX.out.keep KT.out)
    replace EX := hik (show World.cell? _ ⟨w.heap.size + 1, 0, none⟩ = some (.int .i64 a2) ∧ World.cell? _ ⟨w.heap.size + 1, 1, none⟩ = some (.int .i64 b2) ∧ World.cell? _ ⟨w.heap.size + 2, 0, none⟩ = some (.int .i64 a3) ∧ World.cell? _ ⟨w.heap.size + 2, 1, none⟩ = some (.int .i64 b3) ∧ World.cell? _ ⟨w.heap.size + 3, 0, none⟩ = some (.int .i64 a4) ∧ World.cell? _ ⟨w.heap.size + 3, 1, none⟩ = some (.int .i64 b4) from ⟨KT.out.see EX.out.1, KT.out.see EX.out.2.1, KT.out.see EX.out.2.2.1, KT.out.see EX.out.2.2.2.1, KT.out.see EX.out.2.2.2.2.1, KT.out.see EX.out.2.2.2.2.2⟩)
    clear p0 p1 q0 q1 r0 r1
    generalize hW0 : B.alloc (.cells #[.int .i64 a2, .int .i64 b2, .int .i64 a3, .int .i64 b3, .int .i64 a4, .int .i64 b4] 50) = W0 at KB BX EX PT ⊢
    clear hW0 KT
    have hgw := PT.out.lt
    generalize hGW : B.heap.size = gW at PT hgw ⊢
    clear hGW hgw
    obtain ⟨x0, x1, x2, x3, x4, x5⟩ := BX.out.six
    go_wp2_with fail
    refine (sysOK_any s a _ (hik (hv.out.keep KB.out)) hs).mono ?_
    rw [H2.out]
    rintro e W1 ⟨rfl, k1⟩
    replace KB := hik (KB.out.trans k1)
    replace BX := hik (BX.out.keep k1)
    replace EX := hik (show World.cell? _ ⟨w.heap.size + 1, 0, none⟩ = some (.int .i64 a2) ∧ World.cell? _ ⟨w.heap.size + 1, 1, none⟩ = some (.int .i64 b2) ∧ World.cell? _ ⟨w.heap.size + 2, 0, none⟩ = some (.int .i64 a3) ∧ World.cell? _ ⟨w.heap.size + 2, 1, none⟩ = some (.int .i64 b3) ∧ World.cell? _ ⟨w.heap.size + 3, 0, none⟩ = some (.int .i64 a4) ∧ World.cell? _ ⟨w.heap.size + 3, 1, none⟩ = some (.int .i64 b4) from ⟨k1.see EX.out.1, k1.see EX.out.2.1, k1.see EX.out.2.2.1, k1.see EX.out.2.2.2.1, k1.see EX.out.2.2.2.2.1, k1.see EX.out.2.2.2.2.2⟩)
    replace PT := hik (rowIs_keep PT.out k1)
    clear k1 x0 x1 x2 x3 x4 x5
    go_wp2_with fail
    refine (extsOK_any cx n capx f g _ (hik (PairV.keep hp.out KB.out)) hn).mono ?_
    rw [H3.out]
    rintro e W2 ⟨rfl, k2⟩
    replace KB := hik (KB.out.trans k2)
    replace BX := hik (BX.out.keep k2)
    replace EX := hik (show World.cell? _ ⟨w.heap.size + 1, 0, none⟩ = some (.int .i64 a2) ∧ World.cell? _ ⟨w.heap.size + 1, 1, none⟩ = some (.int .i64 b2) ∧ World.cell? _ ⟨w.heap.size + 2, 0, none⟩ = some (.int .i64 a3) ∧ World.cell? _ ⟨w.heap.size + 2, 1, none⟩ = some (.int .i64 b3) ∧ World.cell? _ ⟨w.heap.size + 3, 0, none⟩ = some (.int .i64 a4) ∧ World.cell? _ ⟨w.heap.size + 3, 1, none⟩ = some (.int .i64 b4) from ⟨k2.see EX.out.1, k2.see EX.out.2.1, k2.see EX.out.2.2.1, k2.see EX.out.2.2.2.1, k2.see EX.out.2.2.2.2.1, k2.see EX.out.2.2.2.2.2⟩)
    replace PT := hik (rowIs_keep PT.out k2)
    clear k2
    have hgl := PT.out.lt
    go_wp2_with fail
    refine (extsOK_any _ 3 3 (pk3 a2 a3 a4) (pk3 b2 b3 b4) _ (hik (pairs3r PT.out)) (by omega)).mono ?_
    rw [H4.out]
    rintro e W3 ⟨rfl, k3⟩
    replace KB := hik (KB.out.trans k3)
    replace BX := hik (BX.out.keep k3)
    replace EX := hik (show World.cell? _ ⟨w.heap.size + 1, 0, none⟩ = some (.int .i64 a2) ∧ World.cell? _ ⟨w.heap.size + 1, 1, none⟩ = some (.int .i64 b2) ∧ World.cell? _ ⟨w.heap.size + 2, 0, none⟩ = some (.int .i64 a3) ∧ World.cell? _ ⟨w.heap.size + 2, 1, none⟩ = some (.int .i64 b3) ∧ World.cell? _ ⟨w.heap.size + 3, 0, none⟩ = some (.int .i64 a4) ∧ World.cell? _ ⟨w.heap.size + 3, 1, none⟩ = some (.int .i64 b4) from ⟨k3.see EX.out.1, k3.see EX.out.2.1, k3.see EX.out.2.2.1, k3.see EX.out.2.2.2.1, k3.see EX.out.2.2.2.2.1, k3.see EX.out.2.2.2.2.2⟩)
    replace PT := hik (rowIs_keep PT.out k3)
    clear k3 hgl
    go_wp2
    go_ret2
    exact TbC.none HC.out HM.out KB.out
  | true =>
  have H4 := hik h4
  rw [if_neg (by rw [h2, h3, h4]; simp)] at hC
  by_cases h5 : ¬ (n : Int) = s.r
  · have HC := hik (show bdc s n f g (pk3 a2 a3 a4) (pk3 b2 b3 b4) = 8 by rw [hC, if_pos h5])
    have HM := hik (show bdn s n f g (pk3 a2 a3 a4) (pk3 b2 b3 b4) = 0 by unfold bdn; rw [HC.out]; rfl)
    clear hC h2 h3 h4
    have h5' : ((n : Int) != s.r) = true := by simpa using h5
    have KB := hik (((((Chg.refl nob w).alloc (.cells #[.int .i64 s.r, .int .i64 s.q, .int .i64 s.p, .slice a.cA s.nA a.pA, .slice a.cB s.nB a.pB, .slice a.cC s.nC a.pC] 35)).alloc (.cells #[.int .i64 a2, .int .i64 b2] 38)).alloc (.cells #[.int .i64 a3, .int .i64 b3] 38)).alloc (.cells #[.int .i64 a4, .int .i64 b4] 38))
    have x0 : World.cell? ((((w.alloc (.cells #[.int .i64 s.r, .int .i64 s.q, .int .i64 s.p, .slice a.cA s.nA a.pA, .slice a.cB s.nB a.pB, .slice a.cC s.nC a.pC] 35)).alloc (.cells #[.int .i64 a2, .int .i64 b2] 38)).alloc (.cells #[.int .i64 a3, .int .i64 b3] 38)).alloc (.cells #[.int .i64 a4, .int .i64 b4] 38)) ⟨w.heap.size, 0, none⟩ = some (.int .i64 s.r) := by go_simp
    have x1 : World.cell? ((((w.alloc (.cells #[.int .i64 s.r, .int .i64 s.q, .int .i64 s.p, .slice a.cA s.nA a.pA, .slice a.cB s.nB a.pB, .slice a.cC s.nC a.pC] 35)).alloc (.cells #[.int .i64 a2, .int .i64 b2] 38)).alloc (.cells #[.int .i64 a3, .int .i64 b3] 38)).alloc (.cells #[.int .i64 a4, .int .i64 b4] 38)) ⟨w.heap.size, 1, none⟩ = some (.int .i64 s.q) := by go_simp
    have x2 : World.cell? ((((w.alloc (.cells #[.int .i64 s.r, .int .i64 s.q, .int .i64 s.p, .slice a.cA s.nA a.pA, .slice a.cB s.nB a.pB, .slice a.cC s.nC a.pC] 35)).alloc (.cells #[.int .i64 a2, .int .i64 b2] 38)).alloc (.cells #[.int .i64 a3, .int .i64 b3] 38)).alloc (.cells #[.int .i64 a4, .int .i64 b4] 38)) ⟨w.heap.size, 2, none⟩ = some (.int .i64 s.p) := by go_simp
    have x3 : World.cell? ((((w.alloc (.cells #[.int .i64 s.r, .int .i64 s.q, .int .i64 s.p, .slice a.cA s.nA a.pA, .slice a.cB s.nB a.pB, .slice a.cC s.nC a.pC] 35)).alloc (.cells #[.int .i64 a2, .int .i64 b2] 38)).alloc (.cells #[.int .i64 a3, .int .i64 b3] 38)).alloc (.cells #[.int .i64 a4, .int .i64 b4] 38)) ⟨w.heap.size, 3, none⟩ = some (.slice a.cA s.nA a.pA) := by go_simp
    have x4 : World.cell? ((((w.alloc (.cells #[.int .i64 s.r, .int .i64 s.q, .int .i64 s.p, .slice a.cA s.nA a.pA, .slice a.cB s.nB a.pB, .slice a.cC s.nC a.pC] 35)).alloc (.cells #[.int .i64 a2, .int .i64 b2] 38)).alloc (.cells #[.int .i64 a3, .int .i64 b3] 38)).alloc (.cells #[.int .i64 a4, .int .i64 b4] 38)) ⟨w.heap.size, 4, none⟩ = some (.slice a.cB s.nB a.pB) := by go_simp
    have x5 : World.cell? ((((w.alloc (.cells #[.int .i64 s.r, .int .i64 s.q, .int .i64 s.p, .slice a.cA s.nA a.pA, .slice a.cB s.nB a.pB, .slice a.cC s.nC a.pC] 35)).alloc (.cells #[.int .i64 a2, .int .i64 b2] 38)).alloc (.cells #[.int .i64 a3, .int .i64 b3] 38)).alloc (.cells #[.int .i64 a4, .int .i64 b4] 38)) ⟨w.heap.size, 5, none⟩ = some (.slice a.cC s.nC a.pC) := by go_simp
    have p0 : World.cell? ((((w.alloc (.cells #[.int .i64 s.r, .int .i64 s.q, .int .i64 s.p, .slice a.cA s.nA a.pA, .slice a.cB s.nB a.pB, .slice a.cC s.nC a.pC] 35)).alloc (.cells #[.int .i64 a2, .int .i64 b2] 38)).alloc (.cells #[.int .i64 a3, .int .i64 b3] 38)).alloc (.cells #[.int .i64 a4, .int .i64 b4] 38)) ⟨w.heap.size + 1, 0, none⟩ = some (.int .i64 a2) := by go_simp
    have p1 : World.cell? ((((w.alloc (.cells #[.int .i64 s.r, .int .i64 s.q, .int .i64 s.p, .slice a.cA s.nA a.pA, .slice a.cB s.nB a.pB, .slice a.cC s.nC a.pC] 35)).alloc (.cells #[.int .i64 a2, .int .i64 b2] 38)).alloc (.cells #[.int .i64 a3, .int .i64 b3] 38)).alloc (.cells #[.int .i64 a4, .int .i64 b4] 38)) ⟨w.heap.size + 1, 1, none⟩ = some (.int .i64 b2) := by go_simp
    have q0 : World.cell? ((((w.alloc (.cells #[.int .i64 s.r, .int .i64 s.q, .int .i64 s.p, .slice a.cA s.nA a.pA, .slice a.cB s.nB a.pB, .slice a.cC s.nC a.pC] 35)).alloc (.cells #[.int .i64 a2, .int .i64 b2] 38)).alloc (.cells #[.int .i64 a3, .int .i64 b3] 38)).alloc (.cells #[.int .i64 a4, .int .i64 b4] 38)) ⟨w.heap.size + 2, 0, none⟩ = some (.int .i64 a3) := by go_simp
    have q1 : World.cell? ((((w.alloc (.cells #[.int .i64 s.r, .int .i64 s.q, .int .i64 s.p, .slice a.cA s.nA a.pA, .slice a.cB s.nB a.pB, .slice a.cC s.nC a.pC] 35)).alloc (.cells #[.int .i64 a2, .int .i64 b2] 38)).alloc (.cells #[.int .i64 a3, .int .i64 b3] 38)).alloc (.cells #[.int .i64 a4, .int .i64 b4] 38)) ⟨w.heap.size + 2, 1, none⟩ = some (.int .i64 b3) := by go_simp
    have r0 : World.cell? ((((w.alloc (.cells #[.int .i64 s.r, .int .i64 s.q, .int .i64 s.p, .slice a.cA s.nA a.pA, .slice a.cB s.nB a.pB, .slice a.cC s.nC a.pC] 35)).alloc (.cells #[.int .i64 a2, .int .i64 b2] 38)).alloc (.cells #[.int .i64 a3, .int .i64 b3] 38)).alloc (.cells #[.int .i64 a4, .int .i64 b4] 38)) ⟨w.heap.size + 3, 0, none⟩ = some (.int .i64 a4) := by go_simp
    have r1 : World.cell? ((((w.alloc (.cells #[.int .i64 s.r, .int .i64 s.q, .int .i64 s.p, .slice a.cA s.nA a.pA, .slice a.cB s.nB a.pB, .slice a.cC s.nC a.pC] 35)).alloc (.cells #[.int .i64 a2, .int .i64 b2] 38)).alloc (.cells #[.int .i64 a3, .int .i64 b3] 38)).alloc (.cells #[.int .i64 a4, .int .i64 b4] 38)) ⟨w.heap.size + 3, 1, none⟩ = some (.int .i64 b4) := by go_simp
    have BX := hik (cel6 x0 x1 x2 x3 x4 x5)
    go_enter Try.func10, Try.ntmps10
    go_upto_region 1 with fail
    have EX := hik (show (World.cell? (((((w.alloc (.cells #[.int .i64 s.r, .int .i64 s.q, .int .i64 s.p, .slice a.cA s.nA a.pA, .slice a.cB s.nB a.pB, .slice a.cC s.nC a.pC] 35)).alloc (.cells #[.int .i64 a2, .int .i64 b2] 38)).alloc (.cells #[.int .i64 a3, .int .i64 b3] 38)).alloc (.cells #[.int .i64 a4, .int .i64 b4] 38))) ⟨w.heap.size + 1, 0, none⟩ = some (.int .i64 a2) ∧ World.cell? (((((w.alloc (.cells #[.int .i64 s.r, .int .i64 s.q, .int .i64 s.p, .slice a.cA s.nA a.pA, .slice a.cB s.nB a.pB, .slice a.cC s.nC a.pC] 35)).alloc (.cells #[.int .i64 a2, .int .i64 b2] 38)).alloc (.cells #[.int .i64 a3, .int .i64 b3] 38)).alloc (.cells #[.int .i64 a4, .int .i64 b4] 38))) ⟨w.heap.size + 1, 1, none⟩ = some (.int .i64 b2) ∧ World.cell? (((((w.alloc (.cells #[.int .i64 s.r, .int .i64 s.q, .int .i64 s.p, .slice a.cA s.nA a.pA, .slice a.cB s.nB a.pB, .slice a.cC s.nC a.pC] 35)).alloc (.cells #[.int .i64 a2, .int .i64 b2] 38)).alloc (.cells #[.int .i64 a3, .int .i64 b3] 38)).alloc (.cells #[.int .i64 a4, .int .i64 b4] 38))) ⟨w.heap.size + 2, 0, none⟩ = some (.int .i64 a3) ∧ World.cell? (((((w.alloc (.cells #[.int .i64 s.r, .int .i64 s.q, .int .i64 s.p, .slice a.cA s.nA a.pA, .slice a.cB s.nB a.pB, .slice a.cC s.nC a.pC] 35)).alloc (.cells #[.int .i64 a2, .int .i64 b2] 38)).alloc (.cells #[.int .i64 a3, .int .i64 b3] 38)).alloc (.cells #[.int .i64 a4, .int .i64 b4] 38))) ⟨w.heap.size + 2, 1, none⟩ = some (.int .i64 b3) ∧ World.cell? (((((w.alloc (.cells #[.int .i64 s.r, .int .i64 s.q, .int .i64 s.p, .slice a.cA s.nA a.pA, .slice a.cB s.nB a.pB, .slice a.cC s.nC a.pC] 35)).alloc (.cells #[.int .i64 a2, .int .i64 b2] 38)).alloc (.cells #[.int .i64 a3, .int .i64 b3] 38)).alloc (.cells #[.int .i64 a4, .int .i64 b4] 38))) ⟨w.heap.size + 3, 0, none⟩ = some (.int .i64 a4) ∧ World.cell? (((((w.alloc (.cells #[.int .i64 s.r, .int .i64 s.q, .int .i64 s.p, .slice a.cA s.nA a.pA, .slice a.cB s.nB a.pB, .slice a.cC s.nC a.pC] 35)).alloc (.cells #[.int .i64 a2, .int .i64 b2] 38)).alloc (.cells #[.int .i64 a3, .int .i64 b3] 38)).alloc (.cells #[.int .i64 a4, .int .i64 b4] 38))) ⟨w.heap.size + 3, 1, none⟩ = some (.int .i64 b4)) from ⟨p0, p1, q0, q1, r0, r1⟩)
    clear x0 x1 x2 x3 x4 x5 p0 p1 q0 q1 r0 r1
    generalize ((((w.alloc (.cells #[.int .i64 s.r, .int .i64 s.q, .int .i64 s.p, .slice a.cA s.nA a.pA, .slice a.cB s.nB a.pB, .slice a.cC s.nC a.pC] 35)).alloc (.cells #[.int .i64 a2, .int .i64 b2] 38)).alloc (.cells #[.int .i64 a3, .int .i64 b3] 38)).alloc (.cells #[.int .i64 a4, .int .i64 b4] 38)) = B at KB BX EX ⊢
    obtain ⟨p0, p1, q0, q1, r0, r1⟩ := EX.out
    go_upto_region 4 with fail
    have KT := hik ((Chg.refl nob B).alloc (.cells #[.int .i64 a2, .int .i64 b2, .int .i64 a3, .int .i64 b3, .int .i64 a4, .int .i64 b4] 50))
    have PT := hik (rowNn B 6 #[.int .i64 a2, .int .i64 b2, .int .i64 a3, .int .i64 b3, .int .i64 a4, .int .i64 b4] 50 rfl)
    replace KB := hik (KB.out.trans KT.out)
    replace BX := hik (BX.out.keep KT.out)
    replace EX := hik (show World.cell? _ ⟨w.heap.size + 1, 0, none⟩ = some (.int .i64 a2) ∧ World.cell? _ ⟨w.heap.size + 1, 1, none⟩ = some (.int .i64 b2) ∧ World.cell? _ ⟨w.heap.size + 2, 0, none⟩ = some (.int .i64 a3) ∧ World.cell? _ ⟨w.heap.size + 2, 1, none⟩ = some (.int .i64 b3) ∧ World.cell? _ ⟨w.heap.size + 3, 0, none⟩ = some (.int .i64 a4) ∧ World.cell? _ ⟨w.heap.size + 3, 1, none⟩ = some (.int .i64 b4) from ⟨KT.out.see EX.out.1, KT.out.see EX.out.2.1, KT.out.see EX.out.2.2.1, KT.out.see EX.out.2.2.2.1, KT.out.see EX.out.2.2.2.2.1, KT.out.see EX.out.2.2.2.2.2⟩)
    clear p0 p1 q0 q1 r0 r1
    generalize hW0 : B.alloc (.cells #[.int .i64 a2, .int .i64 b2, .int .i64 a3, .int .i64 b3, .int .i64 a4, .int .i64 b4] 50) = W0 at KB BX EX PT ⊢
    clear hW0 KT
    have hgw := PT.out.lt
    generalize hGW : B.heap.size = gW at PT hgw ⊢
    clear hGW hgw
    obtain ⟨x0, x1, x2, x3, x4, x5⟩ := BX.out.six
    go_wp2_with fail
    refine (sysOK_any s a _ (hik (hv.out.keep KB.out)) hs).mono ?_
    rw [H2.out]
    rintro e W1 ⟨rfl, k1⟩
    replace KB := hik (KB.out.trans k1)
    replace BX := hik (BX.out.keep k1)
    replace EX := hik (show World.cell? _ ⟨w.heap.size + 1, 0, none⟩ = some (.int .i64 a2) ∧ World.cell? _ ⟨w.heap.size + 1, 1, none⟩ = some (.int .i64 b2) ∧ World.cell? _ ⟨w.heap.size + 2, 0, none⟩ = some (.int .i64 a3) ∧ World.cell? _ ⟨w.heap.size + 2, 1, none⟩ = some (.int .i64 b3) ∧ World.cell? _ ⟨w.heap.size + 3, 0, none⟩ = some (.int .i64 a4) ∧ World.cell? _ ⟨w.heap.size + 3, 1, none⟩ = some (.int .i64 b4) from ⟨k1.see EX.out.1, k1.see EX.out.2.1, k1.see EX.out.2.2.1, k1.see EX.out.2.2.2.1, k1.see EX.out.2.2.2.2.1, k1.see EX.out.2.2.2.2.2⟩)
    replace PT := hik (rowIs_keep PT.out k1)
    clear k1 x0 x1 x2 x3 x4 x5
    go_wp2_with fail
    refine (extsOK_any cx n capx f g _ (hik (PairV.keep hp.out KB.out)) hn).mono ?_
    rw [H3.out]
    rintro e W2 ⟨rfl, k2⟩
    replace KB := hik (KB.out.trans k2)
    replace BX := hik (BX.out.keep k2)
    replace EX := hik (show World.cell? _ ⟨w.heap.size + 1, 0, none⟩ = some (.int .i64 a2) ∧ World.cell? _ ⟨w.heap.size + 1, 1, none⟩ = some (.int .i64 b2) ∧ World.cell? _ ⟨w.heap.size + 2, 0, none⟩ = some (.int .i64 a3) ∧ World.cell? _ ⟨w.heap.size + 2, 1, none⟩ = some (.int .i64 b3) ∧ World.cell? _ ⟨w.heap.size + 3, 0, none⟩ = some (.int .i64 a4) ∧ World.cell? _ ⟨w.heap.size + 3, 1, none⟩ = some (.int .i64 b4) from ⟨k2.see EX.out.1, k2.see EX.out.2.1, k2.see EX.out.2.2.1, k2.see EX.out.2.2.2.1, k2.see EX.out.2.2.2.2.1, k2.see EX.out.2.2.2.2.2⟩)
    replace PT := hik (rowIs_keep PT.out k2)
    clear k2
    have hgl := PT.out.lt
    go_wp2_with fail
    refine (extsOK_any _ 3 3 (pk3 a2 a3 a4) (pk3 b2 b3 b4) _ (hik (pairs3r PT.out)) (by omega)).mono ?_
    rw [H4.out]
    rintro e W3 ⟨rfl, k3⟩
    replace KB := hik (KB.out.trans k3)
    replace BX := hik (BX.out.keep k3)
    replace EX := hik (show World.cell? _ ⟨w.heap.size + 1, 0, none⟩ = some (.int .i64 a2) ∧ World.cell? _ ⟨w.heap.size + 1, 1, none⟩ = some (.int .i64 b2) ∧ World.cell? _ ⟨w.heap.size + 2, 0, none⟩ = some (.int .i64 a3) ∧ World.cell? _ ⟨w.heap.size + 2, 1, none⟩ = some (.int .i64 b3) ∧ World.cell? _ ⟨w.heap.size + 3, 0, none⟩ = some (.int .i64 a4) ∧ World.cell? _ ⟨w.heap.size + 3, 1, none⟩ = some (.int .i64 b4) from ⟨k3.see EX.out.1, k3.see EX.out.2.1, k3.see EX.out.2.2.1, k3.see EX.out.2.2.2.1, k3.see EX.out.2.2.2.2.1, k3.see EX.out.2.2.2.2.2⟩)
    replace PT := hik (rowIs_keep PT.out k3)
    clear k3 hgl
    obtain ⟨x0, x1, x2, x3, x4, x5⟩ := BX.out.six
    go_wp2
    go_ret2
    exact TbC.none HC.out HM.out KB.out
  have h5 : (n : Int) = s.r := by omega
  have HC := hik (show bdc s n f g (pk3 a2 a3 a4) (pk3 b2 b3 b4) = 0 by rw [hC, if_neg (by omega)])
  obtain ⟨rr, mm, er, eq_, r1, r5, m1, m4, _⟩ := sysb_parts h2
  have hq : s.q = ((mm + 1 : Nat) : Int) := eq_
  obtain ⟨M, hMM⟩ : ∃ M, M = mm + 1 := ⟨_, rfl⟩
  rw [← hMM] at hq
  have hM5 : M ≤ 5 := by omega
  have hn5 : n ≤ 5 := by omega
  have HMq := hik (show s.q.toNat = M by rw [hq, Int.toNat_natCast])
  have HRq := hik (show s.r.toNat = n by rw [← h5, Int.toNat_natCast])
  have HN := hik (show bdn s n f g (pk3 a2 a3 a4) (pk3 b2 b3 b4) = 2 ^ M by unfold bdn; rw [HC.out, HMq.out]; rfl)
  have HV := hik (show bdv s n f g (pk3 a2 a3 a4) (pk3 b2 b3 b4) = btK s (El.eqp (elF f g) n) (elF (pk3 a2 a3 a4) (pk3 b2 b3 b4)) 3 from rfl)
  have hpE := hik (PairE.of hp.out h3)
  have HBC := hik (fun (u v : Value) (W : World) (h : Hid (SyV W s a)) (h' : Hid (PairE W cx n (elF f g))) => boundT_any s a u v M cx n capx (elF f g) (elF (pk3 a2 a3 a4) (pk3 b2 b3 b4)) W h h' H2 HMq HRq hM5 hn5)
  rw [show (elF (pk3 a2 a3 a4) (pk3 b2 b3 b4) 0).v.1 = a2 from ((cA_el h4 (i := 0) (by omega)).1).symm, show (elF (pk3 a2 a3 a4) (pk3 b2 b3 b4) 0).v.2 = b2 from ((cA_el h4 (i := 0) (by omega)).2).symm, show (elF (pk3 a2 a3 a4) (pk3 b2 b3 b4) 1).v.1 = a3 from ((cA_el h4 (i := 1) (by omega)).1).symm, show (elF (pk3 a2 a3 a4) (pk3 b2 b3 b4) 1).v.2 = b3 from ((cA_el h4 (i := 1) (by omega)).2).symm, show (elF (pk3 a2 a3 a4) (pk3 b2 b3 b4) 2).v.1 = a4 from ((cA_el h4 (i := 2) (by omega)).1).symm, show (elF (pk3 a2 a3 a4) (pk3 b2 b3 b4) 2).v.2 = b4 from ((cA_el h4 (i := 2) (by omega)).2).symm] at HBC
  have H5 := hik h5
  have HQ := hik hq
  have h32 : 2 ^ M ≤ 32 := pow5 hM5
  clear hC h2 h3 h4 eq_ er hq hMM
  have KB := hik (((((Chg.refl nob w).alloc (.cells #[.int .i64 s.r, .int .i64 s.q, .int .i64 s.p, .slice a.cA s.nA a.pA, .slice a.cB s.nB a.pB, .slice a.cC s.nC a.pC] 35)).alloc (.cells #[.int .i64 a2, .int .i64 b2] 38)).alloc (.cells #[.int .i64 a3, .int .i64 b3] 38)).alloc (.cells #[.int .i64 a4, .int .i64 b4] 38))
  have x0 : World.cell? ((((w.alloc (.cells #[.int .i64 s.r, .int .i64 s.q, .int .i64 s.p, .slice a.cA s.nA a.pA, .slice a.cB s.nB a.pB, .slice a.cC s.nC a.pC] 35)).alloc (.cells #[.int .i64 a2, .int .i64 b2] 38)).alloc (.cells #[.int .i64 a3, .int .i64 b3] 38)).alloc (.cells #[.int .i64 a4, .int .i64 b4] 38)) ⟨w.heap.size, 0, none⟩ = some (.int .i64 s.r) := by go_simp
  have x1 : World.cell? ((((w.alloc (.cells #[.int .i64 s.r, .int .i64 s.q, .int .i64 s.p, .slice a.cA s.nA a.pA, .slice a.cB s.nB a.pB, .slice a.cC s.nC a.pC] 35)).alloc (.cells #[.int .i64 a2, .int .i64 b2] 38)).alloc (.cells #[.int .i64 a3, .int .i64 b3] 38)).alloc (.cells #[.int .i64 a4, .int .i64 b4] 38)) ⟨w.heap.size, 1, none⟩ = some (.int .i64 s.q) := by go_simp
  have x2 : World.cell? ((((w.alloc (.cells #[.int .i64 s.r, .int .i64 s.q, .int .i64 s.p, .slice a.cA s.nA a.pA, .slice a.cB s.nB a.pB, .slice a.cC s.nC a.pC] 35)).alloc (.cells #[.int .i64 a2, .int .i64 b2] 38)).alloc (.cells #[.int .i64 a3, .int .i64 b3] 38)).alloc (.cells #[.int .i64 a4, .int .i64 b4] 38)) ⟨w.heap.size, 2, none⟩ = some (.int .i64 s.p) := by go_simp
  have x3 : World.cell? ((((w.alloc (.cells #[.int .i64 s.r, .int .i64 s.q, .int .i64 s.p, .slice a.cA s.nA a.pA, .slice a.cB s.nB a.pB, .slice a.cC s.nC a.pC] 35)).alloc (.cells #[.int .i64 a2, .int .i64 b2] 38)).alloc (.cells #[.int .i64 a3, .int .i64 b3] 38)).alloc (.cells #[.int .i64 a4, .int .i64 b4] 38)) ⟨w.heap.size, 3, none⟩ = some (.slice a.cA s.nA a.pA) := by go_simp
  have x4 : World.cell? ((((w.alloc (.cells #[.int .i64 s.r, .int .i64 s.q, .int .i64 s.p, .slice a.cA s.nA a.pA, .slice a.cB s.nB a.pB, .slice a.cC s.nC a.pC] 35)).alloc (.cells #[.int .i64 a2, .int .i64 b2] 38)).alloc (.cells #[.int .i64 a3, .int .i64 b3] 38)).alloc (.cells #[.int .i64 a4, .int .i64 b4] 38)) ⟨w.heap.size, 4, none⟩ = some (.slice a.cB s.nB a.pB) := by go_simp
  have x5 : World.cell? ((((w.alloc (.cells #[.int .i64 s.r, .int .i64 s.q, .int .i64 s.p, .slice a.cA s.nA a.pA, .slice a.cB s.nB a.pB, .slice a.cC s.nC a.pC] 35)).alloc (.cells #[.int .i64 a2, .int .i64 b2] 38)).alloc (.cells #[.int .i64 a3, .int .i64 b3] 38)).alloc (.cells #[.int .i64 a4, .int .i64 b4] 38)) ⟨w.heap.size, 5, none⟩ = some (.slice a.cC s.nC a.pC) := by go_simp
  have p0 : World.cell? ((((w.alloc (.cells #[.int .i64 s.r, .int .i64 s.q, .int .i64 s.p, .slice a.cA s.nA a.pA, .slice a.cB s.nB a.pB, .slice a.cC s.nC a.pC] 35)).alloc (.cells #[.int .i64 a2, .int .i64 b2] 38)).alloc (.cells #[.int .i64 a3, .int .i64 b3] 38)).alloc (.cells #[.int .i64 a4, .int .i64 b4] 38)) ⟨w.heap.size + 1, 0, none⟩ = some (.int .i64 a2) := by go_simp
  have p1 : World.cell? ((((w.alloc (.cells #[.int .i64 s.r, .int .i64 s.q, .int .i64 s.p, .slice a.cA s.nA a.pA, .slice a.cB s.nB a.pB, .slice a.cC s.nC a.pC] 35)).alloc (.cells #[.int .i64 a2, .int .i64 b2] 38)).alloc (.cells #[.int .i64 a3, .int .i64 b3] 38)).alloc (.cells #[.int .i64 a4, .int .i64 b4] 38)) ⟨w.heap.size + 1, 1, none⟩ = some (.int .i64 b2) := by go_simp
  have q0 : World.cell? ((((w.alloc (.cells #[.int .i64 s.r, .int .i64 s.q, .int .i64 s.p, .slice a.cA s.nA a.pA, .slice a.cB s.nB a.pB, .slice a.cC s.nC a.pC] 35)).alloc (.cells #[.int .i64 a2, .int .i64 b2] 38)).alloc (.cells #[.int .i64 a3, .int .i64 b3] 38)).alloc (.cells #[.int .i64 a4, .int .i64 b4] 38)) ⟨w.heap.size + 2, 0, none⟩ = some (.int .i64 a3) := by go_simp
  have q1 : World.cell? ((((w.alloc (.cells #[.int .i64 s.r, .int .i64 s.q, .int .i64 s.p, .slice a.cA s.nA a.pA, .slice a.cB s.nB a.pB, .slice a.cC s.nC a.pC] 35)).alloc (.cells #[.int .i64 a2, .int .i64 b2] 38)).alloc (.cells #[.int .i64 a3, .int .i64 b3] 38)).alloc (.cells #[.int .i64 a4, .int .i64 b4] 38)) ⟨w.heap.size + 2, 1, none⟩ = some (.int .i64 b3) := by go_simp
  have r0 : World.cell? ((((w.alloc (.cells #[.int .i64 s.r, .int .i64 s.q, .int .i64 s.p, .slice a.cA s.nA a.pA, .slice a.cB s.nB a.pB, .slice a.cC s.nC a.pC] 35)).alloc (.cells #[.int .i64 a2, .int .i64 b2] 38)).alloc (.cells #[.int .i64 a3, .int .i64 b3] 38)).alloc (.cells #[.int .i64 a4, .int .i64 b4] 38)) ⟨w.heap.size + 3, 0, none⟩ = some (.int .i64 a4) := by go_simp
  have r1 : World.cell? ((((w.alloc (.cells #[.int .i64 s.r, .int .i64 s.q, .int .i64 s.p, .slice a.cA s.nA a.pA, .slice a.cB s.nB a.pB, .slice a.cC s.nC a.pC] 35)).alloc (.cells #[.int .i64 a2, .int .i64 b2] 38)).alloc (.cells #[.int .i64 a3, .int .i64 b3] 38)).alloc (.cells #[.int .i64 a4, .int .i64 b4] 38)) ⟨w.heap.size + 3, 1, none⟩ = some (.int .i64 b4) := by go_simp
  have BX := hik (cel6 x0 x1 x2 x3 x4 x5)
  go_enter Try.func10, Try.ntmps10
  go_upto_region 1 with fail
  have EX := hik (show (World.cell? (((((w.alloc (.cells #[.int .i64 s.r, .int .i64 s.q, .int .i64 s.p, .slice a.cA s.nA a.pA, .slice a.cB s.nB a.pB, .slice a.cC s.nC a.pC] 35)).alloc (.cells #[.int .i64 a2, .int .i64 b2] 38)).alloc (.cells #[.int .i64 a3, .int .i64 b3] 38)).alloc (.cells #[.int .i64 a4, .int .i64 b4] 38))) ⟨w.heap.size + 1, 0, none⟩ = some (.int .i64 a2) ∧ World.cell? (((((w.alloc (.cells #[.int .i64 s.r, .int .i64 s.q, .int .i64 s.p, .slice a.cA s.nA a.pA, .slice a.cB s.nB a.pB, .slice a.cC s.nC a.pC] 35)).alloc (.cells #[.int .i64 a2, .int .i64 b2] 38)).alloc (.cells #[.int .i64 a3, .int .i64 b3] 38)).alloc (.cells #[.int .i64 a4, .int .i64 b4] 38))) ⟨w.heap.size + 1, 1, none⟩ = some (.int .i64 b2) ∧ World.cell? (((((w.alloc (.cells #[.int .i64 s.r, .int .i64 s.q, .int .i64 s.p, .slice a.cA s.nA a.pA, .slice a.cB s.nB a.pB, .slice a.cC s.nC a.pC] 35)).alloc (.cells #[.int .i64 a2, .int .i64 b2] 38)).alloc (.cells #[.int .i64 a3, .int .i64 b3] 38)).alloc (.cells #[.int .i64 a4, .int .i64 b4] 38))) ⟨w.heap.size + 2, 0, none⟩ = some (.int .i64 a3) ∧ World.cell? (((((w.alloc (.cells #[.int .i64 s.r, .int .i64 s.q, .int .i64 s.p, .slice a.cA s.nA a.pA, .slice a.cB s.nB a.pB, .slice a.cC s.nC a.pC] 35)).alloc (.cells #[.int .i64 a2, .int .i64 b2] 38)).alloc (.cells #[.int .i64 a3, .int .i64 b3] 38)).alloc (.cells #[.int .i64 a4, .int .i64 b4] 38))) ⟨w.heap.size + 2, 1, none⟩ = some (.int .i64 b3) ∧ World.cell? (((((w.alloc (.cells #[.int .i64 s.r, .int .i64 s.q, .int .i64 s.p, .slice a.cA s.nA a.pA, .slice a.cB s.nB a.pB, .slice a.cC s.nC a.pC] 35)).alloc (.cells #[.int .i64 a2, .int .i64 b2] 38)).alloc (.cells #[.int .i64 a3, .int .i64 b3] 38)).alloc (.cells #[.int .i64 a4, .int .i64 b4] 38))) ⟨w.heap.size + 3, 0, none⟩ = some (.int .i64 a4) ∧ World.cell? (((((w.alloc (.cells #[.int .i64 s.r, .int .i64 s.q, .int .i64 s.p, .slice a.cA s.nA a.pA, .slice a.cB s.nB a.pB, .slice a.cC s.nC a.pC] 35)).alloc (.cells #[.int .i64 a2, .int .i64 b2] 38)).alloc (.cells #[.int .i64 a3, .int .i64 b3] 38)).alloc (.cells #[.int .i64 a4, .int .i64 b4] 38))) ⟨w.heap.size + 3, 1, none⟩ = some (.int .i64 b4)) from ⟨p0, p1, q0, q1, r0, r1⟩)
  clear x0 x1 x2 x3 x4 x5 p0 p1 q0 q1 r0 r1
  generalize ((((w.alloc (.cells #[.int .i64 s.r, .int .i64 s.q, .int .i64 s.p, .slice a.cA s.nA a.pA, .slice a.cB s.nB a.pB, .slice a.cC s.nC a.pC] 35)).alloc (.cells #[.int .i64 a2, .int .i64 b2] 38)).alloc (.cells #[.int .i64 a3, .int .i64 b3] 38)).alloc (.cells #[.int .i64 a4, .int .i64 b4] 38)) = B at KB BX EX ⊢
  obtain ⟨p0, p1, q0, q1, r0, r1⟩ := EX.out
  go_upto_region 4 with fail
  have KT := hik ((Chg.refl nob B).alloc (.cells #[.int .i64 a2, .int .i64 b2, .int .i64 a3, .int .i64 b3, .int .i64 a4, .int .i64 b4] 50))
  have PT := hik (rowNn B 6 #[.int .i64 a2, .int .i64 b2, .int .i64 a3, .int .i64 b3, .int .i64 a4, .int .i64 b4] 50 rfl)
  replace KB := hik (KB.out.trans KT.out)
  replace BX := hik (BX.out.keep KT.out)
  replace EX := hik (show World.cell? _ ⟨w.heap.size + 1, 0, none⟩ = some (.int .i64 a2) ∧ World.cell? _ ⟨w.heap.size + 1, 1, none⟩ = some (.int .i64 b2) ∧ World.cell? _ ⟨w.heap.size + 2, 0, none⟩ = some (.int .i64 a3) ∧ World.cell? _ ⟨w.heap.size + 2, 1, none⟩ = some (.int .i64 b3) ∧ World.cell? _ ⟨w.heap.size + 3, 0, none⟩ = some (.int .i64 a4) ∧ World.cell? _ ⟨w.heap.size + 3, 1, none⟩ = some (.int .i64 b4) from ⟨KT.out.see EX.out.1, KT.out.see EX.out.2.1, KT.out.see EX.out.2.2.1, KT.out.see EX.out.2.2.2.1, KT.out.see EX.out.2.2.2.2.1, KT.out.see EX.out.2.2.2.2.2⟩)
  clear p0 p1 q0 q1 r0 r1
  generalize hW0 : B.alloc (.cells #[.int .i64 a2, .int .i64 b2, .int .i64 a3, .int .i64 b3, .int .i64 a4, .int .i64 b4] 50) = W0 at KB BX EX PT ⊢
  clear hW0 KT
  have hgw := PT.out.lt
  generalize hGW : B.heap.size = gW at PT hgw ⊢
  clear hGW hgw
  obtain ⟨x0, x1, x2, x3, x4, x5⟩ := BX.out.six
  go_wp2_with fail
  refine (sysOK_any s a _ (hik (hv.out.keep KB.out)) hs).mono ?_
  rw [H2.out]
  rintro e W1 ⟨rfl, k1⟩
  replace KB := hik (KB.out.trans k1)
  replace BX := hik (BX.out.keep k1)
  replace EX := hik (show World.cell? _ ⟨w.heap.size + 1, 0, none⟩ = some (.int .i64 a2) ∧ World.cell? _ ⟨w.heap.size + 1, 1, none⟩ = some (.int .i64 b2) ∧ World.cell? _ ⟨w.heap.size + 2, 0, none⟩ = some (.int .i64 a3) ∧ World.cell? _ ⟨w.heap.size + 2, 1, none⟩ = some (.int .i64 b3) ∧ World.cell? _ ⟨w.heap.size + 3, 0, none⟩ = some (.int .i64 a4) ∧ World.cell? _ ⟨w.heap.size + 3, 1, none⟩ = some (.int .i64 b4) from ⟨k1.see EX.out.1, k1.see EX.out.2.1, k1.see EX.out.2.2.1, k1.see EX.out.2.2.2.1, k1.see EX.out.2.2.2.2.1, k1.see EX.out.2.2.2.2.2⟩)
  replace PT := hik (rowIs_keep PT.out k1)
  clear k1 x0 x1 x2 x3 x4 x5
  go_wp2_with fail
  refine (extsOK_any cx n capx f g _ (hik (PairV.keep hp.out KB.out)) hn).mono ?_
  rw [H3.out]
  rintro e W2 ⟨rfl, k2⟩
  replace KB := hik (KB.out.trans k2)
  replace BX := hik (BX.out.keep k2)
  replace EX := hik (show World.cell? _ ⟨w.heap.size + 1, 0, none⟩ = some (.int .i64 a2) ∧ World.cell? _ ⟨w.heap.size + 1, 1, none⟩ = some (.int .i64 b2) ∧ World.cell? _ ⟨w.heap.size + 2, 0, none⟩ = some (.int .i64 a3) ∧ World.cell? _ ⟨w.heap.size + 2, 1, none⟩ = some (.int .i64 b3) ∧ World.cell? _ ⟨w.heap.size + 3, 0, none⟩ = some (.int .i64 a4) ∧ World.cell? _ ⟨w.heap.size + 3, 1, none⟩ = some (.int .i64 b4) from ⟨k2.see EX.out.1, k2.see EX.out.2.1, k2.see EX.out.2.2.1, k2.see EX.out.2.2.2.1, k2.see EX.out.2.2.2.2.1, k2.see EX.out.2.2.2.2.2⟩)
  replace PT := hik (rowIs_keep PT.out k2)
  clear k2
  have hgl := PT.out.lt
  go_wp2_with fail
  refine (extsOK_any _ 3 3 (pk3 a2 a3 a4) (pk3 b2 b3 b4) _ (hik (pairs3r PT.out)) (by omega)).mono ?_
  rw [H4.out]
  rintro e W3 ⟨rfl, k3⟩
  replace KB := hik (KB.out.trans k3)
  replace BX := hik (BX.out.keep k3)
  replace EX := hik (show World.cell? _ ⟨w.heap.size + 1, 0, none⟩ = some (.int .i64 a2) ∧ World.cell? _ ⟨w.heap.size + 1, 1, none⟩ = some (.int .i64 b2) ∧ World.cell? _ ⟨w.heap.size + 2, 0, none⟩ = some (.int .i64 a3) ∧ World.cell? _ ⟨w.heap.size + 2, 1, none⟩ = some (.int .i64 b3) ∧ World.cell? _ ⟨w.heap.size + 3, 0, none⟩ = some (.int .i64 a4) ∧ World.cell? _ ⟨w.heap.size + 3, 1, none⟩ = some (.int .i64 b4) from ⟨k3.see EX.out.1, k3.see EX.out.2.1, k3.see EX.out.2.2.1, k3.see EX.out.2.2.2.1, k3.see EX.out.2.2.2.2.1, k3.see EX.out.2.2.2.2.2⟩)
  replace PT := hik (rowIs_keep PT.out k3)
  clear k3 hgl
  
  obtain ⟨x0, x1, x2, x3, x4, x5⟩ := BX.out.six
  rw [← H5.out] at x0
  have hnn : ((n : Int) != (n : Int)) = false := by simp
  rw [HQ.out] at x1
  have z0 := PT.out.cell (i := 0) (by omega)
  have z1 := PT.out.cell (i := 1) (by omega)
  have z2 := PT.out.cell (i := 2) (by omega)
  have z3 := PT.out.cell (i := 3) (by omega)
  have z4 := PT.out.cell (i := 4) (by omega)
  have z5 := PT.out.cell (i := 5) (by omega)
  simp only [Array.getD, List.size_toArray, List.length_cons, List.length_nil] at z0 z1 z2 z3 z4 z5
  simp at z0 z1 z2 z3 z4 z5
  go_wp2_with fail
  clear x0 x1 x2 x3 x4 x5 z0 z1 z2 z3 z4 z5 hnn
  refine (HBC.out _ _ _ (hik (hv.out.keep KB.out)) (hik (PairE.keep hpE.out KB.out))).mono ?_
  rintro e W6 ⟨b6, rfl, hb6, r6, k6⟩
  have R6 := hik r6
  have K6 := hik (KB.out.trans k6)
  have HB6 := hik (Nat.le_trans KB.out.size hb6)
  clear r6 k6 hb6
  go_wp2
  go_ret2
  exact TbC.some HC.out HN.out (Nat.le_refl _) (Int.le_trans (Int.ofNat_le.2 h32) (by decide)) ((RowE.own R6.out HB6.out).congr (fun i _ => by rw [HV.out]; exact ⟨rfl, rfl⟩)) K6.out

end Go.Proofs.Ytkfahghcbkdafaa
