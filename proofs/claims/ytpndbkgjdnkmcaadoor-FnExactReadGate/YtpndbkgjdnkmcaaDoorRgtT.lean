/- ReadGate, the model's side: a contract. Condition: texts of at most 1,000,000,000 bytes. -/
import Derived.Test.YtpndbkgjdnkmcaaDoorBzai
import Derived.Test.YtpndbkgjdnkmcaaDoorRow4
namespace Go.Proofs.YtpndbkgjdnkmcaaDoor
open Go.ChangeShapes Go.WideShapes Go.ChangeAt Go.RowKit
set_option linter.unusedVariables false
set_option maxRecDepth 100000
set_option linter.unusedSimpArgs false

set_option maxHeartbeats 4000000 in
theorem sReadGate_any (s : ByteArray) (hs : s.size ≤ 1000000000) (w : World) :
    Calls Tryd.prog 5 #[.string s] w fun e w' => e = .returned (.tuple #[.agg #[.int .i64 (rgv s.data.toList).1, .int .i64 (rgv s.data.toList).2.1, .int .i64 (rgv s.data.toList).2.2.1, .int .i64 (rgv s.data.toList).2.2.2], .int .i64 (rgc s.data.toList)]) ∧ Chg nob w w' := by
  have hln : s.data.toList.length = s.size := Array.length_toList
  have K0 := hik ((Chg.refl nob w).alloc (.cells #[.int .i64 0, .int .i64 0, .int .i64 0, .int .i64 0] 23))
  have RB := hik (rowN_new w 4 #[.int .i64 0, .int .i64 0, .int .i64 0, .int .i64 0] 23 rfl)
  by_cases hl : 65536 < s.size
  · have HC := hik (show rgc s.data.toList = 2 by unfold rgc; rw [if_pos (by omega)])
    have HV := hik (show rgv s.data.toList = (0, 0, 0, 0) by unfold rgv; rw [if_neg (by rw [HC.out]; decide)])
    have hl' : (65536 : Int) < (s.size : Int) := by omega
    go_enter Tryd.func5, Tryd.ntmps5
    go_upto_region 1 with fail
    generalize hW : w.alloc (.cells #[.int .i64 0, .int .i64 0, .int .i64 0, .int .i64 0] 23) = W0 at K0 RB ⊢
    clear hW
    have c0 : W0.cell? ⟨w.heap.size, 0, none⟩ = some (.int .i64 0) := RB.out.cell (i := 0) (by omega)
    have c1 : W0.cell? ⟨w.heap.size, 1, none⟩ = some (.int .i64 0) := RB.out.cell (i := 1) (by omega)
    have c2 : W0.cell? ⟨w.heap.size, 2, none⟩ = some (.int .i64 0) := RB.out.cell (i := 2) (by omega)
    have c3 : W0.cell? ⟨w.heap.size, 3, none⟩ = some (.int .i64 0) := RB.out.cell (i := 3) (by omega)
    have f0 := RB.out.frozen 0
    have f1 := RB.out.frozen 1
    have f2 := RB.out.frozen 2
    have f3 := RB.out.frozen 3
    have lw := RB.out.lt
    go_wp2
    have RE := (((((RB.out.set 0 (.int .i64 0)).set 1 (.int .i64 0)).set 2 (.int .i64 0)).set 3 (.int .i64 0)).congr (g := fun i => (#[.int .i64 0, .int .i64 0, .int .i64 0, .int .i64 0] : Array Value).getD i undef) (fun i hi => by rcases (show i = 0 ∨ i = 1 ∨ i = 2 ∨ i = 3 by omega) with rfl | rfl | rfl | rfl <;> rfl))
    have KF := ((((K0.out.setCell (p := ⟨w.heap.size, 0, none⟩) (fun l => absurd (show w.heap.size < w.heap.size from l) (by omega)) (.int .i64 0)).setCell (p := ⟨w.heap.size, 1, none⟩) (fun l => absurd (show w.heap.size < w.heap.size from l) (by omega)) (.int .i64 0)).setCell (p := ⟨w.heap.size, 2, none⟩) (fun l => absurd (show w.heap.size < w.heap.size from l) (by omega)) (.int .i64 0)).setCell (p := ⟨w.heap.size, 3, none⟩) (fun l => absurd (show w.heap.size < w.heap.size from l) (by omega)) (.int .i64 0))
    refine bodyPost_ret (results_row_tmp9 Tryd.results5 _ _ w.heap.size 23 #[.int .i64 0, .int .i64 0, .int .i64 0, .int .i64 0] (0, 0) _ rfl (rowA_of RE) Tryd.underlying23 rfl (by kernel_rfl)) rfl ?_
    rw [HC.out, HV.out]
    exact ⟨rfl, KF⟩
  have hl' : ¬ (65536 : Int) < (s.size : Int) := by omega
  have hwd := l11Read_any s (by omega) (w.alloc (.cells #[.int .i64 0, .int .i64 0, .int .i64 0, .int .i64 0] 23))
  have HNO := hik (show rgb (wds s.data.toList) = false → rgv s.data.toList = (0, 0, 0, 0) ∧ rgc s.data.toList = 3 from fun u => by
    have a : rgc s.data.toList = 3 := by unfold rgc; rw [if_neg (by omega), u, if_neg (by decide)]
    exact ⟨by unfold rgv; rw [if_neg (by rw [a]; decide)], a⟩)
  have HYE := hik (show rgb (wds s.data.toList) = true → rgv s.data.toList = rgg (wds s.data.toList) ∧ rgc s.data.toList = 0 from fun u => by
    have a : rgc s.data.toList = 0 := by unfold rgc; rw [if_neg (by omega), u, if_pos rfl]
    exact ⟨by unfold rgv; rw [if_pos a], a⟩)
  unfold LrA at hwd
  generalize rgv s.data.toList = V at HNO HYE ⊢
  generalize rgc s.data.toList = cd at HNO HYE ⊢
  generalize wds s.data.toList = ws at hwd HNO HYE
  clear hln hl
  go_enter Tryd.func5, Tryd.ntmps5
  go_wp2_with fail
  refine hwd.mono ?_
  rintro e W1 ⟨g, rfl, HG, k1⟩
  have HGO := hik HG
  generalize rgb ws = RGB at HNO HYE HGO ⊢
  have K1 := hik (K0.out.trans k1)
  have RB1 := hik (rowIs_keep RB.out k1)
  clear k1 hwd K0 RB HG
  obtain ⟨go, ga, gb, gk⟩ := g
  have ka := (Chg.refl nob W1).alloc (.cells #[.int .i64 go, .int .i64 ga, .int .i64 gb, .int .i64 gk] 23)
  have R8 := hik (row4_new W1 (.int .i64 go) (.int .i64 ga) (.int .i64 gb) (.int .i64 gk) 23)
  replace K1 := hik (K1.out.trans ka)
  replace RB1 := hik (rowIs_keep RB1.out ka)
  clear ka
  go_upto_region 4 with fail
  generalize hW : W1.alloc (.cells #[.int .i64 go, .int .i64 ga, .int .i64 gb, .int .i64 gk] 23) = W2 at K1 RB1 R8 ⊢
  clear hW
  have c0 : W2.cell? ⟨w.heap.size, 0, none⟩ = some (.int .i64 0) := RB1.out.cell (i := 0) (by omega)
  have c1 : W2.cell? ⟨w.heap.size, 1, none⟩ = some (.int .i64 0) := RB1.out.cell (i := 1) (by omega)
  have c2 : W2.cell? ⟨w.heap.size, 2, none⟩ = some (.int .i64 0) := RB1.out.cell (i := 2) (by omega)
  have c3 : W2.cell? ⟨w.heap.size, 3, none⟩ = some (.int .i64 0) := RB1.out.cell (i := 3) (by omega)
  have f0 := RB1.out.frozen 0
  have f1 := RB1.out.frozen 1
  have f2 := RB1.out.frozen 2
  have f3 := RB1.out.frozen 3
  have lw := RB1.out.lt
  have x0 := R8.out.cell (i := 0) (by omega)
  have x1 := R8.out.cell (i := 1) (by omega)
  have x2 := R8.out.cell (i := 2) (by omega)
  have x3 := R8.out.cell (i := 3) (by omega)
  simp only [pv4] at x0 x1 x2 x3
  cases RGB with
  | false =>
    have HB := hik (HNO.out rfl)
    go_wp2
    have RE := (((((RB1.out.set 0 (.int .i64 0)).set 1 (.int .i64 0)).set 2 (.int .i64 0)).set 3 (.int .i64 0))).congr (g := fun i => (#[.int .i64 0, .int .i64 0, .int .i64 0, .int .i64 0] : Array Value).getD i undef) (fun i hi => by rcases (show i = 0 ∨ i = 1 ∨ i = 2 ∨ i = 3 by omega) with rfl | rfl | rfl | rfl <;> rfl)
    have KF := ((((K1.out.setCell (p := ⟨w.heap.size, 0, none⟩) (fun l => absurd (show w.heap.size < w.heap.size from l) (by omega)) (.int .i64 0)).setCell (p := ⟨w.heap.size, 1, none⟩) (fun l => absurd (show w.heap.size < w.heap.size from l) (by omega)) (.int .i64 0)).setCell (p := ⟨w.heap.size, 2, none⟩) (fun l => absurd (show w.heap.size < w.heap.size from l) (by omega)) (.int .i64 0)).setCell (p := ⟨w.heap.size, 3, none⟩) (fun l => absurd (show w.heap.size < w.heap.size from l) (by omega)) (.int .i64 0))
    refine bodyPost_ret (results_row_tmp9 Tryd.results5 _ _ w.heap.size 23 #[.int .i64 0, .int .i64 0, .int .i64 0, .int .i64 0] (0, 0) _ rfl (rowA_of RE) Tryd.underlying23 rfl (by kernel_rfl)) rfl ?_
    rw [HB.out.1, HB.out.2]
    exact ⟨rfl, KF⟩
  | true =>
    have HB := hik (HYE.out rfl)
    have HQ := hik (HGO.out rfl)
    go_wp2
    have RE := (((((RB1.out.set 0 (.int .i64 go)).set 1 (.int .i64 ga)).set 2 (.int .i64 gb)).set 3 (.int .i64 gk))).congr (g := fun i => (#[.int .i64 go, .int .i64 ga, .int .i64 gb, .int .i64 gk] : Array Value).getD i undef) (fun i hi => by rcases (show i = 0 ∨ i = 1 ∨ i = 2 ∨ i = 3 by omega) with rfl | rfl | rfl | rfl <;> rfl)
    have KF := ((((K1.out.setCell (p := ⟨w.heap.size, 0, none⟩) (fun l => absurd (show w.heap.size < w.heap.size from l) (by omega)) (.int .i64 go)).setCell (p := ⟨w.heap.size, 1, none⟩) (fun l => absurd (show w.heap.size < w.heap.size from l) (by omega)) (.int .i64 ga)).setCell (p := ⟨w.heap.size, 2, none⟩) (fun l => absurd (show w.heap.size < w.heap.size from l) (by omega)) (.int .i64 gb)).setCell (p := ⟨w.heap.size, 3, none⟩) (fun l => absurd (show w.heap.size < w.heap.size from l) (by omega)) (.int .i64 gk))
    refine bodyPost_ret (results_row_tmp9 Tryd.results5 _ _ w.heap.size 23 #[.int .i64 go, .int .i64 ga, .int .i64 gb, .int .i64 gk] (0, 0) _ rfl (rowA_of RE) Tryd.underlying23 rfl (by kernel_rfl)) rfl ?_
    rw [HB.out.1, HB.out.2, ← HQ.out]
    exact ⟨rfl, KF⟩

end Go.Proofs.YtpndbkgjdnkmcaaDoor
