/- A gate's text: the program's contract. Conditions: the table of shapes and the library's table of powers of ten hold what the program's text lays. -/
import Derived.Test.YtgimmmmiodlepabDoorRows
import Derived.Test.YtgimmmmiodlepabDoorCirX
import Derived.Test.YtgimmmmiodlepabDoorItoL
import Derived.Test.YtgimmmmiodlepabDoorGteM
import Derived.Test.YtgimmmmiodlepabDoorIntRow
import Derived.Lib.LaidTab
import Derived.Lib.AppendIntMem
import Derived.ChangeVars
namespace Go.Proofs.YtgimmmmiodlepabDoor
open Go.ChangeShapes Go.WideShapes Go.ChangeAt Go.RowKit
set_option linter.unusedVariables false
set_option maxRecDepth 100000
set_option linter.unusedSimpArgs false

/-- The library's table of powers of ten, by its name. -/
def pwN : String := (Rows.fnExactGateTextRow.laid.map (·.1)).getD 2 ""
def Pw10 (w : World) : Prop := Go.Lib.TabIs Tryd.prog w pwN .u64 Go.Lib.pow10Tab
theorem pwG : (Tryd.prog.globalNamed pwN).isSome = true := by kernel_rfl
theorem Pw10.keep {w w' : World} (h : Pw10 w) (k : Chg nob w w') : Pw10 w' := by
  obtain ⟨g, hg⟩ := Option.isSome_iff_exists.1 pwG
  have hc := Go.Lib.TabIs.cell h hg 0 (by decide)
  exact var?_below k.belowAll hg (World.block_lt_of_cell? w _ hc) h
theorem itoa_any (n : Int) (w : World) (h : Hid (Pw10 w)) (h0 : 0 ≤ n) (h1 : n ≤ 1099511627776) : Calls Tryd.prog 58 #[.int .i64 n] w fun e w' => e = .returned (.string ⟨(Go.Lib.itoa n).toArray⟩) ∧ Chg nob w w' := by
  refine (Any.strconv_Itoa itoE n (by omega) (by omega) w h.out).mono ?_
  rintro e w' ⟨rfl, k, os, rfl⟩
  have b := Go.Lib.below_grow w.heap.size w (Nat.le_refl _) k os
  exact ⟨rfl, ⟨b.os, b.tape, b.output, b.size, fun i hi _ => b.block i hi⟩⟩
def NmAns (w : World) (g : Gt) (e : Ending) (w' : World) : Prop := ∃ b cap, e = .returned (.slice (some ⟨b, 0, none⟩) (gnn g.1) cap) ∧ RowV w' (some ⟨b, 0, none⟩) (gnn g.1) (iv (gnv g)) ∧ Chg nob w w'
theorem gnn_sh (i : Nat) (hi : i < 8) : gnn ((i : Int) + 1) = if shn i = true then 1 else (shp i).toNat := by
  rcases (show i = 0 ∨ i = 1 ∨ i = 2 ∨ i = 3 ∨ i = 4 ∨ i = 5 ∨ i = 6 ∨ i = 7 by omega) with rfl | rfl | rfl | rfl | rfl | rfl | rfl | rfl <;> rfl
set_option maxHeartbeats 2000000 in
theorem numbers_any (i : Nat) (hi : i < 8) (a b k : Int) (w : World) (h : Hid (Shp w)) : Calls Tryd.prog 57 #[.agg #[.int .i64 ((i : Int) + 1), .int .i64 a, .int .i64 b, .int .i64 k]] w fun e w' => NmAns w ((i : Int) + 1, a, b, k) e w' := by
  have KB := hik ((Chg.refl nob w).alloc (.cells #[.int .i64 ((i : Int) + 1), .int .i64 a, .int .i64 b, .int .i64 k] 51))
  have hsh := shapeOf_any i hi (w.alloc (.cells #[.int .i64 ((i : Int) + 1), .int .i64 a, .int .i64 b, .int .i64 k] 51)) (hik (h.out.keep KB.out))
  have x1 : World.cell? (w.alloc (.cells #[.int .i64 ((i : Int) + 1), .int .i64 a, .int .i64 b, .int .i64 k] 51)) ⟨w.heap.size, 1, none⟩ = some (.int .i64 a) := by go_simp
  have x2 : World.cell? (w.alloc (.cells #[.int .i64 ((i : Int) + 1), .int .i64 a, .int .i64 b, .int .i64 k] 51)) ⟨w.heap.size, 2, none⟩ = some (.int .i64 b) := by go_simp
  have x3 : World.cell? (w.alloc (.cells #[.int .i64 ((i : Int) + 1), .int .i64 a, .int .i64 b, .int .i64 k] 51)) ⟨w.heap.size, 3, none⟩ = some (.int .i64 k) := by go_simp
  have HN := hik (gnn_sh i hi)
  have HS := hik (show (shp i = 0 ∨ shp i = 1 ∨ shp i = 2) ∧ (shn i = true ↔ (i : Int) + 1 = 3) by
    rcases (show i = 0 ∨ i = 1 ∨ i = 2 ∨ i = 3 ∨ i = 4 ∨ i = 5 ∨ i = 6 ∨ i = 7 by omega) with rfl | rfl | rfl | rfl | rfl | rfl | rfl | rfl <;> decide)
  generalize shw i = Wd at hsh
  generalize shp i = S at hsh HN HS
  generalize shn i = N at hsh HN HS
  have HO := hik hi
  clear hi h
  go_enter Tryd.func57, Tryd.ntmps57
  go_wp2_with fail
  refine hsh.mono ?_
  rintro e W1 ⟨rfl, k1⟩
  have K1 := hik ((KB.out.trans k1).alloc (.cells #[.string Wd, .int .i64 S, .bool N] 95))
  have y1 := ((Chg.refl nob W1).alloc (.cells #[.string Wd, .int .i64 S, .bool N] 95)).look (k1.look x1)
  have y2 := ((Chg.refl nob W1).alloc (.cells #[.string Wd, .int .i64 S, .bool N] 95)).look (k1.look x2)
  have y3 := ((Chg.refl nob W1).alloc (.cells #[.string Wd, .int .i64 S, .bool N] 95)).look (k1.look x3)
  clear k1 x1 x2 x3 hsh KB
  cases N with
  | true =>
    have EG := hik (show gnn ((i : Int) + 1) = 1 by rw [HN.out]; rfl)
    have EO := hik (HS.out.2.1 rfl)
    go_wp2
    go_ret
    refine ⟨W1.heap.size + 1, 1, by rw [EG.out]; rfl, ?_, K1.out.alloc _⟩
    rw [EG.out]
    intro j hj
    obtain rfl : j = 0 := by omega
    exact ⟨_, 0, rfl, by simp, by simp [iv, gnv, EO.out]⟩
  | false =>
    have EO := hik (show ¬ (i : Int) + 1 = 3 from fun q => by have := HS.out.2.2 q; cases this)
    have EG := hik (show gnn ((i : Int) + 1) = S.toNat by rw [HN.out]; rfl)
    have RR := hik (show RowV ((W1.alloc (.cells #[.string Wd, .int .i64 S, .bool false] 95)).alloc (.cells #[.int .i64 a, .int .i64 b] 3)) (some ⟨W1.heap.size + 1, 0, none⟩) 2 (iv (gnv ((i : Int) + 1, a, b, k))) from fun j hj => by
      rcases (show j = 0 ∨ j = 1 by omega) with rfl | rfl
      · exact ⟨_, 0, rfl, by simp, by simp [iv, gnv, EO.out]⟩
      · exact ⟨_, 0, rfl, by simp, by simp [iv, gnv, EO.out]⟩)
    rcases HS.out.1 with rfl | rfl | rfl
    · go_wp2
      go_ret
      exact ⟨W1.heap.size + 1, 2, by rw [EG.out]; rfl, by rw [EG.out]; exact fun j hj => RR.out j (by have : j < 0 := hj; omega), K1.out.alloc _⟩
    · go_wp2
      go_ret
      exact ⟨W1.heap.size + 1, 2, by rw [EG.out]; rfl, by rw [EG.out]; exact fun j hj => RR.out j (by have : j < 1 := hj; omega), K1.out.alloc _⟩
    · go_wp2
      go_ret
      exact ⟨W1.heap.size + 1, 2, by rw [EG.out]; rfl, by rw [EG.out]; exact fun j hj => RR.out j (by have : j < 2 := hj; omega), K1.out.alloc _⟩
theorem field_sh0 (x : ByteArray) (n : Int) (b : Bool) (W : World) : (Instr.field 95 (.agg #[.string x, .int .i64 n, .bool b]) 0).run Tryd.prog W = .ok (.string x) W := by
  first | kernel_rfl | (simp [Instr.field, Tryd.underlying95]; rfl)
set_option maxHeartbeats 2000000 in
theorem gateText_any (op ga gb gk : Int) (w : World) (h : Hid (Shp w)) (ht : Hid (Pw10 w)) : Calls Tryd.prog 24 #[.agg #[.int .i64 op, .int .i64 ga, .int .i64 gb, .int .i64 gk]] w fun e w' => e = .returned (.tuple #[.string ⟨(gxt (op, ga, gb, gk)).toArray⟩, .int .i64 (gxc (op, ga, gb, gk))]) ∧ Chg nob w w' := by
  have KB := hik ((Chg.refl nob w).alloc (.cells #[.int .i64 op, .int .i64 ga, .int .i64 gb, .int .i64 gk] 51))
  have hr := right_any (op, ga, gb, gk) 15 (w.alloc (.cells #[.int .i64 op, .int .i64 ga, .int .i64 gb, .int .i64 gk] 51)) (hik (h.out.keep KB.out))
  dsimp only at hr
  have x0 : World.cell? (w.alloc (.cells #[.int .i64 op, .int .i64 ga, .int .i64 gb, .int .i64 gk] 51)) ⟨w.heap.size, 0, none⟩ = some (.int .i64 op) := by go_simp
  have x1 : World.cell? (w.alloc (.cells #[.int .i64 op, .int .i64 ga, .int .i64 gb, .int .i64 gk] 51)) ⟨w.heap.size, 1, none⟩ = some (.int .i64 ga) := by go_simp
  have x2 : World.cell? (w.alloc (.cells #[.int .i64 op, .int .i64 ga, .int .i64 gb, .int .i64 gk] 51)) ⟨w.heap.size, 2, none⟩ = some (.int .i64 gb) := by go_simp
  have x3 : World.cell? (w.alloc (.cells #[.int .i64 op, .int .i64 ga, .int .i64 gb, .int .i64 gk] 51)) ⟨w.heap.size, 3, none⟩ = some (.int .i64 gk) := by go_simp
  cases hg : gtb 15 (op, ga, gb, gk) with
  | false =>
    have HX := hik (show gxt (op, ga, gb, gk) = [] by unfold gxt; rw [hg]; rfl)
    have HC := hik (show gxc (op, ga, gb, gk) = 1 by unfold gxc; rw [hg]; rfl)
    rw [hg] at hr
    rw [HX.out, HC.out]
    go_enter Tryd.func24, Tryd.ntmps24
    go_wp2_with (go_at_call 55; refine hr.mono ?_; rintro e W1 ⟨rfl, k1⟩; have K1 := hik (KB.out.trans k1); clear k1)
    go_ret2
    exact ⟨rfl, K1.out⟩
  | true =>
    have HX := hik (show gxt (op, ga, gb, gk) = gtl (op, ga, gb, gk) (gnn op) by unfold gxt; rw [hg]; rfl)
    have HC := hik (show gxc (op, ga, gb, gk) = 0 by unfold gxc; rw [hg]; rfl)
    have HNM := hik (gtb_nums hg)
    have HLN := hik (gtl_len HNM.out)
    have ho : 1 ≤ op ∧ op ≤ 8 := by
      have h2 := hg
      unfold gtb at h2
      simp only [Bool.and_eq_true, decide_eq_true_eq] at h2
      exact h2.1
    rw [hg] at hr
    rw [HX.out, HC.out]
    obtain ⟨i, hi, eo⟩ : ∃ i : Nat, i < 8 ∧ op = (i : Int) + 1 := ⟨(op - 1).toNat, by omega, by omega⟩
    have hsh := fun W (k : Hid (Chg nob w W)) => shapeOf_any i hi W (hik (h.out.keep k.out))
    have hnm := fun W (k : Hid (Chg nob w W)) => numbers_any i hi ga gb gk W (hik (h.out.keep k.out))
    have HW := hik (show shw i = ⟨(gwd ((i : Int) + 1)).toArray⟩ by
      rcases (show i = 0 ∨ i = 1 ∨ i = 2 ∨ i = 3 ∨ i = 4 ∨ i = 5 ∨ i = 6 ∨ i = 7 by omega) with rfl | rfl | rfl | rfl | rfl | rfl | rfl | rfl <;> rfl)
    rw [HW.out] at hsh
    unfold NmAns at hnm
    dsimp only at hnm
    rw [← eo] at hsh hnm
    have hn2 : gnn op ≤ 2 := by unfold gnn usg; split <;> (try split) <;> (try split) <;> omega
    have HTL := hik (show ∀ k, gtl (op, ga, gb, gk) (k + 1) = gtl (op, ga, gb, gk) k ++ (32 :: Go.Lib.itoa (gnv (op, ga, gb, gk) k)) from fun k => rfl)
    have HT0 := hik (show gwd op = gtl (op, ga, gb, gk) 0 from rfl)
    generalize gwd op = Wd at hsh HT0
    generalize hgt : gtl (op, ga, gb, gk) = TL at HTL HT0 HLN ⊢
    generalize gnv (op, ga, gb, gk) = NV at hnm HNM HTL
    generalize gnn op = nn at hnm hn2 ⊢
    clear eo hg ho HW HX HC hgt
    generalize shp i = S at hsh
    generalize shn i = N at hsh
    have hfl := fun W => field_sh0 ⟨Wd.toArray⟩ S N W
    go_enter Tryd.func24, Tryd.ntmps24
    go_wp2_with (first | (go_at_call 55; refine hr.mono ?_; rintro e W1 ⟨rfl, k1⟩; have K1 := hik (KB.out.trans k1); have y0 := k1.look x0; have y1 := k1.look x1; have y2 := k1.look x2; have y3 := k1.look x3; clear k1) | (go_at_call 56; refine (hsh _ K1).mono ?_; rintro e W2 ⟨rfl, k2⟩; have K2 := hik (K1.out.trans k2); have z0 := k2.look y0; have z1 := k2.look y1; have z2 := k2.look y2; have z3 := k2.look y3; clear k2) | (go_at_call 57; refine (hnm _ K2).mono ?_; rintro e W3 ⟨nb, ncap, rfl, rn, k3⟩; have K3 := hik (K2.out.trans k3); have RN := hik rn; clear k3 rn))
    clear x0 x1 x2 x3 y0 y1 y2 y3 z0 z1 z2 z3 KB K1 K2
    go_loopw [4, 17] (fun v i W => ∃ k : Nat, k ≤ nn ∧ i = .int .i64 k ∧ v = .string ⟨(TL k).toArray⟩ ∧ Hid (Chg nob w W) ∧ Hid (RowV W (some ⟨nb, 0, none⟩) nn (iv NV))) (fun _ i _ => nn - (intOf i).toNat)
    case atStart => exact ⟨0, Nat.zero_le _, rfl, by rw [← HT0.out], K3, RN⟩
    case round =>
      clear K3 RN
      obtain ⟨k, hk, rfl, rfl, KK, RK⟩ := hrel
      rename World => wi
      by_cases hlt : k < nn
      · have hkn : ((k : Nat) : Int) < nn := by omega
        obtain ⟨yb, yo, ee, hyb, d0⟩ := RK.out k hlt
        cases ee
        have d1 : wi.cell? ⟨nb, k, none⟩ = some (.int .i64 (NV k)) := by simpa [iv] using d0
        clear d0
        have hnv := HNM.out k
        have HS := hik (HTL.out k)
        have hl1 := HLN.out k
        generalize NV k = z at d1 hnv HS
        have hl2 := ito_len hnv.1 hnv.2
        have hl3 : ¬ 9223372036854775807 < 1 + (Go.Lib.itoa z).length := by omega
        have hl4 : ¬ 9223372036854775807 < (TL k).length + (1 + (Go.Lib.itoa z).length) := by omega
        have hit := itoa_any z wi (hik (ht.out.keep KK.out)) hnv.1 (by omega)
        go_wp2_with (go_at_call 58; refine hit.mono ?_; rintro e W5 ⟨rfl, k5⟩; have K5 := hik (KK.out.trans k5); have R5 := hik (RK.out.keep k5); clear k5)
        go_roundw
        case rel => exact ⟨k + 1, by omega, by go_num, by rw [HS.out]; first | rfl | (rw [← ba_app, show (32 :: Go.Lib.itoa z) = [32] ++ Go.Lib.itoa z from rfl, ← ba_app]; rfl), K5, R5⟩
        case measure => simp [intOf]; omega
      · obtain rfl : k = nn := by omega
        go_wp2
        go_ret2
        exact ⟨rfl, KK.out⟩
end Go.Proofs.YtgimmmmiodlepabDoor
