/- What permuted answers: a contract. Condition: the tables hold the shifts and the rounds' constants. -/
import Derived.Test.YtkpohajmcngjcaaDoorKecU
import Derived.Deep.RegionHeld3
import Derived.BigRegion
namespace Go.Proofs.YtkpohajmcngjcaaDoor
open Go.ChangeShapes Go.WideShapes Go.ChangeAt Go.RowKit
set_option linter.unusedVariables false
set_option linter.unusedSimpArgs false

theorem rnd_set (a : Nat → Lane) (k i : Nat) : (if i = 0 then Value.int .u64 (bits .xor .u64 ((ch (pm (th (prm a k))) 0).toNat : Int) (rcn k : Int)) else lv (ch (pm (th (prm a k)))) i) = lv (prm a (k + 1)) i := by
  rw [← rcb_nat, xor64]
  unfold lv lw
  rw [prm]
  unfold rnd
  by_cases e : i = 0
  · subst e; simp
  · simp [e]

set_option maxRecDepth 100000 in
set_option maxHeartbeats 1000000 in
theorem permuted_any (a : Nat → Lane) (w : World) (ht : Hid (Tabs w)) :
    Calls Tryd.prog 62 #[.agg (la a)] w fun e w' => e = .returned (.agg (la (prm a 24))) ∧ Chg nob w w' := by
  have HI := hik infoL
  have hpos : 1 < w.heap.size := World.block_lt_of_cell? w _ (ht.out.sh 0 (by omega))
  go_enter Tryd.func62, Tryd.ntmps62
  go_wp2
  go_loopw [4] (fun i W => ∃ k : Nat, k ≤ 24 ∧ i = .int .i64 k ∧ Hid (W.rowIs w.heap.size 96 25 (lv (prm a k))) ∧ Hid (W.rowIs (w.heap.size + 1) 96 25 lz) ∧ Hid (Chg nob w W)) (fun i _ => 24 - (intOf i).toNat)
  case atStart => exact ⟨0, by omega, rfl, hik ((rowIs_new w 25 (lv a) _).alloc _), hik (rowIs_at _ _ (by simp) 25 lz _ _ rfl), hik (((Chg.refl _ _).alloc _).alloc _)⟩
  case round =>
    obtain ⟨k, hk, rfl, HS, HZ, HG⟩ := hrel
    by_cases hlt : k < 24
    · have hlt' : (k : Int) < 24 := by omega
      go_wp2_with (first | ((with_reducible refine wpList_load_all 96 (.tmp 1) rfl rfl w.heap.size ?hx 25 87 (lv (prm a k)) 96 HS.out Tryd.underlying96 HI.out ?_); (case hx => rfl)) | (go_at_call 80; refine (columnsMixed_any (prm a k) _).mono ?_; rintro e W1 ⟨rfl, k1⟩; have G1 := hik (HG.out.trans k1); have S1 := hik (rowIs_keep HS.out k1); have Z1 := hik (rowIs_keep HZ.out k1); clear k1) | (go_at_call 81; refine (turnedAndMoved_any (th (prm a k)) _ (hik (ht.out.keep G1.out))).mono ?_; rintro e W2 ⟨rfl, k2⟩; have G2 := hik (G1.out.trans k2); have S2 := hik (rowIs_keep S1.out k2); have Z2 := hik (rowIs_keep Z1.out k2); clear k2) | (go_at_call 82; refine (rowsMixed_any (pm (th (prm a k))) _).mono ?_; rintro e W3 ⟨rfl, k3⟩; have G3 := hik (G2.out.trans k3); have S3 := hik (rowIs_keep S2.out k3); have Z3 := hik (rowIs_keep Z2.out k3); clear k3) | ((with_reducible refine wpList_store_all 96 (.tmp 1) (.tmp 10) rfl rfl w.heap.size 25 (lv (ch (pm (th (prm a k))))) ?hx ?hy 96 (lv (prm a k)) S3.out HI.out (fun i _ => lv_one _ i) ?_); (case hx => rfl); (case hy => rfl); intro W4 hr4 hg4; have S4 := hik hr4; have G4 := hik (G3.out.near hg4 (fun i e => by omega)); have Z4 := hik (rowIs_chg Z3.out hg4 (by omega)); clear hr4 hg4))
      have c0 : W4.cell? ⟨w.heap.size, 0, none⟩ = some (.int .u64 ((ch (pm (th (prm a k))) 0).toNat : Int)) := S4.out.cell (by omega)
      have f0 := S4.out.frozen 0
      have c1 : W4.cell? ⟨0, k, none⟩ = some (.int .u64 (rcn k : Int)) := (ht.out.keep G4.out).rc _ (by omega)
      have n1 : ¬ w.heap.size = 0 := by omega
      have S5 := hik ((S4.out.set 0 (.int .u64 (bits .xor .u64 ((ch (pm (th (prm a k))) 0).toNat : Int) (rcn k : Int)))).congr (g := lv (prm a (k + 1))) (fun i hi => rnd_set a k i))
      have Z5 := hik (Z4.out.setOther (a := ⟨w.heap.size, 0, none⟩) (by simp only [ne_eq]; omega) (.int .u64 (bits .xor .u64 ((ch (pm (th (prm a k))) 0).toNat : Int) (rcn k : Int))))
      have G5 := hik (G4.out.setCell (p := ⟨w.heap.size, 0, none⟩) (fun l => absurd l (by simp)) (.int .u64 (bits .xor .u64 ((ch (pm (th (prm a k))) 0).toNat : Int) (rcn k : Int))))
      go_wp2
      go_region
      all_goals
        go_wp2
        go_roundw
        case rel => exact ⟨k + 1, by omega, by go_num, S5, Z5, hik G5.out.drew1⟩
        case measure => simp [intOf]; omega
    · obtain rfl : k = 24 := by omega
      go_wp2_with (first | ((with_reducible refine wpList_load_all 96 (.tmp 1) rfl rfl w.heap.size ?hx 25 87 (lv (prm a 24)) 96 HS.out Tryd.underlying96 HI.out ?_); (case hx => rfl)) | ((with_reducible refine wpList_store_all 96 (.tmp 2) (.tmp 19) rfl rfl (w.heap.size + 1) 25 (lv (prm a 24)) ?hx ?hy 96 lz HZ.out HI.out (fun i _ => lv_one _ i) ?_); (case hx => rfl); (case hy => rfl); intro W2 hr2 hg2; have HR2 := hik hr2; have HG2 := hik (HG.out.near hg2 (fun i e => by omega)); clear hr2 hg2))
      exact bodyPost_ret (results_all rfl _ _ (w.heap.size + 1) rfl 25 _ (lv (prm a 24)) _ HR2.out Tryd.underlying96 HI.out) rfl ⟨rfl, HG2.out⟩

end Go.Proofs.YtkpohajmcngjcaaDoor
