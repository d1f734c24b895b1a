/- What the model's permutation answers: a contract. No condition. -/
import Derived.Test.YtkpohajmcngjcaaDoorKecQ
import Derived.Deep.RegionHeld3
import Derived.Deep.RegionWith
import Derived.BigRegion
import Derived.Deep.DeepCutAuto
import Derived.Deep.CutBlock
namespace Go.Proofs.YtkpohajmcngjcaaDoor
open Go.ChangeShapes Go.WideShapes Go.ChangeAt Go.RowKit
set_option linter.unusedVariables false
set_option linter.unusedSimpArgs false

set_option maxRecDepth 10000 in
set_option maxHeartbeats 4000000 in
theorem sPermute_any (a : Nat → Lane) (w : World) :
    Calls Tryd.prog 59 #[.agg (la a)] w fun e w' => e = .returned (.agg (la (prm a 24))) ∧ Chg nob w w' := by
  have HI := hik infoA
  have HIR := hik infoR
  have HIS := hik infoS
  have HIC := hik infoC
  go_enter Tryd.func59, Tryd.ntmps59
  go_wp2_with (first | (go_at_call 77; refine (sRounds_any _).mono ?_; rintro e W1 ⟨rfl, k1⟩; have hs1 := k1.size; simp at hs1; have A1 := hik (rowIs_keep ((rowIs_new w 25 (lv a) 92).alloc _) k1); have Z1 := hik (rowIs_keep (rowIs_at (w.alloc _) (w.heap.size + 1) (by simp) 25 lz 92 _ rfl) k1); have G1 := hik (Chg.trans (((Chg.refl nob w).alloc _).alloc _) k1); clear k1) | ((with_reducible refine wpList_store_all 103 (.tmp 3) (.tmp 14) rfl rfl W1.heap.size 24 rv ?hx ?hy 103 lz ?hr HIR.out (fun i _ => rfl) ?_); (case hx => rfl); (case hy => rfl); (case hr => exact rowIs_at _ _ rfl 24 lz _ _ rfl); intro W2 hr2 hg2; have R2 := hik hr2; have A2 := hik (rowIs_chg (A1.out.alloc _) hg2 (by omega)); have Z2 := hik (rowIs_chg (Z1.out.alloc _) hg2 (by omega)); have G2 := hik (Chg.near (G1.out.alloc _) hg2 (fun i e => by omega)); have hs2 := hr2.lt; clear hr2 hg2) | (go_at_call 78; refine (sShifts_any _).mono ?_; rintro e W3 ⟨rfl, k3⟩; have hs3 := k3.size; have A3 := hik (rowIs_keep A2.out k3); have Z3 := hik (rowIs_keep Z2.out k3); have R3 := hik (rowIs_keep R2.out k3); have G3 := hik (G2.out.trans k3); clear k3) | ((with_reducible refine wpList_store_all 105 (.tmp 4) (.tmp 15) rfl rfl W3.heap.size 25 sv ?hx ?hy 105 lz ?hr HIS.out (fun i _ => rfl) ?_); (case hx => rfl); (case hy => rfl); (case hr => exact rowIs_at _ _ rfl 25 lz _ _ rfl); intro W4 hr4 hg4; have P4 : Hid (PI w W4 W1.heap.size W3.heap.size (lv a)) := hik ⟨rowIs_chg (A3.out.alloc _) hg4 (by omega), rowIs_chg (Z3.out.alloc _) hg4 (by omega), rowIs_chg (R3.out.alloc _) hg4 (by omega), hr4, Chg.near (G3.out.alloc _) hg4 (fun i e => by omega), by omega, by omega⟩; clear hr4 hg4))
  clear A1 Z1 G1 R2 A2 Z2 G2 A3 Z3 R3 G3
  go_loopw [5] (fun i W => ∃ r : Nat, r ≤ 24 ∧ i = .int .i64 r ∧ Hid (PI w W W1.heap.size W3.heap.size (lv (prm a r)))) (fun i _ => 24 - (intOf i).toNat)
  case atStart => exact ⟨0, by omega, rfl, P4⟩
  case round =>
    clear P4
    obtain ⟨r, hr, rfl, HP⟩ := hrel
    obtain ⟨wo, hwo⟩ : ∃ x, x = wr := ⟨wr, rfl⟩
    subst hwo
    by_cases hlt : r < 24
    · have hlt' : (r : Int) < 24 := by omega
      have hl := HP.out.lt
      obtain ⟨A, hA⟩ : ∃ A, A = prm a r := ⟨_, rfl⟩
      rw [← hA] at HP
      have HA := hik hA
      clear hA
      go_wp2_with ((with_reducible refine wpList_store_all 107 (.tmp 6) (.tmp 20) rfl rfl wo.heap.size 5 lz ?hx ?hy 107 lz ?hr HIC.out (fun i _ => rfl) ?_); (case hx => rfl); (case hy => rfl); (case hr => exact rowIs_at _ _ rfl 5 lz _ _ rfl); intro W5 hr5 hg5; have C5 := hik hr5; have P5 := hik ((HP.out.keep ((Chg.refl nob _).alloc _)).chg hg5 (fun i e => by omega)); clear hr5 hg5)
      go_loopw [7] (fun i W => ∃ x : Nat, x ≤ 5 ∧ i = .int .i64 x ∧ Hid (W.rowIs wo.heap.size 107 5 (cX A x)) ∧ Hid (PI w W W1.heap.size W3.heap.size (lv A))) (fun i _ => 5 - (intOf i).toNat)
      case atStart => exact ⟨0, by omega, rfl, hik (C5.out.congr (fun i _ => by unfold cX; rw [if_neg (by omega)]; rfl)), P5⟩
      case round =>
        clear C5 P5 HP
        obtain ⟨x, hx, rfl, HC, HP⟩ := hrel
        by_cases hxt : x < 5
        · have hxt' : (x : Int) < 5 := by omega
          have c0 : wr.cell? ⟨w.heap.size, x, none⟩ = some (.int .u64 ((A x).toNat : Int)) := HP.out.a.cell (by omega)
          have c1 : wr.cell? ⟨w.heap.size, x + 5, none⟩ = some (.int .u64 ((A (x + 5)).toNat : Int)) := HP.out.a.cell (by omega)
          have c2 : wr.cell? ⟨w.heap.size, x + 10, none⟩ = some (.int .u64 ((A (x + 10)).toNat : Int)) := HP.out.a.cell (by omega)
          have c3 : wr.cell? ⟨w.heap.size, x + 15, none⟩ = some (.int .u64 ((A (x + 15)).toNat : Int)) := HP.out.a.cell (by omega)
          have c4 : wr.cell? ⟨w.heap.size, x + 20, none⟩ = some (.int .u64 ((A (x + 20)).toNat : Int)) := HP.out.a.cell (by omega)
          have c5 := HC.out.cell hxt
          have f5 := HC.out.frozen x
          have C2 := hik ((HC.out.set x (.int .u64 (bits .xor .u64 (bits .xor .u64 (bits .xor .u64 (bits .xor .u64 ((A x).toNat : Int) ((A (x + 5)).toNat : Int)) ((A (x + 10)).toNat : Int)) ((A (x + 15)).toNat : Int)) ((A (x + 20)).toNat : Int)))).congr (g := cX A (x + 1)) (fun i _ => cX_set A x i))
          have P2 := hik ((HP.out.setOut wo.heap.size x hl (.int .u64 (bits .xor .u64 (bits .xor .u64 (bits .xor .u64 (bits .xor .u64 ((A x).toNat : Int) ((A (x + 5)).toNat : Int)) ((A (x + 10)).toNat : Int)) ((A (x + 15)).toNat : Int)) ((A (x + 20)).toNat : Int)))).drew)
          go_wp2
          go_region
          all_goals
            go_wp2
            go_roundw
            case rel => exact ⟨x + 1, by omega, by go_num, C2, P2⟩
            case measure => simp [intOf]; omega
        · obtain rfl : x = 5 := by omega
          have C2 := hik (HC.out.congr (g := lv (col A)) (fun i hi => by unfold cX lv; rw [if_pos hi]))
          clear HC
          go_wp2
          go_loopw [8] (fun i W => ∃ k : Nat, k ≤ 25 ∧ i = .int .i64 k ∧ Hid (W.rowIs wo.heap.size 107 5 (lv (col A))) ∧ Hid (PI w W W1.heap.size W3.heap.size (tX A k))) (fun i _ => 25 - (intOf i).toNat)
          case atStart => exact ⟨0, by omega, rfl, C2, hik (HP.out.alike (fun i _ => by unfold tX; rw [if_neg (by omega)]; rfl))⟩
          case round =>
            clear C2 HP
            obtain ⟨k, hk, rfl, HC, HP⟩ := hrel
            by_cases hkt : k < 25
            · have hkt' : (k : Int) < 25 := by omega
              obtain ⟨q1, hq1⟩ : ∃ q, q = (k + 1) % 5 := ⟨_, rfl⟩
              obtain ⟨q4, hq4⟩ : ∃ q, q = (k + 4) % 5 := ⟨_, rfl⟩
              have l1 : (q1 : Int) < 5 := by omega
              have l4 : (q4 : Int) < 5 := by omega
              have m1 : ((k : Int) + 1) % 5 = (q1 : Int) := by omega
              have m4 : ((k : Int) + 4) % 5 = (q4 : Int) := by omega
              have v1 : IntKind.i64.wrap ((k : Int) + 1) = (k : Int) + 1 := by rw [IntKind.wrap_i64]; omega
              have v4 : IntKind.i64.wrap ((k : Int) + 4) = (k : Int) + 4 := by rw [IntKind.wrap_i64]; omega
              have t1 : ((k : Int) + 1).tmod 5 = (q1 : Int) := by rw [Int.tmod_eq_emod_of_nonneg (by omega)]; omega
              have t4 : ((k : Int) + 4).tmod 5 = (q4 : Int) := by rw [Int.tmod_eq_emod_of_nonneg (by omega)]; omega
              have c0 : wr.cell? ⟨w.heap.size, k, none⟩ = some (.int .u64 ((A k).toNat : Int)) := (HP.out.a.cell (by omega)).trans (by unfold tX; rw [if_neg (by omega)]; rfl)
              have f0 := HP.out.a.frozen k
              have c1 : wr.cell? ⟨wo.heap.size, q1, none⟩ = some (.int .u64 ((col A q1).toNat : Int)) := HC.out.cell (by omega)
              have c4 : wr.cell? ⟨wo.heap.size, q4, none⟩ = some (.int .u64 ((col A q4).toNat : Int)) := HC.out.cell (by omega)
              have P2 := hik ((HP.out.setA k (.int .u64 (bits .xor .u64 ((A k).toNat : Int) (bits .xor .u64 ((col A q4).toNat : Int) ((rotl (col A q1) 1).toNat : Int)))) (g := tX A (k + 1)) (fun i _ => by rw [hq1, hq4]; exact tX_set A k i)).drew)
              have C2 := hik (HC.out.setOther (a := ⟨w.heap.size, k, none⟩) (by have := HP.out.o3; have := HP.out.o4; simp only [ne_eq]; omega) (.int .u64 (bits .xor .u64 ((A k).toNat : Int) (bits .xor .u64 ((col A q4).toNat : Int) ((rotl (col A q1) 1).toNat : Int)))))
              clear hq1 hq4
              go_upto_block 5 with fail
              go_cut [8] (fun i W => i = .int .i64 k ∧ Hid (W.rowIs wo.heap.size 107 5 (lv (col A))) ∧ Hid (PI w W W1.heap.size W3.heap.size (tX A (k + 1))))
              case first =>
                go_wp2_with fail
                go_region_with ((go_at_call 79; refine (sTurn_one _ _).mono ?_; rintro e w' ⟨rfl, rfl⟩))
                all_goals
                  go_wp2_with fail
                  go_meet
                  exact ⟨rfl, C2, P2⟩
              case rest =>
                obtain ⟨rfl, HC3, HP3⟩ := hcut
                clear C2 P2 c0 f0 c1 c4 m1 m4 v1 v4 t1 t4 HC HP
                go_wp2
                go_roundw
                case rel => exact ⟨k + 1, by omega, by go_num, HC3, HP3⟩
                case measure => simp [intOf]; omega
            · obtain rfl : k = 25 := by omega
              have P1 := hik (HP.out.alike (g := lv (th A)) (fun i hi => by unfold tX lv; rw [if_pos hi]))
              clear HP HC
              obtain ⟨wb, hwb⟩ : ∃ x, x = wr := ⟨wr, rfl⟩
              subst hwb
              have hl2 := P1.out.lt
              go_wp2_with ((with_reducible refine wpList_store_all 92 (.tmp 9) (.tmp 71) rfl rfl wb.heap.size 25 lz ?hx ?hy 92 lz ?hr HI.out (fun i _ => rfl) ?_); (case hx => rfl); (case hy => rfl); (case hr => exact rowIs_at _ _ rfl 25 lz _ _ rfl); intro W6 hr6 hg6; have B6 := hik hr6; have P6 := hik ((P1.out.keep ((Chg.refl nob _).alloc _)).chg hg6 (fun i e => by omega)); clear hr6 hg6)
              go_loopw [10] (fun i W => ∃ x : Nat, x ≤ 5 ∧ i = .int .i64 x ∧ Hid (W.rowIs wb.heap.size 92 25 (pY (th A) x 0)) ∧ Hid (PI w W W1.heap.size W3.heap.size (lv (th A)))) (fun i _ => 5 - (intOf i).toNat)
              case atStart => exact ⟨0, by omega, rfl, hik (B6.out.congr (fun i _ => by unfold pY; rw [if_neg (by omega)]; rfl)), P6⟩
              case round =>
                clear B6 P6 P1
                obtain ⟨x, hx, rfl, HB, HP⟩ := hrel
                by_cases hxt : x < 5
                · have hxt' : (x : Int) < 5 := by omega
                  go_wp2
                  go_loopw [11] (fun i W => ∃ y : Nat, y ≤ 5 ∧ i = .int .i64 y ∧ Hid (W.rowIs wb.heap.size 92 25 (pY (th A) x y)) ∧ Hid (PI w W W1.heap.size W3.heap.size (lv (th A)))) (fun i _ => 5 - (intOf i).toNat)
                  case atStart => exact ⟨0, by omega, rfl, HB, HP⟩
                  case round =>
                    clear HB HP
                    obtain ⟨y, hy, rfl, HB, HP⟩ := hrel
                    by_cases hyt : y < 5
                    · have hyt' : (y : Int) < 5 := by omega
                      obtain ⟨T, hT⟩ : ∃ T, T = th A := ⟨_, rfl⟩
                      rw [← hT] at HB HP
                      have HT := hik hT
                      clear hT
                      have c0 : wr.cell? ⟨w.heap.size, x + 5 * y, none⟩ = some (.int .u64 ((T (x + 5 * y)).toNat : Int)) := HP.out.a.cell (by omega)
                      have c1 : wr.cell? ⟨W3.heap.size, x + 5 * y, none⟩ = some (.int .u64 (sh (x + 5 * y) : Int)) := HP.out.s.cell (by omega)
                      obtain ⟨q, hq⟩ : ∃ q, q = (2 * x + 3 * y) % 5 := ⟨_, rfl⟩
                      have q5 : q < 5 := by omega
                      have c2 := HB.out.cell (i := y + 5 * q) (by omega)
                      have f2 := HB.out.frozen (y + 5 * q)
                      have e1 : ((x : Int) + 5 * (y : Int)).toNat = x + 5 * y := by omega
                      have e2 : ((y : Int) + 5 * (q : Int)).toNat = y + 5 * q := by omega
                      have b0 : (0 : Int) ≤ (x : Int) + 5 * (y : Int) := by omega
                      have b1 : (x : Int) + 5 * (y : Int) < 25 := by omega
                      have b2 : (0 : Int) ≤ (y : Int) + 5 * (q : Int) := by omega
                      have b3 : (y : Int) + 5 * (q : Int) < 25 := by omega
                      have v0 : IntKind.i64.wrap (5 * (y : Int)) = 5 * (y : Int) := by rw [IntKind.wrap_i64]; omega
                      have v1 : IntKind.i64.wrap (2 * (x : Int)) = 2 * (x : Int) := by rw [IntKind.wrap_i64]; omega
                      have v2 : IntKind.i64.wrap (3 * (y : Int)) = 3 * (y : Int) := by rw [IntKind.wrap_i64]; omega
                      have v3 : IntKind.i64.wrap (2 * (x : Int) + 3 * (y : Int)) = 2 * (x : Int) + 3 * (y : Int) := by rw [IntKind.wrap_i64]; omega
                      have v4 : (2 * (x : Int) + 3 * (y : Int)).tmod 5 = (q : Int) := by rw [Int.tmod_eq_emod_of_nonneg (by omega)]; omega
                      have v5 : IntKind.i64.wrap (5 * (q : Int)) = 5 * (q : Int) := by rw [IntKind.wrap_i64]; omega
                      have v6 : IntKind.i64.wrap ((y : Int) + 5 * (q : Int)) = (y : Int) + 5 * (q : Int) := by rw [IntKind.wrap_i64]; omega
                      have v7 : IntKind.i64.wrap ((x : Int) + 5 * (y : Int)) = (x : Int) + 5 * (y : Int) := by rw [IntKind.wrap_i64]; omega
                      have hs := sh_le (x + 5 * y)
                      have P2 := hik ((HP.out.setOut wb.heap.size (y + 5 * q) hl2 (.int .u64 ((rotl (T (x + 5 * y)) (sh (x + 5 * y))).toNat : Int))).drew)
                      have B2 := hik ((HB.out.set (y + 5 * q) (.int .u64 ((rotl (T (x + 5 * y)) (sh (x + 5 * y))).toNat : Int))).congr (g := pY T x (y + 1)) (fun i hi => by rw [hq]; exact pY_set T x y i hi hxt hyt))
                      clear hq
                      have HK : Hid ((wr.setCell ⟨wb.heap.size, y + 5 * q, none⟩ (.int .u64 ((rotl (T (x + 5 * y)) (sh (x + 5 * y))).toNat : Int))).drew.cell? ⟨w.heap.size, x + 5 * y, none⟩ = some (.int .u64 ((T (x + 5 * y)).toNat : Int)) ∧ (wr.setCell ⟨wb.heap.size, y + 5 * q, none⟩ (.int .u64 ((rotl (T (x + 5 * y)) (sh (x + 5 * y))).toNat : Int))).drew.cell? ⟨W3.heap.size, x + 5 * y, none⟩ = some (.int .u64 (sh (x + 5 * y) : Int))) := hik ⟨P2.out.a.cell (by omega), P2.out.s.cell (by omega)⟩
                      go_wp2
                      go_region_held3 (fun w' => w'.cell? ⟨w.heap.size, x + 5 * y, none⟩ = some (.int .u64 ((T (x + 5 * y)).toNat : Int)) ∧ w'.cell? ⟨W3.heap.size, x + 5 * y, none⟩ = some (.int .u64 (sh (x + 5 * y) : Int))) (first | with_reducible exact HK.out | go_keep) ((go_at_call 79; refine (sTurn_any _ _ (by omega) _).mono ?_; rintro e w' ⟨rfl, rfl⟩))
                      go_wp2
                      go_roundw
                      case rel => exact ⟨y + 1, by omega, by go_num, hik (by rw [← HT.out]; exact B2.out), hik (by rw [← HT.out]; exact P2.out)⟩
                      case measure => simp [intOf]; omega
                    · obtain rfl : y = 5 := by omega
                      go_wp2
                      go_roundw
                      case rel => exact ⟨x + 1, by omega, by go_num, hik (HB.out.congr (fun i hi => by
                        unfold pY
                        by_cases h : sx i < x + 1
                        · rw [if_pos (by omega), if_pos (by omega)]
                        · rw [if_neg (by omega), if_neg (by omega)])), HP⟩
                      case measure => simp [intOf]; omega
                · obtain rfl : x = 5 := by omega
                  have B1 := hik (HB.out.congr (g := lv (pm (th A))) (fun i hi => by have := sx_lt i; unfold pY lv; rw [if_pos (by omega)]))
                  clear HB
                  go_wp2
                  go_loopw [12] (fun i W => ∃ x : Nat, x ≤ 5 ∧ i = .int .i64 x ∧ Hid (W.rowIs wb.heap.size 92 25 (lv (pm (th A)))) ∧ Hid (PI w W W1.heap.size W3.heap.size (cY (pm (th A)) (th A) x 0))) (fun i _ => 5 - (intOf i).toNat)
                  case atStart => exact ⟨0, by omega, rfl, B1, hik (HP.out.alike (fun i _ => by unfold cY; rw [if_neg (by omega)]; rfl))⟩
                  case round =>
                    clear B1 HP
                    obtain ⟨x, hx, rfl, HB, HP⟩ := hrel
                    by_cases hxt : x < 5
                    · have hxt' : (x : Int) < 5 := by omega
                      go_wp2
                      go_loopw [13] (fun i W => ∃ y : Nat, y ≤ 5 ∧ i = .int .i64 y ∧ Hid (W.rowIs wb.heap.size 92 25 (lv (pm (th A)))) ∧ Hid (PI w W W1.heap.size W3.heap.size (cY (pm (th A)) (th A) x y))) (fun i _ => 5 - (intOf i).toNat)
                      case atStart => exact ⟨0, by omega, rfl, HB, HP⟩
                      case round =>
                        clear HB HP
                        obtain ⟨y, hy, rfl, HB, HP⟩ := hrel
                        by_cases hyt : y < 5
                        · have hyt' : (y : Int) < 5 := by omega
                          obtain ⟨B, hB⟩ : ∃ B, B = pm (th A) := ⟨_, rfl⟩
                          rw [← hB] at HB HP
                          have HBB := hik hB
                          clear hB
                          obtain ⟨q2, hq2⟩ : ∃ q, q = (x + 2) % 5 := ⟨_, rfl⟩
                          obtain ⟨q1, hq1⟩ : ∃ q, q = (x + 1) % 5 := ⟨_, rfl⟩
                          have l1 : q1 < 5 := by omega
                          have l2 : q2 < 5 := by omega
                          have c0 : wr.cell? ⟨wb.heap.size, x + 5 * y, none⟩ = some (.int .u64 ((B (x + 5 * y)).toNat : Int)) := HB.out.cell (by omega)
                          have c1 : wr.cell? ⟨wb.heap.size, q1 + 5 * y, none⟩ = some (.int .u64 ((B (q1 + 5 * y)).toNat : Int)) := HB.out.cell (by omega)
                          have c2 : wr.cell? ⟨wb.heap.size, q2 + 5 * y, none⟩ = some (.int .u64 ((B (q2 + 5 * y)).toNat : Int)) := HB.out.cell (by omega)
                          have c3 := HP.out.a.cell (i := x + 5 * y) (by omega)
                          have f3 := HP.out.a.frozen (x + 5 * y)
                          have e0 : ((x : Int) + 5 * (y : Int)).toNat = x + 5 * y := by omega
                          have e1 : ((q1 : Int) + 5 * (y : Int)).toNat = q1 + 5 * y := by omega
                          have e2 : ((q2 : Int) + 5 * (y : Int)).toNat = q2 + 5 * y := by omega
                          have m1 : ((x : Int) + 1) % 5 = (q1 : Int) := by omega
                          have m2 : ((x : Int) + 2) % 5 = (q2 : Int) := by omega
                          have b0 : (0 : Int) ≤ (x : Int) + 5 * (y : Int) := by omega
                          have b1 : (0 : Int) ≤ (q1 : Int) + 5 * (y : Int) := by omega
                          have b2 : (0 : Int) ≤ (q2 : Int) + 5 * (y : Int) := by omega
                          have d0 : (x : Int) + 5 * (y : Int) < 25 := by omega
                          have d1 : (q1 : Int) + 5 * (y : Int) < 25 := by omega
                          have d2 : (q2 : Int) + 5 * (y : Int) < 25 := by omega
                          have P2 := hik ((HP.out.setA (x + 5 * y) (.int .u64 (bits .xor .u64 ((B (x + 5 * y)).toNat : Int) (bits .and .u64 (bits .xor .u64 18446744073709551615 ((B (q1 + 5 * y)).toNat : Int)) ((B (q2 + 5 * y)).toNat : Int)))) (g := cY B (th A) x (y + 1)) (fun i _ => by rw [hq1, hq2]; exact cY_set B (th A) x y i hxt)).drew)
                          have B2 := hik (HB.out.setOther (a := ⟨w.heap.size, x + 5 * y, none⟩) (by have := HP.out.o3; have := HP.out.o4; simp only [ne_eq]; omega) (.int .u64 (bits .xor .u64 ((B (x + 5 * y)).toNat : Int) (bits .and .u64 (bits .xor .u64 18446744073709551615 ((B (q1 + 5 * y)).toNat : Int)) ((B (q2 + 5 * y)).toNat : Int)))))
                          clear hq1 hq2
                          go_wp2
                          go_region
                          all_goals
                            go_wp2
                            go_roundw
                            case rel => exact ⟨y + 1, by omega, by go_num, hik (by rw [← HBB.out]; exact B2.out), hik (by rw [← HBB.out]; exact P2.out)⟩
                            case measure => simp [intOf]; omega
                        · obtain rfl : y = 5 := by omega
                          go_wp2
                          go_roundw
                          case rel => exact ⟨x + 1, by omega, by go_num, HB, hik (HP.out.alike (fun i hi => by
                            unfold cY
                            by_cases h : i % 5 < x + 1
                            · rw [if_pos (by omega), if_pos (by omega)]
                            · rw [if_neg (by omega), if_neg (by omega)]))⟩
                          case measure => simp [intOf]; omega
                    · obtain rfl : x = 5 := by omega
                      obtain ⟨B, hB⟩ : ∃ B, B = ch (pm (th A)) := ⟨_, rfl⟩
                      have P1 := hik (HP.out.alike (g := lv B) (fun i hi => by rw [hB]; unfold cY lv; rw [if_pos (by omega)]))
                      have HBB := hik hB
                      clear HP HB hB
                      have c0 : wr.cell? ⟨w.heap.size, 0, none⟩ = some (.int .u64 ((B 0).toNat : Int)) := P1.out.a.cell (by omega)
                      have f0 := P1.out.a.frozen 0
                      have c1 : wr.cell? ⟨W1.heap.size, r, none⟩ = some (.int .u64 (rcn r : Int)) := P1.out.r.cell (by omega)
                      have P2 := hik ((P1.out.setA 0 (.int .u64 (bits .xor .u64 ((B 0).toNat : Int) (rcn r : Int))) (g := lv (prm a (r + 1))) (fun i _ => by rw [HBB.out, HA.out]; exact rnd_set a r i)).drew)
                      go_wp2
                      go_region
                      all_goals
                        go_wp2
                        go_roundw
                        case rel => exact ⟨r + 1, by omega, by go_num, P2⟩
                        case measure => simp [intOf]; omega
    · obtain rfl : r = 24 := by omega
      go_wp2_with (first | ((with_reducible refine wpList_load_all 92 (.tmp 1) rfl rfl w.heap.size ?hx 25 87 (lv (prm a 24)) 92 HP.out.a Tryd.underlying92 HI.out ?_); (case hx => rfl)) | ((with_reducible refine wpList_store_all 92 (.tmp 2) (.tmp 148) rfl rfl (w.heap.size + 1) 25 (lv (prm a 24)) ?hx ?hy 92 lz HP.out.z HI.out (fun i _ => lv_one _ i) ?_); (case hx => rfl); (case hy => rfl); intro W2 hr2 hg2; have HR2 := hik hr2; have HG2 := hik (HP.out.g.near hg2 (fun i e => by omega)); clear hr2 hg2))
      exact bodyPost_ret (results_all rfl _ _ (w.heap.size + 1) rfl 25 _ (lv (prm a 24)) _ HR2.out Tryd.underlying92 HI.out) rfl ⟨rfl, HG2.out⟩

end Go.Proofs.YtkpohajmcngjcaaDoor
