/- Several texts in one: What the program's tables by value answer: onTheWayTo, bound, likeness: contracts. Conditions: elements of the greater field, sizes of at most 64. · What the program's coefs and sums of tables by value answer: contracts. Conditions: elements of the greater field, tables of at most 64. -/
import Derived.Test.YtnpmhfhgnnhclarDoorBzbo
import Derived.Test.YtnpmhfhgnnhclarDoorBzar
namespace Go.Proofs.YtnpmhfhgnnhclarDoor
open Go.ChangeShapes Go.WideShapes Go.ChangeAt Go.RowKit
set_option linter.unusedVariables false
set_option maxRecDepth 100000
set_option linter.unusedSimpArgs false


end Go.Proofs.YtnpmhfhgnnhclarDoor

namespace Go.Proofs.YtnpmhfhgnnhclarDoor
open Go.ChangeShapes Go.WideShapes Go.ChangeAt Go.RowKit
set_option linter.unusedVariables false
set_option maxRecDepth 100000
set_option linter.unusedSimpArgs false

/-- A table by value whose first n elements are these. -/
def CbAns (w : World) (n : Nat) (t : Nat → El) (e : Ending) (w' : World) : Prop := ∃ t', e = .returned (.agg (cb n t')) ∧ (∀ i, i < n → t' i = t i) ∧ Chg nob w w'

set_option maxHeartbeats 2000000 in
theorem coefs_any (n : Nat) (t : Nat → El) (w : World) (hn : n ≤ 6) : Calls Tryd.prog 32 #[.agg (cb (2 ^ n) t)] w fun e w' => CbAns w (2 ^ n) (El.cfs false t n) e w' := by
  have hz := (zero_of_info infoQb).1
  obtain ⟨N, hN⟩ : ∃ N, N = 2 ^ n := ⟨_, rfl⟩
  have hN64 : N ≤ 64 := by rw [hN]; exact pow_le6 hn
  have hN1 : 1 ≤ N := by rw [hN]; exact Nat.one_le_two_pow
  rw [← hN]
  have HN := hik hN
  clear hN
  have hg0 := cb_get N t
  go_enter Tryd.func32, Tryd.ntmps32
  go_wp2
  clear hg0 hz
  go_loopw [3] (fun b W => ∃ (j B : Nat) (T : Nat → El), j ≤ n ∧ b = .int .i64 (B : Int) ∧ Hid (B = 2 ^ j) ∧ Hid (∀ i, i < N → T i = El.cfs false t j i) ∧ Hid (Cub W w.heap.size N T) ∧ Hid (Cub W (w.heap.size + 1) 0 zE) ∧ Hid (Chg nob w W)) (fun b _ => N - (intOf b).toNat)
  case atStart => exact ⟨0, 1, t, Nat.zero_le _, rfl, hik rfl, hik (fun _ _ => rfl), hik ((Cub.new w N t).keep ((Chg.refl nob _).alloc _)), hik (Cub.at_ _ _ (by simp) 0 zE), hik (((Chg.refl _ _).alloc _).alloc _)⟩
  case round =>
    obtain ⟨j, B, T, hj, rfl, HB, HT, HS, HZ, HG⟩ := hrel
    rename World => wo
    have c0 := HS.out.c
    by_cases hlt : B < N
    · have hlt' : (B : Int) < (N : Int) := by omega
      have hjn : j < n := by
        have h1 := HB.out; have h2 := HN.out
        rw [h1, h2] at hlt
        exact (Nat.pow_lt_pow_iff_right (by omega)).1 hlt
      have hj6 : j < 6 := by omega
      have hB1 : 1 ≤ B := by rw [HB.out]; exact Nat.one_le_two_pow
      go_wp2
      clear c0
      go_loopw [13] (fun i W => ∃ k : Nat, k ≤ N ∧ i = .int .i64 k ∧ Hid (Cub W w.heap.size N (stK false j T k)) ∧ Hid (Cub W (w.heap.size + 1) 0 zE) ∧ Hid (Chg nob w W)) (fun i _ => N - (intOf i).toNat)
      case atStart => exact ⟨0, Nat.zero_le _, rfl, hik (HS.out.congr (fun i _ => by unfold stK; rw [if_neg (by omega)])), HZ, HG⟩
      case round =>
        clear HS HZ HG
        obtain ⟨k, hk, rfl, HS, HZ, HG⟩ := hrel
        rename World => wi
        by_cases hkl : k < N
        · have hk1 : (k : Int) < (N : Int) := by omega
          have hk0 : (0 : Int) ≤ (k : Int) := by omega
          have hk64 : (k : Int) < 64 := by omega
          cases hbit : k.testBit j
          · have hand : bits .and .i64 (k : Int) (B : Int) = 0 := by rw [HB.out]; exact and_bit0 (by omega) hj6 hbit
            go_wp2
            go_roundw
            case rel => exact ⟨k + 1, by omega, by go_num, hik (HS.out.congr (fun i _ => stK_skip false hbit i)), HZ, HG⟩
            case measure => simp [intOf]; omega
          · have hand : bits .and .i64 (k : Int) (B : Int) = (B : Int) := by rw [HB.out]; exact and_bit1 (by omega) hj6 hbit
            have hne : ¬ (B : Int) = 0 := by omega
            obtain ⟨q, hq⟩ : ∃ q, q = k - B := ⟨_, rfl⟩
            have hBk : B ≤ k := by rw [HB.out]; exact bit_le hbit
            have hflip : k ^^^ 2 ^ j = q := by rw [hq, HB.out]; exact flip_sub (by omega) hj6 hbit
            have HF := hik hflip
            have hwq : IntKind.i64.wrap ((k : Int) - (B : Int)) = (q : Int) := by rw [IntKind.wrap_i64]; omega
            have hq0 : (0 : Int) ≤ (q : Int) := by omega
            have hq64 : (q : Int) < 64 := by omega
            have hqk : q < k := by omega
            clear hq hflip
            have ek : stK false j T k k = T k := by unfold stK; rw [if_neg (by omega)]
            have eq0 : stK false j T k q = T q := by
              unfold stK
              rw [if_pos hqk, ← HF.out]
              exact stp_flip false T hbit
            have x0 : wi.cell? ⟨w.heap.size, 1 + k * 2, none⟩ = some (.int .i64 (T k).v.1) := by rw [← ek]; exact HS.out.c0 (by omega)
            have x1 : wi.cell? ⟨w.heap.size, 1 + k * 2 + 1, none⟩ = some (.int .i64 (T k).v.2) := by rw [← ek]; exact HS.out.c1 (by omega)
            have y0 : wi.cell? ⟨w.heap.size, 1 + q * 2, none⟩ = some (.int .i64 (T q).v.1) := by rw [← eq0]; exact HS.out.c0 (by omega)
            have y1 : wi.cell? ⟨w.heap.size, 1 + q * 2 + 1, none⟩ = some (.int .i64 (T q).v.2) := by rw [← eq0]; exact HS.out.c1 (by omega)
            clear ek eq0
            go_wp2
            have KW := hik ((Chg.refl nob wi).drew1)
            have SA := hik (fun (WW : World) (kW : Chg nob wi WW) => (show (WW.cell? ⟨w.heap.size, 1 + k * 2, none⟩ = some (.int .i64 (T k).v.1) ∧ WW.cell? ⟨w.heap.size, 1 + k * 2 + 1, none⟩ = some (.int .i64 (T k).v.2) ∧ WW.cell? ⟨w.heap.size, 1 + q * 2, none⟩ = some (.int .i64 (T q).v.1) ∧ WW.cell? ⟨w.heap.size, 1 + q * 2 + 1, none⟩ = some (.int .i64 (T q).v.2)) from ⟨kW.see x0, kW.see x1, kW.see y0, kW.see y1⟩))
            refine wp_regionL (L := 14) (S := fun w' => w'.cell? ⟨w.heap.size, 1 + k * 2, none⟩ = some (.int .i64 (T k).v.1) ∧ w'.cell? ⟨w.heap.size, 1 + k * 2 + 1, none⟩ = some (.int .i64 (T k).v.2) ∧ w'.cell? ⟨w.heap.size, 1 + q * 2, none⟩ = some (.int .i64 (T q).v.1) ∧ w'.cell? ⟨w.heap.size, 1 + q * 2 + 1, none⟩ = some (.int .i64 (T q).v.2)) (by kernel_rfl) ⟨x0, x1, y0, y1⟩ (fun hHeld => ?_)
            refine wpAnyL_take (i := 0) (v := ?_) rfl (by kernel_rfl) (by kernel_rfl) (by kernel_rfl) (fun _ _ _ h => h) (by rfl) (by kernel_rfl) (by kernel_rfl) (Or.inl ⟨by rfl, ?_⟩) (by assumption) ?_
            rotate_left 1
            · (intro w' hSw; (try dsimp only at hSw); go_simp; try with_reducible rfl)
            try simp only [Act.put, List.setIfInBounds_toArray, List.set_cons_zero, List.set_cons_succ, List.getElem_toArray, List.getElem_cons_zero, List.getElem_cons_succ]
            refine wpAnyL_take (i := 1) (v := ?_) rfl (by kernel_rfl) (by kernel_rfl) (by kernel_rfl) (fun _ _ _ h => h) (by rfl) (by kernel_rfl) (by kernel_rfl) (Or.inl ⟨by rfl, ?_⟩) (by assumption) ?_
            rotate_left 1
            · (intro w' hSw; (try dsimp only at hSw); go_simp; try with_reducible rfl)
            try simp only [Act.put, List.setIfInBounds_toArray, List.set_cons_zero, List.set_cons_succ, List.getElem_toArray, List.getElem_cons_zero, List.getElem_cons_succ]
            refine wpAnyL_take (i := 2) (v := ?_) rfl (by kernel_rfl) (by kernel_rfl) (by kernel_rfl) (fun _ _ _ h => h) (by rfl) (by kernel_rfl) (by kernel_rfl) (Or.inl ⟨by rfl, ?_⟩) (by assumption) ?_
            rotate_left 1
            · (intro w' hSw; (try dsimp only at hSw); go_simp; try with_reducible rfl)
            try simp only [Act.put, List.setIfInBounds_toArray, List.set_cons_zero, List.set_cons_succ, List.getElem_toArray, List.getElem_cons_zero, List.getElem_cons_succ]
            refine wpAnyL_take (i := 3) (v := ?_) rfl (by kernel_rfl) (by kernel_rfl) (by kernel_rfl) (fun _ _ _ h => h) (by rfl) (by kernel_rfl) (by kernel_rfl) (Or.inl ⟨by rfl, ?_⟩) (by assumption) ?_
            rotate_left 1
            · (intro w' hSw; (try dsimp only at hSw); go_simp; try with_reducible rfl)
            try simp only [Act.put, List.setIfInBounds_toArray, List.set_cons_zero, List.set_cons_succ, List.getElem_toArray, List.getElem_cons_zero, List.getElem_cons_succ]
            refine wpAnyL_take (i := 4) (v := ?_) rfl (by kernel_rfl) (by kernel_rfl) (by kernel_rfl) (fun _ _ _ h => h) (by rfl) (by kernel_rfl) (by kernel_rfl) (Or.inl ⟨by rfl, ?_⟩) (by assumption) ?_
            rotate_left 1
            · (intro w' hSw; (try dsimp only at hSw); go_simp; try with_reducible rfl)
            try simp only [Act.put, List.setIfInBounds_toArray, List.set_cons_zero, List.set_cons_succ, List.getElem_toArray, List.getElem_cons_zero, List.getElem_cons_succ]
            refine wpAnyL_take (i := 5) (v := ?_) rfl (by kernel_rfl) (by kernel_rfl) (by kernel_rfl) (fun _ _ _ h => h) (by rfl) (by kernel_rfl) (by kernel_rfl) (Or.inl ⟨by rfl, ?_⟩) (by assumption) ?_
            rotate_left 1
            · (intro w' hSw; (try dsimp only at hSw); go_simp; try with_reducible rfl)
            try simp only [Act.put, List.setIfInBounds_toArray, List.set_cons_zero, List.set_cons_succ, List.getElem_toArray, List.getElem_cons_zero, List.getElem_cons_succ]
            refine wpAnyL_take (i := 6) (v := ?_) rfl (by kernel_rfl) (by kernel_rfl) (by kernel_rfl) (fun _ _ _ h => h) (by rfl) (by kernel_rfl) (by kernel_rfl) (Or.inl ⟨by rfl, ?_⟩) (by assumption) ?_
            rotate_left 1
            · (intro w' hSw; (try dsimp only at hSw); go_simp; try with_reducible rfl)
            try simp only [Act.put, List.setIfInBounds_toArray, List.set_cons_zero, List.set_cons_succ, List.getElem_toArray, List.getElem_cons_zero, List.getElem_cons_succ]
            refine wpAnyL_take (i := 7) (v := .int .i64 (q : Int)) rfl (by kernel_rfl) (by kernel_rfl) (by kernel_rfl) (fun _ _ _ h => h) (by rfl) (by kernel_rfl) (by kernel_rfl) (Or.inl ⟨by rfl, ?_⟩) (by assumption) ?_
            · (intro w' hSw; (try dsimp only at hSw); go_simp; first | done | exact hwq)
            try simp only [Act.put, List.setIfInBounds_toArray, List.set_cons_zero, List.set_cons_succ, List.getElem_toArray, List.getElem_cons_zero, List.getElem_cons_succ]
            refine wpAnyL_take (i := 8) (v := ?_) rfl (by kernel_rfl) (by kernel_rfl) (by kernel_rfl) (fun _ _ _ h => h) (by rfl) (by kernel_rfl) (by kernel_rfl) (Or.inl ⟨by rfl, ?_⟩) (by assumption) ?_
            rotate_left 1
            · (intro w' hSw; (try dsimp only at hSw); go_simp; try with_reducible rfl)
            try simp only [Act.put, List.setIfInBounds_toArray, List.set_cons_zero, List.set_cons_succ, List.getElem_toArray, List.getElem_cons_zero, List.getElem_cons_succ]
            refine wpAnyL_take (i := 9) (v := ?_) rfl (by kernel_rfl) (by kernel_rfl) (by kernel_rfl) (fun _ _ _ h => h) (by rfl) (by kernel_rfl) (by kernel_rfl) (Or.inl ⟨by rfl, ?_⟩) (by assumption) ?_
            rotate_left 1
            · (intro w' hSw; (try dsimp only at hSw); go_simp; try with_reducible rfl)
            try simp only [Act.put, List.setIfInBounds_toArray, List.set_cons_zero, List.set_cons_succ, List.getElem_toArray, List.getElem_cons_zero, List.getElem_cons_succ]
            refine wpAnyL_take (i := 10) (v := ?_) rfl (by kernel_rfl) (by kernel_rfl) (by kernel_rfl) (fun _ _ _ h => h) (by rfl) (by kernel_rfl) (by kernel_rfl) (Or.inl ⟨by rfl, ?_⟩) (by assumption) ?_
            rotate_left 1
            · (intro w' hSw; (try dsimp only at hSw); go_simp; try with_reducible rfl)
            try simp only [Act.put, List.setIfInBounds_toArray, List.set_cons_zero, List.set_cons_succ, List.getElem_toArray, List.getElem_cons_zero, List.getElem_cons_succ]
            refine wpAnyL_take0 (i := 12) (v := ?_) rfl (by kernel_rfl) (by kernel_rfl) (by kernel_rfl) (fun _ _ _ h => h) (by rfl) (Or.inl ⟨by rfl, ?_⟩) (by assumption) ?_
            rotate_left 1
            · (intro w' hSw; (try dsimp only at hSw); go_simp; try with_reducible rfl)
            try simp only [Act.put, List.setIfInBounds_toArray, List.set_cons_zero, List.set_cons_succ, List.getElem_toArray, List.getElem_cons_zero, List.getElem_cons_succ]
            refine wpAnyL_ready (rs := [11]) (by kernel_rfl) (by simp) ?_
            refine AllReadyL.cons rfl (fun K hK => ?_) AllReadyL.nil
            refine stepL_callN 49 #[.tmp 24, .tmp 30] #[38, 38] (by rfl) (by rfl) #[.agg #[.int .i64 (T k).v.1, .int .i64 (T k).v.2], .agg #[.int .i64 (T q).v.1, .int .i64 (T q).v.2]] (by simp only [List.map_toArray, List.map_cons, List.map_nil] <;> rfl) (run_go Tryd.func49 (by kernel_rfl) (by kernel_rfl) _ _) (sb_el (T k) (T q) _) ?_
            rintro e U1 ⟨he, kk⟩
            refine ⟨_, he, ?_⟩
            replace KW := hik (KW.out.trans kk)
            refine hK.out _ _ (SA.out _ KW.out) (fun hHeld => ?_)
            clear hK K
            try simp only [Act.put, List.setIfInBounds_toArray, List.set_cons_zero, List.set_cons_succ, List.getElem_toArray, List.getElem_cons_zero, List.getElem_cons_succ]
            clear he kk
            refine wpAnyL_take (i := 13) (v := ?_) rfl (by kernel_rfl) (by kernel_rfl) (by kernel_rfl) (fun _ _ _ h => h) (by rfl) (by kernel_rfl) (by kernel_rfl) (Or.inl ⟨by rfl, ?_⟩) (by assumption) ?_
            rotate_left 1
            · (intro w' hSw; (try dsimp only at hSw); go_simp; try with_reducible rfl)
            try simp only [Act.put, List.setIfInBounds_toArray, List.set_cons_zero, List.set_cons_succ, List.getElem_toArray, List.getElem_cons_zero, List.getElem_cons_succ]
            refine wpAnyL_ready (rs := [14]) (by kernel_rfl) (by simp) ?_
            refine AllReadyL.last rfl (by kernel_rfl) (fun K hK => ?_)
            have SN := hik (HS.out.keep KW.out)
            have g0 := SN.out.c0 (k := k) (by omega)
            have g1 := SN.out.c1 (k := k) (by omega)
            have f0 := SN.out.fz (1 + k * 2)
            have f1 := SN.out.fz (1 + k * 2 + 1)
            have ln : w.heap.size < U1.heap.size := SN.out.lt
            simp only [List.getElem_toArray, List.getElem_cons_zero, List.getElem_cons_succ]
            go_simp
            refine hK.out _ _ ?_
            clear hK K
            try simp only [Act.put, List.setIfInBounds_toArray, List.set_cons_zero, List.set_cons_succ, List.getElem_toArray, List.getElem_cons_zero, List.getElem_cons_succ]
            clear g0 g1 f0 f1 ln
            refine wpAnyL_done (by kernel_rfl) ?_ _
            have S2 := hik (Cub.congr (u := stK false j T (k + 1)) (SN.out.set k (El.sb (T k) (T q))) (fun i _ => by rw [← HF.out]; exact stK_step false T hbit i))
            have Z2 := hik (Cub.other (HZ.out.keep KW.out) (g := w.heap.size) (by omega) (1 + k * 2) (1 + k * 2 + 1) (.int .i64 (El.sb (T k) (T q)).v.1) (.int .i64 (El.sb (T k) (T q)).v.2))
            have G2 := hik (chg2_at (HG.out.trans KW.out) w.heap.size (fun l => absurd l (by omega)) (1 + k * 2) (1 + k * 2 + 1) (.int .i64 (El.sb (T k) (T q)).v.1) (.int .i64 (El.sb (T k) (T q)).v.2))
            generalize hE : ((U1.setCell ⟨w.heap.size, 1 + k * 2, none⟩ (.int .i64 (El.sb (T k) (T q)).v.1)).setCell ⟨w.heap.size, 1 + k * 2 + 1, none⟩ (.int .i64 (El.sb (T k) (T q)).v.2)) = W2 at S2 Z2 G2 ⊢
            clear hE SN KW SA hHeld x0 x1 y0 y1 HS HZ HG
            go_wp2
            go_roundw
            case rel => exact ⟨k + 1, by omega, by go_num, S2, Z2, G2⟩
            case measure => simp [intOf]; omega
        · obtain rfl : N = k := by omega
          obtain ⟨B2, hB2⟩ : ∃ B2, B2 = B * 2 := ⟨_, rfl⟩
          have HB2 := hik hB2
          have hB64 : B ≤ 64 := by omega
          have hwB : IntKind.i64.wrap ((B : Int) * 2) = (B2 : Int) := by rw [IntKind.wrap_i64]; omega
          have hm : N - B2 < N - B := by omega
          clear hB2
          go_wp2
          go_roundw
          case rel => exact ⟨j + 1, B2, stK false j T N, hjn, rfl, hik (by rw [HB2.out, HB.out, Nat.pow_succ]), hik (fun i hi => stK_all false (by rw [← HN.out]; exact HT.out) hjn (by rw [← HN.out]; exact hi) (by rw [HN.out])), HS, HZ, HG⟩
          case measure => simp [intOf]; omega
    · have hjn : n ≤ j := by
        have h1 := HB.out; have h2 := HN.out
        rw [h1, h2] at hlt
        exact Nat.le_of_not_lt (fun h => hlt ((Nat.pow_lt_pow_iff_right (by omega)).2 h))
      obtain rfl : n = j := by omega
      have hlt' : ¬ (B : Int) < (N : Int) := by omega
      go_wp2_with (first
        | ((with_reducible refine wpList_load_cub (.tmp 1) rfl rfl w.heap.size ?hx HS.out ?_); (case hx => rfl))
        | ((with_reducible refine wpList_store_cub (s := N) (t := T) (.tmp 2) (.tmp 35) rfl rfl (w.heap.size + 1) ?hx ?hy HZ.out ?_); (case hx => rfl); (case hy => rfl); intro W3 r3 g3; have R3 := hik r3; have G3 := hik (Chg.near HG.out g3 (fun i e => by omega)); clear r3 g3))
      exact bodyPost_ret (results_cub rfl _ _ (w.heap.size + 1) rfl R3.out) rfl ⟨T, rfl, HT.out, G3.out⟩

theorem coefs_N (N n : Nat) (hN : N = 2 ^ n) (t : Nat → El) (w : World) (hn : n ≤ 6) : Calls Tryd.prog 32 #[.agg (cb N t)] w fun e w' => CbAns w N (El.cfs false t n) e w' := by
  subst hN
  exact coefs_any n t w hn

end Go.Proofs.YtnpmhfhgnnhclarDoor
