/- Several texts in one: What the program's coefs and sums of tables by value answer: contracts. Conditions: elements of the greater field, tables of at most 64. · What the program's eqTable and likeness answer: contracts. Conditions: elements of the greater field, a point of at most six that can be read. -/
import Derived.Test.YtkpohajmcngjcaaDoorBzbc
import Derived.Test.YtkpohajmcngjcaaDoorBzaz
namespace Go.Proofs.YtkpohajmcngjcaaDoor
open Go.ChangeShapes Go.WideShapes Go.ChangeAt Go.RowKit
set_option linter.unusedVariables false
set_option maxRecDepth 100000
set_option linter.unusedSimpArgs false

/-- A table by value whose first n elements are these. -/
def CbAns (w : World) (n : Nat) (t : Nat → El) (e : Ending) (w' : World) : Prop := ∃ t', e = .returned (.agg (cb n t')) ∧ (∀ i, i < n → t' i = t i) ∧ Chg nob w w'


end Go.Proofs.YtkpohajmcngjcaaDoor

namespace Go.Proofs.YtkpohajmcngjcaaDoor
open Go.ChangeShapes Go.WideShapes Go.ChangeAt Go.RowKit
set_option linter.unusedVariables false
set_option maxRecDepth 100000
set_option linter.unusedSimpArgs false

/-- A table half way to the next, in place: the first k of each half. -/
def nx2 (t : Nat → El) (r : El) (N k i : Nat) : El := if i < k then El.ml (t i) (El.sb El.on r) else if N ≤ i ∧ i < N + k then El.ml (t (i - N)) r else t i
theorem nx2_zero (t : Nat → El) (r : El) (N i : Nat) : nx2 t r N 0 i = t i := by
  unfold nx2
  rw [if_neg (by omega), if_neg (by omega)]
theorem nx2_own (t : Nat → El) (r : El) {N k : Nat} (hk : k < N) : nx2 t r N k k = t k := by
  unfold nx2
  rw [if_neg (by omega), if_neg (by omega)]
theorem ml_less (x r : El) : El.sb x (El.ml x r) = El.ml x (El.sb El.on r) := by rw [El.ml_sb, El.ml_on]
theorem nx2_step (t : Nat → El) (r : El) {N k : Nat} (hk : k < N) (i : Nat) : upE (upE (nx2 t r N k) (k + N) (El.ml (t k) r)) k (El.sb (t k) (El.ml (t k) r)) i = nx2 t r N (k + 1) i := by
  unfold upE nx2
  by_cases e1 : i = k
  · subst e1
    rw [if_pos rfl, if_pos (Nat.lt_succ_self i), ml_less]
  · rw [if_neg e1]
    by_cases e2 : i = k + N
    · subst e2
      rw [if_pos rfl, if_neg (by omega), if_pos (by omega), show k + N - N = k by omega]
    · rw [if_neg e2]
      by_cases h : i < k
      · rw [if_pos h, if_pos (by omega)]
      · rw [if_neg h, if_neg (show ¬ i < k + 1 by omega)]
        by_cases h2 : N ≤ i ∧ i < N + k
        · rw [if_pos h2, if_pos (by omega)]
        · rw [if_neg h2, if_neg (by omega)]
theorem nx2_all {T p : Nat → El} {j N i : Nat} (hN : N = 2 ^ j) (hT : ∀ i, i < N → T i = El.eqp p j i) (hi : i < 2 * N) : nx2 T (p j) N N i = El.eqp p (j + 1) i := by
  unfold nx2
  by_cases h : i < N
  · rw [if_pos h, hT i h]
    subst hN
    rw [El.eqp_lo h]
  · rw [if_neg h, if_pos (by omega), hT _ (by omega)]
    subst hN
    have e := El.eqp_hi (p := p) (n := j) (i := i - 2 ^ j) (by omega)
    rw [show 2 ^ j + (i - 2 ^ j) = i by omega] at e
    exact e.symm

set_option maxHeartbeats 4000000 in
theorem eqTable_any (c : Option Addr) (n cap : Nat) (p : Nat → El) (w : World) (h : Hid (PairE w c n p)) (hn : n ≤ 6) : Calls Tryd.prog 28 #[.slice c n cap] w fun e w' => CbAns w (2 ^ n) (El.eqp p n) e w' := by
  have hz := (zero_of_info infoQb).1
  go_enter Tryd.func28, Tryd.ntmps28
  go_wp2_with (first
    | ((with_reducible refine wpList_build_cub (.const (.int .i64 1)) rfl rfl 1 ?hx ?_); (case hx => rfl))
    | ((with_reducible refine wpList_store_cub (s := 1) (t := zE) (.tmp 3) (.tmp 8) rfl rfl (w.heap.size + 1) ?hx ?hy (Cub.at_ (w.alloc (.cells (cb 0 zE) 64)) (w.heap.size + 1) (by simp) 0 zE) ?_); (case hx => rfl); (case hy => rfl); intro W1 r1 g1; have R1 := hik r1; have Z1 := hik (Cub.chg ((Cub.new w 0 zE).keep ((Chg.refl nob _).alloc (.cells (cb 0 zE) 64))) g1 (by omega)); have G1 := hik (Chg.near (((Chg.refl nob w).alloc (.cells (cb 0 zE) 64)).alloc (.cells (cb 0 zE) 64)) g1 (fun i e => by omega)); clear r1 g1; have d0 : W1.cell? ⟨w.heap.size + 1, 1, none⟩ = some (.int .i64 0) := R1.out.c0 (k := 0) (by omega); have d1 : W1.cell? ⟨w.heap.size + 1, 1 + 1, none⟩ = some (.int .i64 0) := R1.out.c1 (k := 0) (by omega); have d2 := R1.out.fz 1; have d3 := R1.out.fz (1 + 1)))
  clear d0 d1 d2 d3
  have R2 := hik (R1.out.set 0 El.on)
  have Z2 := hik (Z1.out.other (g := w.heap.size + 1) (by omega) 1 (1 + 1) (.int .i64 1) (.int .i64 0))
  have G2 := hik (chg2_at G1.out (w.heap.size + 1) (fun l => absurd l (by omega)) 1 (1 + 1) (.int .i64 1) (.int .i64 0))
  go_loopw [14] (fun i W => ∃ (j N : Nat) (T : Nat → El), j ≤ n ∧ i = .int .i64 j ∧ Hid (N = 2 ^ j) ∧ Hid (∀ i, i < N → T i = El.eqp p j i) ∧ Hid (Cub W (w.heap.size + 1) N T) ∧ Hid (Cub W w.heap.size 0 zE) ∧ Hid (Chg nob w W)) (fun i _ => n - (intOf i).toNat)
  case atStart => exact ⟨0, 1, upE zE 0 El.on, Nat.zero_le _, rfl, hik rfl, hik (fun i hi => by obtain rfl : i = 0 := (by omega); rfl), R2, Z2, G2⟩
  case round =>
    clear R1 Z1 G1 R2 Z2 G2 hz
    obtain ⟨j, N, T, hj, rfl, HN, HT, HS, HZ, HG⟩ := hrel
    rename World => wo
    by_cases hlt : j < n
    · have hlt' : (j : Int) < (n : Int) := by omega
      have hj0 : (0 : Int) ≤ (j : Int) := by omega
      have hN32 : N ≤ 32 := by rw [HN.out]; exact Nat.le_trans (Nat.pow_le_pow_right (by omega) (show j ≤ 5 by omega)) (by decide)
      have hN1 : 1 ≤ N := by rw [HN.out]; exact Nat.one_le_two_pow
      obtain ⟨xb, xo, ec, hxb, _, _⟩ := PairE.at_ (PairE.keep h.out HG.out) hlt
      subst ec
      have p0 := PairE.c0 (PairE.keep h.out HG.out) hlt
      have p1 := PairE.c1 (PairE.keep h.out HG.out) hlt
      have hcl : w.heap.size + 1 < wo.heap.size := HS.out.lt
      have S0 := hik (HS.out.keep ((Chg.refl nob _).alloc (.cells #[.int .i64 (p j).v.1, .int .i64 (p j).v.2] 40)))
      have c0 := S0.out.c
      go_wp2
      clear p0 p1 c0
      go_loopw [20] (fun i W => ∃ k : Nat, k ≤ N ∧ i = .int .i64 k ∧ Hid (Cub W (w.heap.size + 1) N (nx2 T (p j) N k)) ∧ Hid (ElB W wo.heap.size (p j)) ∧ Hid (Cub W w.heap.size 0 zE) ∧ Hid (Chg nob w W)) (fun i _ => N - (intOf i).toNat)
      case atStart => exact ⟨0, Nat.zero_le _, rfl, hik (S0.out.congr (fun i _ => (nx2_zero T (p j) N i).symm)), hik (ElB.new wo (p j)), hik (HZ.out.keep ((Chg.refl nob _).alloc _)), hik (HG.out.alloc _)⟩
      case round =>
        clear S0 HS HZ HG
        obtain ⟨k, hk, rfl, HS, HR, HZ, HG⟩ := hrel
        rename World => wi
        by_cases hkl : k < N
        · have hk1 : (k : Int) < (N : Int) := by omega
          have hk0 : (0 : Int) ≤ (k : Int) := by omega
          have hk64 : (k : Int) < 64 := by omega
          have ek : nx2 T (p j) N k k = T k := nx2_own T (p j) hkl
          have x0 : wi.cell? ⟨w.heap.size + 1, 1 + k * 2, none⟩ = some (.int .i64 (T k).v.1) := by rw [← ek]; exact HS.out.c0 (by omega)
          have x1 : wi.cell? ⟨w.heap.size + 1, 1 + k * 2 + 1, none⟩ = some (.int .i64 (T k).v.2) := by rw [← ek]; exact HS.out.c1 (by omega)
          have r0 := HR.out.c0
          have r1 := HR.out.c1
          have HCL := hik hcl
          have hsl : w.heap.size + 1 < wi.heap.size := HS.out.lt
          have hrl : wo.heap.size < wi.heap.size := HR.out.lt
          clear ek
          go_wp2
          have KW := hik ((Chg.refl nob wi).drew1)
          have SA := hik (fun (WW : World) (kW : Chg nob wi WW) => (show (WW.cell? ⟨w.heap.size + 1, 1 + k * 2, none⟩ = some (.int .i64 (T k).v.1) ∧ WW.cell? ⟨w.heap.size + 1, 1 + k * 2 + 1, none⟩ = some (.int .i64 (T k).v.2) ∧ WW.cell? ⟨wo.heap.size, 0, none⟩ = some (.int .i64 (p j).v.1) ∧ WW.cell? ⟨wo.heap.size, 1, none⟩ = some (.int .i64 (p j).v.2)) from ⟨kW.see x0, kW.see x1, kW.see r0, kW.see r1⟩))
          refine wp_region_held_drew (S := fun w' => w'.cell? ⟨w.heap.size + 1, 1 + k * 2, none⟩ = some (.int .i64 (T k).v.1) ∧ w'.cell? ⟨w.heap.size + 1, 1 + k * 2 + 1, none⟩ = some (.int .i64 (T k).v.2) ∧ w'.cell? ⟨wo.heap.size, 0, none⟩ = some (.int .i64 (p j).v.1) ∧ w'.cell? ⟨wo.heap.size, 1, none⟩ = some (.int .i64 (p j).v.2)) (by kernel_rfl) ⟨x0, x1, r0, r1⟩ (fun hHeld => ?_)
          refine wpAnyH_take (i := 0) (v := ?_) rfl (by kernel_rfl) (by kernel_rfl) (by kernel_rfl) (fun _ _ _ h => h) (Or.inl ⟨by rfl, ?_⟩) (by assumption) ?_
          rotate_left 1
          · (intro w' hSw; (try dsimp only at hSw); go_simp; try with_reducible rfl)
          try simp only [Act.put, List.setIfInBounds_toArray, List.set_cons_zero, List.set_cons_succ, List.getElem_toArray, List.getElem_cons_zero, List.getElem_cons_succ]
          refine wpAnyH_take (i := 1) (v := ?_) rfl (by kernel_rfl) (by kernel_rfl) (by kernel_rfl) (fun _ _ _ h => h) (Or.inl ⟨by rfl, ?_⟩) (by assumption) ?_
          rotate_left 1
          · (intro w' hSw; (try dsimp only at hSw); go_simp; try with_reducible rfl)
          try simp only [Act.put, List.setIfInBounds_toArray, List.set_cons_zero, List.set_cons_succ, List.getElem_toArray, List.getElem_cons_zero, List.getElem_cons_succ]
          refine wpAnyH_take (i := 2) (v := ?_) rfl (by kernel_rfl) (by kernel_rfl) (by kernel_rfl) (fun _ _ _ h => h) (Or.inl ⟨by rfl, ?_⟩) (by assumption) ?_
          rotate_left 1
          · (intro w' hSw; (try dsimp only at hSw); go_simp; try with_reducible rfl)
          try simp only [Act.put, List.setIfInBounds_toArray, List.set_cons_zero, List.set_cons_succ, List.getElem_toArray, List.getElem_cons_zero, List.getElem_cons_succ]
          refine wpAnyH_take (i := 3) (v := ?_) rfl (by kernel_rfl) (by kernel_rfl) (by kernel_rfl) (fun _ _ _ h => h) (Or.inl ⟨by rfl, ?_⟩) (by assumption) ?_
          rotate_left 1
          · (intro w' hSw; (try dsimp only at hSw); go_simp; try with_reducible rfl)
          try simp only [Act.put, List.setIfInBounds_toArray, List.set_cons_zero, List.set_cons_succ, List.getElem_toArray, List.getElem_cons_zero, List.getElem_cons_succ]
          refine wpAnyH_take (i := 4) (v := ?_) rfl (by kernel_rfl) (by kernel_rfl) (by kernel_rfl) (fun _ _ _ h => h) (Or.inl ⟨by rfl, ?_⟩) (by assumption) ?_
          rotate_left 1
          · (intro w' hSw; (try dsimp only at hSw); go_simp; try with_reducible rfl)
          try simp only [Act.put, List.setIfInBounds_toArray, List.set_cons_zero, List.set_cons_succ, List.getElem_toArray, List.getElem_cons_zero, List.getElem_cons_succ]
          refine wpAnyH_ready (rs := [5, 6]) (by kernel_rfl) (by simp) ?_
          refine AllReadyH.cons rfl (fun K hK => ?_) ?_
          · refine stepL_callN 29 #[.tmp 26, .tmp 27] #[40, 40] (by rfl) (by rfl) #[.agg #[.int .i64 (T k).v.1, .int .i64 (T k).v.2], .agg #[.int .i64 (p j).v.1, .int .i64 (p j).v.2]] (by simp only [List.map_toArray, List.map_cons, List.map_nil] <;> rfl) (run_go Tryd.func29 (by kernel_rfl) (by kernel_rfl) _ _) (ml_el (T k) (p j) _) ?_
            rintro e U1 ⟨he, kk⟩
            refine ⟨_, he, ?_⟩
            replace KW := hik (KW.out.trans kk)
            refine hK.out _ _ (SA.out _ KW.out) (fun hHeld => ?_)
            clear hK K
            try simp only [Act.put, List.setIfInBounds_toArray, List.set_cons_zero, List.set_cons_succ, List.getElem_toArray, List.getElem_cons_zero, List.getElem_cons_succ]
            clear he kk
            refine wpAnyH_ready (rs := [6]) (by kernel_rfl) (by simp) ?_
            refine AllReadyH.cons rfl (fun K hK => ?_) AllReadyH.nil
            simp only [List.getElem_toArray, List.getElem_cons_zero, List.getElem_cons_succ]
            go_simp
            have E7 : Hid (ElB (World.alloc U1 (.cells #[.int .i64 0, .int .i64 0] 40)) U1.heap.size El.zr) := hik (ElB.zero U1)
            have hgl : wi.heap.size ≤ U1.heap.size := KW.out.size
            replace KW : Hid (Chg nob wi (World.alloc U1 (.cells #[.int .i64 0, .int .i64 0] 40))) := hik (KW.out.alloc _)
            generalize hUA : (World.alloc U1 (.cells #[.int .i64 0, .int .i64 0] 40)) = UA at E7 KW ⊢
            clear hUA
            refine hK.out _ _ (SA.out _ KW.out) (fun hHeld => ?_)
            clear hK K
            try simp only [Act.put, List.setIfInBounds_toArray, List.set_cons_zero, List.set_cons_succ, List.getElem_toArray, List.getElem_cons_zero, List.getElem_cons_succ]
            refine wpAnyH_ready (rs := [7]) (by kernel_rfl) (by simp) ?_
            refine AllReadyH.cons rfl (fun K hK => ?_) AllReadyH.nil
            have y0 := E7.out.c0
            have y1 := E7.out.c1
            have f0 := E7.out.fz 0
            have f1 := E7.out.fz 1
            have l7 := E7.out.lt
            simp only [List.getElem_toArray, List.getElem_cons_zero, List.getElem_cons_succ]
            go_simp
            refine hK.out _ _ ⟨look_two (by omega) (SA.out _ KW.out).1 0 1 _ _, look_two (by omega) (SA.out _ KW.out).2.1 0 1 _ _, look_two (by omega) (SA.out _ KW.out).2.2.1 0 1 _ _, look_two (by omega) (SA.out _ KW.out).2.2.2 0 1 _ _⟩ (fun hHeld => ?_)
            clear hK K
            try simp only [Act.put, List.setIfInBounds_toArray, List.set_cons_zero, List.set_cons_succ, List.getElem_toArray, List.getElem_cons_zero, List.getElem_cons_succ]
            clear y0 y1 f0 f1 l7
            refine wpAnyH_done (by kernel_rfl) ?_ _
            have E8 := hik (E7.out.set (El.ml (T k) (p j)))
            have S8 := hik (Cub.other (HS.out.keep KW.out) (g := U1.heap.size) (by omega) 0 1 (.int .i64 (El.ml (T k) (p j)).v.1) (.int .i64 (El.ml (T k) (p j)).v.2))
            have R8 := hik (ElB.other (HR.out.keep KW.out) (g := U1.heap.size) (by omega) 0 1 (.int .i64 (El.ml (T k) (p j)).v.1) (.int .i64 (El.ml (T k) (p j)).v.2))
            have Z8 := hik (Cub.other (HZ.out.keep KW.out) (g := U1.heap.size) (by omega) 0 1 (.int .i64 (El.ml (T k) (p j)).v.1) (.int .i64 (El.ml (T k) (p j)).v.2))
            have G8 := hik (chg2_at (HG.out.trans KW.out) U1.heap.size (fun l => absurd l (by have := HG.out.size; omega)) 0 1 (.int .i64 (El.ml (T k) (p j)).v.1) (.int .i64 (El.ml (T k) (p j)).v.2))
            generalize hE : ((UA.setCell ⟨U1.heap.size, 0, none⟩ (.int .i64 (El.ml (T k) (p j)).v.1)).setCell ⟨U1.heap.size, 1, none⟩ (.int .i64 (El.ml (T k) (p j)).v.2)) = W8 at E8 S8 R8 Z8 G8 ⊢
            have HG1 := hik (show w.heap.size + 1 ≠ U1.heap.size by omega)
            clear hE SA hHeld KW E7 x0 x1 r0 r1 HS HR HZ HG hsl hrl hgl
            generalize hE2 : U1.heap.size = g at E8 HG1 ⊢
            clear hE2
            obtain ⟨q, hq⟩ : ∃ q, q = k + N := ⟨_, rfl⟩
            have HQ := hik hq
            have hwq : IntKind.i64.wrap ((k : Int) + (N : Int)) = (q : Int) := by rw [IntKind.wrap_i64]; omega
            have hq0 : (0 : Int) ≤ (q : Int) := by omega
            have hq64 : (q : Int) < 64 := by omega
            have e0 := E8.out.c0
            have e1 := E8.out.c1
            have s0 := S8.out.c
            have t0 := S8.out.c0 (k := q) (by omega)
            have t1 := S8.out.c1 (k := q) (by omega)
            have t2 := S8.out.fz (1 + q * 2)
            have t3 := S8.out.fz (1 + q * 2 + 1)
            have hql : q < 64 := by omega
            clear hq
            go_wp2
            clear e0 e1 s0 t0 t1 t2 t3
            have S9 := hik (S8.out.set q (El.ml (T k) (p j)))
            have E9 := hik (E8.out.other (g := w.heap.size + 1) (fun e => HG1.out e.symm) (1 + q * 2) (1 + q * 2 + 1) (.int .i64 (El.ml (T k) (p j)).v.1) (.int .i64 (El.ml (T k) (p j)).v.2))
            have Z9 := hik (Z8.out.other (g := w.heap.size + 1) (by omega) (1 + q * 2) (1 + q * 2 + 1) (.int .i64 (El.ml (T k) (p j)).v.1) (.int .i64 (El.ml (T k) (p j)).v.2))
            have R9 := hik (R8.out.other (g := w.heap.size + 1) (by have := HCL.out; omega) (1 + q * 2) (1 + q * 2 + 1) (.int .i64 (El.ml (T k) (p j)).v.1) (.int .i64 (El.ml (T k) (p j)).v.2))
            have G9 := hik (chg2_at G8.out (w.heap.size + 1) (fun l => absurd l (by omega)) (1 + q * 2) (1 + q * 2 + 1) (.int .i64 (El.ml (T k) (p j)).v.1) (.int .i64 (El.ml (T k) (p j)).v.2))
            generalize hE3 : ((W8.setCell ⟨w.heap.size + 1, 1 + q * 2, none⟩ (.int .i64 (El.ml (T k) (p j)).v.1)).setCell ⟨w.heap.size + 1, 1 + q * 2 + 1, none⟩ (.int .i64 (El.ml (T k) (p j)).v.2)) = W9 at S9 E9 Z9 R9 G9 ⊢
            clear hE3 S8 E8 Z8 R8 G8
            have e0 := E9.out.c0
            have e1 := E9.out.c1
            have ek : upE (nx2 T (p j) N k) q (El.ml (T k) (p j)) k = T k := by unfold upE; rw [if_neg (by have := HQ.out; omega)]; exact nx2_own T (p j) hkl
            have x0 : W9.cell? ⟨w.heap.size + 1, 1 + k * 2, none⟩ = some (.int .i64 (T k).v.1) := by rw [← ek]; exact S9.out.c0 (by omega)
            have x1 : W9.cell? ⟨w.heap.size + 1, 1 + k * 2 + 1, none⟩ = some (.int .i64 (T k).v.2) := by rw [← ek]; exact S9.out.c1 (by omega)
            clear ek
            have KW := hik ((Chg.refl nob W9).drew1)
            have SA := hik (fun (WW : World) (kW : Chg nob W9 WW) => (show (WW.cell? ⟨w.heap.size + 1, 1 + k * 2, none⟩ = some (.int .i64 (T k).v.1) ∧ WW.cell? ⟨w.heap.size + 1, 1 + k * 2 + 1, none⟩ = some (.int .i64 (T k).v.2) ∧ WW.cell? ⟨g, 0, none⟩ = some (.int .i64 (El.ml (T k) (p j)).v.1) ∧ WW.cell? ⟨g, 1, none⟩ = some (.int .i64 (El.ml (T k) (p j)).v.2)) from ⟨kW.see x0, kW.see x1, kW.see e0, kW.see e1⟩))
            refine wp_regionL (L := 9) (S := fun w' => w'.cell? ⟨w.heap.size + 1, 1 + k * 2, none⟩ = some (.int .i64 (T k).v.1) ∧ w'.cell? ⟨w.heap.size + 1, 1 + k * 2 + 1, none⟩ = some (.int .i64 (T k).v.2) ∧ w'.cell? ⟨g, 0, none⟩ = some (.int .i64 (El.ml (T k) (p j)).v.1) ∧ w'.cell? ⟨g, 1, none⟩ = some (.int .i64 (El.ml (T k) (p j)).v.2)) (by kernel_rfl) ⟨x0, x1, e0, e1⟩ (fun hHeld => ?_)
            refine wpAnyL_take (i := 0) (v := ?_) rfl (by kernel_rfl) (by kernel_rfl) (by kernel_rfl) (fun _ _ _ h => h) (by rfl) (by kernel_rfl) (by kernel_rfl) (Or.inl ⟨by rfl, ?_⟩) (by assumption) ?_
            rotate_left 1
            · (intro w' hSw; (try dsimp only at hSw); go_simp; try with_reducible rfl)
            try simp only [Act.put, List.setIfInBounds_toArray, List.set_cons_zero, List.set_cons_succ, List.getElem_toArray, List.getElem_cons_zero, List.getElem_cons_succ]
            refine wpAnyL_take (i := 1) (v := ?_) rfl (by kernel_rfl) (by kernel_rfl) (by kernel_rfl) (fun _ _ _ h => h) (by rfl) (by kernel_rfl) (by kernel_rfl) (Or.inl ⟨by rfl, ?_⟩) (by assumption) ?_
            rotate_left 1
            · (intro w' hSw; (try dsimp only at hSw); go_simp; try with_reducible rfl)
            try simp only [Act.put, List.setIfInBounds_toArray, List.set_cons_zero, List.set_cons_succ, List.getElem_toArray, List.getElem_cons_zero, List.getElem_cons_succ]
            refine wpAnyL_take (i := 2) (v := ?_) rfl (by kernel_rfl) (by kernel_rfl) (by kernel_rfl) (fun _ _ _ h => h) (by rfl) (by kernel_rfl) (by kernel_rfl) (Or.inl ⟨by rfl, ?_⟩) (by assumption) ?_
            rotate_left 1
            · (intro w' hSw; (try dsimp only at hSw); go_simp; try with_reducible rfl)
            try simp only [Act.put, List.setIfInBounds_toArray, List.set_cons_zero, List.set_cons_succ, List.getElem_toArray, List.getElem_cons_zero, List.getElem_cons_succ]
            refine wpAnyL_take (i := 3) (v := ?_) rfl (by kernel_rfl) (by kernel_rfl) (by kernel_rfl) (fun _ _ _ h => h) (by rfl) (by kernel_rfl) (by kernel_rfl) (Or.inl ⟨by rfl, ?_⟩) (by assumption) ?_
            rotate_left 1
            · (intro w' hSw; (try dsimp only at hSw); go_simp; try with_reducible rfl)
            try simp only [Act.put, List.setIfInBounds_toArray, List.set_cons_zero, List.set_cons_succ, List.getElem_toArray, List.getElem_cons_zero, List.getElem_cons_succ]
            refine wpAnyL_take (i := 4) (v := ?_) rfl (by kernel_rfl) (by kernel_rfl) (by kernel_rfl) (fun _ _ _ h => h) (by rfl) (by kernel_rfl) (by kernel_rfl) (Or.inl ⟨by rfl, ?_⟩) (by assumption) ?_
            rotate_left 1
            · (intro w' hSw; (try dsimp only at hSw); go_simp; try with_reducible rfl)
            try simp only [Act.put, List.setIfInBounds_toArray, List.set_cons_zero, List.set_cons_succ, List.getElem_toArray, List.getElem_cons_zero, List.getElem_cons_succ]
            refine wpAnyL_take (i := 5) (v := ?_) rfl (by kernel_rfl) (by kernel_rfl) (by kernel_rfl) (fun _ _ _ h => h) (by rfl) (by kernel_rfl) (by kernel_rfl) (Or.inl ⟨by rfl, ?_⟩) (by assumption) ?_
            rotate_left 1
            · (intro w' hSw; (try dsimp only at hSw); go_simp; try with_reducible rfl)
            try simp only [Act.put, List.setIfInBounds_toArray, List.set_cons_zero, List.set_cons_succ, List.getElem_toArray, List.getElem_cons_zero, List.getElem_cons_succ]
            refine wpAnyL_take0 (i := 7) (v := ?_) rfl (by kernel_rfl) (by kernel_rfl) (by kernel_rfl) (fun _ _ _ h => h) (by rfl) (Or.inl ⟨by rfl, ?_⟩) (by assumption) ?_
            rotate_left 1
            · (intro w' hSw; (try dsimp only at hSw); go_simp; try with_reducible rfl)
            try simp only [Act.put, List.setIfInBounds_toArray, List.set_cons_zero, List.set_cons_succ, List.getElem_toArray, List.getElem_cons_zero, List.getElem_cons_succ]
            refine wpAnyL_ready (rs := [6]) (by kernel_rfl) (by simp) ?_
            refine AllReadyL.cons rfl (fun K hK => ?_) AllReadyL.nil
            refine stepL_callN 51 #[.tmp 40, .tmp 41] #[40, 40] (by rfl) (by rfl) #[.agg #[.int .i64 (T k).v.1, .int .i64 (T k).v.2], .agg #[.int .i64 (El.ml (T k) (p j)).v.1, .int .i64 (El.ml (T k) (p j)).v.2]] (by simp only [List.map_toArray, List.map_cons, List.map_nil] <;> rfl) (run_go Tryd.func51 (by kernel_rfl) (by kernel_rfl) _ _) (sb_el (T k) (El.ml (T k) (p j)) _) ?_
            rintro e U1 ⟨he, kk⟩
            refine ⟨_, he, ?_⟩
            replace KW := hik (KW.out.trans kk)
            refine hK.out _ _ (SA.out _ KW.out) (fun hHeld => ?_)
            clear hK K
            try simp only [Act.put, List.setIfInBounds_toArray, List.set_cons_zero, List.set_cons_succ, List.getElem_toArray, List.getElem_cons_zero, List.getElem_cons_succ]
            clear he kk
            refine wpAnyL_take (i := 8) (v := ?_) rfl (by kernel_rfl) (by kernel_rfl) (by kernel_rfl) (fun _ _ _ h => h) (by rfl) (by kernel_rfl) (by kernel_rfl) (Or.inl ⟨by rfl, ?_⟩) (by assumption) ?_
            rotate_left 1
            · (intro w' hSw; (try dsimp only at hSw); go_simp; try with_reducible rfl)
            try simp only [Act.put, List.setIfInBounds_toArray, List.set_cons_zero, List.set_cons_succ, List.getElem_toArray, List.getElem_cons_zero, List.getElem_cons_succ]
            refine wpAnyL_ready (rs := [9]) (by kernel_rfl) (by simp) ?_
            refine AllReadyL.last rfl (by kernel_rfl) (fun K hK => ?_)
            have SN := hik (S9.out.keep KW.out)
            have g0 := SN.out.c0 (k := k) (by omega)
            have g1 := SN.out.c1 (k := k) (by omega)
            have f0 := SN.out.fz (1 + k * 2)
            have f1 := SN.out.fz (1 + k * 2 + 1)
            have ln : w.heap.size + 1 < U1.heap.size := SN.out.lt
            simp only [List.getElem_toArray, List.getElem_cons_zero, List.getElem_cons_succ]
            go_simp
            refine hK.out _ _ ?_
            clear hK K
            try simp only [Act.put, List.setIfInBounds_toArray, List.set_cons_zero, List.set_cons_succ, List.getElem_toArray, List.getElem_cons_zero, List.getElem_cons_succ]
            clear g0 g1 f0 f1 ln
            refine wpAnyL_done (by kernel_rfl) ?_ _
            have S2 := hik (Cub.congr (u := nx2 T (p j) N (k + 1)) (SN.out.set k (El.sb (T k) (El.ml (T k) (p j)))) (fun i _ => by rw [HQ.out]; exact nx2_step T (p j) hkl i))
            have R2 := hik (ElB.other (R9.out.keep KW.out) (g := w.heap.size + 1) (by have := HCL.out; omega) (1 + k * 2) (1 + k * 2 + 1) (.int .i64 (El.sb (T k) (El.ml (T k) (p j))).v.1) (.int .i64 (El.sb (T k) (El.ml (T k) (p j))).v.2))
            have Z2 := hik (Cub.other (Z9.out.keep KW.out) (g := w.heap.size + 1) (by omega) (1 + k * 2) (1 + k * 2 + 1) (.int .i64 (El.sb (T k) (El.ml (T k) (p j))).v.1) (.int .i64 (El.sb (T k) (El.ml (T k) (p j))).v.2))
            have G2 := hik (chg2_at (G9.out.trans KW.out) (w.heap.size + 1) (fun l => absurd l (by omega)) (1 + k * 2) (1 + k * 2 + 1) (.int .i64 (El.sb (T k) (El.ml (T k) (p j))).v.1) (.int .i64 (El.sb (T k) (El.ml (T k) (p j))).v.2))
            generalize hE4 : ((U1.setCell ⟨w.heap.size + 1, 1 + k * 2, none⟩ (.int .i64 (El.sb (T k) (El.ml (T k) (p j))).v.1)).setCell ⟨w.heap.size + 1, 1 + k * 2 + 1, none⟩ (.int .i64 (El.sb (T k) (El.ml (T k) (p j))).v.2)) = W2 at S2 R2 Z2 G2 ⊢
            clear hE4 SN KW SA hHeld x0 x1 e0 e1 S9 R9 Z9 G9 E9
            go_wp2
            go_roundw
            case rel => exact ⟨k + 1, by omega, by go_num, S2, R2, Z2, G2⟩
            case measure => simp [intOf]; omega
          · refine AllReadyH.cons rfl (fun K hK => ?_) AllReadyH.nil
            simp only [List.getElem_toArray, List.getElem_cons_zero, List.getElem_cons_succ]
            go_simp
            have E7 : Hid (ElB (World.alloc wi (.cells #[.int .i64 0, .int .i64 0] 40)).drew wi.heap.size El.zr) := hik (ElB.keep (ElB.zero wi) (Chg.refl nob _).drew1)
            have hgl : wi.heap.size ≤ wi.heap.size := Nat.le_refl _
            replace KW : Hid (Chg nob wi (World.alloc wi (.cells #[.int .i64 0, .int .i64 0] 40)).drew) := hik (((Chg.refl nob wi).alloc _).drew1)
            generalize hUA : (World.alloc wi (.cells #[.int .i64 0, .int .i64 0] 40)).drew = UA at E7 KW ⊢
            clear hUA
            refine hK.out _ _ (SA.out _ KW.out) (fun hHeld => ?_)
            clear hK K
            try simp only [Act.put, List.setIfInBounds_toArray, List.set_cons_zero, List.set_cons_succ, List.getElem_toArray, List.getElem_cons_zero, List.getElem_cons_succ]
            refine wpAnyH_ready (rs := [5]) (by kernel_rfl) (by simp) ?_
            refine AllReadyH.cons rfl (fun K hK => ?_) AllReadyH.nil
            refine stepL_callN 29 #[.tmp 26, .tmp 27] #[40, 40] (by rfl) (by rfl) #[.agg #[.int .i64 (T k).v.1, .int .i64 (T k).v.2], .agg #[.int .i64 (p j).v.1, .int .i64 (p j).v.2]] (by simp only [List.map_toArray, List.map_cons, List.map_nil] <;> rfl) (run_go Tryd.func29 (by kernel_rfl) (by kernel_rfl) _ _) (ml_el (T k) (p j) _) ?_
            rintro e U1 ⟨he, kk⟩
            replace E7 := hik (E7.out.keep kk)
            refine ⟨_, he, ?_⟩
            replace KW := hik (KW.out.trans kk)
            refine hK.out _ _ (SA.out _ KW.out) (fun hHeld => ?_)
            clear hK K
            try simp only [Act.put, List.setIfInBounds_toArray, List.set_cons_zero, List.set_cons_succ, List.getElem_toArray, List.getElem_cons_zero, List.getElem_cons_succ]
            clear he kk
            refine wpAnyH_ready (rs := [7]) (by kernel_rfl) (by simp) ?_
            refine AllReadyH.cons rfl (fun K hK => ?_) AllReadyH.nil
            have y0 := E7.out.c0
            have y1 := E7.out.c1
            have f0 := E7.out.fz 0
            have f1 := E7.out.fz 1
            have l7 := E7.out.lt
            simp only [List.getElem_toArray, List.getElem_cons_zero, List.getElem_cons_succ]
            go_simp
            refine hK.out _ _ ⟨look_two (by omega) (SA.out _ KW.out).1 0 1 _ _, look_two (by omega) (SA.out _ KW.out).2.1 0 1 _ _, look_two (by omega) (SA.out _ KW.out).2.2.1 0 1 _ _, look_two (by omega) (SA.out _ KW.out).2.2.2 0 1 _ _⟩ (fun hHeld => ?_)
            clear hK K
            try simp only [Act.put, List.setIfInBounds_toArray, List.set_cons_zero, List.set_cons_succ, List.getElem_toArray, List.getElem_cons_zero, List.getElem_cons_succ]
            clear y0 y1 f0 f1 l7
            refine wpAnyH_done (by kernel_rfl) ?_ _
            have E8 := hik (E7.out.set (El.ml (T k) (p j)))
            have S8 := hik (Cub.other (HS.out.keep KW.out) (g := wi.heap.size) (by omega) 0 1 (.int .i64 (El.ml (T k) (p j)).v.1) (.int .i64 (El.ml (T k) (p j)).v.2))
            have R8 := hik (ElB.other (HR.out.keep KW.out) (g := wi.heap.size) (by omega) 0 1 (.int .i64 (El.ml (T k) (p j)).v.1) (.int .i64 (El.ml (T k) (p j)).v.2))
            have Z8 := hik (Cub.other (HZ.out.keep KW.out) (g := wi.heap.size) (by omega) 0 1 (.int .i64 (El.ml (T k) (p j)).v.1) (.int .i64 (El.ml (T k) (p j)).v.2))
            have G8 := hik (chg2_at (HG.out.trans KW.out) wi.heap.size (fun l => absurd l (by have := HG.out.size; omega)) 0 1 (.int .i64 (El.ml (T k) (p j)).v.1) (.int .i64 (El.ml (T k) (p j)).v.2))
            generalize hE : ((U1.setCell ⟨wi.heap.size, 0, none⟩ (.int .i64 (El.ml (T k) (p j)).v.1)).setCell ⟨wi.heap.size, 1, none⟩ (.int .i64 (El.ml (T k) (p j)).v.2)) = W8 at E8 S8 R8 Z8 G8 ⊢
            have HG1 := hik (show w.heap.size + 1 ≠ wi.heap.size by omega)
            clear hE SA hHeld KW E7 x0 x1 r0 r1 HS HR HZ HG hsl hrl hgl
            generalize hE2 : wi.heap.size = g at E8 HG1 ⊢
            clear hE2
            obtain ⟨q, hq⟩ : ∃ q, q = k + N := ⟨_, rfl⟩
            have HQ := hik hq
            have hwq : IntKind.i64.wrap ((k : Int) + (N : Int)) = (q : Int) := by rw [IntKind.wrap_i64]; omega
            have hq0 : (0 : Int) ≤ (q : Int) := by omega
            have hq64 : (q : Int) < 64 := by omega
            have e0 := E8.out.c0
            have e1 := E8.out.c1
            have s0 := S8.out.c
            have t0 := S8.out.c0 (k := q) (by omega)
            have t1 := S8.out.c1 (k := q) (by omega)
            have t2 := S8.out.fz (1 + q * 2)
            have t3 := S8.out.fz (1 + q * 2 + 1)
            have hql : q < 64 := by omega
            clear hq
            go_wp2
            clear e0 e1 s0 t0 t1 t2 t3
            have S9 := hik (S8.out.set q (El.ml (T k) (p j)))
            have E9 := hik (E8.out.other (g := w.heap.size + 1) (fun e => HG1.out e.symm) (1 + q * 2) (1 + q * 2 + 1) (.int .i64 (El.ml (T k) (p j)).v.1) (.int .i64 (El.ml (T k) (p j)).v.2))
            have Z9 := hik (Z8.out.other (g := w.heap.size + 1) (by omega) (1 + q * 2) (1 + q * 2 + 1) (.int .i64 (El.ml (T k) (p j)).v.1) (.int .i64 (El.ml (T k) (p j)).v.2))
            have R9 := hik (R8.out.other (g := w.heap.size + 1) (by have := HCL.out; omega) (1 + q * 2) (1 + q * 2 + 1) (.int .i64 (El.ml (T k) (p j)).v.1) (.int .i64 (El.ml (T k) (p j)).v.2))
            have G9 := hik (chg2_at G8.out (w.heap.size + 1) (fun l => absurd l (by omega)) (1 + q * 2) (1 + q * 2 + 1) (.int .i64 (El.ml (T k) (p j)).v.1) (.int .i64 (El.ml (T k) (p j)).v.2))
            generalize hE3 : ((W8.setCell ⟨w.heap.size + 1, 1 + q * 2, none⟩ (.int .i64 (El.ml (T k) (p j)).v.1)).setCell ⟨w.heap.size + 1, 1 + q * 2 + 1, none⟩ (.int .i64 (El.ml (T k) (p j)).v.2)) = W9 at S9 E9 Z9 R9 G9 ⊢
            clear hE3 S8 E8 Z8 R8 G8
            have e0 := E9.out.c0
            have e1 := E9.out.c1
            have ek : upE (nx2 T (p j) N k) q (El.ml (T k) (p j)) k = T k := by unfold upE; rw [if_neg (by have := HQ.out; omega)]; exact nx2_own T (p j) hkl
            have x0 : W9.cell? ⟨w.heap.size + 1, 1 + k * 2, none⟩ = some (.int .i64 (T k).v.1) := by rw [← ek]; exact S9.out.c0 (by omega)
            have x1 : W9.cell? ⟨w.heap.size + 1, 1 + k * 2 + 1, none⟩ = some (.int .i64 (T k).v.2) := by rw [← ek]; exact S9.out.c1 (by omega)
            clear ek
            have KW := hik ((Chg.refl nob W9).drew1)
            have SA := hik (fun (WW : World) (kW : Chg nob W9 WW) => (show (WW.cell? ⟨w.heap.size + 1, 1 + k * 2, none⟩ = some (.int .i64 (T k).v.1) ∧ WW.cell? ⟨w.heap.size + 1, 1 + k * 2 + 1, none⟩ = some (.int .i64 (T k).v.2) ∧ WW.cell? ⟨g, 0, none⟩ = some (.int .i64 (El.ml (T k) (p j)).v.1) ∧ WW.cell? ⟨g, 1, none⟩ = some (.int .i64 (El.ml (T k) (p j)).v.2)) from ⟨kW.see x0, kW.see x1, kW.see e0, kW.see e1⟩))
            refine wp_regionL (L := 9) (S := fun w' => w'.cell? ⟨w.heap.size + 1, 1 + k * 2, none⟩ = some (.int .i64 (T k).v.1) ∧ w'.cell? ⟨w.heap.size + 1, 1 + k * 2 + 1, none⟩ = some (.int .i64 (T k).v.2) ∧ w'.cell? ⟨g, 0, none⟩ = some (.int .i64 (El.ml (T k) (p j)).v.1) ∧ w'.cell? ⟨g, 1, none⟩ = some (.int .i64 (El.ml (T k) (p j)).v.2)) (by kernel_rfl) ⟨x0, x1, e0, e1⟩ (fun hHeld => ?_)
            refine wpAnyL_take (i := 0) (v := ?_) rfl (by kernel_rfl) (by kernel_rfl) (by kernel_rfl) (fun _ _ _ h => h) (by rfl) (by kernel_rfl) (by kernel_rfl) (Or.inl ⟨by rfl, ?_⟩) (by assumption) ?_
            rotate_left 1
            · (intro w' hSw; (try dsimp only at hSw); go_simp; try with_reducible rfl)
            try simp only [Act.put, List.setIfInBounds_toArray, List.set_cons_zero, List.set_cons_succ, List.getElem_toArray, List.getElem_cons_zero, List.getElem_cons_succ]
            refine wpAnyL_take (i := 1) (v := ?_) rfl (by kernel_rfl) (by kernel_rfl) (by kernel_rfl) (fun _ _ _ h => h) (by rfl) (by kernel_rfl) (by kernel_rfl) (Or.inl ⟨by rfl, ?_⟩) (by assumption) ?_
            rotate_left 1
            · (intro w' hSw; (try dsimp only at hSw); go_simp; try with_reducible rfl)
            try simp only [Act.put, List.setIfInBounds_toArray, List.set_cons_zero, List.set_cons_succ, List.getElem_toArray, List.getElem_cons_zero, List.getElem_cons_succ]
            refine wpAnyL_take (i := 2) (v := ?_) rfl (by kernel_rfl) (by kernel_rfl) (by kernel_rfl) (fun _ _ _ h => h) (by rfl) (by kernel_rfl) (by kernel_rfl) (Or.inl ⟨by rfl, ?_⟩) (by assumption) ?_
            rotate_left 1
            · (intro w' hSw; (try dsimp only at hSw); go_simp; try with_reducible rfl)
            try simp only [Act.put, List.setIfInBounds_toArray, List.set_cons_zero, List.set_cons_succ, List.getElem_toArray, List.getElem_cons_zero, List.getElem_cons_succ]
            refine wpAnyL_take (i := 3) (v := ?_) rfl (by kernel_rfl) (by kernel_rfl) (by kernel_rfl) (fun _ _ _ h => h) (by rfl) (by kernel_rfl) (by kernel_rfl) (Or.inl ⟨by rfl, ?_⟩) (by assumption) ?_
            rotate_left 1
            · (intro w' hSw; (try dsimp only at hSw); go_simp; try with_reducible rfl)
            try simp only [Act.put, List.setIfInBounds_toArray, List.set_cons_zero, List.set_cons_succ, List.getElem_toArray, List.getElem_cons_zero, List.getElem_cons_succ]
            refine wpAnyL_take (i := 4) (v := ?_) rfl (by kernel_rfl) (by kernel_rfl) (by kernel_rfl) (fun _ _ _ h => h) (by rfl) (by kernel_rfl) (by kernel_rfl) (Or.inl ⟨by rfl, ?_⟩) (by assumption) ?_
            rotate_left 1
            · (intro w' hSw; (try dsimp only at hSw); go_simp; try with_reducible rfl)
            try simp only [Act.put, List.setIfInBounds_toArray, List.set_cons_zero, List.set_cons_succ, List.getElem_toArray, List.getElem_cons_zero, List.getElem_cons_succ]
            refine wpAnyL_take (i := 5) (v := ?_) rfl (by kernel_rfl) (by kernel_rfl) (by kernel_rfl) (fun _ _ _ h => h) (by rfl) (by kernel_rfl) (by kernel_rfl) (Or.inl ⟨by rfl, ?_⟩) (by assumption) ?_
            rotate_left 1
            · (intro w' hSw; (try dsimp only at hSw); go_simp; try with_reducible rfl)
            try simp only [Act.put, List.setIfInBounds_toArray, List.set_cons_zero, List.set_cons_succ, List.getElem_toArray, List.getElem_cons_zero, List.getElem_cons_succ]
            refine wpAnyL_take0 (i := 7) (v := ?_) rfl (by kernel_rfl) (by kernel_rfl) (by kernel_rfl) (fun _ _ _ h => h) (by rfl) (Or.inl ⟨by rfl, ?_⟩) (by assumption) ?_
            rotate_left 1
            · (intro w' hSw; (try dsimp only at hSw); go_simp; try with_reducible rfl)
            try simp only [Act.put, List.setIfInBounds_toArray, List.set_cons_zero, List.set_cons_succ, List.getElem_toArray, List.getElem_cons_zero, List.getElem_cons_succ]
            refine wpAnyL_ready (rs := [6]) (by kernel_rfl) (by simp) ?_
            refine AllReadyL.cons rfl (fun K hK => ?_) AllReadyL.nil
            refine stepL_callN 51 #[.tmp 40, .tmp 41] #[40, 40] (by rfl) (by rfl) #[.agg #[.int .i64 (T k).v.1, .int .i64 (T k).v.2], .agg #[.int .i64 (El.ml (T k) (p j)).v.1, .int .i64 (El.ml (T k) (p j)).v.2]] (by simp only [List.map_toArray, List.map_cons, List.map_nil] <;> rfl) (run_go Tryd.func51 (by kernel_rfl) (by kernel_rfl) _ _) (sb_el (T k) (El.ml (T k) (p j)) _) ?_
            rintro e U1 ⟨he, kk⟩
            refine ⟨_, he, ?_⟩
            replace KW := hik (KW.out.trans kk)
            refine hK.out _ _ (SA.out _ KW.out) (fun hHeld => ?_)
            clear hK K
            try simp only [Act.put, List.setIfInBounds_toArray, List.set_cons_zero, List.set_cons_succ, List.getElem_toArray, List.getElem_cons_zero, List.getElem_cons_succ]
            clear he kk
            refine wpAnyL_take (i := 8) (v := ?_) rfl (by kernel_rfl) (by kernel_rfl) (by kernel_rfl) (fun _ _ _ h => h) (by rfl) (by kernel_rfl) (by kernel_rfl) (Or.inl ⟨by rfl, ?_⟩) (by assumption) ?_
            rotate_left 1
            · (intro w' hSw; (try dsimp only at hSw); go_simp; try with_reducible rfl)
            try simp only [Act.put, List.setIfInBounds_toArray, List.set_cons_zero, List.set_cons_succ, List.getElem_toArray, List.getElem_cons_zero, List.getElem_cons_succ]
            refine wpAnyL_ready (rs := [9]) (by kernel_rfl) (by simp) ?_
            refine AllReadyL.last rfl (by kernel_rfl) (fun K hK => ?_)
            have SN := hik (S9.out.keep KW.out)
            have g0 := SN.out.c0 (k := k) (by omega)
            have g1 := SN.out.c1 (k := k) (by omega)
            have f0 := SN.out.fz (1 + k * 2)
            have f1 := SN.out.fz (1 + k * 2 + 1)
            have ln : w.heap.size + 1 < U1.heap.size := SN.out.lt
            simp only [List.getElem_toArray, List.getElem_cons_zero, List.getElem_cons_succ]
            go_simp
            refine hK.out _ _ ?_
            clear hK K
            try simp only [Act.put, List.setIfInBounds_toArray, List.set_cons_zero, List.set_cons_succ, List.getElem_toArray, List.getElem_cons_zero, List.getElem_cons_succ]
            clear g0 g1 f0 f1 ln
            refine wpAnyL_done (by kernel_rfl) ?_ _
            have S2 := hik (Cub.congr (u := nx2 T (p j) N (k + 1)) (SN.out.set k (El.sb (T k) (El.ml (T k) (p j)))) (fun i _ => by rw [HQ.out]; exact nx2_step T (p j) hkl i))
            have R2 := hik (ElB.other (R9.out.keep KW.out) (g := w.heap.size + 1) (by have := HCL.out; omega) (1 + k * 2) (1 + k * 2 + 1) (.int .i64 (El.sb (T k) (El.ml (T k) (p j))).v.1) (.int .i64 (El.sb (T k) (El.ml (T k) (p j))).v.2))
            have Z2 := hik (Cub.other (Z9.out.keep KW.out) (g := w.heap.size + 1) (by omega) (1 + k * 2) (1 + k * 2 + 1) (.int .i64 (El.sb (T k) (El.ml (T k) (p j))).v.1) (.int .i64 (El.sb (T k) (El.ml (T k) (p j))).v.2))
            have G2 := hik (chg2_at (G9.out.trans KW.out) (w.heap.size + 1) (fun l => absurd l (by omega)) (1 + k * 2) (1 + k * 2 + 1) (.int .i64 (El.sb (T k) (El.ml (T k) (p j))).v.1) (.int .i64 (El.sb (T k) (El.ml (T k) (p j))).v.2))
            generalize hE4 : ((U1.setCell ⟨w.heap.size + 1, 1 + k * 2, none⟩ (.int .i64 (El.sb (T k) (El.ml (T k) (p j))).v.1)).setCell ⟨w.heap.size + 1, 1 + k * 2 + 1, none⟩ (.int .i64 (El.sb (T k) (El.ml (T k) (p j))).v.2)) = W2 at S2 R2 Z2 G2 ⊢
            clear hE4 SN KW SA hHeld x0 x1 e0 e1 S9 R9 Z9 G9 E9
            go_wp2
            go_roundw
            case rel => exact ⟨k + 1, by omega, by go_num, S2, R2, Z2, G2⟩
            case measure => simp [intOf]; omega
        · obtain rfl : N = k := by omega
          obtain ⟨N2, hN2⟩ : ∃ N2, N2 = N * 2 := ⟨_, rfl⟩
          have HN2 := hik hN2
          have hwN : IntKind.i64.wrap ((N : Int) * 2) = (N2 : Int) := by rw [IntKind.wrap_i64]; omega
          have c0 := HS.out.c
          have f0 := HS.out.fz 0
          clear hN2
          go_wp2
          have S2 := hik (HS.out.size N2)
          have Z2 := hik (World.rowIs.setOther (a := ⟨w.heap.size + 1, 0, none⟩) HZ.out (show w.heap.size ≠ w.heap.size + 1 by omega) (.int .i64 (N2 : Int)))
          have G2 := hik (HG.out.setCell (p := ⟨w.heap.size + 1, 0, none⟩) (fun l => absurd l (by simp)) (.int .i64 (N2 : Int)))
          go_roundw
          case rel => exact ⟨j + 1, N2, nx2 T (p j) N N, hlt, by go_num, hik (by rw [HN2.out, HN.out, Nat.pow_succ]), hik (fun i hi => nx2_all HN.out HT.out (by have := HN2.out; omega)), S2, Z2, G2⟩
          case measure => simp [intOf]; omega
    · obtain rfl : n = j := by omega
      go_wp2_with (first
        | ((with_reducible refine wpList_load_cub (.tmp 3) rfl rfl (w.heap.size + 1) ?hx HS.out ?_); (case hx => rfl))
        | ((with_reducible refine wpList_store_cub (s := N) (t := T) (.tmp 2) (.tmp 51) rfl rfl w.heap.size ?hx ?hy HZ.out ?_); (case hx => rfl); (case hy => rfl); intro W3 r3 g3; have R3 := hik r3; have G3 := hik (Chg.near HG.out g3 (fun i e => by omega)); clear r3 g3))
      rw [← HN.out]
      exact bodyPost_ret (results_cub rfl _ _ w.heap.size rfl R3.out) rfl ⟨T, rfl, HT.out, G3.out⟩

end Go.Proofs.YtkpohajmcngjcaaDoor
