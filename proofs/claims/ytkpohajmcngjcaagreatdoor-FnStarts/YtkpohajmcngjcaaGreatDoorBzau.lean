/- Several texts in one: What the program's coefs and sums of tables by value answer: contracts. Conditions: elements of the greater field, tables of at most 64. · What the program's eqTable and likeness answer: contracts. Conditions: elements of the greater field, a point of at most six that can be read. · What the program's MatrixAt answers: a contract. Conditions: rows that can be read, lengths of at most 2 to the 40. · What Keccak256 answers: a contract. Conditions: bytes that can be read; the tables hold the shifts and the rounds' constants. -/
import Derived.Test.YtkpohajmcngjcaaGreatDoorBzat
import Derived.Test.YtkpohajmcngjcaaGreatDoorBzas
import Derived.Test.YtkpohajmcngjcaaGreatDoorBzaq
import Derived.Deep.DeepCutAuto
import Derived.IntWalk
import Derived.Test.YtkpohajmcngjcaaGreatDoorBzay
import Derived.Test.YtkpohajmcngjcaaGreatDoorBzax
import Derived.Deep.RegionWith
import Derived.Deep.RegionHeld3
import Derived.Deep.CutBlock
import Derived.Deep.DrawnRows
namespace Go.Proofs.YtkpohajmcngjcaaGreatDoor
open Go.ChangeShapes Go.WideShapes Go.ChangeAt Go.RowKit
set_option linter.unusedVariables false
set_option maxRecDepth 100000
set_option linter.unusedSimpArgs false

/-- A table by value whose first n elements are these. -/
def CbAns (w : World) (n : Nat) (t : Nat → El) (e : Ending) (w' : World) : Prop := ∃ t', e = .returned (.agg (cb n t')) ∧ (∀ i, i < n → t' i = t i) ∧ Chg nob w w'


end Go.Proofs.YtkpohajmcngjcaaGreatDoor

namespace Go.Proofs.YtkpohajmcngjcaaGreatDoor
open Go.ChangeShapes Go.WideShapes Go.ChangeAt Go.RowKit
set_option linter.unusedVariables false
set_option maxRecDepth 100000
set_option linter.unusedSimpArgs false

/-- A table half way to the next, in place: the first k of each half. -/
def nx2 (t : Nat → El) (r : El) (N k i : Nat) : El := if i < k then El.ml (t i) (El.sb El.on r) else if N ≤ i ∧ i < N + k then El.ml (t (i - N)) r else t i
theorem nx2_zero (t : Nat → El) (r : El) (N i : Nat) : nx2 t r N 0 i = t i := by
  unfold nx2
  rw [if_neg (by omega), if_neg (by omega)]
theorem nx2_own (t : Nat → El) (r : El) {N k : Nat} (hk : k < N) : nx2 t r N k k = t k := by
  unfold nx2
  rw [if_neg (by omega), if_neg (by omega)]
theorem ml_less (x r : El) : El.sb x (El.ml x r) = El.ml x (El.sb El.on r) := by rw [El.ml_sb, El.ml_on]
theorem nx2_step (t : Nat → El) (r : El) {N k : Nat} (hk : k < N) (i : Nat) : upE (upE (nx2 t r N k) (k + N) (El.ml (t k) r)) k (El.sb (t k) (El.ml (t k) r)) i = nx2 t r N (k + 1) i := by
  unfold upE nx2
  by_cases e1 : i = k
  · subst e1
    rw [if_pos rfl, if_pos (Nat.lt_succ_self i), ml_less]
  · rw [if_neg e1]
    by_cases e2 : i = k + N
    · subst e2
      rw [if_pos rfl, if_neg (by omega), if_pos (by omega), show k + N - N = k by omega]
    · rw [if_neg e2]
      by_cases h : i < k
      · rw [if_pos h, if_pos (by omega)]
      · rw [if_neg h, if_neg (show ¬ i < k + 1 by omega)]
        by_cases h2 : N ≤ i ∧ i < N + k
        · rw [if_pos h2, if_pos (by omega)]
        · rw [if_neg h2, if_neg (by omega)]
theorem nx2_all {T p : Nat → El} {j N i : Nat} (hN : N = 2 ^ j) (hT : ∀ i, i < N → T i = El.eqp p j i) (hi : i < 2 * N) : nx2 T (p j) N N i = El.eqp p (j + 1) i := by
  unfold nx2
  by_cases h : i < N
  · rw [if_pos h, hT i h]
    subst hN
    rw [El.eqp_lo h]
  · rw [if_neg h, if_pos (by omega), hT _ (by omega)]
    subst hN
    have e := El.eqp_hi (p := p) (n := j) (i := i - 2 ^ j) (by omega)
    rw [show 2 ^ j + (i - 2 ^ j) = i by omega] at e
    exact e.symm

set_option maxHeartbeats 4000000 in
theorem eqTable_any (c : Option Addr) (n cap : Nat) (p : Nat → El) (w : World) (h : Hid (PairE w c n p)) (hn : n ≤ 6) : Calls Tryz.prog 59 #[.slice c n cap] w fun e w' => CbAns w (2 ^ n) (El.eqp p n) e w' := by
  have hz := (zero_of_info infoQb).1
  go_enter Tryz.func59, Tryz.ntmps59
  go_wp2_with (first
    | ((with_reducible refine wpList_build_cub (.const (.int .i64 1)) rfl rfl 1 ?hx ?_); (case hx => rfl))
    | ((with_reducible refine wpList_store_cub (s := 1) (t := zE) (.tmp 3) (.tmp 8) rfl rfl (w.heap.size + 1) ?hx ?hy (Cub.at_ (w.alloc (.cells (cb 0 zE) 97)) (w.heap.size + 1) (by simp) 0 zE) ?_); (case hx => rfl); (case hy => rfl); intro W1 r1 g1; have R1 := hik r1; have Z1 := hik (Cub.chg ((Cub.new w 0 zE).keep ((Chg.refl nob _).alloc (.cells (cb 0 zE) 97))) g1 (by omega)); have G1 := hik (Chg.near (((Chg.refl nob w).alloc (.cells (cb 0 zE) 97)).alloc (.cells (cb 0 zE) 97)) g1 (fun i e => by omega)); clear r1 g1; have d0 : W1.cell? ⟨w.heap.size + 1, 1, none⟩ = some (.int .i64 0) := R1.out.c0 (k := 0) (by omega); have d1 : W1.cell? ⟨w.heap.size + 1, 1 + 1, none⟩ = some (.int .i64 0) := R1.out.c1 (k := 0) (by omega); have d2 := R1.out.fz 1; have d3 := R1.out.fz (1 + 1)))
  clear d0 d1 d2 d3
  have R2 := hik (R1.out.set 0 El.on)
  have Z2 := hik (Z1.out.other (g := w.heap.size + 1) (by omega) 1 (1 + 1) (.int .i64 1) (.int .i64 0))
  have G2 := hik (chg2_at G1.out (w.heap.size + 1) (fun l => absurd l (by omega)) 1 (1 + 1) (.int .i64 1) (.int .i64 0))
  go_loopw [14] (fun i W => ∃ (j N : Nat) (T : Nat → El), j ≤ n ∧ i = .int .i64 j ∧ Hid (N = 2 ^ j) ∧ Hid (∀ i, i < N → T i = El.eqp p j i) ∧ Hid (Cub W (w.heap.size + 1) N T) ∧ Hid (Cub W w.heap.size 0 zE) ∧ Hid (Chg nob w W)) (fun i _ => n - (intOf i).toNat)
  case atStart => exact ⟨0, 1, upE zE 0 El.on, Nat.zero_le _, rfl, hik rfl, hik (fun i hi => by obtain rfl : i = 0 := (by omega); rfl), R2, Z2, G2⟩
  case round =>
    clear R1 Z1 G1 R2 Z2 G2 hz
    obtain ⟨j, N, T, hj, rfl, HN, HT, HS, HZ, HG⟩ := hrel
    rename World => wo
    by_cases hlt : j < n
    · have hlt' : (j : Int) < (n : Int) := by omega
      have hj0 : (0 : Int) ≤ (j : Int) := by omega
      have hN32 : N ≤ 32 := by rw [HN.out]; exact Nat.le_trans (Nat.pow_le_pow_right (by omega) (show j ≤ 5 by omega)) (by decide)
      have hN1 : 1 ≤ N := by rw [HN.out]; exact Nat.one_le_two_pow
      obtain ⟨xb, xo, ec, hxb, _, _⟩ := PairE.at_ (PairE.keep h.out HG.out) hlt
      subst ec
      have p0 := PairE.c0 (PairE.keep h.out HG.out) hlt
      have p1 := PairE.c1 (PairE.keep h.out HG.out) hlt
      have hcl : w.heap.size + 1 < wo.heap.size := HS.out.lt
      have S0 := hik (HS.out.keep ((Chg.refl nob _).alloc (.cells #[.int .i64 (p j).v.1, .int .i64 (p j).v.2] 62)))
      have c0 := S0.out.c
      go_wp2
      clear p0 p1 c0
      go_loopw [20] (fun i W => ∃ k : Nat, k ≤ N ∧ i = .int .i64 k ∧ Hid (Cub W (w.heap.size + 1) N (nx2 T (p j) N k)) ∧ Hid (ElB W wo.heap.size (p j)) ∧ Hid (Cub W w.heap.size 0 zE) ∧ Hid (Chg nob w W)) (fun i _ => N - (intOf i).toNat)
      case atStart => exact ⟨0, Nat.zero_le _, rfl, hik (S0.out.congr (fun i _ => (nx2_zero T (p j) N i).symm)), hik (ElB.new wo (p j)), hik (HZ.out.keep ((Chg.refl nob _).alloc _)), hik (HG.out.alloc _)⟩
      case round =>
        clear S0 HS HZ HG
        obtain ⟨k, hk, rfl, HS, HR, HZ, HG⟩ := hrel
        rename World => wi
        by_cases hkl : k < N
        · have hk1 : (k : Int) < (N : Int) := by omega
          have hk0 : (0 : Int) ≤ (k : Int) := by omega
          have hk64 : (k : Int) < 64 := by omega
          have ek : nx2 T (p j) N k k = T k := nx2_own T (p j) hkl
          have x0 : wi.cell? ⟨w.heap.size + 1, 1 + k * 2, none⟩ = some (.int .i64 (T k).v.1) := by rw [← ek]; exact HS.out.c0 (by omega)
          have x1 : wi.cell? ⟨w.heap.size + 1, 1 + k * 2 + 1, none⟩ = some (.int .i64 (T k).v.2) := by rw [← ek]; exact HS.out.c1 (by omega)
          have r0 := HR.out.c0
          have r1 := HR.out.c1
          have HCL := hik hcl
          have hsl : w.heap.size + 1 < wi.heap.size := HS.out.lt
          have hrl : wo.heap.size < wi.heap.size := HR.out.lt
          clear ek
          go_wp2
          have KW := hik ((Chg.refl nob wi).drew1)
          have SA := hik (fun (WW : World) (kW : Chg nob wi WW) => (show (WW.cell? ⟨w.heap.size + 1, 1 + k * 2, none⟩ = some (.int .i64 (T k).v.1) ∧ WW.cell? ⟨w.heap.size + 1, 1 + k * 2 + 1, none⟩ = some (.int .i64 (T k).v.2) ∧ WW.cell? ⟨wo.heap.size, 0, none⟩ = some (.int .i64 (p j).v.1) ∧ WW.cell? ⟨wo.heap.size, 1, none⟩ = some (.int .i64 (p j).v.2)) from ⟨kW.see x0, kW.see x1, kW.see r0, kW.see r1⟩))
          refine wp_region_held_drew (S := fun w' => w'.cell? ⟨w.heap.size + 1, 1 + k * 2, none⟩ = some (.int .i64 (T k).v.1) ∧ w'.cell? ⟨w.heap.size + 1, 1 + k * 2 + 1, none⟩ = some (.int .i64 (T k).v.2) ∧ w'.cell? ⟨wo.heap.size, 0, none⟩ = some (.int .i64 (p j).v.1) ∧ w'.cell? ⟨wo.heap.size, 1, none⟩ = some (.int .i64 (p j).v.2)) (by kernel_rfl) ⟨x0, x1, r0, r1⟩ (fun hHeld => ?_)
          refine wpAnyH_take (i := 0) (v := ?_) rfl (by kernel_rfl) (by kernel_rfl) (by kernel_rfl) (fun _ _ _ h => h) (Or.inl ⟨by rfl, ?_⟩) (by assumption) ?_
          rotate_left 1
          · (intro w' hSw; (try dsimp only at hSw); go_simp; try with_reducible rfl)
          try simp only [Act.put, List.setIfInBounds_toArray, List.set_cons_zero, List.set_cons_succ, List.getElem_toArray, List.getElem_cons_zero, List.getElem_cons_succ]
          refine wpAnyH_take (i := 1) (v := ?_) rfl (by kernel_rfl) (by kernel_rfl) (by kernel_rfl) (fun _ _ _ h => h) (Or.inl ⟨by rfl, ?_⟩) (by assumption) ?_
          rotate_left 1
          · (intro w' hSw; (try dsimp only at hSw); go_simp; try with_reducible rfl)
          try simp only [Act.put, List.setIfInBounds_toArray, List.set_cons_zero, List.set_cons_succ, List.getElem_toArray, List.getElem_cons_zero, List.getElem_cons_succ]
          refine wpAnyH_take (i := 2) (v := ?_) rfl (by kernel_rfl) (by kernel_rfl) (by kernel_rfl) (fun _ _ _ h => h) (Or.inl ⟨by rfl, ?_⟩) (by assumption) ?_
          rotate_left 1
          · (intro w' hSw; (try dsimp only at hSw); go_simp; try with_reducible rfl)
          try simp only [Act.put, List.setIfInBounds_toArray, List.set_cons_zero, List.set_cons_succ, List.getElem_toArray, List.getElem_cons_zero, List.getElem_cons_succ]
          refine wpAnyH_take (i := 3) (v := ?_) rfl (by kernel_rfl) (by kernel_rfl) (by kernel_rfl) (fun _ _ _ h => h) (Or.inl ⟨by rfl, ?_⟩) (by assumption) ?_
          rotate_left 1
          · (intro w' hSw; (try dsimp only at hSw); go_simp; try with_reducible rfl)
          try simp only [Act.put, List.setIfInBounds_toArray, List.set_cons_zero, List.set_cons_succ, List.getElem_toArray, List.getElem_cons_zero, List.getElem_cons_succ]
          refine wpAnyH_take (i := 4) (v := ?_) rfl (by kernel_rfl) (by kernel_rfl) (by kernel_rfl) (fun _ _ _ h => h) (Or.inl ⟨by rfl, ?_⟩) (by assumption) ?_
          rotate_left 1
          · (intro w' hSw; (try dsimp only at hSw); go_simp; try with_reducible rfl)
          try simp only [Act.put, List.setIfInBounds_toArray, List.set_cons_zero, List.set_cons_succ, List.getElem_toArray, List.getElem_cons_zero, List.getElem_cons_succ]
          refine wpAnyH_ready (rs := [5, 6]) (by kernel_rfl) (by simp) ?_
          refine AllReadyH.cons rfl (fun K hK => ?_) ?_
          · refine stepL_callN 60 #[.tmp 26, .tmp 27] #[62, 62] (by rfl) (by rfl) #[.agg #[.int .i64 (T k).v.1, .int .i64 (T k).v.2], .agg #[.int .i64 (p j).v.1, .int .i64 (p j).v.2]] (by simp only [List.map_toArray, List.map_cons, List.map_nil] <;> rfl) (run_go Tryz.func60 (by kernel_rfl) (by kernel_rfl) _ _) (ml_el (T k) (p j) _) ?_
            rintro e U1 ⟨he, kk⟩
            refine ⟨_, he, ?_⟩
            replace KW := hik (KW.out.trans kk)
            refine hK.out _ _ (SA.out _ KW.out) (fun hHeld => ?_)
            clear hK K
            try simp only [Act.put, List.setIfInBounds_toArray, List.set_cons_zero, List.set_cons_succ, List.getElem_toArray, List.getElem_cons_zero, List.getElem_cons_succ]
            clear he kk
            refine wpAnyH_ready (rs := [6]) (by kernel_rfl) (by simp) ?_
            refine AllReadyH.cons rfl (fun K hK => ?_) AllReadyH.nil
            simp only [List.getElem_toArray, List.getElem_cons_zero, List.getElem_cons_succ]
            go_simp
            have E7 : Hid (ElB (World.alloc U1 (.cells #[.int .i64 0, .int .i64 0] 62)) U1.heap.size El.zr) := hik (ElB.zero U1)
            have hgl : wi.heap.size ≤ U1.heap.size := KW.out.size
            replace KW : Hid (Chg nob wi (World.alloc U1 (.cells #[.int .i64 0, .int .i64 0] 62))) := hik (KW.out.alloc _)
            generalize hUA : (World.alloc U1 (.cells #[.int .i64 0, .int .i64 0] 62)) = UA at E7 KW ⊢
            clear hUA
            refine hK.out _ _ (SA.out _ KW.out) (fun hHeld => ?_)
            clear hK K
            try simp only [Act.put, List.setIfInBounds_toArray, List.set_cons_zero, List.set_cons_succ, List.getElem_toArray, List.getElem_cons_zero, List.getElem_cons_succ]
            refine wpAnyH_ready (rs := [7]) (by kernel_rfl) (by simp) ?_
            refine AllReadyH.cons rfl (fun K hK => ?_) AllReadyH.nil
            have y0 := E7.out.c0
            have y1 := E7.out.c1
            have f0 := E7.out.fz 0
            have f1 := E7.out.fz 1
            have l7 := E7.out.lt
            simp only [List.getElem_toArray, List.getElem_cons_zero, List.getElem_cons_succ]
            go_simp
            refine hK.out _ _ ⟨look_two (by omega) (SA.out _ KW.out).1 0 1 _ _, look_two (by omega) (SA.out _ KW.out).2.1 0 1 _ _, look_two (by omega) (SA.out _ KW.out).2.2.1 0 1 _ _, look_two (by omega) (SA.out _ KW.out).2.2.2 0 1 _ _⟩ (fun hHeld => ?_)
            clear hK K
            try simp only [Act.put, List.setIfInBounds_toArray, List.set_cons_zero, List.set_cons_succ, List.getElem_toArray, List.getElem_cons_zero, List.getElem_cons_succ]
            clear y0 y1 f0 f1 l7
            refine wpAnyH_done (by kernel_rfl) ?_ _
            have E8 := hik (E7.out.set (El.ml (T k) (p j)))
            have S8 := hik (Cub.other (HS.out.keep KW.out) (g := U1.heap.size) (by omega) 0 1 (.int .i64 (El.ml (T k) (p j)).v.1) (.int .i64 (El.ml (T k) (p j)).v.2))
            have R8 := hik (ElB.other (HR.out.keep KW.out) (g := U1.heap.size) (by omega) 0 1 (.int .i64 (El.ml (T k) (p j)).v.1) (.int .i64 (El.ml (T k) (p j)).v.2))
            have Z8 := hik (Cub.other (HZ.out.keep KW.out) (g := U1.heap.size) (by omega) 0 1 (.int .i64 (El.ml (T k) (p j)).v.1) (.int .i64 (El.ml (T k) (p j)).v.2))
            have G8 := hik (chg2_at (HG.out.trans KW.out) U1.heap.size (fun l => absurd l (by have := HG.out.size; omega)) 0 1 (.int .i64 (El.ml (T k) (p j)).v.1) (.int .i64 (El.ml (T k) (p j)).v.2))
            generalize hE : ((UA.setCell ⟨U1.heap.size, 0, none⟩ (.int .i64 (El.ml (T k) (p j)).v.1)).setCell ⟨U1.heap.size, 1, none⟩ (.int .i64 (El.ml (T k) (p j)).v.2)) = W8 at E8 S8 R8 Z8 G8 ⊢
            have HG1 := hik (show w.heap.size + 1 ≠ U1.heap.size by omega)
            clear hE SA hHeld KW E7 x0 x1 r0 r1 HS HR HZ HG hsl hrl hgl
            generalize hE2 : U1.heap.size = g at E8 HG1 ⊢
            clear hE2
            obtain ⟨q, hq⟩ : ∃ q, q = k + N := ⟨_, rfl⟩
            have HQ := hik hq
            have hwq : IntKind.i64.wrap ((k : Int) + (N : Int)) = (q : Int) := by rw [IntKind.wrap_i64]; omega
            have hq0 : (0 : Int) ≤ (q : Int) := by omega
            have hq64 : (q : Int) < 64 := by omega
            have e0 := E8.out.c0
            have e1 := E8.out.c1
            have s0 := S8.out.c
            have t0 := S8.out.c0 (k := q) (by omega)
            have t1 := S8.out.c1 (k := q) (by omega)
            have t2 := S8.out.fz (1 + q * 2)
            have t3 := S8.out.fz (1 + q * 2 + 1)
            have hql : q < 64 := by omega
            clear hq
            go_wp2
            clear e0 e1 s0 t0 t1 t2 t3
            have S9 := hik (S8.out.set q (El.ml (T k) (p j)))
            have E9 := hik (E8.out.other (g := w.heap.size + 1) (fun e => HG1.out e.symm) (1 + q * 2) (1 + q * 2 + 1) (.int .i64 (El.ml (T k) (p j)).v.1) (.int .i64 (El.ml (T k) (p j)).v.2))
            have Z9 := hik (Z8.out.other (g := w.heap.size + 1) (by omega) (1 + q * 2) (1 + q * 2 + 1) (.int .i64 (El.ml (T k) (p j)).v.1) (.int .i64 (El.ml (T k) (p j)).v.2))
            have R9 := hik (R8.out.other (g := w.heap.size + 1) (by have := HCL.out; omega) (1 + q * 2) (1 + q * 2 + 1) (.int .i64 (El.ml (T k) (p j)).v.1) (.int .i64 (El.ml (T k) (p j)).v.2))
            have G9 := hik (chg2_at G8.out (w.heap.size + 1) (fun l => absurd l (by omega)) (1 + q * 2) (1 + q * 2 + 1) (.int .i64 (El.ml (T k) (p j)).v.1) (.int .i64 (El.ml (T k) (p j)).v.2))
            generalize hE3 : ((W8.setCell ⟨w.heap.size + 1, 1 + q * 2, none⟩ (.int .i64 (El.ml (T k) (p j)).v.1)).setCell ⟨w.heap.size + 1, 1 + q * 2 + 1, none⟩ (.int .i64 (El.ml (T k) (p j)).v.2)) = W9 at S9 E9 Z9 R9 G9 ⊢
            clear hE3 S8 E8 Z8 R8 G8
            have e0 := E9.out.c0
            have e1 := E9.out.c1
            have ek : upE (nx2 T (p j) N k) q (El.ml (T k) (p j)) k = T k := by unfold upE; rw [if_neg (by have := HQ.out; omega)]; exact nx2_own T (p j) hkl
            have x0 : W9.cell? ⟨w.heap.size + 1, 1 + k * 2, none⟩ = some (.int .i64 (T k).v.1) := by rw [← ek]; exact S9.out.c0 (by omega)
            have x1 : W9.cell? ⟨w.heap.size + 1, 1 + k * 2 + 1, none⟩ = some (.int .i64 (T k).v.2) := by rw [← ek]; exact S9.out.c1 (by omega)
            clear ek
            have KW := hik ((Chg.refl nob W9).drew1)
            have SA := hik (fun (WW : World) (kW : Chg nob W9 WW) => (show (WW.cell? ⟨w.heap.size + 1, 1 + k * 2, none⟩ = some (.int .i64 (T k).v.1) ∧ WW.cell? ⟨w.heap.size + 1, 1 + k * 2 + 1, none⟩ = some (.int .i64 (T k).v.2) ∧ WW.cell? ⟨g, 0, none⟩ = some (.int .i64 (El.ml (T k) (p j)).v.1) ∧ WW.cell? ⟨g, 1, none⟩ = some (.int .i64 (El.ml (T k) (p j)).v.2)) from ⟨kW.see x0, kW.see x1, kW.see e0, kW.see e1⟩))
            refine wp_regionL (L := 9) (S := fun w' => w'.cell? ⟨w.heap.size + 1, 1 + k * 2, none⟩ = some (.int .i64 (T k).v.1) ∧ w'.cell? ⟨w.heap.size + 1, 1 + k * 2 + 1, none⟩ = some (.int .i64 (T k).v.2) ∧ w'.cell? ⟨g, 0, none⟩ = some (.int .i64 (El.ml (T k) (p j)).v.1) ∧ w'.cell? ⟨g, 1, none⟩ = some (.int .i64 (El.ml (T k) (p j)).v.2)) (by kernel_rfl) ⟨x0, x1, e0, e1⟩ (fun hHeld => ?_)
            refine wpAnyL_take (i := 0) (v := ?_) rfl (by kernel_rfl) (by kernel_rfl) (by kernel_rfl) (fun _ _ _ h => h) (by rfl) (by kernel_rfl) (by kernel_rfl) (Or.inl ⟨by rfl, ?_⟩) (by assumption) ?_
            rotate_left 1
            · (intro w' hSw; (try dsimp only at hSw); go_simp; try with_reducible rfl)
            try simp only [Act.put, List.setIfInBounds_toArray, List.set_cons_zero, List.set_cons_succ, List.getElem_toArray, List.getElem_cons_zero, List.getElem_cons_succ]
            refine wpAnyL_take (i := 1) (v := ?_) rfl (by kernel_rfl) (by kernel_rfl) (by kernel_rfl) (fun _ _ _ h => h) (by rfl) (by kernel_rfl) (by kernel_rfl) (Or.inl ⟨by rfl, ?_⟩) (by assumption) ?_
            rotate_left 1
            · (intro w' hSw; (try dsimp only at hSw); go_simp; try with_reducible rfl)
            try simp only [Act.put, List.setIfInBounds_toArray, List.set_cons_zero, List.set_cons_succ, List.getElem_toArray, List.getElem_cons_zero, List.getElem_cons_succ]
            refine wpAnyL_take (i := 2) (v := ?_) rfl (by kernel_rfl) (by kernel_rfl) (by kernel_rfl) (fun _ _ _ h => h) (by rfl) (by kernel_rfl) (by kernel_rfl) (Or.inl ⟨by rfl, ?_⟩) (by assumption) ?_
            rotate_left 1
            · (intro w' hSw; (try dsimp only at hSw); go_simp; try with_reducible rfl)
            try simp only [Act.put, List.setIfInBounds_toArray, List.set_cons_zero, List.set_cons_succ, List.getElem_toArray, List.getElem_cons_zero, List.getElem_cons_succ]
            refine wpAnyL_take (i := 3) (v := ?_) rfl (by kernel_rfl) (by kernel_rfl) (by kernel_rfl) (fun _ _ _ h => h) (by rfl) (by kernel_rfl) (by kernel_rfl) (Or.inl ⟨by rfl, ?_⟩) (by assumption) ?_
            rotate_left 1
            · (intro w' hSw; (try dsimp only at hSw); go_simp; try with_reducible rfl)
            try simp only [Act.put, List.setIfInBounds_toArray, List.set_cons_zero, List.set_cons_succ, List.getElem_toArray, List.getElem_cons_zero, List.getElem_cons_succ]
            refine wpAnyL_take (i := 4) (v := ?_) rfl (by kernel_rfl) (by kernel_rfl) (by kernel_rfl) (fun _ _ _ h => h) (by rfl) (by kernel_rfl) (by kernel_rfl) (Or.inl ⟨by rfl, ?_⟩) (by assumption) ?_
            rotate_left 1
            · (intro w' hSw; (try dsimp only at hSw); go_simp; try with_reducible rfl)
            try simp only [Act.put, List.setIfInBounds_toArray, List.set_cons_zero, List.set_cons_succ, List.getElem_toArray, List.getElem_cons_zero, List.getElem_cons_succ]
            refine wpAnyL_take (i := 5) (v := ?_) rfl (by kernel_rfl) (by kernel_rfl) (by kernel_rfl) (fun _ _ _ h => h) (by rfl) (by kernel_rfl) (by kernel_rfl) (Or.inl ⟨by rfl, ?_⟩) (by assumption) ?_
            rotate_left 1
            · (intro w' hSw; (try dsimp only at hSw); go_simp; try with_reducible rfl)
            try simp only [Act.put, List.setIfInBounds_toArray, List.set_cons_zero, List.set_cons_succ, List.getElem_toArray, List.getElem_cons_zero, List.getElem_cons_succ]
            refine wpAnyL_take0 (i := 7) (v := ?_) rfl (by kernel_rfl) (by kernel_rfl) (by kernel_rfl) (fun _ _ _ h => h) (by rfl) (Or.inl ⟨by rfl, ?_⟩) (by assumption) ?_
            rotate_left 1
            · (intro w' hSw; (try dsimp only at hSw); go_simp; try with_reducible rfl)
            try simp only [Act.put, List.setIfInBounds_toArray, List.set_cons_zero, List.set_cons_succ, List.getElem_toArray, List.getElem_cons_zero, List.getElem_cons_succ]
            refine wpAnyL_ready (rs := [6]) (by kernel_rfl) (by simp) ?_
            refine AllReadyL.cons rfl (fun K hK => ?_) AllReadyL.nil
            refine stepL_callN 98 #[.tmp 40, .tmp 41] #[62, 62] (by rfl) (by rfl) #[.agg #[.int .i64 (T k).v.1, .int .i64 (T k).v.2], .agg #[.int .i64 (El.ml (T k) (p j)).v.1, .int .i64 (El.ml (T k) (p j)).v.2]] (by simp only [List.map_toArray, List.map_cons, List.map_nil] <;> rfl) (run_go Tryz.func98 (by kernel_rfl) (by kernel_rfl) _ _) (sb_el (T k) (El.ml (T k) (p j)) _) ?_
            rintro e U1 ⟨he, kk⟩
            refine ⟨_, he, ?_⟩
            replace KW := hik (KW.out.trans kk)
            refine hK.out _ _ (SA.out _ KW.out) (fun hHeld => ?_)
            clear hK K
            try simp only [Act.put, List.setIfInBounds_toArray, List.set_cons_zero, List.set_cons_succ, List.getElem_toArray, List.getElem_cons_zero, List.getElem_cons_succ]
            clear he kk
            refine wpAnyL_take (i := 8) (v := ?_) rfl (by kernel_rfl) (by kernel_rfl) (by kernel_rfl) (fun _ _ _ h => h) (by rfl) (by kernel_rfl) (by kernel_rfl) (Or.inl ⟨by rfl, ?_⟩) (by assumption) ?_
            rotate_left 1
            · (intro w' hSw; (try dsimp only at hSw); go_simp; try with_reducible rfl)
            try simp only [Act.put, List.setIfInBounds_toArray, List.set_cons_zero, List.set_cons_succ, List.getElem_toArray, List.getElem_cons_zero, List.getElem_cons_succ]
            refine wpAnyL_ready (rs := [9]) (by kernel_rfl) (by simp) ?_
            refine AllReadyL.last rfl (by kernel_rfl) (fun K hK => ?_)
            have SN := hik (S9.out.keep KW.out)
            have g0 := SN.out.c0 (k := k) (by omega)
            have g1 := SN.out.c1 (k := k) (by omega)
            have f0 := SN.out.fz (1 + k * 2)
            have f1 := SN.out.fz (1 + k * 2 + 1)
            have ln : w.heap.size + 1 < U1.heap.size := SN.out.lt
            simp only [List.getElem_toArray, List.getElem_cons_zero, List.getElem_cons_succ]
            go_simp
            refine hK.out _ _ ?_
            clear hK K
            try simp only [Act.put, List.setIfInBounds_toArray, List.set_cons_zero, List.set_cons_succ, List.getElem_toArray, List.getElem_cons_zero, List.getElem_cons_succ]
            clear g0 g1 f0 f1 ln
            refine wpAnyL_done (by kernel_rfl) ?_ _
            have S2 := hik (Cub.congr (u := nx2 T (p j) N (k + 1)) (SN.out.set k (El.sb (T k) (El.ml (T k) (p j)))) (fun i _ => by rw [HQ.out]; exact nx2_step T (p j) hkl i))
            have R2 := hik (ElB.other (R9.out.keep KW.out) (g := w.heap.size + 1) (by have := HCL.out; omega) (1 + k * 2) (1 + k * 2 + 1) (.int .i64 (El.sb (T k) (El.ml (T k) (p j))).v.1) (.int .i64 (El.sb (T k) (El.ml (T k) (p j))).v.2))
            have Z2 := hik (Cub.other (Z9.out.keep KW.out) (g := w.heap.size + 1) (by omega) (1 + k * 2) (1 + k * 2 + 1) (.int .i64 (El.sb (T k) (El.ml (T k) (p j))).v.1) (.int .i64 (El.sb (T k) (El.ml (T k) (p j))).v.2))
            have G2 := hik (chg2_at (G9.out.trans KW.out) (w.heap.size + 1) (fun l => absurd l (by omega)) (1 + k * 2) (1 + k * 2 + 1) (.int .i64 (El.sb (T k) (El.ml (T k) (p j))).v.1) (.int .i64 (El.sb (T k) (El.ml (T k) (p j))).v.2))
            generalize hE4 : ((U1.setCell ⟨w.heap.size + 1, 1 + k * 2, none⟩ (.int .i64 (El.sb (T k) (El.ml (T k) (p j))).v.1)).setCell ⟨w.heap.size + 1, 1 + k * 2 + 1, none⟩ (.int .i64 (El.sb (T k) (El.ml (T k) (p j))).v.2)) = W2 at S2 R2 Z2 G2 ⊢
            clear hE4 SN KW SA hHeld x0 x1 e0 e1 S9 R9 Z9 G9 E9
            go_wp2
            go_roundw
            case rel => exact ⟨k + 1, by omega, by go_num, S2, R2, Z2, G2⟩
            case measure => simp [intOf]; omega
          · refine AllReadyH.cons rfl (fun K hK => ?_) AllReadyH.nil
            simp only [List.getElem_toArray, List.getElem_cons_zero, List.getElem_cons_succ]
            go_simp
            have E7 : Hid (ElB (World.alloc wi (.cells #[.int .i64 0, .int .i64 0] 62)).drew wi.heap.size El.zr) := hik (ElB.keep (ElB.zero wi) (Chg.refl nob _).drew1)
            have hgl : wi.heap.size ≤ wi.heap.size := Nat.le_refl _
            replace KW : Hid (Chg nob wi (World.alloc wi (.cells #[.int .i64 0, .int .i64 0] 62)).drew) := hik (((Chg.refl nob wi).alloc _).drew1)
            generalize hUA : (World.alloc wi (.cells #[.int .i64 0, .int .i64 0] 62)).drew = UA at E7 KW ⊢
            clear hUA
            refine hK.out _ _ (SA.out _ KW.out) (fun hHeld => ?_)
            clear hK K
            try simp only [Act.put, List.setIfInBounds_toArray, List.set_cons_zero, List.set_cons_succ, List.getElem_toArray, List.getElem_cons_zero, List.getElem_cons_succ]
            refine wpAnyH_ready (rs := [5]) (by kernel_rfl) (by simp) ?_
            refine AllReadyH.cons rfl (fun K hK => ?_) AllReadyH.nil
            refine stepL_callN 60 #[.tmp 26, .tmp 27] #[62, 62] (by rfl) (by rfl) #[.agg #[.int .i64 (T k).v.1, .int .i64 (T k).v.2], .agg #[.int .i64 (p j).v.1, .int .i64 (p j).v.2]] (by simp only [List.map_toArray, List.map_cons, List.map_nil] <;> rfl) (run_go Tryz.func60 (by kernel_rfl) (by kernel_rfl) _ _) (ml_el (T k) (p j) _) ?_
            rintro e U1 ⟨he, kk⟩
            replace E7 := hik (E7.out.keep kk)
            refine ⟨_, he, ?_⟩
            replace KW := hik (KW.out.trans kk)
            refine hK.out _ _ (SA.out _ KW.out) (fun hHeld => ?_)
            clear hK K
            try simp only [Act.put, List.setIfInBounds_toArray, List.set_cons_zero, List.set_cons_succ, List.getElem_toArray, List.getElem_cons_zero, List.getElem_cons_succ]
            clear he kk
            refine wpAnyH_ready (rs := [7]) (by kernel_rfl) (by simp) ?_
            refine AllReadyH.cons rfl (fun K hK => ?_) AllReadyH.nil
            have y0 := E7.out.c0
            have y1 := E7.out.c1
            have f0 := E7.out.fz 0
            have f1 := E7.out.fz 1
            have l7 := E7.out.lt
            simp only [List.getElem_toArray, List.getElem_cons_zero, List.getElem_cons_succ]
            go_simp
            refine hK.out _ _ ⟨look_two (by omega) (SA.out _ KW.out).1 0 1 _ _, look_two (by omega) (SA.out _ KW.out).2.1 0 1 _ _, look_two (by omega) (SA.out _ KW.out).2.2.1 0 1 _ _, look_two (by omega) (SA.out _ KW.out).2.2.2 0 1 _ _⟩ (fun hHeld => ?_)
            clear hK K
            try simp only [Act.put, List.setIfInBounds_toArray, List.set_cons_zero, List.set_cons_succ, List.getElem_toArray, List.getElem_cons_zero, List.getElem_cons_succ]
            clear y0 y1 f0 f1 l7
            refine wpAnyH_done (by kernel_rfl) ?_ _
            have E8 := hik (E7.out.set (El.ml (T k) (p j)))
            have S8 := hik (Cub.other (HS.out.keep KW.out) (g := wi.heap.size) (by omega) 0 1 (.int .i64 (El.ml (T k) (p j)).v.1) (.int .i64 (El.ml (T k) (p j)).v.2))
            have R8 := hik (ElB.other (HR.out.keep KW.out) (g := wi.heap.size) (by omega) 0 1 (.int .i64 (El.ml (T k) (p j)).v.1) (.int .i64 (El.ml (T k) (p j)).v.2))
            have Z8 := hik (Cub.other (HZ.out.keep KW.out) (g := wi.heap.size) (by omega) 0 1 (.int .i64 (El.ml (T k) (p j)).v.1) (.int .i64 (El.ml (T k) (p j)).v.2))
            have G8 := hik (chg2_at (HG.out.trans KW.out) wi.heap.size (fun l => absurd l (by have := HG.out.size; omega)) 0 1 (.int .i64 (El.ml (T k) (p j)).v.1) (.int .i64 (El.ml (T k) (p j)).v.2))
            generalize hE : ((U1.setCell ⟨wi.heap.size, 0, none⟩ (.int .i64 (El.ml (T k) (p j)).v.1)).setCell ⟨wi.heap.size, 1, none⟩ (.int .i64 (El.ml (T k) (p j)).v.2)) = W8 at E8 S8 R8 Z8 G8 ⊢
            have HG1 := hik (show w.heap.size + 1 ≠ wi.heap.size by omega)
            clear hE SA hHeld KW E7 x0 x1 r0 r1 HS HR HZ HG hsl hrl hgl
            generalize hE2 : wi.heap.size = g at E8 HG1 ⊢
            clear hE2
            obtain ⟨q, hq⟩ : ∃ q, q = k + N := ⟨_, rfl⟩
            have HQ := hik hq
            have hwq : IntKind.i64.wrap ((k : Int) + (N : Int)) = (q : Int) := by rw [IntKind.wrap_i64]; omega
            have hq0 : (0 : Int) ≤ (q : Int) := by omega
            have hq64 : (q : Int) < 64 := by omega
            have e0 := E8.out.c0
            have e1 := E8.out.c1
            have s0 := S8.out.c
            have t0 := S8.out.c0 (k := q) (by omega)
            have t1 := S8.out.c1 (k := q) (by omega)
            have t2 := S8.out.fz (1 + q * 2)
            have t3 := S8.out.fz (1 + q * 2 + 1)
            have hql : q < 64 := by omega
            clear hq
            go_wp2
            clear e0 e1 s0 t0 t1 t2 t3
            have S9 := hik (S8.out.set q (El.ml (T k) (p j)))
            have E9 := hik (E8.out.other (g := w.heap.size + 1) (fun e => HG1.out e.symm) (1 + q * 2) (1 + q * 2 + 1) (.int .i64 (El.ml (T k) (p j)).v.1) (.int .i64 (El.ml (T k) (p j)).v.2))
            have Z9 := hik (Z8.out.other (g := w.heap.size + 1) (by omega) (1 + q * 2) (1 + q * 2 + 1) (.int .i64 (El.ml (T k) (p j)).v.1) (.int .i64 (El.ml (T k) (p j)).v.2))
            have R9 := hik (R8.out.other (g := w.heap.size + 1) (by have := HCL.out; omega) (1 + q * 2) (1 + q * 2 + 1) (.int .i64 (El.ml (T k) (p j)).v.1) (.int .i64 (El.ml (T k) (p j)).v.2))
            have G9 := hik (chg2_at G8.out (w.heap.size + 1) (fun l => absurd l (by omega)) (1 + q * 2) (1 + q * 2 + 1) (.int .i64 (El.ml (T k) (p j)).v.1) (.int .i64 (El.ml (T k) (p j)).v.2))
            generalize hE3 : ((W8.setCell ⟨w.heap.size + 1, 1 + q * 2, none⟩ (.int .i64 (El.ml (T k) (p j)).v.1)).setCell ⟨w.heap.size + 1, 1 + q * 2 + 1, none⟩ (.int .i64 (El.ml (T k) (p j)).v.2)) = W9 at S9 E9 Z9 R9 G9 ⊢
            clear hE3 S8 E8 Z8 R8 G8
            have e0 := E9.out.c0
            have e1 := E9.out.c1
            have ek : upE (nx2 T (p j) N k) q (El.ml (T k) (p j)) k = T k := by unfold upE; rw [if_neg (by have := HQ.out; omega)]; exact nx2_own T (p j) hkl
            have x0 : W9.cell? ⟨w.heap.size + 1, 1 + k * 2, none⟩ = some (.int .i64 (T k).v.1) := by rw [← ek]; exact S9.out.c0 (by omega)
            have x1 : W9.cell? ⟨w.heap.size + 1, 1 + k * 2 + 1, none⟩ = some (.int .i64 (T k).v.2) := by rw [← ek]; exact S9.out.c1 (by omega)
            clear ek
            have KW := hik ((Chg.refl nob W9).drew1)
            have SA := hik (fun (WW : World) (kW : Chg nob W9 WW) => (show (WW.cell? ⟨w.heap.size + 1, 1 + k * 2, none⟩ = some (.int .i64 (T k).v.1) ∧ WW.cell? ⟨w.heap.size + 1, 1 + k * 2 + 1, none⟩ = some (.int .i64 (T k).v.2) ∧ WW.cell? ⟨g, 0, none⟩ = some (.int .i64 (El.ml (T k) (p j)).v.1) ∧ WW.cell? ⟨g, 1, none⟩ = some (.int .i64 (El.ml (T k) (p j)).v.2)) from ⟨kW.see x0, kW.see x1, kW.see e0, kW.see e1⟩))
            refine wp_regionL (L := 9) (S := fun w' => w'.cell? ⟨w.heap.size + 1, 1 + k * 2, none⟩ = some (.int .i64 (T k).v.1) ∧ w'.cell? ⟨w.heap.size + 1, 1 + k * 2 + 1, none⟩ = some (.int .i64 (T k).v.2) ∧ w'.cell? ⟨g, 0, none⟩ = some (.int .i64 (El.ml (T k) (p j)).v.1) ∧ w'.cell? ⟨g, 1, none⟩ = some (.int .i64 (El.ml (T k) (p j)).v.2)) (by kernel_rfl) ⟨x0, x1, e0, e1⟩ (fun hHeld => ?_)
            refine wpAnyL_take (i := 0) (v := ?_) rfl (by kernel_rfl) (by kernel_rfl) (by kernel_rfl) (fun _ _ _ h => h) (by rfl) (by kernel_rfl) (by kernel_rfl) (Or.inl ⟨by rfl, ?_⟩) (by assumption) ?_
            rotate_left 1
            · (intro w' hSw; (try dsimp only at hSw); go_simp; try with_reducible rfl)
            try simp only [Act.put, List.setIfInBounds_toArray, List.set_cons_zero, List.set_cons_succ, List.getElem_toArray, List.getElem_cons_zero, List.getElem_cons_succ]
            refine wpAnyL_take (i := 1) (v := ?_) rfl (by kernel_rfl) (by kernel_rfl) (by kernel_rfl) (fun _ _ _ h => h) (by rfl) (by kernel_rfl) (by kernel_rfl) (Or.inl ⟨by rfl, ?_⟩) (by assumption) ?_
            rotate_left 1
            · (intro w' hSw; (try dsimp only at hSw); go_simp; try with_reducible rfl)
            try simp only [Act.put, List.setIfInBounds_toArray, List.set_cons_zero, List.set_cons_succ, List.getElem_toArray, List.getElem_cons_zero, List.getElem_cons_succ]
            refine wpAnyL_take (i := 2) (v := ?_) rfl (by kernel_rfl) (by kernel_rfl) (by kernel_rfl) (fun _ _ _ h => h) (by rfl) (by kernel_rfl) (by kernel_rfl) (Or.inl ⟨by rfl, ?_⟩) (by assumption) ?_
            rotate_left 1
            · (intro w' hSw; (try dsimp only at hSw); go_simp; try with_reducible rfl)
            try simp only [Act.put, List.setIfInBounds_toArray, List.set_cons_zero, List.set_cons_succ, List.getElem_toArray, List.getElem_cons_zero, List.getElem_cons_succ]
            refine wpAnyL_take (i := 3) (v := ?_) rfl (by kernel_rfl) (by kernel_rfl) (by kernel_rfl) (fun _ _ _ h => h) (by rfl) (by kernel_rfl) (by kernel_rfl) (Or.inl ⟨by rfl, ?_⟩) (by assumption) ?_
            rotate_left 1
            · (intro w' hSw; (try dsimp only at hSw); go_simp; try with_reducible rfl)
            try simp only [Act.put, List.setIfInBounds_toArray, List.set_cons_zero, List.set_cons_succ, List.getElem_toArray, List.getElem_cons_zero, List.getElem_cons_succ]
            refine wpAnyL_take (i := 4) (v := ?_) rfl (by kernel_rfl) (by kernel_rfl) (by kernel_rfl) (fun _ _ _ h => h) (by rfl) (by kernel_rfl) (by kernel_rfl) (Or.inl ⟨by rfl, ?_⟩) (by assumption) ?_
            rotate_left 1
            · (intro w' hSw; (try dsimp only at hSw); go_simp; try with_reducible rfl)
            try simp only [Act.put, List.setIfInBounds_toArray, List.set_cons_zero, List.set_cons_succ, List.getElem_toArray, List.getElem_cons_zero, List.getElem_cons_succ]
            refine wpAnyL_take (i := 5) (v := ?_) rfl (by kernel_rfl) (by kernel_rfl) (by kernel_rfl) (fun _ _ _ h => h) (by rfl) (by kernel_rfl) (by kernel_rfl) (Or.inl ⟨by rfl, ?_⟩) (by assumption) ?_
            rotate_left 1
            · (intro w' hSw; (try dsimp only at hSw); go_simp; try with_reducible rfl)
            try simp only [Act.put, List.setIfInBounds_toArray, List.set_cons_zero, List.set_cons_succ, List.getElem_toArray, List.getElem_cons_zero, List.getElem_cons_succ]
            refine wpAnyL_take0 (i := 7) (v := ?_) rfl (by kernel_rfl) (by kernel_rfl) (by kernel_rfl) (fun _ _ _ h => h) (by rfl) (Or.inl ⟨by rfl, ?_⟩) (by assumption) ?_
            rotate_left 1
            · (intro w' hSw; (try dsimp only at hSw); go_simp; try with_reducible rfl)
            try simp only [Act.put, List.setIfInBounds_toArray, List.set_cons_zero, List.set_cons_succ, List.getElem_toArray, List.getElem_cons_zero, List.getElem_cons_succ]
            refine wpAnyL_ready (rs := [6]) (by kernel_rfl) (by simp) ?_
            refine AllReadyL.cons rfl (fun K hK => ?_) AllReadyL.nil
            refine stepL_callN 98 #[.tmp 40, .tmp 41] #[62, 62] (by rfl) (by rfl) #[.agg #[.int .i64 (T k).v.1, .int .i64 (T k).v.2], .agg #[.int .i64 (El.ml (T k) (p j)).v.1, .int .i64 (El.ml (T k) (p j)).v.2]] (by simp only [List.map_toArray, List.map_cons, List.map_nil] <;> rfl) (run_go Tryz.func98 (by kernel_rfl) (by kernel_rfl) _ _) (sb_el (T k) (El.ml (T k) (p j)) _) ?_
            rintro e U1 ⟨he, kk⟩
            refine ⟨_, he, ?_⟩
            replace KW := hik (KW.out.trans kk)
            refine hK.out _ _ (SA.out _ KW.out) (fun hHeld => ?_)
            clear hK K
            try simp only [Act.put, List.setIfInBounds_toArray, List.set_cons_zero, List.set_cons_succ, List.getElem_toArray, List.getElem_cons_zero, List.getElem_cons_succ]
            clear he kk
            refine wpAnyL_take (i := 8) (v := ?_) rfl (by kernel_rfl) (by kernel_rfl) (by kernel_rfl) (fun _ _ _ h => h) (by rfl) (by kernel_rfl) (by kernel_rfl) (Or.inl ⟨by rfl, ?_⟩) (by assumption) ?_
            rotate_left 1
            · (intro w' hSw; (try dsimp only at hSw); go_simp; try with_reducible rfl)
            try simp only [Act.put, List.setIfInBounds_toArray, List.set_cons_zero, List.set_cons_succ, List.getElem_toArray, List.getElem_cons_zero, List.getElem_cons_succ]
            refine wpAnyL_ready (rs := [9]) (by kernel_rfl) (by simp) ?_
            refine AllReadyL.last rfl (by kernel_rfl) (fun K hK => ?_)
            have SN := hik (S9.out.keep KW.out)
            have g0 := SN.out.c0 (k := k) (by omega)
            have g1 := SN.out.c1 (k := k) (by omega)
            have f0 := SN.out.fz (1 + k * 2)
            have f1 := SN.out.fz (1 + k * 2 + 1)
            have ln : w.heap.size + 1 < U1.heap.size := SN.out.lt
            simp only [List.getElem_toArray, List.getElem_cons_zero, List.getElem_cons_succ]
            go_simp
            refine hK.out _ _ ?_
            clear hK K
            try simp only [Act.put, List.setIfInBounds_toArray, List.set_cons_zero, List.set_cons_succ, List.getElem_toArray, List.getElem_cons_zero, List.getElem_cons_succ]
            clear g0 g1 f0 f1 ln
            refine wpAnyL_done (by kernel_rfl) ?_ _
            have S2 := hik (Cub.congr (u := nx2 T (p j) N (k + 1)) (SN.out.set k (El.sb (T k) (El.ml (T k) (p j)))) (fun i _ => by rw [HQ.out]; exact nx2_step T (p j) hkl i))
            have R2 := hik (ElB.other (R9.out.keep KW.out) (g := w.heap.size + 1) (by have := HCL.out; omega) (1 + k * 2) (1 + k * 2 + 1) (.int .i64 (El.sb (T k) (El.ml (T k) (p j))).v.1) (.int .i64 (El.sb (T k) (El.ml (T k) (p j))).v.2))
            have Z2 := hik (Cub.other (Z9.out.keep KW.out) (g := w.heap.size + 1) (by omega) (1 + k * 2) (1 + k * 2 + 1) (.int .i64 (El.sb (T k) (El.ml (T k) (p j))).v.1) (.int .i64 (El.sb (T k) (El.ml (T k) (p j))).v.2))
            have G2 := hik (chg2_at (G9.out.trans KW.out) (w.heap.size + 1) (fun l => absurd l (by omega)) (1 + k * 2) (1 + k * 2 + 1) (.int .i64 (El.sb (T k) (El.ml (T k) (p j))).v.1) (.int .i64 (El.sb (T k) (El.ml (T k) (p j))).v.2))
            generalize hE4 : ((U1.setCell ⟨w.heap.size + 1, 1 + k * 2, none⟩ (.int .i64 (El.sb (T k) (El.ml (T k) (p j))).v.1)).setCell ⟨w.heap.size + 1, 1 + k * 2 + 1, none⟩ (.int .i64 (El.sb (T k) (El.ml (T k) (p j))).v.2)) = W2 at S2 R2 Z2 G2 ⊢
            clear hE4 SN KW SA hHeld x0 x1 e0 e1 S9 R9 Z9 G9 E9
            go_wp2
            go_roundw
            case rel => exact ⟨k + 1, by omega, by go_num, S2, R2, Z2, G2⟩
            case measure => simp [intOf]; omega
        · obtain rfl : N = k := by omega
          obtain ⟨N2, hN2⟩ : ∃ N2, N2 = N * 2 := ⟨_, rfl⟩
          have HN2 := hik hN2
          have hwN : IntKind.i64.wrap ((N : Int) * 2) = (N2 : Int) := by rw [IntKind.wrap_i64]; omega
          have c0 := HS.out.c
          have f0 := HS.out.fz 0
          clear hN2
          go_wp2
          have S2 := hik (HS.out.size N2)
          have Z2 := hik (World.rowIs.setOther (a := ⟨w.heap.size + 1, 0, none⟩) HZ.out (show w.heap.size ≠ w.heap.size + 1 by omega) (.int .i64 (N2 : Int)))
          have G2 := hik (HG.out.setCell (p := ⟨w.heap.size + 1, 0, none⟩) (fun l => absurd l (by simp)) (.int .i64 (N2 : Int)))
          go_roundw
          case rel => exact ⟨j + 1, N2, nx2 T (p j) N N, hlt, by go_num, hik (by rw [HN2.out, HN.out, Nat.pow_succ]), hik (fun i hi => nx2_all HN.out HT.out (by have := HN2.out; omega)), S2, Z2, G2⟩
          case measure => simp [intOf]; omega
    · obtain rfl : n = j := by omega
      go_wp2_with (first
        | ((with_reducible refine wpList_load_cub (.tmp 3) rfl rfl (w.heap.size + 1) ?hx HS.out ?_); (case hx => rfl))
        | ((with_reducible refine wpList_store_cub (s := N) (t := T) (.tmp 2) (.tmp 51) rfl rfl w.heap.size ?hx ?hy HZ.out ?_); (case hx => rfl); (case hy => rfl); intro W3 r3 g3; have R3 := hik r3; have G3 := hik (Chg.near HG.out g3 (fun i e => by omega)); clear r3 g3))
      rw [← HN.out]
      exact bodyPost_ret (results_cub rfl _ _ w.heap.size rfl R3.out) rfl ⟨T, rfl, HT.out, G3.out⟩

end Go.Proofs.YtkpohajmcngjcaaGreatDoor

namespace Go.Proofs.YtkpohajmcngjcaaGreatDoor
open Go.ChangeShapes Go.WideShapes Go.ChangeAt Go.RowKit
set_option linter.unusedVariables false
set_option maxRecDepth 100000
set_option linter.unusedSimpArgs false

set_option maxHeartbeats 8000000 in
theorem matX_any (c : Option Addr) (n cap : Nat) (X : Nat → En) (cx : Option Addr) (rx capx : Nat) (f g : Nat → Int) (cy : Option Addr) (ry capy : Nat) (f' g' : Nat → Int) (w : World) (hv : Hid (EntV w c n X)) (hp : Hid (PairV w cx rx f g)) (hq : Hid (PairV w cy ry f' g')) (hn : n ≤ 1099511627776) (hrx : rx ≤ 1099511627776) (hry : ry ≤ 1099511627776) :
    Calls Tryz.prog 27 #[.slice c n cap, .slice cx rx capx, .slice cy ry capy] w fun e w' => e = .returned (.tuple #[.agg #[.int .i64 (mav n X rx f g ry f' g').v.1, .int .i64 (mav n X rx f g ry f' g').v.2], .int .i64 (mac n X rx f g ry f' g')]) ∧ Chg nob w w' := by
  by_cases h1 : 4096 < n
  · have h1' : (4096 : Int) < n := by omega
    have HC := hik (show mac n X rx f g ry f' g' = 2 by simp [mac, h1])
    have HV := hik (show mav n X rx f g ry f' g' = El.zr by unfold mav; rw [HC.out]; rfl)
    rw [HC.out, HV.out]
    go_enter Tryz.func27, Tryz.ntmps27
    go_wp2
    exact bodyPost_ret (v := .tuple #[.agg #[.int .i64 0, .int .i64 0], .int .i64 2]) (by simp [results, Tryz.results27, go_sem]) rfl ⟨rfl, (Chg.refl nob w).alloc _⟩
  have h1' : ¬ (4096 : Int) < n := by omega
  by_cases h2 : 4096 < rx
  · have h2' : (4096 : Int) < rx := by omega
    have HC := hik (show mac n X rx f g ry f' g' = 2 by simp [mac, h2])
    have HV := hik (show mav n X rx f g ry f' g' = El.zr by unfold mav; rw [HC.out]; rfl)
    rw [HC.out, HV.out]
    go_enter Tryz.func27, Tryz.ntmps27
    go_wp2
    exact bodyPost_ret (v := .tuple #[.agg #[.int .i64 0, .int .i64 0], .int .i64 2]) (by simp [results, Tryz.results27, go_sem]) rfl ⟨rfl, (Chg.refl nob w).alloc _⟩
  have h2' : ¬ (4096 : Int) < rx := by omega
  by_cases h3 : 4096 < ry
  · have h3' : (4096 : Int) < ry := by omega
    have HC := hik (show mac n X rx f g ry f' g' = 2 by simp [mac, h3])
    have HV := hik (show mav n X rx f g ry f' g' = El.zr by unfold mav; rw [HC.out]; rfl)
    rw [HC.out, HV.out]
    go_enter Tryz.func27, Tryz.ntmps27
    go_wp2
    exact bodyPost_ret (v := .tuple #[.agg #[.int .i64 0, .int .i64 0], .int .i64 2]) (by simp [results, Tryz.results27, go_sem]) rfl ⟨rfl, (Chg.refl nob w).alloc _⟩
  have h3' : ¬ (4096 : Int) < ry := by omega
  have hC : mac n X rx f g ry f' g' = if lgb rx = false ∨ lgb ry = false then 4 else if elm (2 ^ rx) (2 ^ ry) n X = false ∨ okP f g rx = false ∨ okP f' g' ry = false then 1 else 0 := by unfold mac; rw [if_neg (by omega)]
  cases h4 : lgb rx with
  | false =>
    have HC := hik (show mac n X rx f g ry f' g' = 4 by rw [hC, if_pos (.inl h4)])
    have HV := hik (show mav n X rx f g ry f' g' = El.zr by unfold mav; rw [HC.out]; rfl)
    rw [HC.out, HV.out]
    clear hC
    go_enter Tryz.func27, Tryz.ntmps27
    go_wp2_with (go_at_call 57; refine (isLog_any _ _).mono ?_; rintro e w' ⟨rfl, hw⟩; have hw := hw.symm; subst hw)
    exact bodyPost_ret (v := .tuple #[.agg #[.int .i64 0, .int .i64 0], .int .i64 4]) (by simp [results, Tryz.results27, go_sem]) rfl ⟨rfl, (Chg.refl nob w).alloc _⟩
  | true =>
  cases h5 : lgb ry with
  | false =>
    have HC := hik (show mac n X rx f g ry f' g' = 4 by rw [hC, if_pos (.inr h5)])
    have HV := hik (show mav n X rx f g ry f' g' = El.zr by unfold mav; rw [HC.out]; rfl)
    rw [HC.out, HV.out]
    clear hC
    go_enter Tryz.func27, Tryz.ntmps27
    go_wp2_with (go_at_call 57; refine (isLog_any _ _).mono ?_; rintro e w' ⟨rfl, hw⟩; have hw := hw.symm; subst hw)
    exact bodyPost_ret (v := .tuple #[.agg #[.int .i64 0, .int .i64 0], .int .i64 4]) (by simp [results, Tryz.results27, go_sem]) rfl ⟨rfl, (Chg.refl nob w).alloc _⟩
  | true =>
  rw [if_neg (by rw [h4, h5]; simp)] at hC
  have hr5 : 1 ≤ (rx : Int) ∧ (rx : Int) ≤ 5 := by simpa [lgb] using h4
  have hq5 : 1 ≤ (ry : Int) ∧ (ry : Int) ≤ 5 := by simpa [lgb] using h5
  have hsh1 := wp2 rx (by omega)
  have hsh2 := wp2 ry (by omega)
  have hR9 := hik (show (2 : Int) ^ rx ≤ 1048576 by have := pow5 (show rx ≤ 5 by omega); have := pow_cast rx; omega)
  have hC9 := hik (show (2 : Int) ^ ry ≤ 1048576 by have := pow5 (show ry ≤ 5 by omega); have := pow_cast ry; omega)
  have HS1 := hik (show IntKind.i64.wrap (2 ^ min rx 64) = 2 ^ rx by rw [Nat.min_eq_left (by omega), Go.IntWalk.i64_left]; exact hsh1)
  have HS2 := hik (show IntKind.i64.wrap (2 ^ min ry 64) = 2 ^ ry by rw [Nat.min_eq_left (by omega), Go.IntWalk.i64_left]; exact hsh2)
  have hmm := @run_makeMap Tryz.prog
  have HR5 := hik hr5
  have HQ5 := hik hq5
  have hx0 : ¬ (rx : Int) < 0 := by omega
  have hy0 : ¬ (ry : Int) < 0 := by omega
  clear hr5 hq5
  cases h6 : elm (2 ^ rx) (2 ^ ry) n X with
  | false =>
    have H6 := hik h6
    have HC := hik (show mac n X rx f g ry f' g' = 1 by rw [hC, if_pos (.inl h6)])
    have HV := hik (show mav n X rx f g ry f' g' = El.zr by unfold mav; rw [HC.out]; rfl)
    rw [HC.out, HV.out]
    clear hC
    clear h6
    go_enter Tryz.func27, Tryz.ntmps27
    go_upto_region 5 with (go_at_call 57; refine (isLog_any _ _).mono ?_; rintro e w' ⟨rfl, hw⟩; have hw := hw.symm; subst hw)
    have KB := hik ((Chg.refl nob w).alloc (.cells #[.int .i64 0, .int .i64 0] 62))
    have RB := hik (ElB.zero w)
    generalize hB : w.alloc (.cells #[.int .i64 0, .int .i64 0] 62) = B at KB RB ⊢
    clear hB
    have KW := hik ((Chg.refl nob B).drew1)
    have SA := hik (fun (WW : World) (kW : Chg nob B WW) => (show (True) from True.intro))
    refine wp_region_held_drew (S := fun w' => True) (by kernel_rfl) True.intro (fun hHeld => ?_)
    refine wpAnyH_take (i := 1) (v := ?_) rfl (by kernel_rfl) (by kernel_rfl) (by kernel_rfl) (fun _ _ _ h => h) (Or.inl ⟨by rfl, ?_⟩) (by assumption) ?_
    rotate_left 1
    · (intro w' hSw; (try dsimp only at hSw); go_simp; try with_reducible rfl)
    try simp only [Act.put, List.setIfInBounds_toArray, List.set_cons_zero, List.set_cons_succ, List.getElem_toArray, List.getElem_cons_zero, List.getElem_cons_succ]
    refine wpAnyH_take (i := 2) (v := ?_) rfl (by kernel_rfl) (by kernel_rfl) (by kernel_rfl) (fun _ _ _ h => h) (Or.inl ⟨by rfl, ?_⟩) (by assumption) ?_
    rotate_left 1
    · (intro w' hSw; (try dsimp only at hSw); go_simp; try with_reducible rfl)
    try simp only [Act.put, List.setIfInBounds_toArray, List.set_cons_zero, List.set_cons_succ, List.getElem_toArray, List.getElem_cons_zero, List.getElem_cons_succ]
    refine wpAnyH_take (i := 3) (v := ?_) rfl (by kernel_rfl) (by kernel_rfl) (by kernel_rfl) (fun _ _ _ h => h) (Or.inl ⟨by rfl, ?_⟩) (by assumption) ?_
    rotate_left 1
    · (intro w' hSw; (try dsimp only at hSw); go_simp; try with_reducible rfl)
    try simp only [Act.put, List.setIfInBounds_toArray, List.set_cons_zero, List.set_cons_succ, List.getElem_toArray, List.getElem_cons_zero, List.getElem_cons_succ]
    refine wpAnyH_take (i := 4) (v := .int .i64 (2 ^ rx)) rfl (by kernel_rfl) (by kernel_rfl) (by kernel_rfl) (fun _ _ _ h => h) (Or.inl ⟨by rfl, ?_⟩) (by assumption) ?_
    · (intro w' hSw; (try dsimp only at hSw); go_simp; exact HS1.out)
    try simp only [Act.put, List.setIfInBounds_toArray, List.set_cons_zero, List.set_cons_succ, List.getElem_toArray, List.getElem_cons_zero, List.getElem_cons_succ]
    refine wpAnyH_take (i := 5) (v := ?_) rfl (by kernel_rfl) (by kernel_rfl) (by kernel_rfl) (fun _ _ _ h => h) (Or.inl ⟨by rfl, ?_⟩) (by assumption) ?_
    rotate_left 1
    · (intro w' hSw; (try dsimp only at hSw); go_simp; try with_reducible rfl)
    try simp only [Act.put, List.setIfInBounds_toArray, List.set_cons_zero, List.set_cons_succ, List.getElem_toArray, List.getElem_cons_zero, List.getElem_cons_succ]
    refine wpAnyH_take (i := 6) (v := ?_) rfl (by kernel_rfl) (by kernel_rfl) (by kernel_rfl) (fun _ _ _ h => h) (Or.inl ⟨by rfl, ?_⟩) (by assumption) ?_
    rotate_left 1
    · (intro w' hSw; (try dsimp only at hSw); go_simp; try with_reducible rfl)
    try simp only [Act.put, List.setIfInBounds_toArray, List.set_cons_zero, List.set_cons_succ, List.getElem_toArray, List.getElem_cons_zero, List.getElem_cons_succ]
    refine wpAnyH_take (i := 7) (v := .int .i64 (2 ^ ry)) rfl (by kernel_rfl) (by kernel_rfl) (by kernel_rfl) (fun _ _ _ h => h) (Or.inl ⟨by rfl, ?_⟩) (by assumption) ?_
    · (intro w' hSw; (try dsimp only at hSw); go_simp; exact HS2.out)
    try simp only [Act.put, List.setIfInBounds_toArray, List.set_cons_zero, List.set_cons_succ, List.getElem_toArray, List.getElem_cons_zero, List.getElem_cons_succ]
    refine wpAnyH_ready (rs := [0]) (by kernel_rfl) (by simp) ?_
    refine AllReadyH.cons rfl (fun K hK => ?_) AllReadyH.nil
    simp only [List.getElem_toArray, List.getElem_cons_zero, List.getElem_cons_succ]
    go_simp
    have MG : Hid (Grd (World.drew (World.alloc B (.map #[] 0))) B.heap.size 0 (.map [])) := hik (Grd.keep (World.ownsMap_made B _ _ _) ((Chg.refl nob _).drew1))
    replace KW : Hid (Chg nob B (World.drew (World.alloc B (.map #[] 0)))) := hik (((Chg.refl nob B).alloc _).drew1)
    generalize hUA : (World.drew (World.alloc B (.map #[] 0))) = UA at MG KW ⊢
    clear hUA
    refine hK.out _ _ (SA.out _ KW.out) (fun hHeld => ?_)
    clear hK K
    try simp only [Act.put, List.setIfInBounds_toArray, List.set_cons_zero, List.set_cons_succ, List.getElem_toArray, List.getElem_cons_zero, List.getElem_cons_succ]
    refine wpAnyH_ready (rs := [8]) (by kernel_rfl) (by simp) ?_
    refine AllReadyH.cons rfl (fun K hK => ?_) AllReadyH.nil
    refine stepL_callN 58 #[.tmp 39, .tmp 40, .tmp 43, .tmp 46] #[102, 38, 3, 3] (by rfl) (by rfl) #[.map (some B.heap.size), .slice c n cap, .int .i64 (2 ^ rx), .int .i64 (2 ^ ry)] (by simp only [List.map_toArray, List.map_cons, List.map_nil] <;> rfl) (run_go Tryz.func58 (by kernel_rfl) (by kernel_rfl) _ _) (isMatrix_any B.heap.size 0 _ c n cap X (2 ^ rx) (2 ^ ry) _ MG (hik (hv.out.keep (KB.out.trans KW.out))) hn hR9.out hC9.out) ?_
    rintro e U1 ⟨he, gg, kk⟩
    rw [H6.out] at he
    clear gg
    refine ⟨_, he, ?_⟩
    replace KW := hik (KW.out.near kk (fun i e => by omega))
    refine hK.out _ _ (SA.out _ KW.out) (fun hHeld => ?_)
    clear hK K
    try simp only [Act.put, List.setIfInBounds_toArray, List.set_cons_zero, List.set_cons_succ, List.getElem_toArray, List.getElem_cons_zero, List.getElem_cons_succ]
    clear he kk
    refine wpAnyH_take (i := 9) (v := ?_) rfl (by kernel_rfl) (by kernel_rfl) (by kernel_rfl) (fun _ _ _ h => h) (Or.inl ⟨by rfl, ?_⟩) (by assumption) ?_
    rotate_left 1
    · (intro w' hSw; (try dsimp only at hSw); go_simp; try with_reducible rfl)
    try simp only [Act.put, List.setIfInBounds_toArray, List.set_cons_zero, List.set_cons_succ, List.getElem_toArray, List.getElem_cons_zero, List.getElem_cons_succ]
    refine wpAnyH_take (i := 10) (v := ?_) rfl (by kernel_rfl) (by kernel_rfl) (by kernel_rfl) (fun _ _ _ h => h) (Or.inl ⟨by rfl, ?_⟩) (by assumption) ?_
    rotate_left 1
    · (intro w' hSw; (try dsimp only at hSw); go_simp; try with_reducible rfl)
    try simp only [Act.put, List.setIfInBounds_toArray, List.set_cons_zero, List.set_cons_succ, List.getElem_toArray, List.getElem_cons_zero, List.getElem_cons_succ]
    refine wpAnyH_take (i := 11) (v := undef) rfl (by kernel_rfl) (by kernel_rfl) (by kernel_rfl) (fun _ _ _ h => h) (Or.inr ⟨by rfl, rfl⟩) (by assumption) ?_
    try simp only [Act.put, List.setIfInBounds_toArray, List.set_cons_zero, List.set_cons_succ, List.getElem_toArray, List.getElem_cons_zero, List.getElem_cons_succ]
    refine wpAnyH_take (i := 12) (v := undef) rfl (by kernel_rfl) (by kernel_rfl) (by kernel_rfl) (fun _ _ _ h => h) (Or.inr ⟨by rfl, rfl⟩) (by assumption) ?_
    try simp only [Act.put, List.setIfInBounds_toArray, List.set_cons_zero, List.set_cons_succ, List.getElem_toArray, List.getElem_cons_zero, List.getElem_cons_succ]
    refine wpAnyH_take (i := 13) (v := undef) rfl (by kernel_rfl) (by kernel_rfl) (by kernel_rfl) (fun _ _ _ h => h) (Or.inr ⟨by rfl, rfl⟩) (by assumption) ?_
    try simp only [Act.put, List.setIfInBounds_toArray, List.set_cons_zero, List.set_cons_succ, List.getElem_toArray, List.getElem_cons_zero, List.getElem_cons_succ]
    refine wpAnyH_take (i := 14) (v := ?_) rfl (by kernel_rfl) (by kernel_rfl) (by kernel_rfl) (fun _ _ _ h => h) (Or.inl ⟨by rfl, ?_⟩) (by assumption) ?_
    rotate_left 1
    · (intro w' hSw; (try dsimp only at hSw); go_simp; try with_reducible rfl)
    try simp only [Act.put, List.setIfInBounds_toArray, List.set_cons_zero, List.set_cons_succ, List.getElem_toArray, List.getElem_cons_zero, List.getElem_cons_succ]
    refine wpAnyH_take (i := 15) (v := ?_) rfl (by kernel_rfl) (by kernel_rfl) (by kernel_rfl) (fun _ _ _ h => h) (Or.inl ⟨by rfl, ?_⟩) (by assumption) ?_
    rotate_left 1
    · (intro w' hSw; (try dsimp only at hSw); go_simp; try with_reducible rfl)
    try simp only [Act.put, List.setIfInBounds_toArray, List.set_cons_zero, List.set_cons_succ, List.getElem_toArray, List.getElem_cons_zero, List.getElem_cons_succ]
    refine wpAnyH_take (i := 16) (v := undef) rfl (by kernel_rfl) (by kernel_rfl) (by kernel_rfl) (fun _ _ _ h => h) (Or.inr ⟨by rfl, rfl⟩) (by assumption) ?_
    try simp only [Act.put, List.setIfInBounds_toArray, List.set_cons_zero, List.set_cons_succ, List.getElem_toArray, List.getElem_cons_zero, List.getElem_cons_succ]
    refine wpAnyH_take (i := 17) (v := undef) rfl (by kernel_rfl) (by kernel_rfl) (by kernel_rfl) (fun _ _ _ h => h) (Or.inr ⟨by rfl, rfl⟩) (by assumption) ?_
    try simp only [Act.put, List.setIfInBounds_toArray, List.set_cons_zero, List.set_cons_succ, List.getElem_toArray, List.getElem_cons_zero, List.getElem_cons_succ]
    refine wpAnyH_take (i := 18) (v := undef) rfl (by kernel_rfl) (by kernel_rfl) (by kernel_rfl) (fun _ _ _ h => h) (Or.inr ⟨by rfl, rfl⟩) (by assumption) ?_
    try simp only [Act.put, List.setIfInBounds_toArray, List.set_cons_zero, List.set_cons_succ, List.getElem_toArray, List.getElem_cons_zero, List.getElem_cons_succ]
    refine wpAnyH_take (i := 19) (v := ?_) rfl (by kernel_rfl) (by kernel_rfl) (by kernel_rfl) (fun _ _ _ h => h) (Or.inl ⟨by rfl, ?_⟩) (by assumption) ?_
    rotate_left 1
    · (intro w' hSw; (try dsimp only at hSw); go_simp; try with_reducible rfl)
    try simp only [Act.put, List.setIfInBounds_toArray, List.set_cons_zero, List.set_cons_succ, List.getElem_toArray, List.getElem_cons_zero, List.getElem_cons_succ]
    refine wpAnyH_done (by kernel_rfl) ?_ _
    have RB5 := hik (RB.out.keep KW.out)
    have KB5 := hik (KB.out.trans KW.out)
    clear KW SA hHeld MG RB KB
    generalize U1 = U9 at RB5 KB5 ⊢
    have c0 := RB5.out.c0
    have c1 := RB5.out.c1
    have f0 := RB5.out.fz 0
    have f1 := RB5.out.fz 1
    go_wp2
    have u0 : ((U9.setCell ⟨w.heap.size, 0, none⟩ (.int .i64 0)).setCell ⟨w.heap.size, 1, none⟩ (.int .i64 0)).cell? ⟨w.heap.size, 0, none⟩ = some (.int .i64 0) := (RB5.out.set El.zr).c0
    have u1 : ((U9.setCell ⟨w.heap.size, 0, none⟩ (.int .i64 0)).setCell ⟨w.heap.size, 1, none⟩ (.int .i64 0)).cell? ⟨w.heap.size, 1, none⟩ = some (.int .i64 0) := (RB5.out.set El.zr).c1
    exact bodyPost_ret (v := .tuple #[.agg #[.int .i64 0, .int .i64 0], .int .i64 1]) (by simp [results, Tryz.results27, go_sem, u0, u1]) rfl ⟨rfl, chg2_at KB5.out w.heap.size (fun l => absurd l (by omega)) 0 1 (.int .i64 0) (.int .i64 0)⟩
  | true =>
  have H6 := hik h6
  cases h7 : okP f g rx with
  | false =>
    have H7 := hik h7
    have HC := hik (show mac n X rx f g ry f' g' = 1 by rw [hC, if_pos (.inr (.inl h7))])
    have HV := hik (show mav n X rx f g ry f' g' = El.zr by unfold mav; rw [HC.out]; rfl)
    rw [HC.out, HV.out]
    clear hC
    clear h6 h7
    go_enter Tryz.func27, Tryz.ntmps27
    go_upto_region 5 with (go_at_call 57; refine (isLog_any _ _).mono ?_; rintro e w' ⟨rfl, hw⟩; have hw := hw.symm; subst hw)
    have KB := hik ((Chg.refl nob w).alloc (.cells #[.int .i64 0, .int .i64 0] 62))
    have RB := hik (ElB.zero w)
    generalize hB : w.alloc (.cells #[.int .i64 0, .int .i64 0] 62) = B at KB RB ⊢
    clear hB
    have KW := hik ((Chg.refl nob B).drew1)
    have SA := hik (fun (WW : World) (kW : Chg nob B WW) => (show (True) from True.intro))
    refine wp_region_held_drew (S := fun w' => True) (by kernel_rfl) True.intro (fun hHeld => ?_)
    refine wpAnyH_take (i := 1) (v := ?_) rfl (by kernel_rfl) (by kernel_rfl) (by kernel_rfl) (fun _ _ _ h => h) (Or.inl ⟨by rfl, ?_⟩) (by assumption) ?_
    rotate_left 1
    · (intro w' hSw; (try dsimp only at hSw); go_simp; try with_reducible rfl)
    try simp only [Act.put, List.setIfInBounds_toArray, List.set_cons_zero, List.set_cons_succ, List.getElem_toArray, List.getElem_cons_zero, List.getElem_cons_succ]
    refine wpAnyH_take (i := 2) (v := ?_) rfl (by kernel_rfl) (by kernel_rfl) (by kernel_rfl) (fun _ _ _ h => h) (Or.inl ⟨by rfl, ?_⟩) (by assumption) ?_
    rotate_left 1
    · (intro w' hSw; (try dsimp only at hSw); go_simp; try with_reducible rfl)
    try simp only [Act.put, List.setIfInBounds_toArray, List.set_cons_zero, List.set_cons_succ, List.getElem_toArray, List.getElem_cons_zero, List.getElem_cons_succ]
    refine wpAnyH_take (i := 3) (v := ?_) rfl (by kernel_rfl) (by kernel_rfl) (by kernel_rfl) (fun _ _ _ h => h) (Or.inl ⟨by rfl, ?_⟩) (by assumption) ?_
    rotate_left 1
    · (intro w' hSw; (try dsimp only at hSw); go_simp; try with_reducible rfl)
    try simp only [Act.put, List.setIfInBounds_toArray, List.set_cons_zero, List.set_cons_succ, List.getElem_toArray, List.getElem_cons_zero, List.getElem_cons_succ]
    refine wpAnyH_take (i := 4) (v := .int .i64 (2 ^ rx)) rfl (by kernel_rfl) (by kernel_rfl) (by kernel_rfl) (fun _ _ _ h => h) (Or.inl ⟨by rfl, ?_⟩) (by assumption) ?_
    · (intro w' hSw; (try dsimp only at hSw); go_simp; exact HS1.out)
    try simp only [Act.put, List.setIfInBounds_toArray, List.set_cons_zero, List.set_cons_succ, List.getElem_toArray, List.getElem_cons_zero, List.getElem_cons_succ]
    refine wpAnyH_take (i := 5) (v := ?_) rfl (by kernel_rfl) (by kernel_rfl) (by kernel_rfl) (fun _ _ _ h => h) (Or.inl ⟨by rfl, ?_⟩) (by assumption) ?_
    rotate_left 1
    · (intro w' hSw; (try dsimp only at hSw); go_simp; try with_reducible rfl)
    try simp only [Act.put, List.setIfInBounds_toArray, List.set_cons_zero, List.set_cons_succ, List.getElem_toArray, List.getElem_cons_zero, List.getElem_cons_succ]
    refine wpAnyH_take (i := 6) (v := ?_) rfl (by kernel_rfl) (by kernel_rfl) (by kernel_rfl) (fun _ _ _ h => h) (Or.inl ⟨by rfl, ?_⟩) (by assumption) ?_
    rotate_left 1
    · (intro w' hSw; (try dsimp only at hSw); go_simp; try with_reducible rfl)
    try simp only [Act.put, List.setIfInBounds_toArray, List.set_cons_zero, List.set_cons_succ, List.getElem_toArray, List.getElem_cons_zero, List.getElem_cons_succ]
    refine wpAnyH_take (i := 7) (v := .int .i64 (2 ^ ry)) rfl (by kernel_rfl) (by kernel_rfl) (by kernel_rfl) (fun _ _ _ h => h) (Or.inl ⟨by rfl, ?_⟩) (by assumption) ?_
    · (intro w' hSw; (try dsimp only at hSw); go_simp; exact HS2.out)
    try simp only [Act.put, List.setIfInBounds_toArray, List.set_cons_zero, List.set_cons_succ, List.getElem_toArray, List.getElem_cons_zero, List.getElem_cons_succ]
    refine wpAnyH_ready (rs := [0]) (by kernel_rfl) (by simp) ?_
    refine AllReadyH.cons rfl (fun K hK => ?_) AllReadyH.nil
    simp only [List.getElem_toArray, List.getElem_cons_zero, List.getElem_cons_succ]
    go_simp
    have MG : Hid (Grd (World.drew (World.alloc B (.map #[] 0))) B.heap.size 0 (.map [])) := hik (Grd.keep (World.ownsMap_made B _ _ _) ((Chg.refl nob _).drew1))
    replace KW : Hid (Chg nob B (World.drew (World.alloc B (.map #[] 0)))) := hik (((Chg.refl nob B).alloc _).drew1)
    generalize hUA : (World.drew (World.alloc B (.map #[] 0))) = UA at MG KW ⊢
    clear hUA
    refine hK.out _ _ (SA.out _ KW.out) (fun hHeld => ?_)
    clear hK K
    try simp only [Act.put, List.setIfInBounds_toArray, List.set_cons_zero, List.set_cons_succ, List.getElem_toArray, List.getElem_cons_zero, List.getElem_cons_succ]
    refine wpAnyH_ready (rs := [8]) (by kernel_rfl) (by simp) ?_
    refine AllReadyH.cons rfl (fun K hK => ?_) AllReadyH.nil
    refine stepL_callN 58 #[.tmp 39, .tmp 40, .tmp 43, .tmp 46] #[102, 38, 3, 3] (by rfl) (by rfl) #[.map (some B.heap.size), .slice c n cap, .int .i64 (2 ^ rx), .int .i64 (2 ^ ry)] (by simp only [List.map_toArray, List.map_cons, List.map_nil] <;> rfl) (run_go Tryz.func58 (by kernel_rfl) (by kernel_rfl) _ _) (isMatrix_any B.heap.size 0 _ c n cap X (2 ^ rx) (2 ^ ry) _ MG (hik (hv.out.keep (KB.out.trans KW.out))) hn hR9.out hC9.out) ?_
    rintro e U1 ⟨he, gg, kk⟩
    rw [H6.out] at he
    clear gg
    refine ⟨_, he, ?_⟩
    replace KW := hik (KW.out.near kk (fun i e => by omega))
    refine hK.out _ _ (SA.out _ KW.out) (fun hHeld => ?_)
    clear hK K
    try simp only [Act.put, List.setIfInBounds_toArray, List.set_cons_zero, List.set_cons_succ, List.getElem_toArray, List.getElem_cons_zero, List.getElem_cons_succ]
    clear he kk
    refine wpAnyH_take (i := 9) (v := ?_) rfl (by kernel_rfl) (by kernel_rfl) (by kernel_rfl) (fun _ _ _ h => h) (Or.inl ⟨by rfl, ?_⟩) (by assumption) ?_
    rotate_left 1
    · (intro w' hSw; (try dsimp only at hSw); go_simp; try with_reducible rfl)
    try simp only [Act.put, List.setIfInBounds_toArray, List.set_cons_zero, List.set_cons_succ, List.getElem_toArray, List.getElem_cons_zero, List.getElem_cons_succ]
    refine wpAnyH_take (i := 10) (v := ?_) rfl (by kernel_rfl) (by kernel_rfl) (by kernel_rfl) (fun _ _ _ h => h) (Or.inl ⟨by rfl, ?_⟩) (by assumption) ?_
    rotate_left 1
    · (intro w' hSw; (try dsimp only at hSw); go_simp; try with_reducible rfl)
    try simp only [Act.put, List.setIfInBounds_toArray, List.set_cons_zero, List.set_cons_succ, List.getElem_toArray, List.getElem_cons_zero, List.getElem_cons_succ]
    refine wpAnyH_take (i := 11) (v := ?_) rfl (by kernel_rfl) (by kernel_rfl) (by kernel_rfl) (fun _ _ _ h => h) (Or.inl ⟨by rfl, ?_⟩) (by assumption) ?_
    rotate_left 1
    · (intro w' hSw; (try dsimp only at hSw); go_simp; try with_reducible rfl)
    try simp only [Act.put, List.setIfInBounds_toArray, List.set_cons_zero, List.set_cons_succ, List.getElem_toArray, List.getElem_cons_zero, List.getElem_cons_succ]
    refine wpAnyH_ready (rs := [12]) (by kernel_rfl) (by simp) ?_
    refine AllReadyH.cons rfl (fun K hK => ?_) AllReadyH.nil
    refine stepL_callN 51 #[.tmp 50] #[33] (by rfl) (by rfl) #[.slice cx rx capx] (by simp only [List.map_toArray, List.map_cons, List.map_nil] <;> rfl) (run_go Tryz.func51 (by kernel_rfl) (by kernel_rfl) _ _) (extsOK_any cx rx capx f g _ (hik (PairV.keep hp.out (KB.out.trans KW.out))) hrx) ?_
    rintro e U2 ⟨he, kk⟩
    rw [H7.out] at he
    refine ⟨_, he, ?_⟩
    replace KW := hik (KW.out.trans kk)
    refine hK.out _ _ (SA.out _ KW.out) (fun hHeld => ?_)
    clear hK K
    try simp only [Act.put, List.setIfInBounds_toArray, List.set_cons_zero, List.set_cons_succ, List.getElem_toArray, List.getElem_cons_zero, List.getElem_cons_succ]
    clear he kk
    refine wpAnyH_take (i := 13) (v := ?_) rfl (by kernel_rfl) (by kernel_rfl) (by kernel_rfl) (fun _ _ _ h => h) (Or.inl ⟨by rfl, ?_⟩) (by assumption) ?_
    rotate_left 1
    · (intro w' hSw; (try dsimp only at hSw); go_simp; try with_reducible rfl)
    try simp only [Act.put, List.setIfInBounds_toArray, List.set_cons_zero, List.set_cons_succ, List.getElem_toArray, List.getElem_cons_zero, List.getElem_cons_succ]
    refine wpAnyH_take (i := 14) (v := ?_) rfl (by kernel_rfl) (by kernel_rfl) (by kernel_rfl) (fun _ _ _ h => h) (Or.inl ⟨by rfl, ?_⟩) (by assumption) ?_
    rotate_left 1
    · (intro w' hSw; (try dsimp only at hSw); go_simp; try with_reducible rfl)
    try simp only [Act.put, List.setIfInBounds_toArray, List.set_cons_zero, List.set_cons_succ, List.getElem_toArray, List.getElem_cons_zero, List.getElem_cons_succ]
    refine wpAnyH_take (i := 15) (v := ?_) rfl (by kernel_rfl) (by kernel_rfl) (by kernel_rfl) (fun _ _ _ h => h) (Or.inl ⟨by rfl, ?_⟩) (by assumption) ?_
    rotate_left 1
    · (intro w' hSw; (try dsimp only at hSw); go_simp; try with_reducible rfl)
    try simp only [Act.put, List.setIfInBounds_toArray, List.set_cons_zero, List.set_cons_succ, List.getElem_toArray, List.getElem_cons_zero, List.getElem_cons_succ]
    refine wpAnyH_take (i := 16) (v := undef) rfl (by kernel_rfl) (by kernel_rfl) (by kernel_rfl) (fun _ _ _ h => h) (Or.inr ⟨by rfl, rfl⟩) (by assumption) ?_
    try simp only [Act.put, List.setIfInBounds_toArray, List.set_cons_zero, List.set_cons_succ, List.getElem_toArray, List.getElem_cons_zero, List.getElem_cons_succ]
    refine wpAnyH_take (i := 17) (v := undef) rfl (by kernel_rfl) (by kernel_rfl) (by kernel_rfl) (fun _ _ _ h => h) (Or.inr ⟨by rfl, rfl⟩) (by assumption) ?_
    try simp only [Act.put, List.setIfInBounds_toArray, List.set_cons_zero, List.set_cons_succ, List.getElem_toArray, List.getElem_cons_zero, List.getElem_cons_succ]
    refine wpAnyH_take (i := 18) (v := undef) rfl (by kernel_rfl) (by kernel_rfl) (by kernel_rfl) (fun _ _ _ h => h) (Or.inr ⟨by rfl, rfl⟩) (by assumption) ?_
    try simp only [Act.put, List.setIfInBounds_toArray, List.set_cons_zero, List.set_cons_succ, List.getElem_toArray, List.getElem_cons_zero, List.getElem_cons_succ]
    refine wpAnyH_take (i := 19) (v := ?_) rfl (by kernel_rfl) (by kernel_rfl) (by kernel_rfl) (fun _ _ _ h => h) (Or.inl ⟨by rfl, ?_⟩) (by assumption) ?_
    rotate_left 1
    · (intro w' hSw; (try dsimp only at hSw); go_simp; try with_reducible rfl)
    try simp only [Act.put, List.setIfInBounds_toArray, List.set_cons_zero, List.set_cons_succ, List.getElem_toArray, List.getElem_cons_zero, List.getElem_cons_succ]
    refine wpAnyH_done (by kernel_rfl) ?_ _
    have RB5 := hik (RB.out.keep KW.out)
    have KB5 := hik (KB.out.trans KW.out)
    clear KW SA hHeld MG RB KB
    generalize U2 = U9 at RB5 KB5 ⊢
    have c0 := RB5.out.c0
    have c1 := RB5.out.c1
    have f0 := RB5.out.fz 0
    have f1 := RB5.out.fz 1
    go_wp2
    have u0 : ((U9.setCell ⟨w.heap.size, 0, none⟩ (.int .i64 0)).setCell ⟨w.heap.size, 1, none⟩ (.int .i64 0)).cell? ⟨w.heap.size, 0, none⟩ = some (.int .i64 0) := (RB5.out.set El.zr).c0
    have u1 : ((U9.setCell ⟨w.heap.size, 0, none⟩ (.int .i64 0)).setCell ⟨w.heap.size, 1, none⟩ (.int .i64 0)).cell? ⟨w.heap.size, 1, none⟩ = some (.int .i64 0) := (RB5.out.set El.zr).c1
    exact bodyPost_ret (v := .tuple #[.agg #[.int .i64 0, .int .i64 0], .int .i64 1]) (by simp [results, Tryz.results27, go_sem, u0, u1]) rfl ⟨rfl, chg2_at KB5.out w.heap.size (fun l => absurd l (by omega)) 0 1 (.int .i64 0) (.int .i64 0)⟩
  | true =>
  have H7 := hik h7
  cases h8 : okP f' g' ry with
  | false =>
    have H8 := hik h8
    have HC := hik (show mac n X rx f g ry f' g' = 1 by rw [hC, if_pos (.inr (.inr h8))])
    have HV := hik (show mav n X rx f g ry f' g' = El.zr by unfold mav; rw [HC.out]; rfl)
    rw [HC.out, HV.out]
    clear hC
    clear h6 h7 h8
    go_enter Tryz.func27, Tryz.ntmps27
    go_upto_region 5 with (go_at_call 57; refine (isLog_any _ _).mono ?_; rintro e w' ⟨rfl, hw⟩; have hw := hw.symm; subst hw)
    have KB := hik ((Chg.refl nob w).alloc (.cells #[.int .i64 0, .int .i64 0] 62))
    have RB := hik (ElB.zero w)
    generalize hB : w.alloc (.cells #[.int .i64 0, .int .i64 0] 62) = B at KB RB ⊢
    clear hB
    have KW := hik ((Chg.refl nob B).drew1)
    have SA := hik (fun (WW : World) (kW : Chg nob B WW) => (show (True) from True.intro))
    refine wp_region_held_drew (S := fun w' => True) (by kernel_rfl) True.intro (fun hHeld => ?_)
    refine wpAnyH_take (i := 1) (v := ?_) rfl (by kernel_rfl) (by kernel_rfl) (by kernel_rfl) (fun _ _ _ h => h) (Or.inl ⟨by rfl, ?_⟩) (by assumption) ?_
    rotate_left 1
    · (intro w' hSw; (try dsimp only at hSw); go_simp; try with_reducible rfl)
    try simp only [Act.put, List.setIfInBounds_toArray, List.set_cons_zero, List.set_cons_succ, List.getElem_toArray, List.getElem_cons_zero, List.getElem_cons_succ]
    refine wpAnyH_take (i := 2) (v := ?_) rfl (by kernel_rfl) (by kernel_rfl) (by kernel_rfl) (fun _ _ _ h => h) (Or.inl ⟨by rfl, ?_⟩) (by assumption) ?_
    rotate_left 1
    · (intro w' hSw; (try dsimp only at hSw); go_simp; try with_reducible rfl)
    try simp only [Act.put, List.setIfInBounds_toArray, List.set_cons_zero, List.set_cons_succ, List.getElem_toArray, List.getElem_cons_zero, List.getElem_cons_succ]
    refine wpAnyH_take (i := 3) (v := ?_) rfl (by kernel_rfl) (by kernel_rfl) (by kernel_rfl) (fun _ _ _ h => h) (Or.inl ⟨by rfl, ?_⟩) (by assumption) ?_
    rotate_left 1
    · (intro w' hSw; (try dsimp only at hSw); go_simp; try with_reducible rfl)
    try simp only [Act.put, List.setIfInBounds_toArray, List.set_cons_zero, List.set_cons_succ, List.getElem_toArray, List.getElem_cons_zero, List.getElem_cons_succ]
    refine wpAnyH_take (i := 4) (v := .int .i64 (2 ^ rx)) rfl (by kernel_rfl) (by kernel_rfl) (by kernel_rfl) (fun _ _ _ h => h) (Or.inl ⟨by rfl, ?_⟩) (by assumption) ?_
    · (intro w' hSw; (try dsimp only at hSw); go_simp; exact HS1.out)
    try simp only [Act.put, List.setIfInBounds_toArray, List.set_cons_zero, List.set_cons_succ, List.getElem_toArray, List.getElem_cons_zero, List.getElem_cons_succ]
    refine wpAnyH_take (i := 5) (v := ?_) rfl (by kernel_rfl) (by kernel_rfl) (by kernel_rfl) (fun _ _ _ h => h) (Or.inl ⟨by rfl, ?_⟩) (by assumption) ?_
    rotate_left 1
    · (intro w' hSw; (try dsimp only at hSw); go_simp; try with_reducible rfl)
    try simp only [Act.put, List.setIfInBounds_toArray, List.set_cons_zero, List.set_cons_succ, List.getElem_toArray, List.getElem_cons_zero, List.getElem_cons_succ]
    refine wpAnyH_take (i := 6) (v := ?_) rfl (by kernel_rfl) (by kernel_rfl) (by kernel_rfl) (fun _ _ _ h => h) (Or.inl ⟨by rfl, ?_⟩) (by assumption) ?_
    rotate_left 1
    · (intro w' hSw; (try dsimp only at hSw); go_simp; try with_reducible rfl)
    try simp only [Act.put, List.setIfInBounds_toArray, List.set_cons_zero, List.set_cons_succ, List.getElem_toArray, List.getElem_cons_zero, List.getElem_cons_succ]
    refine wpAnyH_take (i := 7) (v := .int .i64 (2 ^ ry)) rfl (by kernel_rfl) (by kernel_rfl) (by kernel_rfl) (fun _ _ _ h => h) (Or.inl ⟨by rfl, ?_⟩) (by assumption) ?_
    · (intro w' hSw; (try dsimp only at hSw); go_simp; exact HS2.out)
    try simp only [Act.put, List.setIfInBounds_toArray, List.set_cons_zero, List.set_cons_succ, List.getElem_toArray, List.getElem_cons_zero, List.getElem_cons_succ]
    refine wpAnyH_ready (rs := [0]) (by kernel_rfl) (by simp) ?_
    refine AllReadyH.cons rfl (fun K hK => ?_) AllReadyH.nil
    simp only [List.getElem_toArray, List.getElem_cons_zero, List.getElem_cons_succ]
    go_simp
    have MG : Hid (Grd (World.drew (World.alloc B (.map #[] 0))) B.heap.size 0 (.map [])) := hik (Grd.keep (World.ownsMap_made B _ _ _) ((Chg.refl nob _).drew1))
    replace KW : Hid (Chg nob B (World.drew (World.alloc B (.map #[] 0)))) := hik (((Chg.refl nob B).alloc _).drew1)
    generalize hUA : (World.drew (World.alloc B (.map #[] 0))) = UA at MG KW ⊢
    clear hUA
    refine hK.out _ _ (SA.out _ KW.out) (fun hHeld => ?_)
    clear hK K
    try simp only [Act.put, List.setIfInBounds_toArray, List.set_cons_zero, List.set_cons_succ, List.getElem_toArray, List.getElem_cons_zero, List.getElem_cons_succ]
    refine wpAnyH_ready (rs := [8]) (by kernel_rfl) (by simp) ?_
    refine AllReadyH.cons rfl (fun K hK => ?_) AllReadyH.nil
    refine stepL_callN 58 #[.tmp 39, .tmp 40, .tmp 43, .tmp 46] #[102, 38, 3, 3] (by rfl) (by rfl) #[.map (some B.heap.size), .slice c n cap, .int .i64 (2 ^ rx), .int .i64 (2 ^ ry)] (by simp only [List.map_toArray, List.map_cons, List.map_nil] <;> rfl) (run_go Tryz.func58 (by kernel_rfl) (by kernel_rfl) _ _) (isMatrix_any B.heap.size 0 _ c n cap X (2 ^ rx) (2 ^ ry) _ MG (hik (hv.out.keep (KB.out.trans KW.out))) hn hR9.out hC9.out) ?_
    rintro e U1 ⟨he, gg, kk⟩
    rw [H6.out] at he
    clear gg
    refine ⟨_, he, ?_⟩
    replace KW := hik (KW.out.near kk (fun i e => by omega))
    refine hK.out _ _ (SA.out _ KW.out) (fun hHeld => ?_)
    clear hK K
    try simp only [Act.put, List.setIfInBounds_toArray, List.set_cons_zero, List.set_cons_succ, List.getElem_toArray, List.getElem_cons_zero, List.getElem_cons_succ]
    clear he kk
    refine wpAnyH_take (i := 9) (v := ?_) rfl (by kernel_rfl) (by kernel_rfl) (by kernel_rfl) (fun _ _ _ h => h) (Or.inl ⟨by rfl, ?_⟩) (by assumption) ?_
    rotate_left 1
    · (intro w' hSw; (try dsimp only at hSw); go_simp; try with_reducible rfl)
    try simp only [Act.put, List.setIfInBounds_toArray, List.set_cons_zero, List.set_cons_succ, List.getElem_toArray, List.getElem_cons_zero, List.getElem_cons_succ]
    refine wpAnyH_take (i := 10) (v := ?_) rfl (by kernel_rfl) (by kernel_rfl) (by kernel_rfl) (fun _ _ _ h => h) (Or.inl ⟨by rfl, ?_⟩) (by assumption) ?_
    rotate_left 1
    · (intro w' hSw; (try dsimp only at hSw); go_simp; try with_reducible rfl)
    try simp only [Act.put, List.setIfInBounds_toArray, List.set_cons_zero, List.set_cons_succ, List.getElem_toArray, List.getElem_cons_zero, List.getElem_cons_succ]
    refine wpAnyH_take (i := 11) (v := ?_) rfl (by kernel_rfl) (by kernel_rfl) (by kernel_rfl) (fun _ _ _ h => h) (Or.inl ⟨by rfl, ?_⟩) (by assumption) ?_
    rotate_left 1
    · (intro w' hSw; (try dsimp only at hSw); go_simp; try with_reducible rfl)
    try simp only [Act.put, List.setIfInBounds_toArray, List.set_cons_zero, List.set_cons_succ, List.getElem_toArray, List.getElem_cons_zero, List.getElem_cons_succ]
    refine wpAnyH_ready (rs := [12]) (by kernel_rfl) (by simp) ?_
    refine AllReadyH.cons rfl (fun K hK => ?_) AllReadyH.nil
    refine stepL_callN 51 #[.tmp 50] #[33] (by rfl) (by rfl) #[.slice cx rx capx] (by simp only [List.map_toArray, List.map_cons, List.map_nil] <;> rfl) (run_go Tryz.func51 (by kernel_rfl) (by kernel_rfl) _ _) (extsOK_any cx rx capx f g _ (hik (PairV.keep hp.out (KB.out.trans KW.out))) hrx) ?_
    rintro e U2 ⟨he, kk⟩
    rw [H7.out] at he
    refine ⟨_, he, ?_⟩
    replace KW := hik (KW.out.trans kk)
    refine hK.out _ _ (SA.out _ KW.out) (fun hHeld => ?_)
    clear hK K
    try simp only [Act.put, List.setIfInBounds_toArray, List.set_cons_zero, List.set_cons_succ, List.getElem_toArray, List.getElem_cons_zero, List.getElem_cons_succ]
    clear he kk
    refine wpAnyH_take (i := 13) (v := ?_) rfl (by kernel_rfl) (by kernel_rfl) (by kernel_rfl) (fun _ _ _ h => h) (Or.inl ⟨by rfl, ?_⟩) (by assumption) ?_
    rotate_left 1
    · (intro w' hSw; (try dsimp only at hSw); go_simp; try with_reducible rfl)
    try simp only [Act.put, List.setIfInBounds_toArray, List.set_cons_zero, List.set_cons_succ, List.getElem_toArray, List.getElem_cons_zero, List.getElem_cons_succ]
    refine wpAnyH_take (i := 14) (v := ?_) rfl (by kernel_rfl) (by kernel_rfl) (by kernel_rfl) (fun _ _ _ h => h) (Or.inl ⟨by rfl, ?_⟩) (by assumption) ?_
    rotate_left 1
    · (intro w' hSw; (try dsimp only at hSw); go_simp; try with_reducible rfl)
    try simp only [Act.put, List.setIfInBounds_toArray, List.set_cons_zero, List.set_cons_succ, List.getElem_toArray, List.getElem_cons_zero, List.getElem_cons_succ]
    refine wpAnyH_take (i := 15) (v := ?_) rfl (by kernel_rfl) (by kernel_rfl) (by kernel_rfl) (fun _ _ _ h => h) (Or.inl ⟨by rfl, ?_⟩) (by assumption) ?_
    rotate_left 1
    · (intro w' hSw; (try dsimp only at hSw); go_simp; try with_reducible rfl)
    try simp only [Act.put, List.setIfInBounds_toArray, List.set_cons_zero, List.set_cons_succ, List.getElem_toArray, List.getElem_cons_zero, List.getElem_cons_succ]
    refine wpAnyH_take (i := 16) (v := ?_) rfl (by kernel_rfl) (by kernel_rfl) (by kernel_rfl) (fun _ _ _ h => h) (Or.inl ⟨by rfl, ?_⟩) (by assumption) ?_
    rotate_left 1
    · (intro w' hSw; (try dsimp only at hSw); go_simp; try with_reducible rfl)
    try simp only [Act.put, List.setIfInBounds_toArray, List.set_cons_zero, List.set_cons_succ, List.getElem_toArray, List.getElem_cons_zero, List.getElem_cons_succ]
    refine wpAnyH_ready (rs := [17]) (by kernel_rfl) (by simp) ?_
    refine AllReadyH.cons rfl (fun K hK => ?_) AllReadyH.nil
    refine stepL_callN 51 #[.tmp 55] #[33] (by rfl) (by rfl) #[.slice cy ry capy] (by simp only [List.map_toArray, List.map_cons, List.map_nil] <;> rfl) (run_go Tryz.func51 (by kernel_rfl) (by kernel_rfl) _ _) (extsOK_any cy ry capy f' g' _ (hik (PairV.keep hq.out (KB.out.trans KW.out))) hry) ?_
    rintro e U3 ⟨he, kk⟩
    rw [H8.out] at he
    refine ⟨_, he, ?_⟩
    replace KW := hik (KW.out.trans kk)
    refine hK.out _ _ (SA.out _ KW.out) (fun hHeld => ?_)
    clear hK K
    try simp only [Act.put, List.setIfInBounds_toArray, List.set_cons_zero, List.set_cons_succ, List.getElem_toArray, List.getElem_cons_zero, List.getElem_cons_succ]
    clear he kk
    refine wpAnyH_take (i := 18) (v := ?_) rfl (by kernel_rfl) (by kernel_rfl) (by kernel_rfl) (fun _ _ _ h => h) (Or.inl ⟨by rfl, ?_⟩) (by assumption) ?_
    rotate_left 1
    · (intro w' hSw; (try dsimp only at hSw); go_simp; try with_reducible rfl)
    try simp only [Act.put, List.setIfInBounds_toArray, List.set_cons_zero, List.set_cons_succ, List.getElem_toArray, List.getElem_cons_zero, List.getElem_cons_succ]
    refine wpAnyH_take (i := 19) (v := ?_) rfl (by kernel_rfl) (by kernel_rfl) (by kernel_rfl) (fun _ _ _ h => h) (Or.inl ⟨by rfl, ?_⟩) (by assumption) ?_
    rotate_left 1
    · (intro w' hSw; (try dsimp only at hSw); go_simp; try with_reducible rfl)
    try simp only [Act.put, List.setIfInBounds_toArray, List.set_cons_zero, List.set_cons_succ, List.getElem_toArray, List.getElem_cons_zero, List.getElem_cons_succ]
    refine wpAnyH_done (by kernel_rfl) ?_ _
    have RB5 := hik (RB.out.keep KW.out)
    have KB5 := hik (KB.out.trans KW.out)
    clear KW SA hHeld MG RB KB
    generalize U3 = U9 at RB5 KB5 ⊢
    have c0 := RB5.out.c0
    have c1 := RB5.out.c1
    have f0 := RB5.out.fz 0
    have f1 := RB5.out.fz 1
    go_wp2
    have u0 : ((U9.setCell ⟨w.heap.size, 0, none⟩ (.int .i64 0)).setCell ⟨w.heap.size, 1, none⟩ (.int .i64 0)).cell? ⟨w.heap.size, 0, none⟩ = some (.int .i64 0) := (RB5.out.set El.zr).c0
    have u1 : ((U9.setCell ⟨w.heap.size, 0, none⟩ (.int .i64 0)).setCell ⟨w.heap.size, 1, none⟩ (.int .i64 0)).cell? ⟨w.heap.size, 1, none⟩ = some (.int .i64 0) := (RB5.out.set El.zr).c1
    exact bodyPost_ret (v := .tuple #[.agg #[.int .i64 0, .int .i64 0], .int .i64 1]) (by simp [results, Tryz.results27, go_sem, u0, u1]) rfl ⟨rfl, chg2_at KB5.out w.heap.size (fun l => absurd l (by omega)) 0 1 (.int .i64 0) (.int .i64 0)⟩
  | true =>
  have H8 := hik h8
  have HC := hik (show mac n X rx f g ry f' g' = 0 by rw [hC, if_neg (by rw [h6, h7, h8]; simp)])
  obtain ⟨n2, wX⟩ := elm_parts h6
  have hwin := hik wX
  have hpE := hik (PairE.of hp.out h7)
  have hqE := hik (PairE.of hq.out h8)
  have HV := hik (show mav n X rx f g ry f' g' = mte X (El.eqp (elF f g) rx) (El.eqp (elF f' g') ry) n by unfold mav; rw [HC.out]; rfl)
  rw [HC.out]
  generalize mav n X rx f g ry f' g' = ANS at HV ⊢
  clear hC h6 h7 h8 wX HC
  go_enter Tryz.func27, Tryz.ntmps27
  go_upto_region 5 with (go_at_call 57; refine (isLog_any _ _).mono ?_; rintro e w' ⟨rfl, hw⟩; have hw := hw.symm; subst hw)
  have KB := hik ((Chg.refl nob w).alloc (.cells #[.int .i64 0, .int .i64 0] 62))
  have RB := hik (ElB.zero w)
  generalize hB : w.alloc (.cells #[.int .i64 0, .int .i64 0] 62) = B at KB RB ⊢
  clear hB
  have KW := hik ((Chg.refl nob B).drew1)
  have SA := hik (fun (WW : World) (kW : Chg nob B WW) => (show (True) from True.intro))
  refine wp_region_held_drew (S := fun w' => True) (by kernel_rfl) True.intro (fun hHeld => ?_)
  refine wpAnyH_take (i := 1) (v := ?_) rfl (by kernel_rfl) (by kernel_rfl) (by kernel_rfl) (fun _ _ _ h => h) (Or.inl ⟨by rfl, ?_⟩) (by assumption) ?_
  rotate_left 1
  · (intro w' hSw; (try dsimp only at hSw); go_simp; try with_reducible rfl)
  try simp only [Act.put, List.setIfInBounds_toArray, List.set_cons_zero, List.set_cons_succ, List.getElem_toArray, List.getElem_cons_zero, List.getElem_cons_succ]
  refine wpAnyH_take (i := 2) (v := ?_) rfl (by kernel_rfl) (by kernel_rfl) (by kernel_rfl) (fun _ _ _ h => h) (Or.inl ⟨by rfl, ?_⟩) (by assumption) ?_
  rotate_left 1
  · (intro w' hSw; (try dsimp only at hSw); go_simp; try with_reducible rfl)
  try simp only [Act.put, List.setIfInBounds_toArray, List.set_cons_zero, List.set_cons_succ, List.getElem_toArray, List.getElem_cons_zero, List.getElem_cons_succ]
  refine wpAnyH_take (i := 3) (v := ?_) rfl (by kernel_rfl) (by kernel_rfl) (by kernel_rfl) (fun _ _ _ h => h) (Or.inl ⟨by rfl, ?_⟩) (by assumption) ?_
  rotate_left 1
  · (intro w' hSw; (try dsimp only at hSw); go_simp; try with_reducible rfl)
  try simp only [Act.put, List.setIfInBounds_toArray, List.set_cons_zero, List.set_cons_succ, List.getElem_toArray, List.getElem_cons_zero, List.getElem_cons_succ]
  refine wpAnyH_take (i := 4) (v := .int .i64 (2 ^ rx)) rfl (by kernel_rfl) (by kernel_rfl) (by kernel_rfl) (fun _ _ _ h => h) (Or.inl ⟨by rfl, ?_⟩) (by assumption) ?_
  · (intro w' hSw; (try dsimp only at hSw); go_simp; exact HS1.out)
  try simp only [Act.put, List.setIfInBounds_toArray, List.set_cons_zero, List.set_cons_succ, List.getElem_toArray, List.getElem_cons_zero, List.getElem_cons_succ]
  refine wpAnyH_take (i := 5) (v := ?_) rfl (by kernel_rfl) (by kernel_rfl) (by kernel_rfl) (fun _ _ _ h => h) (Or.inl ⟨by rfl, ?_⟩) (by assumption) ?_
  rotate_left 1
  · (intro w' hSw; (try dsimp only at hSw); go_simp; try with_reducible rfl)
  try simp only [Act.put, List.setIfInBounds_toArray, List.set_cons_zero, List.set_cons_succ, List.getElem_toArray, List.getElem_cons_zero, List.getElem_cons_succ]
  refine wpAnyH_take (i := 6) (v := ?_) rfl (by kernel_rfl) (by kernel_rfl) (by kernel_rfl) (fun _ _ _ h => h) (Or.inl ⟨by rfl, ?_⟩) (by assumption) ?_
  rotate_left 1
  · (intro w' hSw; (try dsimp only at hSw); go_simp; try with_reducible rfl)
  try simp only [Act.put, List.setIfInBounds_toArray, List.set_cons_zero, List.set_cons_succ, List.getElem_toArray, List.getElem_cons_zero, List.getElem_cons_succ]
  refine wpAnyH_take (i := 7) (v := .int .i64 (2 ^ ry)) rfl (by kernel_rfl) (by kernel_rfl) (by kernel_rfl) (fun _ _ _ h => h) (Or.inl ⟨by rfl, ?_⟩) (by assumption) ?_
  · (intro w' hSw; (try dsimp only at hSw); go_simp; exact HS2.out)
  try simp only [Act.put, List.setIfInBounds_toArray, List.set_cons_zero, List.set_cons_succ, List.getElem_toArray, List.getElem_cons_zero, List.getElem_cons_succ]
  refine wpAnyH_ready (rs := [0]) (by kernel_rfl) (by simp) ?_
  refine AllReadyH.cons rfl (fun K hK => ?_) AllReadyH.nil
  simp only [List.getElem_toArray, List.getElem_cons_zero, List.getElem_cons_succ]
  go_simp
  have MG : Hid (Grd (World.drew (World.alloc B (.map #[] 0))) B.heap.size 0 (.map [])) := hik (Grd.keep (World.ownsMap_made B _ _ _) ((Chg.refl nob _).drew1))
  replace KW : Hid (Chg nob B (World.drew (World.alloc B (.map #[] 0)))) := hik (((Chg.refl nob B).alloc _).drew1)
  generalize hUA : (World.drew (World.alloc B (.map #[] 0))) = UA at MG KW ⊢
  clear hUA
  refine hK.out _ _ (SA.out _ KW.out) (fun hHeld => ?_)
  clear hK K
  try simp only [Act.put, List.setIfInBounds_toArray, List.set_cons_zero, List.set_cons_succ, List.getElem_toArray, List.getElem_cons_zero, List.getElem_cons_succ]
  refine wpAnyH_ready (rs := [8]) (by kernel_rfl) (by simp) ?_
  refine AllReadyH.cons rfl (fun K hK => ?_) AllReadyH.nil
  refine stepL_callN 58 #[.tmp 39, .tmp 40, .tmp 43, .tmp 46] #[102, 38, 3, 3] (by rfl) (by rfl) #[.map (some B.heap.size), .slice c n cap, .int .i64 (2 ^ rx), .int .i64 (2 ^ ry)] (by simp only [List.map_toArray, List.map_cons, List.map_nil] <;> rfl) (run_go Tryz.func58 (by kernel_rfl) (by kernel_rfl) _ _) (isMatrix_any B.heap.size 0 _ c n cap X (2 ^ rx) (2 ^ ry) _ MG (hik (hv.out.keep (KB.out.trans KW.out))) hn hR9.out hC9.out) ?_
  rintro e U1 ⟨he, gg, kk⟩
  rw [H6.out] at he
  clear gg
  refine ⟨_, he, ?_⟩
  replace KW := hik (KW.out.near kk (fun i e => by omega))
  refine hK.out _ _ (SA.out _ KW.out) (fun hHeld => ?_)
  clear hK K
  try simp only [Act.put, List.setIfInBounds_toArray, List.set_cons_zero, List.set_cons_succ, List.getElem_toArray, List.getElem_cons_zero, List.getElem_cons_succ]
  clear he kk
  refine wpAnyH_take (i := 9) (v := ?_) rfl (by kernel_rfl) (by kernel_rfl) (by kernel_rfl) (fun _ _ _ h => h) (Or.inl ⟨by rfl, ?_⟩) (by assumption) ?_
  rotate_left 1
  · (intro w' hSw; (try dsimp only at hSw); go_simp; try with_reducible rfl)
  try simp only [Act.put, List.setIfInBounds_toArray, List.set_cons_zero, List.set_cons_succ, List.getElem_toArray, List.getElem_cons_zero, List.getElem_cons_succ]
  refine wpAnyH_take (i := 10) (v := ?_) rfl (by kernel_rfl) (by kernel_rfl) (by kernel_rfl) (fun _ _ _ h => h) (Or.inl ⟨by rfl, ?_⟩) (by assumption) ?_
  rotate_left 1
  · (intro w' hSw; (try dsimp only at hSw); go_simp; try with_reducible rfl)
  try simp only [Act.put, List.setIfInBounds_toArray, List.set_cons_zero, List.set_cons_succ, List.getElem_toArray, List.getElem_cons_zero, List.getElem_cons_succ]
  refine wpAnyH_take (i := 11) (v := ?_) rfl (by kernel_rfl) (by kernel_rfl) (by kernel_rfl) (fun _ _ _ h => h) (Or.inl ⟨by rfl, ?_⟩) (by assumption) ?_
  rotate_left 1
  · (intro w' hSw; (try dsimp only at hSw); go_simp; try with_reducible rfl)
  try simp only [Act.put, List.setIfInBounds_toArray, List.set_cons_zero, List.set_cons_succ, List.getElem_toArray, List.getElem_cons_zero, List.getElem_cons_succ]
  refine wpAnyH_ready (rs := [12]) (by kernel_rfl) (by simp) ?_
  refine AllReadyH.cons rfl (fun K hK => ?_) AllReadyH.nil
  refine stepL_callN 51 #[.tmp 50] #[33] (by rfl) (by rfl) #[.slice cx rx capx] (by simp only [List.map_toArray, List.map_cons, List.map_nil] <;> rfl) (run_go Tryz.func51 (by kernel_rfl) (by kernel_rfl) _ _) (extsOK_any cx rx capx f g _ (hik (PairV.keep hp.out (KB.out.trans KW.out))) hrx) ?_
  rintro e U2 ⟨he, kk⟩
  rw [H7.out] at he
  refine ⟨_, he, ?_⟩
  replace KW := hik (KW.out.trans kk)
  refine hK.out _ _ (SA.out _ KW.out) (fun hHeld => ?_)
  clear hK K
  try simp only [Act.put, List.setIfInBounds_toArray, List.set_cons_zero, List.set_cons_succ, List.getElem_toArray, List.getElem_cons_zero, List.getElem_cons_succ]
  clear he kk
  refine wpAnyH_take (i := 13) (v := ?_) rfl (by kernel_rfl) (by kernel_rfl) (by kernel_rfl) (fun _ _ _ h => h) (Or.inl ⟨by rfl, ?_⟩) (by assumption) ?_
  rotate_left 1
  · (intro w' hSw; (try dsimp only at hSw); go_simp; try with_reducible rfl)
  try simp only [Act.put, List.setIfInBounds_toArray, List.set_cons_zero, List.set_cons_succ, List.getElem_toArray, List.getElem_cons_zero, List.getElem_cons_succ]
  refine wpAnyH_take (i := 14) (v := ?_) rfl (by kernel_rfl) (by kernel_rfl) (by kernel_rfl) (fun _ _ _ h => h) (Or.inl ⟨by rfl, ?_⟩) (by assumption) ?_
  rotate_left 1
  · (intro w' hSw; (try dsimp only at hSw); go_simp; try with_reducible rfl)
  try simp only [Act.put, List.setIfInBounds_toArray, List.set_cons_zero, List.set_cons_succ, List.getElem_toArray, List.getElem_cons_zero, List.getElem_cons_succ]
  refine wpAnyH_take (i := 15) (v := ?_) rfl (by kernel_rfl) (by kernel_rfl) (by kernel_rfl) (fun _ _ _ h => h) (Or.inl ⟨by rfl, ?_⟩) (by assumption) ?_
  rotate_left 1
  · (intro w' hSw; (try dsimp only at hSw); go_simp; try with_reducible rfl)
  try simp only [Act.put, List.setIfInBounds_toArray, List.set_cons_zero, List.set_cons_succ, List.getElem_toArray, List.getElem_cons_zero, List.getElem_cons_succ]
  refine wpAnyH_take (i := 16) (v := ?_) rfl (by kernel_rfl) (by kernel_rfl) (by kernel_rfl) (fun _ _ _ h => h) (Or.inl ⟨by rfl, ?_⟩) (by assumption) ?_
  rotate_left 1
  · (intro w' hSw; (try dsimp only at hSw); go_simp; try with_reducible rfl)
  try simp only [Act.put, List.setIfInBounds_toArray, List.set_cons_zero, List.set_cons_succ, List.getElem_toArray, List.getElem_cons_zero, List.getElem_cons_succ]
  refine wpAnyH_ready (rs := [17]) (by kernel_rfl) (by simp) ?_
  refine AllReadyH.cons rfl (fun K hK => ?_) AllReadyH.nil
  refine stepL_callN 51 #[.tmp 55] #[33] (by rfl) (by rfl) #[.slice cy ry capy] (by simp only [List.map_toArray, List.map_cons, List.map_nil] <;> rfl) (run_go Tryz.func51 (by kernel_rfl) (by kernel_rfl) _ _) (extsOK_any cy ry capy f' g' _ (hik (PairV.keep hq.out (KB.out.trans KW.out))) hry) ?_
  rintro e U3 ⟨he, kk⟩
  rw [H8.out] at he
  refine ⟨_, he, ?_⟩
  replace KW := hik (KW.out.trans kk)
  refine hK.out _ _ (SA.out _ KW.out) (fun hHeld => ?_)
  clear hK K
  try simp only [Act.put, List.setIfInBounds_toArray, List.set_cons_zero, List.set_cons_succ, List.getElem_toArray, List.getElem_cons_zero, List.getElem_cons_succ]
  clear he kk
  refine wpAnyH_take (i := 18) (v := ?_) rfl (by kernel_rfl) (by kernel_rfl) (by kernel_rfl) (fun _ _ _ h => h) (Or.inl ⟨by rfl, ?_⟩) (by assumption) ?_
  rotate_left 1
  · (intro w' hSw; (try dsimp only at hSw); go_simp; try with_reducible rfl)
  try simp only [Act.put, List.setIfInBounds_toArray, List.set_cons_zero, List.set_cons_succ, List.getElem_toArray, List.getElem_cons_zero, List.getElem_cons_succ]
  refine wpAnyH_take (i := 19) (v := ?_) rfl (by kernel_rfl) (by kernel_rfl) (by kernel_rfl) (fun _ _ _ h => h) (Or.inl ⟨by rfl, ?_⟩) (by assumption) ?_
  rotate_left 1
  · (intro w' hSw; (try dsimp only at hSw); go_simp; try with_reducible rfl)
  try simp only [Act.put, List.setIfInBounds_toArray, List.set_cons_zero, List.set_cons_succ, List.getElem_toArray, List.getElem_cons_zero, List.getElem_cons_succ]
  refine wpAnyH_done (by kernel_rfl) ?_ _
  have RB5 := hik (RB.out.keep KW.out)
  have KB5 := hik (KB.out.trans KW.out)
  clear KW SA hHeld MG RB KB
  generalize U3 = U9 at RB5 KB5 ⊢
  clear hsh1 hsh2 hx0 hy0 hR9 hC9 hmm H6 H7 H8 HS1 HS2
  have hrx5 : rx ≤ 5 := by have := HR5.out; omega
  have hry5 : ry ≤ 5 := by have := HQ5.out; omega
  clear HR5 HQ5
  have hz := (zero_of_info infoQb).1
  go_wp2_with fail
  refine (eqTable_any cx rx capx (elF f g) _ (hik (PairE.keep hpE.out KB5.out)) (by omega)).mono ?_
  rintro e W1 ⟨A, rfl, hA, k1⟩
  have RB1 := hik (RB5.out.keep k1)
  have KB1 := hik (KB5.out.trans k1)
  have HA := hik hA
  clear k1 hA RB5 KB5
  go_wp2_with fail
  refine (eqTable_any cy ry capy (elF f' g') _ (hik (PairE.keep hqE.out KB1.out)) (by omega)).mono ?_
  rintro e W2 ⟨D, rfl, hD, k2⟩
  have RB2 := hik (RB1.out.keep k2)
  have KB2 := hik (KB1.out.trans k2)
  have HD := hik hD
  have hw2 : w.heap.size < W2.heap.size := RB2.out.lt
  clear k2 hD RB1 KB1
  replace HV := hik (show ANS = mte X A D n by
    rw [HV.out]
    refine (mte_congr (fun i hi => ?_)).symm
    obtain ⟨ri, ci, er, ec, hri, hci, v0, v1⟩ := win_nat (hwin.out i hi)
    have e1 := pow_cast rx
    have e2 := pow_cast ry
    rw [er, ec, Int.toNat_natCast, Int.toNat_natCast]
    exact ⟨HA.out ri (by omega), HD.out ci (by omega)⟩)
  clear HA HD
  go_wp2_with (first
    | ((with_reducible refine wpList_store_cub (s := 2 ^ rx) (t := A) (.tmp 8) (.tmp 61) rfl rfl W2.heap.size ?hx ?hy ((Cub.new W2 0 zE).keep ((Chg.refl nob _).alloc (.cells (cb 0 zE) 97))) ?_); (case hx => rfl); (case hy => rfl); intro W3 r3 g3; have R3 := hik r3; have Z3 := hik (Cub.chg (Cub.at_ (W2.alloc (.cells (cb 0 zE) 97)) (W2.heap.size + 1) (by simp) 0 zE) g3 (by omega)); have KB3 := hik (Chg.near ((KB2.out.alloc (.cells (cb 0 zE) 97)).alloc (.cells (cb 0 zE) 97)) g3 (fun i e => by omega)); have RB3 := hik (ElB.chg ((RB2.out.keep ((Chg.refl nob _).alloc (.cells (cb 0 zE) 97))).keep ((Chg.refl nob _).alloc (.cells (cb 0 zE) 97))) g3 (by omega)); clear r3 g3)
    | ((with_reducible refine wpList_store_cub (s := 2 ^ ry) (t := D) (.tmp 9) (.tmp 63) rfl rfl (W2.heap.size + 1) ?hx ?hy Z3.out ?_); (case hx => rfl); (case hy => rfl); intro W4 r4 g4; have S4 := hik r4; have R4 := hik (R3.out.chg g4 (by omega)); have KB4 := hik (Chg.near KB3.out g4 (fun i e => by omega)); have RB4 := hik (RB3.out.chg g4 (by omega)); clear r4 g4))
  clear R3 Z3 KB3 RB3 KB2 RB2 hz
  have hw4 : W2.heap.size + 1 < W4.heap.size := S4.out.lt
  go_loopw [67] (fun i W => ∃ k : Nat, k ≤ n ∧ i = .int .i64 k ∧ Hid (ElB W W4.heap.size (mte X A D k)) ∧ Hid (ElB W w.heap.size El.zr) ∧ Hid (Chg nob w W) ∧ Hid (Cub W W2.heap.size (2 ^ rx) A) ∧ Hid (Cub W (W2.heap.size + 1) (2 ^ ry) D)) (fun i _ => n - (intOf i).toNat)
  case atStart => exact ⟨0, Nat.zero_le _, rfl, hik (ElB.zero W4), hik (RB4.out.keep ((Chg.refl nob _).alloc _)), hik (KB4.out.alloc _), hik (R4.out.keep ((Chg.refl nob _).alloc _)), hik (S4.out.keep ((Chg.refl nob _).alloc _))⟩
  case round =>
    clear RB4 KB4 R4 S4
    obtain ⟨k, hk, rfl, HE, HR, HG, HYA, HYB⟩ := hrel
    rename World => wi
    by_cases hlt : k < n
    · have hkn : ((k : Nat) : Int) < n := by omega
      obtain ⟨xb, xo, rfl, hxb, c0, c1, c2⟩ := (hv.out.keep HG.out) k hlt
      obtain ⟨ri, ci, er, ec, hri, hci, v0, v1⟩ := win_nat (hwin.out k hlt)
      have hriN : ri < 64 := by have e := pow_cast rx; have := pow5 hrx5; omega
      have hciN : ci < 64 := by have e := pow_cast ry; have := pow5 hry5; omega
      rw [er] at c0
      rw [ec] at c1
      rw [← El.ofi_v (by omega) v1] at c2
      have HST := hik (show mte X A D (k + 1) = El.ad (mte X A D k) (El.ml (El.ml (A ri) (D ci)) (El.ofi (X k).2.2)) by
        show El.ad _ (El.ml _ (El.ml (A (X k).1.toNat) (D (X k).2.1.toNat))) = _
        rw [er, ec, Int.toNat_natCast, Int.toNat_natCast, El.ml_comm])
      have hV2 := El.ofi_w (X k).2.2
      have hi1 : (ri : Int) < 64 := by omega
      have hi2 : (ci : Int) < 64 := by omega
      clear er ec v0 v1 hri hci
      generalize El.ofi (X k).2.2 = V at c2 HST hV2
      generalize hS : mte X A D k = S at HE HST
      clear hS
      have hml : ∀ W, Calls Tryz.prog 60 #[.agg #[.int .i64 (El.ml (A ri) (D ci)).v.1, .int .i64 (El.ml (A ri) (D ci)).v.2], .agg #[.int .i64 V.v.1, .int .i64 0]] W fun e w' => e = .returned (.agg #[.int .i64 (El.ml (El.ml (A ri) (D ci)) V).v.1, .int .i64 (El.ml (El.ml (A ri) (D ci)) V).v.2]) ∧ Chg nob W w' := fun W => by
        have h := ml_el (El.ml (A ri) (D ci)) V W
        rw [hV2] at h
        exact h
      clear hV2
      have KB := hik ((Chg.refl nob wi).alloc (.cells #[.int .i64 (ri : Int), .int .i64 (ci : Int), .int .i64 V.v.1] 106))
      have p0 := KB.out.see (HYA.out.c0 hriN)
      have p1 := KB.out.see (HYA.out.c1 hriN)
      have q0 := KB.out.see (HYB.out.c0 hciN)
      have q1 := KB.out.see (HYB.out.c1 hciN)
      have e0 : World.cell? (wi.alloc (.cells #[.int .i64 (ri : Int), .int .i64 (ci : Int), .int .i64 V.v.1] 106)) ⟨wi.heap.size, 0, none⟩ = some (.int .i64 (ri : Int)) := by go_simp
      have e1 : World.cell? (wi.alloc (.cells #[.int .i64 (ri : Int), .int .i64 (ci : Int), .int .i64 V.v.1] 106)) ⟨wi.heap.size, 1, none⟩ = some (.int .i64 (ci : Int)) := by go_simp
      have e2 : World.cell? (wi.alloc (.cells #[.int .i64 (ri : Int), .int .i64 (ci : Int), .int .i64 V.v.1] 106)) ⟨wi.heap.size, 2, none⟩ = some (.int .i64 V.v.1) := by go_simp
      replace HE := hik (HE.out.keep KB.out)
      replace HR := hik (HR.out.keep KB.out)
      replace HG := hik (HG.out.trans KB.out)
      replace HYA := hik (HYA.out.keep KB.out)
      replace HYB := hik (HYB.out.keep KB.out)
      go_upto_region 12 with fail
      clear c0 c1 c2
      generalize wi.alloc (.cells #[.int .i64 (ri : Int), .int .i64 (ci : Int), .int .i64 V.v.1] 106) = W0 at p0 p1 q0 q1 e0 e1 e2 HE HR HG HYA HYB KB ⊢
      have E2 := hik e2
      clear KB e2
      go_cut [13] (fun p W => ∃ g8 : Nat, p = .pointer (some ⟨g8, 0, none⟩) ∧ Hid (W0.heap.size ≤ g8) ∧ Hid (ElB W g8 (El.ml (A ri) (D ci))) ∧ Hid (Chg nob W0 W))
      case first =>
        have KW := hik ((Chg.refl nob W0).drew1)
        have SA := hik (fun (WW : World) (kW : Chg nob W0 WW) => (show (WW.cell? ⟨wi.heap.size, 0, none⟩ = some (.int .i64 (ri : Int)) ∧ WW.cell? ⟨wi.heap.size, 1, none⟩ = some (.int .i64 (ci : Int)) ∧ WW.cell? ⟨W2.heap.size, 1 + ri * 2, none⟩ = some (.int .i64 (A ri).v.1) ∧ WW.cell? ⟨W2.heap.size, 1 + ri * 2 + 1, none⟩ = some (.int .i64 (A ri).v.2) ∧ WW.cell? ⟨(W2.heap.size + 1), 1 + ci * 2, none⟩ = some (.int .i64 (D ci).v.1) ∧ WW.cell? ⟨(W2.heap.size + 1), 1 + ci * 2 + 1, none⟩ = some (.int .i64 (D ci).v.2)) from ⟨kW.see e0, kW.see e1, kW.see p0, kW.see p1, kW.see q0, kW.see q1⟩))
        refine wp_region_held_drew (S := fun w' => w'.cell? ⟨wi.heap.size, 0, none⟩ = some (.int .i64 (ri : Int)) ∧ w'.cell? ⟨wi.heap.size, 1, none⟩ = some (.int .i64 (ci : Int)) ∧ w'.cell? ⟨W2.heap.size, 1 + ri * 2, none⟩ = some (.int .i64 (A ri).v.1) ∧ w'.cell? ⟨W2.heap.size, 1 + ri * 2 + 1, none⟩ = some (.int .i64 (A ri).v.2) ∧ w'.cell? ⟨(W2.heap.size + 1), 1 + ci * 2, none⟩ = some (.int .i64 (D ci).v.1) ∧ w'.cell? ⟨(W2.heap.size + 1), 1 + ci * 2 + 1, none⟩ = some (.int .i64 (D ci).v.2)) (by kernel_rfl) ⟨e0, e1, p0, p1, q0, q1⟩ (fun hHeld => ?_)
        refine wpAnyH_take (i := 0) (v := ?_) rfl (by kernel_rfl) (by kernel_rfl) (by kernel_rfl) (fun _ _ _ h => h) (Or.inl ⟨by rfl, ?_⟩) (by assumption) ?_
        rotate_left 1
        · (intro w' hSw; (try dsimp only at hSw); go_simp; try with_reducible rfl)
        try simp only [Act.put, List.setIfInBounds_toArray, List.set_cons_zero, List.set_cons_succ, List.getElem_toArray, List.getElem_cons_zero, List.getElem_cons_succ]
        refine wpAnyH_take (i := 1) (v := ?_) rfl (by kernel_rfl) (by kernel_rfl) (by kernel_rfl) (fun _ _ _ h => h) (Or.inl ⟨by rfl, ?_⟩) (by assumption) ?_
        rotate_left 1
        · (intro w' hSw; (try dsimp only at hSw); go_simp; try with_reducible rfl)
        try simp only [Act.put, List.setIfInBounds_toArray, List.set_cons_zero, List.set_cons_succ, List.getElem_toArray, List.getElem_cons_zero, List.getElem_cons_succ]
        refine wpAnyH_take (i := 2) (v := ?_) rfl (by kernel_rfl) (by kernel_rfl) (by kernel_rfl) (fun _ _ _ h => h) (Or.inl ⟨by rfl, ?_⟩) (by assumption) ?_
        rotate_left 1
        · (intro w' hSw; (try dsimp only at hSw); go_simp; try with_reducible rfl)
        try simp only [Act.put, List.setIfInBounds_toArray, List.set_cons_zero, List.set_cons_succ, List.getElem_toArray, List.getElem_cons_zero, List.getElem_cons_succ]
        refine wpAnyH_take (i := 3) (v := ?_) rfl (by kernel_rfl) (by kernel_rfl) (by kernel_rfl) (fun _ _ _ h => h) (Or.inl ⟨by rfl, ?_⟩) (by assumption) ?_
        rotate_left 1
        · (intro w' hSw; (try dsimp only at hSw); go_simp; try with_reducible rfl)
        try simp only [Act.put, List.setIfInBounds_toArray, List.set_cons_zero, List.set_cons_succ, List.getElem_toArray, List.getElem_cons_zero, List.getElem_cons_succ]
        refine wpAnyH_take (i := 4) (v := ?_) rfl (by kernel_rfl) (by kernel_rfl) (by kernel_rfl) (fun _ _ _ h => h) (Or.inl ⟨by rfl, ?_⟩) (by assumption) ?_
        rotate_left 1
        · (intro w' hSw; (try dsimp only at hSw); go_simp; try with_reducible rfl)
        try simp only [Act.put, List.setIfInBounds_toArray, List.set_cons_zero, List.set_cons_succ, List.getElem_toArray, List.getElem_cons_zero, List.getElem_cons_succ]
        refine wpAnyH_take (i := 5) (v := ?_) rfl (by kernel_rfl) (by kernel_rfl) (by kernel_rfl) (fun _ _ _ h => h) (Or.inl ⟨by rfl, ?_⟩) (by assumption) ?_
        rotate_left 1
        · (intro w' hSw; (try dsimp only at hSw); go_simp; try with_reducible rfl)
        try simp only [Act.put, List.setIfInBounds_toArray, List.set_cons_zero, List.set_cons_succ, List.getElem_toArray, List.getElem_cons_zero, List.getElem_cons_succ]
        refine wpAnyH_take (i := 6) (v := ?_) rfl (by kernel_rfl) (by kernel_rfl) (by kernel_rfl) (fun _ _ _ h => h) (Or.inl ⟨by rfl, ?_⟩) (by assumption) ?_
        rotate_left 1
        · (intro w' hSw; (try dsimp only at hSw); go_simp; try with_reducible rfl)
        try simp only [Act.put, List.setIfInBounds_toArray, List.set_cons_zero, List.set_cons_succ, List.getElem_toArray, List.getElem_cons_zero, List.getElem_cons_succ]
        refine wpAnyH_take (i := 7) (v := ?_) rfl (by kernel_rfl) (by kernel_rfl) (by kernel_rfl) (fun _ _ _ h => h) (Or.inl ⟨by rfl, ?_⟩) (by assumption) ?_
        rotate_left 1
        · (intro w' hSw; (try dsimp only at hSw); go_simp; try with_reducible rfl)
        try simp only [Act.put, List.setIfInBounds_toArray, List.set_cons_zero, List.set_cons_succ, List.getElem_toArray, List.getElem_cons_zero, List.getElem_cons_succ]
        refine wpAnyH_take (i := 8) (v := ?_) rfl (by kernel_rfl) (by kernel_rfl) (by kernel_rfl) (fun _ _ _ h => h) (Or.inl ⟨by rfl, ?_⟩) (by assumption) ?_
        rotate_left 1
        · (intro w' hSw; (try dsimp only at hSw); go_simp; try with_reducible rfl)
        try simp only [Act.put, List.setIfInBounds_toArray, List.set_cons_zero, List.set_cons_succ, List.getElem_toArray, List.getElem_cons_zero, List.getElem_cons_succ]
        refine wpAnyH_take (i := 9) (v := ?_) rfl (by kernel_rfl) (by kernel_rfl) (by kernel_rfl) (fun _ _ _ h => h) (Or.inl ⟨by rfl, ?_⟩) (by assumption) ?_
        rotate_left 1
        · (intro w' hSw; (try dsimp only at hSw); go_simp; try with_reducible rfl)
        try simp only [Act.put, List.setIfInBounds_toArray, List.set_cons_zero, List.set_cons_succ, List.getElem_toArray, List.getElem_cons_zero, List.getElem_cons_succ]
        refine wpAnyH_ready (rs := [10, 11]) (by kernel_rfl) (by simp) ?_
        refine AllReadyH.cons rfl (fun K hK => ?_) ?_
        · refine stepL_callN 60 #[.tmp 75, .tmp 80] #[62, 62] (by rfl) (by rfl) #[.agg #[.int .i64 (A ri).v.1, .int .i64 (A ri).v.2], .agg #[.int .i64 (D ci).v.1, .int .i64 (D ci).v.2]] (by simp only [List.map_toArray, List.map_cons, List.map_nil] <;> rfl) (run_go Tryz.func60 (by kernel_rfl) (by kernel_rfl) _ _) (ml_el (A ri) (D ci) _) ?_
          rintro e U1 ⟨he, kk⟩
          refine ⟨_, he, ?_⟩
          replace KW := hik (KW.out.trans kk)
          refine hK.out _ _ (SA.out _ KW.out) (fun hHeld => ?_)
          clear hK K
          try simp only [Act.put, List.setIfInBounds_toArray, List.set_cons_zero, List.set_cons_succ, List.getElem_toArray, List.getElem_cons_zero, List.getElem_cons_succ]
          clear he kk
          refine wpAnyH_ready (rs := [11]) (by kernel_rfl) (by simp) ?_
          refine AllReadyH.cons rfl (fun K hK => ?_) AllReadyH.nil
          simp only [List.getElem_toArray, List.getElem_cons_zero, List.getElem_cons_succ]
          go_simp
          have E8 : Hid (ElB (World.alloc U1 (.cells #[.int .i64 0, .int .i64 0] 62)) U1.heap.size El.zr) := hik (ElB.zero U1)
          have lq : W0.heap.size ≤ U1.heap.size := KW.out.size
          replace KW : Hid (Chg nob W0 (World.alloc U1 (.cells #[.int .i64 0, .int .i64 0] 62))) := hik (KW.out.alloc _)
          generalize hUA : (World.alloc U1 (.cells #[.int .i64 0, .int .i64 0] 62)) = UA1 at E8 KW ⊢
          clear hUA
          obtain ⟨g8, hgA⟩ : ∃ g, g = U1.heap.size := ⟨_, rfl⟩
          have lg8 : W0.heap.size ≤ g8 := by rw [hgA]; exact lq
          clear lq
          rw [← hgA] at E8 ⊢
          clear hgA
          refine hK.out _ _ (SA.out _ KW.out) (fun hHeld => ?_)
          clear hK K
          try simp only [Act.put, List.setIfInBounds_toArray, List.set_cons_zero, List.set_cons_succ, List.getElem_toArray, List.getElem_cons_zero, List.getElem_cons_succ]
          refine wpAnyH_ready (rs := [12]) (by kernel_rfl) (by simp) ?_
          refine AllReadyH.cons rfl (fun K hK => ?_) AllReadyH.nil
          have z0 := E8.out.c0
          have z1 := E8.out.c1
          have f0 := E8.out.fz 0
          have f1 := E8.out.fz 1
          have l7 := E8.out.lt
          have SS := SA.out _ KW.out
          have hlA : W2.heap.size + 1 < W0.heap.size := HYB.out.lt
          have hlE : wi.heap.size < W0.heap.size := World.block_lt_of_cell? _ _ e0
          simp only [List.getElem_toArray, List.getElem_cons_zero, List.getElem_cons_succ]
          go_simp
          refine hK.out _ _ ⟨look_two (by omega) (SS.1) 0 1 _ _, look_two (by omega) (SS.2.1) 0 1 _ _, look_two (by omega) (SS.2.2.1) 0 1 _ _, look_two (by omega) (SS.2.2.2.1) 0 1 _ _, look_two (by omega) (SS.2.2.2.2.1) 0 1 _ _, look_two (by omega) (SS.2.2.2.2.2) 0 1 _ _⟩ (fun hHeld => ?_)
          clear hK K
          try simp only [Act.put, List.setIfInBounds_toArray, List.set_cons_zero, List.set_cons_succ, List.getElem_toArray, List.getElem_cons_zero, List.getElem_cons_succ]
          clear z0 z1 f0 f1 l7 SS
          replace E8 := hik (E8.out.set (El.ml (A ri) (D ci)))
          replace KW := hik (chg2_at KW.out g8 (fun l => absurd l (by omega)) 0 1 (.int .i64 (El.ml (A ri) (D ci)).v.1) (.int .i64 (El.ml (A ri) (D ci)).v.2))
          generalize hUS : ((UA1.setCell ⟨g8, 0, none⟩ (.int .i64 (El.ml (A ri) (D ci)).v.1)).setCell ⟨g8, 1, none⟩ (.int .i64 (El.ml (A ri) (D ci)).v.2)) = US1 at E8 KW hHeld ⊢
          clear hUS
          refine wpAnyH_done (by kernel_rfl) ?_ _
          go_wp2_with fail
          go_meet
          exact ⟨g8, rfl, hik lg8, E8, KW⟩
        · refine AllReadyH.cons rfl (fun K hK => ?_) AllReadyH.nil
          simp only [List.getElem_toArray, List.getElem_cons_zero, List.getElem_cons_succ]
          go_simp
          have E8 : Hid (ElB (World.alloc W0 (.cells #[.int .i64 0, .int .i64 0] 62)).drew W0.heap.size El.zr) := hik (ElB.keep (ElB.zero W0) (Chg.refl nob _).drew1)
          have lq : W0.heap.size ≤ W0.heap.size := Nat.le_refl _
          replace KW : Hid (Chg nob W0 (World.alloc W0 (.cells #[.int .i64 0, .int .i64 0] 62)).drew) := hik (((Chg.refl nob W0).alloc _).drew1)
          generalize hUA : (World.alloc W0 (.cells #[.int .i64 0, .int .i64 0] 62)).drew = UA1 at E8 KW ⊢
          clear hUA
          obtain ⟨g8, hgA⟩ : ∃ g, g = W0.heap.size := ⟨_, rfl⟩
          have lg8 : W0.heap.size ≤ g8 := by rw [hgA]; exact lq
          clear lq
          rw [← hgA] at E8 ⊢
          clear hgA
          refine hK.out _ _ (SA.out _ KW.out) (fun hHeld => ?_)
          clear hK K
          try simp only [Act.put, List.setIfInBounds_toArray, List.set_cons_zero, List.set_cons_succ, List.getElem_toArray, List.getElem_cons_zero, List.getElem_cons_succ]
          refine wpAnyH_ready (rs := [10]) (by kernel_rfl) (by simp) ?_
          refine AllReadyH.cons rfl (fun K hK => ?_) AllReadyH.nil
          refine stepL_callN 60 #[.tmp 75, .tmp 80] #[62, 62] (by rfl) (by rfl) #[.agg #[.int .i64 (A ri).v.1, .int .i64 (A ri).v.2], .agg #[.int .i64 (D ci).v.1, .int .i64 (D ci).v.2]] (by simp only [List.map_toArray, List.map_cons, List.map_nil] <;> rfl) (run_go Tryz.func60 (by kernel_rfl) (by kernel_rfl) _ _) (ml_el (A ri) (D ci) _) ?_
          rintro e U1 ⟨he, kk⟩
          replace E8 := hik (E8.out.keep kk)
          refine ⟨_, he, ?_⟩
          replace KW := hik (KW.out.trans kk)
          refine hK.out _ _ (SA.out _ KW.out) (fun hHeld => ?_)
          clear hK K
          try simp only [Act.put, List.setIfInBounds_toArray, List.set_cons_zero, List.set_cons_succ, List.getElem_toArray, List.getElem_cons_zero, List.getElem_cons_succ]
          clear he kk
          refine wpAnyH_ready (rs := [12]) (by kernel_rfl) (by simp) ?_
          refine AllReadyH.cons rfl (fun K hK => ?_) AllReadyH.nil
          have z0 := E8.out.c0
          have z1 := E8.out.c1
          have f0 := E8.out.fz 0
          have f1 := E8.out.fz 1
          have l7 := E8.out.lt
          have SS := SA.out _ KW.out
          have hlA : W2.heap.size + 1 < W0.heap.size := HYB.out.lt
          have hlE : wi.heap.size < W0.heap.size := World.block_lt_of_cell? _ _ e0
          simp only [List.getElem_toArray, List.getElem_cons_zero, List.getElem_cons_succ]
          go_simp
          refine hK.out _ _ ⟨look_two (by omega) (SS.1) 0 1 _ _, look_two (by omega) (SS.2.1) 0 1 _ _, look_two (by omega) (SS.2.2.1) 0 1 _ _, look_two (by omega) (SS.2.2.2.1) 0 1 _ _, look_two (by omega) (SS.2.2.2.2.1) 0 1 _ _, look_two (by omega) (SS.2.2.2.2.2) 0 1 _ _⟩ (fun hHeld => ?_)
          clear hK K
          try simp only [Act.put, List.setIfInBounds_toArray, List.set_cons_zero, List.set_cons_succ, List.getElem_toArray, List.getElem_cons_zero, List.getElem_cons_succ]
          clear z0 z1 f0 f1 l7 SS
          replace E8 := hik (E8.out.set (El.ml (A ri) (D ci)))
          replace KW := hik (chg2_at KW.out g8 (fun l => absurd l (by omega)) 0 1 (.int .i64 (El.ml (A ri) (D ci)).v.1) (.int .i64 (El.ml (A ri) (D ci)).v.2))
          generalize hUS : ((U1.setCell ⟨g8, 0, none⟩ (.int .i64 (El.ml (A ri) (D ci)).v.1)).setCell ⟨g8, 1, none⟩ (.int .i64 (El.ml (A ri) (D ci)).v.2)) = US1 at E8 KW hHeld ⊢
          clear hUS
          refine wpAnyH_done (by kernel_rfl) ?_ _
          go_wp2_with fail
          go_meet
          exact ⟨g8, rfl, hik lg8, E8, KW⟩
      case rest =>
        obtain ⟨g8, rfl, HL, E8, KC⟩ := hcut
        rename World => W6
        clear p0 p1 q0 q1 e0 e1
        have hl8 := HL.out
        have hlA : W2.heap.size + 1 < W0.heap.size := HYB.out.lt
        have hlS : W4.heap.size < W0.heap.size := HE.out.lt
        replace HE := hik (HE.out.keep KC.out)
        replace HR := hik (HR.out.keep KC.out)
        replace HG := hik (HG.out.trans KC.out)
        replace HYA := hik (HYA.out.keep KC.out)
        replace HYB := hik (HYB.out.keep KC.out)
        have e2 := KC.out.see E2.out
        have s0 := HE.out.c0
        have s1 := HE.out.c1
        have r0 := E8.out.c0
        have r1 := E8.out.c1
        clear KC HL E2
        go_upto_region 13 with fail
        have KW := hik ((Chg.refl nob W6).drew1)
        have SA := hik (fun (WW : World) (kW : Chg nob W6 WW) => (show (WW.cell? ⟨W4.heap.size, 0, none⟩ = some (.int .i64 S.v.1) ∧ WW.cell? ⟨W4.heap.size, 1, none⟩ = some (.int .i64 S.v.2) ∧ WW.cell? ⟨g8, 0, none⟩ = some (.int .i64 (El.ml (A ri) (D ci)).v.1) ∧ WW.cell? ⟨g8, 1, none⟩ = some (.int .i64 (El.ml (A ri) (D ci)).v.2) ∧ WW.cell? ⟨wi.heap.size, 2, none⟩ = some (.int .i64 V.v.1)) from ⟨kW.see s0, kW.see s1, kW.see r0, kW.see r1, kW.see e2⟩))
        refine wp_regionL (L := 7) (S := fun w' => w'.cell? ⟨W4.heap.size, 0, none⟩ = some (.int .i64 S.v.1) ∧ w'.cell? ⟨W4.heap.size, 1, none⟩ = some (.int .i64 S.v.2) ∧ w'.cell? ⟨g8, 0, none⟩ = some (.int .i64 (El.ml (A ri) (D ci)).v.1) ∧ w'.cell? ⟨g8, 1, none⟩ = some (.int .i64 (El.ml (A ri) (D ci)).v.2) ∧ w'.cell? ⟨wi.heap.size, 2, none⟩ = some (.int .i64 V.v.1)) (by kernel_rfl) ⟨s0, s1, r0, r1, e2⟩ (fun hHeld => ?_)
        refine wpAnyL_take (i := 0) (v := ?_) rfl (by kernel_rfl) (by kernel_rfl) (by kernel_rfl) (fun _ _ _ h => h) (by rfl) (by kernel_rfl) (by kernel_rfl) (Or.inl ⟨by rfl, ?_⟩) (by assumption) ?_
        rotate_left 1
        · (intro w' hSw; (try dsimp only at hSw); go_simp; try with_reducible rfl)
        try simp only [Act.put, List.setIfInBounds_toArray, List.set_cons_zero, List.set_cons_succ, List.getElem_toArray, List.getElem_cons_zero, List.getElem_cons_succ]
        refine wpAnyL_take (i := 1) (v := ?_) rfl (by kernel_rfl) (by kernel_rfl) (by kernel_rfl) (fun _ _ _ h => h) (by rfl) (by kernel_rfl) (by kernel_rfl) (Or.inl ⟨by rfl, ?_⟩) (by assumption) ?_
        rotate_left 1
        · (intro w' hSw; (try dsimp only at hSw); go_simp; try with_reducible rfl)
        try simp only [Act.put, List.setIfInBounds_toArray, List.set_cons_zero, List.set_cons_succ, List.getElem_toArray, List.getElem_cons_zero, List.getElem_cons_succ]
        refine wpAnyL_take (i := 2) (v := ?_) rfl (by kernel_rfl) (by kernel_rfl) (by kernel_rfl) (fun _ _ _ h => h) (by rfl) (by kernel_rfl) (by kernel_rfl) (Or.inl ⟨by rfl, ?_⟩) (by assumption) ?_
        rotate_left 1
        · (intro w' hSw; (try dsimp only at hSw); go_simp; try with_reducible rfl)
        try simp only [Act.put, List.setIfInBounds_toArray, List.set_cons_zero, List.set_cons_succ, List.getElem_toArray, List.getElem_cons_zero, List.getElem_cons_succ]
        refine wpAnyL_take (i := 3) (v := ?_) rfl (by kernel_rfl) (by kernel_rfl) (by kernel_rfl) (fun _ _ _ h => h) (by rfl) (by kernel_rfl) (by kernel_rfl) (Or.inl ⟨by rfl, ?_⟩) (by assumption) ?_
        rotate_left 1
        · (intro w' hSw; (try dsimp only at hSw); go_simp; try with_reducible rfl)
        try simp only [Act.put, List.setIfInBounds_toArray, List.set_cons_zero, List.set_cons_succ, List.getElem_toArray, List.getElem_cons_zero, List.getElem_cons_succ]
        refine wpAnyL_take (i := 4) (v := ?_) rfl (by kernel_rfl) (by kernel_rfl) (by kernel_rfl) (fun _ _ _ h => h) (by rfl) (by kernel_rfl) (by kernel_rfl) (Or.inl ⟨by rfl, ?_⟩) (by assumption) ?_
        rotate_left 1
        · (intro w' hSw; (try dsimp only at hSw); go_simp; try with_reducible rfl)
        try simp only [Act.put, List.setIfInBounds_toArray, List.set_cons_zero, List.set_cons_succ, List.getElem_toArray, List.getElem_cons_zero, List.getElem_cons_succ]
        refine wpAnyL_ready (rs := [5]) (by kernel_rfl) (by simp) ?_
        refine AllReadyL.cons rfl (fun K hK => ?_) AllReadyL.nil
        refine stepL_callN 60 #[.tmp 83, .tmp 86] #[62, 62] (by rfl) (by rfl) #[.agg #[.int .i64 (El.ml (A ri) (D ci)).v.1, .int .i64 (El.ml (A ri) (D ci)).v.2], .agg #[.int .i64 V.v.1, .int .i64 0]] (by simp only [List.map_toArray, List.map_cons, List.map_nil] <;> rfl) (run_go Tryz.func60 (by kernel_rfl) (by kernel_rfl) _ _) (hml _) ?_
        rintro e U1 ⟨he, kk⟩
        refine ⟨_, he, ?_⟩
        replace KW := hik (KW.out.trans kk)
        refine hK.out _ _ (SA.out _ KW.out) (fun hHeld => ?_)
        clear hK K
        try simp only [Act.put, List.setIfInBounds_toArray, List.set_cons_zero, List.set_cons_succ, List.getElem_toArray, List.getElem_cons_zero, List.getElem_cons_succ]
        clear he kk
        refine wpAnyL_ready (rs := [6]) (by kernel_rfl) (by simp) ?_
        refine AllReadyL.cons rfl (fun K hK => ?_) AllReadyL.nil
        refine stepL_callN 61 #[.tmp 82, .tmp 87] #[62, 62] (by rfl) (by rfl) #[.agg #[.int .i64 S.v.1, .int .i64 S.v.2], .agg #[.int .i64 (El.ml (El.ml (A ri) (D ci)) V).v.1, .int .i64 (El.ml (El.ml (A ri) (D ci)) V).v.2]] (by simp only [List.map_toArray, List.map_cons, List.map_nil] <;> rfl) (run_go Tryz.func61 (by kernel_rfl) (by kernel_rfl) _ _) (ad_el S (El.ml (El.ml (A ri) (D ci)) V) _) ?_
        rintro e U2 ⟨he, kk⟩
        refine ⟨_, he, ?_⟩
        replace KW := hik (KW.out.trans kk)
        refine hK.out _ _ (SA.out _ KW.out) (fun hHeld => ?_)
        clear hK K
        try simp only [Act.put, List.setIfInBounds_toArray, List.set_cons_zero, List.set_cons_succ, List.getElem_toArray, List.getElem_cons_zero, List.getElem_cons_succ]
        clear he kk
        refine wpAnyL_ready (rs := [7]) (by kernel_rfl) (by simp) ?_
        refine AllReadyL.last rfl (by kernel_rfl) (fun K hK => ?_)
        have EN := hik (HE.out.keep KW.out)
        have g0 := EN.out.c0
        have g1 := EN.out.c1
        have f0 := EN.out.fz 0
        have f1 := EN.out.fz 1
        have ln : W4.heap.size < U2.heap.size := EN.out.lt
        simp only [List.getElem_toArray, List.getElem_cons_zero, List.getElem_cons_succ]
        go_simp
        refine hK.out _ _ ?_
        clear hK K
        try simp only [Act.put, List.setIfInBounds_toArray, List.set_cons_zero, List.set_cons_succ, List.getElem_toArray, List.getElem_cons_zero, List.getElem_cons_succ]
        clear g0 g1 f0 f1 ln
        refine wpAnyL_done (by kernel_rfl) ?_ _
        have EZ : Hid (ElB _ W4.heap.size (mte X A D (k + 1))) := hik (by rw [HST.out]; exact EN.out.set (El.ad S (El.ml (El.ml (A ri) (D ci)) V)))
        have RZ := hik (ElB.other (HR.out.keep KW.out) (g := W4.heap.size) (by omega) 0 1 (.int .i64 (El.ad S (El.ml (El.ml (A ri) (D ci)) V)).v.1) (.int .i64 (El.ad S (El.ml (El.ml (A ri) (D ci)) V)).v.2))
        have GZ := hik (chg2_at (HG.out.trans KW.out) W4.heap.size (fun l => absurd l (by omega)) 0 1 (.int .i64 (El.ad S (El.ml (El.ml (A ri) (D ci)) V)).v.1) (.int .i64 (El.ad S (El.ml (El.ml (A ri) (D ci)) V)).v.2))
        have AZ := hik (Cub.other (HYA.out.keep KW.out) (g := W4.heap.size) (by omega) 0 1 (.int .i64 (El.ad S (El.ml (El.ml (A ri) (D ci)) V)).v.1) (.int .i64 (El.ad S (El.ml (El.ml (A ri) (D ci)) V)).v.2))
        have BZ := hik (Cub.other (HYB.out.keep KW.out) (g := W4.heap.size) (by omega) 0 1 (.int .i64 (El.ad S (El.ml (El.ml (A ri) (D ci)) V)).v.1) (.int .i64 (El.ad S (El.ml (El.ml (A ri) (D ci)) V)).v.2))
        generalize hE : ((U2.setCell ⟨W4.heap.size, 0, none⟩ (.int .i64 (El.ad S (El.ml (El.ml (A ri) (D ci)) V)).v.1)).setCell ⟨W4.heap.size, 1, none⟩ (.int .i64 (El.ad S (El.ml (El.ml (A ri) (D ci)) V)).v.2)) = W7 at EZ RZ GZ AZ BZ ⊢
        clear hE EN KW SA hHeld e2 s0 s1 r0 r1 HE HR HG HYA HYB
        go_wp2
        go_roundw
        case rel => exact ⟨k + 1, by omega, by go_num, EZ, RZ, GZ, AZ, BZ⟩
        case measure => simp [intOf]; omega
    · obtain rfl : n = k := by omega
      have e0 := HE.out.c0
      have e1 := HE.out.c1
      have c0 : wi.cell? ⟨w.heap.size, 0, none⟩ = some (.int .i64 0) := HR.out.c0
      have c1 : wi.cell? ⟨w.heap.size, 1, none⟩ = some (.int .i64 0) := HR.out.c1
      have f0 := HR.out.fz 0
      have f1 := HR.out.fz 1
      go_wp2
      have u0 := (HR.out.set (mte X A D n)).c0
      have u1 := (HR.out.set (mte X A D n)).c1
      exact bodyPost_ret (v := .tuple #[.agg #[.int .i64 (mte X A D n).v.1, .int .i64 (mte X A D n).v.2], .int .i64 0]) (by simp [results, Tryz.results27, go_sem, u0, u1]) rfl ⟨by rw [HV.out], chg2_at HG.out w.heap.size (fun l => absurd l (by omega)) 0 1 (.int .i64 (mte X A D n).v.1) (.int .i64 (mte X A D n).v.2)⟩

end Go.Proofs.YtkpohajmcngjcaaGreatDoor

namespace Go.Proofs.YtkpohajmcngjcaaGreatDoor
open Go.ChangeShapes Go.WideShapes Go.ChangeAt Go.RowKit
set_option linter.unusedVariables false
set_option linter.unusedSimpArgs false

/-- The hash of a message. -/
def kh (z : Nat → Int) (n : Nat) : ByteArray := if 65536 < n then ⟨#[]⟩ else bt (lb (hst (pd z n) (n / 136 + 1))) 32
theorem run_load_all {P : Program} {w : World} {g n : Nat} {t e : TypeId} {f : Nat → Value} (hr : w.rowIs g t n f) (hu : P.underlying t = some (.array n e)) (hi : (P.info? t).map (·.size) = some n) :
    (Instr.loadAt t (.pointer (some ⟨g, 0, none⟩))).run P w = .ok (.agg (rowA n f)) w := by
  simp only [Instr.loadAt, Instr.sureAddr, Sem.run_bind, Sem.run_pure, Result.andThen]
  exact run_loadVar_row w g t t (rowA n f) (0, 0) (.array n e) (rowA_of hr) hu rfl (by rw [rowA_size]; exact hi)
theorem run_store_all {P : Program} {w : World} {g n : Nat} {t : TypeId} {f f0 : Nat → Value} (hr : w.rowIs g t n f0) (hi : (P.info? t).map (·.size) = some n) (h1 : ∀ i, i < n → (f i).oneCell' = true) :
    (Instr.storeAt t (.pointer (some ⟨g, 0, none⟩)) (.agg (rowA n f))).run P w = .ok () (w.setRow g (rowA n f)) := by
  simp only [Instr.storeAt, Instr.sureAddr, Sem.run_bind, Sem.run_pure, Result.andThen]
  refine run_storeVar_row w g t t (rowA n f0) (rowA n f) (rowA_of hr) (by rw [rowA_size]; exact hi) (by rw [rowA_size, rowA_size]) ?_
  rw [Array.all_eq_true_iff_forall_mem]
  intro v hv
  simp only [rowA, List.mem_toArray, List.mem_map, List.mem_range] at hv
  obtain ⟨i, hi, rfl⟩ := hv
  exact h1 i hi
theorem rowIs_setRow {w : World} {g n : Nat} {t : TypeId} {f f0 : Nat → Value} (hr : w.rowIs g t n f0) : (w.setRow g (rowA n f)).rowIs g t n f := rowIs_of (setRow_row (rowA_of hr) _)
theorem chg_setRow (w : World) (g : Nat) (c : Array Value) : Chg (fun b => b = g) w (w.setRow g c) :=
  ⟨rfl, rfl, rfl, by simp [World.setRow], fun k hk hp => by
    simp only [World.setRow, Array.getElem?_modify]
    rw [if_neg (fun e => hp e.symm)]⟩

/-- A whole state out of memory, into memory. -/
def loadLn (v : Value) : Sem Value := Instr.loadAt 171 v
def storeLn (v x : Value) : Sem Unit := Instr.storeAt 171 v x
theorem exec_loadLn (a : Act) (dst : Option Tmp) (x : Operand) (ty : TypeId) (pos : String) (after : Array Edge) (guard : Option (Nat × Bool)) :
    execOp a.eval { dst, op := .load 171 x, type := ty, pos, after, guard } = (do pure (.value (← loadLn (a.eval x)))) := rfl
theorem exec_storeLn (a : Act) (dst : Option Tmp) (x y : Operand) (ty : TypeId) (pos : String) (after : Array Edge) (guard : Option (Nat × Bool)) :
    execOp a.eval { dst, op := .store 171 x y, type := ty, pos, after, guard } = (do storeLn (a.eval x) (a.eval y); pure .skip) := rfl
attribute [local go_sem ↓] exec_loadLn exec_storeLn Go.wp_at_zero Go.wp_at_succ

theorem pd_mid (z : Nat → Int) (n j i : Nat) (h : 136 * j + i < n) : z (136 * j + i) = blk (pd z n) j i := by
  have := pn_gt n
  unfold blk pd pz
  rw [if_neg (by omega), if_pos h]

theorem lbz_B (z : Nat → Int) (j k i : Nat) (hz : isB z) (hk : k < 136) : 0 ≤ lbz (fun i => z (136 * j + i)) k i ∧ lbz (fun i => z (136 * j + i)) k i < 256 := by
  have h := hz (136 * j + i)
  unfold lbz
  dsimp only
  repeat' split
  all_goals omega

set_option maxRecDepth 100000 in
set_option maxHeartbeats 4000000 in
theorem keccak_any (c : Option Addr) (n cap : Nat) (z : Nat → Int) (w : World) (hv : Hid (RowV w c n (bb z))) (hz : Hid (isB z)) (ht : Hid (Tabs w)) (hn : n ≤ 1099511627776) (hcap : n ≤ cap) (hcm : (cap : Int) ≤ 9223372036854775807) :
    Calls Tryz.prog 119 #[.slice c n cap] w fun e w' => e = .returned (.string (bt (lb (hst (pd z n) (n / 136 + 1))) 32)) ∧ Chg nob w w' := by
  have HI := hik infoL
  have HP := hik (pd_B z n hz.out)
  go_enter Tryz.func119, Tryz.ntmps119
  go_wp2
  go_loopw [0] (fun v W => ∃ (j k cap' : Nat) (c' : Option Addr), n = 136 * j + k ∧ k ≤ cap' ∧ (cap' : Int) ≤ 9223372036854775807 ∧ v = .slice c' k cap' ∧ Hid (RowV w c' k (bb (fun i => z (136 * j + i)))) ∧ Hid (W.rowIs w.heap.size 171 25 (lv (hst (pd z n) j))) ∧ Hid (Chg nob w W)) (fun v _ => match v with | .slice _ k _ => k | _ => 0)
  case atStart => exact ⟨0, n, cap, c, by omega, hcap, hcm, rfl, hik (hv.out.congr (fun i _ => by unfold bb; simp)), hik (rowIs_at _ _ rfl 25 _ _ _ rfl), hik ((Chg.refl _ _).alloc _)⟩
  case round =>
    obtain ⟨j, k, cap', c', hnk, hkc, hcm', rfl, HV, HS, HG⟩ := hrel
    have HN := hik hnk
    by_cases hlt : 136 ≤ k
    · have hlt' : (136 : Int) ≤ (k : Int) := by omega
      have hkc' : (k : Int) ≤ (cap' : Int) := by omega
      have hc136 : (136 : Int) ≤ (cap' : Int) := by omega
      obtain ⟨xb, xo, rfl, hxb, hcell⟩ := HV.out.all (by omega)
      have HX := hik hcell
      clear hcell hnk
      have hld : (loadLn (.pointer (some ⟨w.heap.size, 0, none⟩))).run Tryz.prog wr.drew = .ok (.agg (rowA 25 (lv (hst (pd z n) j)))) wr.drew := run_load_all (P := Tryz.prog) (w := wr.drew) HS.out Tryz.underlying171 HI.out
      have hcv := convB (some ⟨xb, xo, none⟩) 136 cap' (fun i => z (136 * j + i)) wr.drew (RowV.keep (show RowV w (some ⟨xb, xo, none⟩) 136 _ from fun i hi => ⟨xb, xo, rfl, hxb, HX.out i (by omega)⟩) HG.out.drew1)
      go_wp2
      go_region_with (first | (go_at_call 129; refine (taking_any (hst (pd z n) j) (bt (fun i => z (136 * j + i)) 136) _ (by rw [bt_size]; omega)).mono ?_; rintro e W1 ⟨rfl, k1⟩; have G1 := hik (HG.out.drew1.trans k1); have S1 := hik (rowIs_keep HS.out.drew k1); clear k1) | (go_at_call 130; refine (permuted_any _ _ (hik (ht.out.keep G1.out))).mono ?_; rintro e W2 ⟨rfl, k2⟩; have G2 := hik (G1.out.trans k2); have S2 := hik (rowIs_keep S1.out k2); clear k2; have hst2 : (storeLn (.pointer (some ⟨w.heap.size, 0, none⟩)) (.agg (la (prm (tk (hst (pd z n) j) (zs (bt (fun i => z (136 * j + i)) 136)) (bt (fun i => z (136 * j + i)) 136).size) 24)))).run Tryz.prog W2 = .ok () (W2.setRow w.heap.size (la (prm (tk (hst (pd z n) j) (zs (bt (fun i => z (136 * j + i)) 136)) (bt (fun i => z (136 * j + i)) 136).size) 24))) := run_store_all (P := Tryz.prog) S2.out HI.out (fun i _ => lv_one _ i)))
      all_goals
        have HR := hik ((rowIs_setRow (f := lv (prm (tk (hst (pd z n) j) (zs (bt (fun i => z (136 * j + i)) 136)) (bt (fun i => z (136 * j + i)) 136).size) 24)) S2.out).congr (g := lv (hst (pd z n) (j + 1))) (fun i hi => by
          unfold lv
          rw [bt_size, hst_take (pd z n) HP.out j (zs (bt (fun i => z (136 * j + i)) 136)) (fun i hi => (bt_zs (fun i => z (136 * j + i)) 136 i hi (hz.out _).1 (hz.out _).2).trans (pd_mid z n j i (by have := HN.out; omega))) i hi]))
        have HG2 := hik (G2.out.near (chg_setRow W2 w.heap.size (la (prm (tk (hst (pd z n) j) (zs (bt (fun i => z (136 * j + i)) 136)) (bt (fun i => z (136 * j + i)) 136).size) 24))) (fun i e => by omega))
        clear hst2 S2 G2 S1 G1
        by_cases hq : cap' = 136
        · have hq' : (cap' : Int) = 136 := by omega
          have hk6 : k = 136 := by omega
          subst hk6
          subst hq
          go_wp2
          go_roundw
          case rel => exact ⟨j + 1, 0, 0, _, by have := HN.out; omega, by omega, by omega, rfl, hik (fun i hi => absurd hi (by omega)), HR, HG2⟩
          case measure => simp
        · have hq' : (136 : Int) < (cap' : Int) := by omega
          have hq2 : ¬ (cap' : Int) - 136 = 0 := by omega
          have hq3 : ¬ cap' - 136 = 0 := by omega
          go_wp2
          go_roundw
          case rel => exact ⟨j + 1, k - 136, cap' - 136, some ⟨xb, xo + 136, none⟩, by have := HN.out; omega, by omega, by omega, rfl, hik (fun i hi => ⟨xb, xo + 136, rfl, hxb, by
            have q := HX.out (136 + i) (by omega)
            rw [← Nat.add_assoc] at q
            rw [q]
            show some (Value.int .u8 (z (136 * j + (136 + i)))) = some (Value.int .u8 (z (136 * (j + 1) + i)))
            rw [show 136 * j + (136 + i) = 136 * (j + 1) + i by omega]⟩), HR, HG2⟩
          case measure => simp; omega
    · have hlt' : ¬ (136 : Int) ≤ (k : Int) := by omega
      have hj : j = n / 136 := by omega
      have hk : k = n - 136 * (n / 136) := by omega
      have HJ := hik hj
      have HKK := hik hk
      clear hnk hj hk
      have hld : (loadLn (.pointer (some ⟨w.heap.size, 0, none⟩))).run Tryz.prog wr.drew = .ok (.agg (rowA 25 (lv (hst (pd z n) j)))) wr.drew := run_load_all (P := Tryz.prog) (w := wr.drew) HS.out Tryz.underlying171 HI.out
      go_wp2
      go_region_with (first | (go_at_call 131; refine (lastBlock_any c' k cap' (fun i => z (136 * j + i)) _ (hik (HV.out.keep HG.out.drew1)) (by omega)).mono ?_; rintro e W1 ⟨rfl, k1⟩; have G1 := hik (HG.out.drew1.trans k1); have hld1 : (loadLn (.pointer (some ⟨w.heap.size, 0, none⟩))).run Tryz.prog W1 = .ok (.agg (rowA 25 (lv (hst (pd z n) j)))) W1 := run_load_all (P := Tryz.prog) (w := W1) (rowIs_keep HS.out.drew k1) Tryz.underlying171 HI.out; clear k1) | (go_at_call 129; refine (taking_any (hst (pd z n) j) (bt (lbz (fun i => z (136 * j + i)) k) 136) _ (by rw [bt_size]; omega)).mono ?_; rintro e W2 ⟨rfl, k2⟩; have G2 := hik (G1.out.trans k2); clear k2) | (go_at_call 130; refine (permuted_any _ _ (hik (ht.out.keep G2.out))).mono ?_; rintro e W3 ⟨rfl, k3⟩; have G3 := hik (G2.out.trans k3); clear k3) | (go_at_call 132; refine (firstBytes_any _ 32 _ (by omega)).mono ?_; rintro e W4 ⟨rfl, k4⟩; have G4 := hik (G3.out.trans k4); clear k4))
      all_goals
        go_wp2
        go_ret
        refine ⟨ret_of (congrArg Value.string ?_), G4.out⟩
        rw [bt_size]
        apply bt_congr
        intro i hi
        have hs := hst_take (pd z n) HP.out j (zs (bt (lbz (fun i => z (136 * j + i)) k) 136)) (fun i hi => (bt_zs (lbz (fun i => z (136 * j + i)) k) 136 i hi (lbz_B z j k i hz.out (by omega)).1 (lbz_B z j k i hz.out (by omega)).2).trans (by rw [HJ.out, HKK.out]; exact lbz_blk z n i hi))
        unfold lb by8
        rw [hs (i / 8) (by omega), HJ.out]

set_option maxHeartbeats 1000000 in
theorem keccak256_any (c : Option Addr) (n cap : Nat) (z : Nat → Int) (w : World) (hv : Hid (RowV w c n (bb z))) (hz : Hid (isB z)) (ht : Hid (Tabs w)) (hn : n ≤ 1099511627776) (hcap : n ≤ cap) (hcm : (cap : Int) ≤ 9223372036854775807) :
    Calls Tryz.prog 122 #[.slice c n cap] w fun e w' => e = .returned (.string (kh z n)) ∧ Chg nob w w' := by
  by_cases h1 : 65536 < n
  · have h1' : 65536 < (n : Int) := by omega
    have hp : kh z n = ⟨#[]⟩ := by unfold kh; rw [if_pos h1]
    rw [hp]
    go_enter Tryz.func122, Tryz.ntmps122
    go_wp2
    go_ret
    exact ⟨rfl, Chg.refl _ _⟩
  have h1' : ¬ 65536 < (n : Int) := by omega
  have hp : kh z n = bt (lb (hst (pd z n) (n / 136 + 1))) 32 := by unfold kh; rw [if_neg h1]
  rw [hp]
  clear hp h1
  go_enter Tryz.func122, Tryz.ntmps122
  go_wp2_with (go_at_call 119; refine (keccak_any c n cap z _ hv hz ht hn hcap hcm).mono ?_; rintro e W1 ⟨rfl, k1⟩)
  go_ret
  exact ⟨rfl, k1⟩

end Go.Proofs.YtkpohajmcngjcaaGreatDoor
