/- Several texts in one: What the model's tables of points answer: contracts. Conditions: elements of the greater field, rows that can be read, points of at most six elements. · What the model's matrix at two points answers: a contract. -/
import Derived.Test.YteokkgleahgcnaaBzap
import Derived.Test.YteokkgleahgcnaaBzae
import Derived.Test.YteokkgleahgcnaaBzar
import Derived.Test.YteokkgleahgcnaaElR
import Derived.Test.YteokkgleahgcnaaBzag
import Derived.Test.YteokkgleahgcnaaBzaa
namespace Go.Proofs.Yteokkgleahgcnaa
open Go.ChangeShapes Go.WideShapes Go.ChangeAt Go.RowKit
set_option linter.unusedVariables false
set_option maxRecDepth 100000
set_option linter.unusedSimpArgs false

set_option maxHeartbeats 1000000 in
theorem sOne_el (w : World) : Calls Try.prog 36 #[] w fun e w' => e = .returned (.agg #[.int .i64 El.on.v.1, .int .i64 El.on.v.2]) ∧ Chg nob w w' := by
  go_enter Try.func36, Try.ntmps36
  go_wp2_with fail
  refine (l02Of_any _ _).mono ?_
  rintro e W1 ⟨rfl, rfl⟩
  go_wp2
  exact bodyPost_ret (v := .agg #[.int .i64 1, .int .i64 0]) (by simp [results, Try.results36, go_sem]) rfl ⟨rfl, (by repeat (first | with_reducible exact Chg.refl _ _ | with_reducible refine Chg.alloc ?_ _ | with_reducible refine Chg.drewN ?_ _ | with_reducible refine Chg.drew ?_ | with_reducible refine Chg.setCell ?_ (fun l => absurd l (by dsimp only; omega)) _ | with_reducible refine Chg.trans ?_ (by assumption)))⟩

set_option maxHeartbeats 1000000 in
theorem sLess_el (x : El) (w : World) : Calls Try.prog 37 #[.agg #[.int .i64 x.v.1, .int .i64 x.v.2]] w fun e w' => e = .returned (.agg #[.int .i64 (El.sb El.on x).v.1, .int .i64 (El.sb El.on x).v.2]) ∧ Chg nob w w' := by
  go_enter Try.func37, Try.ntmps37
  go_wp2
  have x0 : ((w.alloc (.cells #[.int .i64 x.v.1, .int .i64 x.v.2] 27)).alloc (.cells #[.int .i64 0, .int .i64 0] 27)).cell? ⟨w.heap.size, 0, none⟩ = some (.int .i64 x.v.1) := by go_simp
  have x1 : ((w.alloc (.cells #[.int .i64 x.v.1, .int .i64 x.v.2] 27)).alloc (.cells #[.int .i64 0, .int .i64 0] 27)).cell? ⟨w.heap.size, 1, none⟩ = some (.int .i64 x.v.2) := by go_simp
  have R0 : Hid (((w.alloc (.cells #[.int .i64 x.v.1, .int .i64 x.v.2] 27)).alloc (.cells #[.int .i64 0, .int .i64 0] 27)).rowIs (w.heap.size + 1) 27 2 (pv2 (.int .i64 0) (.int .i64 0))) := hik (by simpa using row2_new (w.alloc (.cells #[.int .i64 x.v.1, .int .i64 x.v.2] 27)) (.int .i64 0) (.int .i64 0) 27)
  have KW := hik ((Chg.refl nob ((w.alloc (.cells #[.int .i64 x.v.1, .int .i64 x.v.2] 27)).alloc (.cells #[.int .i64 0, .int .i64 0] 27))).drew1)
  have SA := hik (fun (WW : World) (kW : Chg nob ((w.alloc (.cells #[.int .i64 x.v.1, .int .i64 x.v.2] 27)).alloc (.cells #[.int .i64 0, .int .i64 0] 27)) WW) => (show (WW.cell? ⟨w.heap.size, 0, none⟩ = some (.int .i64 x.v.1) ∧ WW.cell? ⟨w.heap.size, 1, none⟩ = some (.int .i64 x.v.2)) from ⟨kW.see x0, kW.see x1⟩))
  refine wp_region_held_drew (S := fun w' => w'.cell? ⟨w.heap.size, 0, none⟩ = some (.int .i64 x.v.1) ∧ w'.cell? ⟨w.heap.size, 1, none⟩ = some (.int .i64 x.v.2)) (by kernel_rfl) ⟨x0, x1⟩ (fun hHeld => ?_)
  refine wpAnyH_take (i := 1) (v := ?_) rfl (by kernel_rfl) (by kernel_rfl) (by kernel_rfl) (fun _ _ _ h => h) (Or.inl ⟨by rfl, ?_⟩) (by assumption) ?_
  rotate_left 1
  · (intro w' hSw; (try dsimp only at hSw); go_simp; try with_reducible rfl)
  try simp only [Act.put, List.setIfInBounds_toArray, List.set_cons_zero, List.set_cons_succ, List.getElem_toArray, List.getElem_cons_zero, List.getElem_cons_succ]
  refine wpAnyH_ready (rs := [0]) (by kernel_rfl) (by simp) ?_
  refine AllReadyH.cons rfl (fun K hK => ?_) AllReadyH.nil
  refine stepL_callN 36 #[] #[] (by rfl) (by rfl) #[] (by simp only [List.map_toArray, List.map_cons, List.map_nil] <;> rfl) (run_go Try.func36 (by kernel_rfl) (by kernel_rfl) _ _) (sOne_el _) ?_
  rintro e U1 ⟨he, kk⟩
  refine ⟨_, he, ?_⟩
  replace KW := hik (KW.out.trans kk)
  refine hK.out _ _ (SA.out _ KW.out) (fun hHeld => ?_)
  clear hK K
  try simp only [Act.put, List.setIfInBounds_toArray, List.set_cons_zero, List.set_cons_succ, List.getElem_toArray, List.getElem_cons_zero, List.getElem_cons_succ]
  clear he kk
  refine wpAnyH_ready (rs := [2]) (by kernel_rfl) (by simp) ?_
  refine AllReadyH.cons rfl (fun K hK => ?_) AllReadyH.nil
  refine stepL_callN 44 #[.tmp 3, .tmp 4] #[27, 27] (by rfl) (by rfl) #[.agg #[.int .i64 El.on.v.1, .int .i64 El.on.v.2], .agg #[.int .i64 x.v.1, .int .i64 x.v.2]] (by simp only [List.map_toArray, List.map_cons, List.map_nil] <;> rfl) (run_go Try.func44 (by kernel_rfl) (by kernel_rfl) _ _) (sSb_el El.on x _) ?_
  rintro e U2 ⟨he, kk⟩
  refine ⟨_, he, ?_⟩
  replace KW := hik (KW.out.trans kk)
  refine hK.out _ _ (SA.out _ KW.out) (fun hHeld => ?_)
  clear hK K
  try simp only [Act.put, List.setIfInBounds_toArray, List.set_cons_zero, List.set_cons_succ, List.getElem_toArray, List.getElem_cons_zero, List.getElem_cons_succ]
  clear he kk
  refine wpAnyH_ready (rs := [3]) (by kernel_rfl) (by simp) ?_
  refine AllReadyH.cons rfl (fun K hK => ?_) AllReadyH.nil
  have R1 := hik (rowIs_keep R0.out KW.out)
  have l1 : w.heap.size + 1 < U2.heap.size := R1.out.lt
  have y0 := R1.out.cell (i := 0) (by omega)
  have y1 := R1.out.cell (i := 1) (by omega)
  have f0 := R1.out.frozen 0
  have f1 := R1.out.frozen 1
  simp only [List.getElem_toArray, List.getElem_cons_zero, List.getElem_cons_succ]
  go_simp
  refine hK.out _ _ ⟨look_two (by omega) (SA.out _ KW.out).1 0 1 _ _, look_two (by omega) (SA.out _ KW.out).2 0 1 _ _⟩ (fun hHeld => ?_)
  clear hK K
  try simp only [Act.put, List.setIfInBounds_toArray, List.set_cons_zero, List.set_cons_succ, List.getElem_toArray, List.getElem_cons_zero, List.getElem_cons_succ]
  refine wpAnyH_done (by kernel_rfl) ?_ _
  go_wp2
  have R2 := hik (row2_set R1.out (.int .i64 (El.sb El.on x).v.1) (.int .i64 (El.sb El.on x).v.2))
  have u0 : ((U2.setCell ⟨w.heap.size + 1, 0, none⟩ (.int .i64 (El.sb El.on x).v.1)).setCell ⟨w.heap.size + 1, 1, none⟩ (.int .i64 (El.sb El.on x).v.2)).cell? ⟨w.heap.size + 1, 0, none⟩ = some (.int .i64 (El.sb El.on x).v.1) := R2.out.cell (by omega)
  have u1 : ((U2.setCell ⟨w.heap.size + 1, 0, none⟩ (.int .i64 (El.sb El.on x).v.1)).setCell ⟨w.heap.size + 1, 1, none⟩ (.int .i64 (El.sb El.on x).v.2)).cell? ⟨w.heap.size + 1, 1, none⟩ = some (.int .i64 (El.sb El.on x).v.2) := R2.out.cell (by omega)
  exact bodyPost_ret (v := .agg #[.int .i64 (El.sb El.on x).v.1, .int .i64 (El.sb El.on x).v.2]) (by simp [results, Try.results37, go_sem, u0, u1]) rfl ⟨rfl, chg2_at (((((Chg.refl nob w).alloc _).alloc _)).trans KW.out) _ (fun l => absurd l (by simp)) _ _ _ _⟩

/-- A table half way to the next: the first k of each half. -/
def nxt (t : Nat → El) (r : El) (N k i : Nat) : El := if i < N then (if i < k then El.ml (t i) (El.sb El.on r) else El.zr) else (if i < N + k then El.ml (t (i - N)) r else El.zr)
theorem nxt_zero (t : Nat → El) (r : El) (N i : Nat) : nxt t r N 0 i = El.zr := by
  unfold nxt
  by_cases h : i < N
  · rw [if_pos h, if_neg (by omega)]
  · rw [if_neg h, if_neg (by omega)]
theorem nxt_step (t : Nat → El) (r : El) {N k : Nat} (hk : k < N) (i : Nat) : upE (upE (nxt t r N k) k (El.ml (t k) (El.sb El.on r))) (k + N) (El.ml (t k) r) i = nxt t r N (k + 1) i := by
  unfold upE nxt
  by_cases e1 : i = k + N
  · subst e1
    rw [if_pos rfl, if_neg (by omega), if_pos (by omega), show k + N - N = k by omega]
  · rw [if_neg e1]
    by_cases e2 : i = k
    · subst e2
      rw [if_pos rfl, if_pos hk, if_pos (by omega)]
    · rw [if_neg e2]
      by_cases h : i < N
      · rw [if_pos h, if_pos h]
        by_cases h2 : i < k
        · rw [if_pos h2, if_pos (by omega)]
        · rw [if_neg h2, if_neg (by omega)]
      · rw [if_neg h, if_neg h]
        by_cases h2 : i < N + k
        · rw [if_pos h2, if_pos (by omega)]
        · rw [if_neg h2, if_neg (by omega)]
theorem nxt_all (p : Nat → El) (j : Nat) {i : Nat} (hi : i < 2 * 2 ^ j) : nxt (El.eqp p j) (p j) (2 ^ j) (2 ^ j) i = El.eqp p (j + 1) i := by
  unfold nxt
  by_cases h : i < 2 ^ j
  · rw [if_pos h, if_pos h, El.eqp_lo h]
  · rw [if_neg h, if_pos (by omega)]
    have e := El.eqp_hi (p := p) (n := j) (i := i - 2 ^ j) (by omega)
    rw [show 2 ^ j + (i - 2 ^ j) = i by omega] at e
    exact e.symm
/-- A table of a call's own. -/
def TbAns (w : World) (n : Nat) (t : Nat → El) (e : Ending) (w' : World) : Prop :=
  ∃ b : Nat, e = .returned (.slice (some ⟨b, 0, none⟩) n n) ∧ w.heap.size ≤ b ∧ RowE w' b n t ∧ Chg nob w w'

set_option maxHeartbeats 2000000 in
theorem sEq_any (c : Option Addr) (n cap : Nat) (p : Nat → El) (w : World) (h : Hid (PairE w c n p)) (hn : n ≤ 6) : Calls Try.prog 27 #[.slice c n cap] w fun e w' => TbAns w (2 ^ n) (El.eqp p n) e w' := by
  obtain ⟨i0, hi, hz0, hz1, hz2⟩ := info_parts infoExt
  have HI := hik hi
  have HZ0 := hik hz0
  have HZ1 := hik hz1
  have HZ2 := hik hz2
  clear hi hz0 hz1 hz2
  go_enter Try.func27, Try.ntmps27
  go_wp2_with fail
  refine (sOne_el _).mono ?_
  rintro e W1 ⟨rfl, k1⟩
  have G := hik k1
  clear k1
  go_wp2
  go_loopw [3, 4] (fun o i W => ∃ (k N b : Nat), k ≤ n ∧ i = .int .i64 k ∧ o = .slice (some ⟨b, 0, none⟩) N N ∧ Hid (N = 2 ^ k) ∧ Hid (w.heap.size ≤ b) ∧ Hid (RowE W b N (El.eqp p k)) ∧ Hid (Chg nob w W)) (fun o i _ => n - (intOf i).toNat)
  case atStart => exact ⟨0, 1, W1.heap.size, Nat.zero_le _, rfl, rfl, hik rfl, hik G.out.size, hik (World.rowIs.congr (row2_new W1 _ _ _) (fun i hi => by rcases (by omega : i = 0 ∨ i = 1) with rfl | rfl <;> rfl)), hik (G.out.alloc _)⟩
  case round =>
    clear G
    obtain ⟨j, N, b, hj, rfl, rfl, HN, HBb, HR, HC⟩ := hrel
    rename World => wo
    have hN6 : N ≤ 64 := by rw [HN.out]; exact Nat.le_trans (Nat.pow_le_pow_right (by omega) (show j ≤ 6 by omega)) (by decide)
    by_cases hlt : j < n
    · have hlt' : (j : Int) < (n : Int) := by omega
      have hj0 : (0 : Int) ≤ (j : Int) := by omega
      obtain ⟨xb, xo, ec, hxb, _, _⟩ := PairE.at_ (PairE.keep h.out HC.out) hlt
      subst ec
      have HXB := hik hxb
      clear hxb
      have hb16 : i0.bytes * (2 * N) ≤ 281474976710656 := by rw [HZ2.out]; omega
      go_wp2_with (at_make; refine wpList_make_pairs _ rfl (.tmp 17) (.tmp 17) 32 rfl 27 i0 Try.underlying32 HI.out HZ0.out HZ1.out .i64 .i64 _ _ (2 * N) rfl rfl (by omega) (by omega) hb16 (by omega) ?_)
      intro W2 hr2 hk2
      have R2 := hik (show RowE W2 wo.heap.size (2 * N) (nxt (El.eqp p j) (p j) N 0) from World.rowIs.congr hr2 (fun i _ => by unfold pf cA cB; rw [nxt_zero]; split <;> rfl))
      have K2 := hik hk2
      have L2 := hik (show b < wo.heap.size from RowE.lt HR.out)
      have P2 := hik (HC.out.trans hk2)
      clear hr2 hk2 hb16
      go_wp2
      go_loopw [6] (fun i W => ∃ k : Nat, k ≤ N ∧ i = .int .i64 k ∧ Hid (RowE W wo.heap.size (2 * N) (nxt (El.eqp p j) (p j) N k)) ∧ Hid (RowE W b N (El.eqp p j)) ∧ Hid (Chg nob w W)) (fun i _ => N - (intOf i).toNat)
      case atStart => exact ⟨0, Nat.zero_le _, rfl, R2, hik (RowE.keep HR.out K2.out), P2⟩
      case round =>
        clear R2 K2 P2
        obtain ⟨k, hk, rfl, RI, QI, GI⟩ := hrel
        rename World => wi
        by_cases hkl : k < N
        · have hk0 : (0 : Int) ≤ (k : Int) := by omega
          have hk1 : (k : Int) < (N : Int) := by omega
          have hk2 : (k : Int) < 2 * (N : Int) := by omega
          obtain ⟨q, hq⟩ : ∃ q, q = k + N := ⟨_, rfl⟩
          have HQ := hik hq
          have hq0 : (0 : Int) ≤ (q : Int) := by omega
          have hq2 : (q : Int) < 2 * (N : Int) := by omega
          have hwq : IntKind.i64.wrap ((k : Int) + (N : Int)) = (q : Int) := by rw [IntKind.wrap_i64]; omega
          have hxb : xb < wi.heap.size := by have := HXB.out; have := RowE.lt RI.out; omega
          have hbl : b < wi.heap.size := RowE.lt QI.out
          have hnl : wo.heap.size < wi.heap.size := RowE.lt RI.out
          have hne1 : xb ≠ wo.heap.size := by have := HXB.out; omega
          have hne2 : b ≠ wo.heap.size := by have := L2.out; omega
          clear hq
          have o0 := RowE.c0 QI.out hkl
          have o1 := RowE.c1 QI.out hkl
          have p0 := PairE.c0 (PairE.keep h.out GI.out) hlt
          have p1 := PairE.c1 (PairE.keep h.out GI.out) hlt
          go_wp2
          have KW := hik ((Chg.refl nob wi).drew1)
          have SA := hik (fun (WW : World) (kW : Chg nob wi WW) => (show (WW.cell? ⟨b, k * 2, none⟩ = some (.int .i64 (El.eqp p j k).v.1) ∧ WW.cell? ⟨b, k * 2 + 1, none⟩ = some (.int .i64 (El.eqp p j k).v.2) ∧ WW.cell? ⟨xb, xo + j * 2, none⟩ = some (.int .i64 (p j).v.1) ∧ WW.cell? ⟨xb, xo + j * 2 + 1, none⟩ = some (.int .i64 (p j).v.2)) from ⟨kW.see o0, kW.see o1, kW.see p0, kW.see p1⟩))
          refine wp_region_held_drew (S := fun w' => w'.cell? ⟨b, k * 2, none⟩ = some (.int .i64 (El.eqp p j k).v.1) ∧ w'.cell? ⟨b, k * 2 + 1, none⟩ = some (.int .i64 (El.eqp p j k).v.2) ∧ w'.cell? ⟨xb, xo + j * 2, none⟩ = some (.int .i64 (p j).v.1) ∧ w'.cell? ⟨xb, xo + j * 2 + 1, none⟩ = some (.int .i64 (p j).v.2)) (by kernel_rfl) ⟨o0, o1, p0, p1⟩ (fun hHeld => ?_)
          refine wpAnyH_take (i := 0) (v := ?_) rfl (by kernel_rfl) (by kernel_rfl) (by kernel_rfl) (fun _ _ _ h => h) (Or.inl ⟨by rfl, ?_⟩) (by assumption) ?_
          rotate_left 1
          · (intro w' hSw; (try dsimp only at hSw); go_simp; try with_reducible rfl)
          try simp only [Act.put, List.setIfInBounds_toArray, List.set_cons_zero, List.set_cons_succ, List.getElem_toArray, List.getElem_cons_zero, List.getElem_cons_succ]
          refine wpAnyH_take (i := 1) (v := ?_) rfl (by kernel_rfl) (by kernel_rfl) (by kernel_rfl) (fun _ _ _ h => h) (Or.inl ⟨by rfl, ?_⟩) (by assumption) ?_
          rotate_left 1
          · (intro w' hSw; (try dsimp only at hSw); go_simp; try with_reducible rfl)
          try simp only [Act.put, List.setIfInBounds_toArray, List.set_cons_zero, List.set_cons_succ, List.getElem_toArray, List.getElem_cons_zero, List.getElem_cons_succ]
          refine wpAnyH_take (i := 2) (v := ?_) rfl (by kernel_rfl) (by kernel_rfl) (by kernel_rfl) (fun _ _ _ h => h) (Or.inl ⟨by rfl, ?_⟩) (by assumption) ?_
          rotate_left 1
          · (intro w' hSw; (try dsimp only at hSw); go_simp; try with_reducible rfl)
          try simp only [Act.put, List.setIfInBounds_toArray, List.set_cons_zero, List.set_cons_succ, List.getElem_toArray, List.getElem_cons_zero, List.getElem_cons_succ]
          refine wpAnyH_take (i := 3) (v := ?_) rfl (by kernel_rfl) (by kernel_rfl) (by kernel_rfl) (fun _ _ _ h => h) (Or.inl ⟨by rfl, ?_⟩) (by assumption) ?_
          rotate_left 1
          · (intro w' hSw; (try dsimp only at hSw); go_simp; try with_reducible rfl)
          try simp only [Act.put, List.setIfInBounds_toArray, List.set_cons_zero, List.set_cons_succ, List.getElem_toArray, List.getElem_cons_zero, List.getElem_cons_succ]
          refine wpAnyH_take (i := 4) (v := ?_) rfl (by kernel_rfl) (by kernel_rfl) (by kernel_rfl) (fun _ _ _ h => h) (Or.inl ⟨by rfl, ?_⟩) (by assumption) ?_
          rotate_left 1
          · (intro w' hSw; (try dsimp only at hSw); go_simp; try with_reducible rfl)
          try simp only [Act.put, List.setIfInBounds_toArray, List.set_cons_zero, List.set_cons_succ, List.getElem_toArray, List.getElem_cons_zero, List.getElem_cons_succ]
          refine wpAnyH_take (i := 5) (v := ?_) rfl (by kernel_rfl) (by kernel_rfl) (by kernel_rfl) (fun _ _ _ h => h) (Or.inl ⟨by rfl, ?_⟩) (by assumption) ?_
          rotate_left 1
          · (intro w' hSw; (try dsimp only at hSw); go_simp; try with_reducible rfl)
          try simp only [Act.put, List.setIfInBounds_toArray, List.set_cons_zero, List.set_cons_succ, List.getElem_toArray, List.getElem_cons_zero, List.getElem_cons_succ]
          refine wpAnyH_take (i := 6) (v := ?_) rfl (by kernel_rfl) (by kernel_rfl) (by kernel_rfl) (fun _ _ _ h => h) (Or.inl ⟨by rfl, ?_⟩) (by assumption) ?_
          rotate_left 1
          · (intro w' hSw; (try dsimp only at hSw); go_simp; try with_reducible rfl)
          try simp only [Act.put, List.setIfInBounds_toArray, List.set_cons_zero, List.set_cons_succ, List.getElem_toArray, List.getElem_cons_zero, List.getElem_cons_succ]
          refine wpAnyH_take (i := 7) (v := ?_) rfl (by kernel_rfl) (by kernel_rfl) (by kernel_rfl) (fun _ _ _ h => h) (Or.inl ⟨by rfl, ?_⟩) (by assumption) ?_
          rotate_left 1
          · (intro w' hSw; (try dsimp only at hSw); go_simp; try with_reducible rfl)
          try simp only [Act.put, List.setIfInBounds_toArray, List.set_cons_zero, List.set_cons_succ, List.getElem_toArray, List.getElem_cons_zero, List.getElem_cons_succ]
          refine wpAnyH_take (i := 8) (v := ?_) rfl (by kernel_rfl) (by kernel_rfl) (by kernel_rfl) (fun _ _ _ h => h) (Or.inl ⟨by rfl, ?_⟩) (by assumption) ?_
          rotate_left 1
          · (intro w' hSw; (try dsimp only at hSw); go_simp; try with_reducible rfl)
          try simp only [Act.put, List.setIfInBounds_toArray, List.set_cons_zero, List.set_cons_succ, List.getElem_toArray, List.getElem_cons_zero, List.getElem_cons_succ]
          refine wpAnyH_take (i := 9) (v := ?_) rfl (by kernel_rfl) (by kernel_rfl) (by kernel_rfl) (fun _ _ _ h => h) (Or.inl ⟨by rfl, ?_⟩) (by assumption) ?_
          rotate_left 1
          · (intro w' hSw; (try dsimp only at hSw); go_simp; try with_reducible rfl)
          try simp only [Act.put, List.setIfInBounds_toArray, List.set_cons_zero, List.set_cons_succ, List.getElem_toArray, List.getElem_cons_zero, List.getElem_cons_succ]
          refine wpAnyH_ready (rs := [10]) (by kernel_rfl) (by simp) ?_
          refine AllReadyH.cons rfl (fun K hK => ?_) AllReadyH.nil
          refine stepL_callN 37 #[.tmp 34] #[27] (by rfl) (by rfl) #[.agg #[.int .i64 (p j).v.1, .int .i64 (p j).v.2]] (by simp only [List.map_toArray, List.map_cons, List.map_nil] <;> rfl) (run_go Try.func37 (by kernel_rfl) (by kernel_rfl) _ _) (sLess_el (p j) _) ?_
          rintro e U1 ⟨he, kk⟩
          refine ⟨_, he, ?_⟩
          replace KW := hik (KW.out.trans kk)
          refine hK.out _ _ (SA.out _ KW.out) (fun hHeld => ?_)
          clear hK K
          try simp only [Act.put, List.setIfInBounds_toArray, List.set_cons_zero, List.set_cons_succ, List.getElem_toArray, List.getElem_cons_zero, List.getElem_cons_succ]
          clear he kk
          refine wpAnyH_ready (rs := [11]) (by kernel_rfl) (by simp) ?_
          refine AllReadyH.cons rfl (fun K hK => ?_) AllReadyH.nil
          refine stepL_callN 29 #[.tmp 30, .tmp 35] #[27, 27] (by rfl) (by rfl) #[.agg #[.int .i64 (El.eqp p j k).v.1, .int .i64 (El.eqp p j k).v.2], .agg #[.int .i64 (El.sb El.on (p j)).v.1, .int .i64 (El.sb El.on (p j)).v.2]] (by simp only [List.map_toArray, List.map_cons, List.map_nil] <;> rfl) (run_go Try.func29 (by kernel_rfl) (by kernel_rfl) _ _) (sMl_el (El.eqp p j k) (El.sb El.on (p j)) _) ?_
          rintro e U2 ⟨he, kk⟩
          refine ⟨_, he, ?_⟩
          replace KW := hik (KW.out.trans kk)
          refine hK.out _ _ (SA.out _ KW.out) (fun hHeld => ?_)
          clear hK K
          try simp only [Act.put, List.setIfInBounds_toArray, List.set_cons_zero, List.set_cons_succ, List.getElem_toArray, List.getElem_cons_zero, List.getElem_cons_succ]
          clear he kk
          refine wpAnyH_take (i := 12) (v := ?_) rfl (by kernel_rfl) (by kernel_rfl) (by kernel_rfl) (fun _ _ _ h => h) (Or.inl ⟨by rfl, ?_⟩) (by assumption) ?_
          rotate_left 1
          · (intro w' hSw; (try dsimp only at hSw); go_simp; try with_reducible rfl)
          try simp only [Act.put, List.setIfInBounds_toArray, List.set_cons_zero, List.set_cons_succ, List.getElem_toArray, List.getElem_cons_zero, List.getElem_cons_succ]
          refine wpAnyH_ready (rs := [13]) (by kernel_rfl) (by simp) ?_
          refine AllReadyH.cons rfl (fun K hK => ?_) AllReadyH.nil
          have RN := hik (RowE.keep RI.out KW.out)
          have g0 := RowE.c0 RN.out (i := k) (by omega)
          have g1 := RowE.c1 RN.out (i := k) (by omega)
          have f0 := World.rowIs.frozen RN.out (k * 2)
          have f1 := World.rowIs.frozen RN.out (k * 2 + 1)
          have ln : wo.heap.size < U2.heap.size := RowE.lt RN.out
          simp only [List.getElem_toArray, List.getElem_cons_zero, List.getElem_cons_succ]
          go_simp
          refine hK.out _ _ ⟨look_two hne2 (SA.out _ KW.out).1 _ _ _ _, look_two hne2 (SA.out _ KW.out).2.1 _ _ _ _, look_two hne1 (SA.out _ KW.out).2.2.1 _ _ _ _, look_two hne1 (SA.out _ KW.out).2.2.2 _ _ _ _⟩ (fun hHeld => ?_)
          clear hK K
          try simp only [Act.put, List.setIfInBounds_toArray, List.set_cons_zero, List.set_cons_succ, List.getElem_toArray, List.getElem_cons_zero, List.getElem_cons_succ]
          clear g0 g1 f0 f1 ln
          refine wpAnyH_done (by kernel_rfl) ?_ _
          have R9 := hik (RowE.set RN.out k (El.ml (El.eqp p j k) (El.sb El.on (p j))))
          have Q9 := hik (RowE.other (RowE.keep QI.out KW.out) hne2 (k * 2) (k * 2 + 1) (.int .i64 (El.ml (El.eqp p j k) (El.sb El.on (p j))).v.1) (.int .i64 (El.ml (El.eqp p j k) (El.sb El.on (p j))).v.2))
          have G9 := hik (chg2_at (GI.out.trans KW.out) wo.heap.size (fun l => absurd l (by have := HBb.out; have := L2.out; omega)) (k * 2) (k * 2 + 1) (.int .i64 (El.ml (El.eqp p j k) (El.sb El.on (p j))).v.1) (.int .i64 (El.ml (El.eqp p j k) (El.sb El.on (p j))).v.2))
          generalize hE9 : ((U2.setCell ⟨wo.heap.size, k * 2, none⟩ (.int .i64 (El.ml (El.eqp p j k) (El.sb El.on (p j))).v.1)).setCell ⟨wo.heap.size, k * 2 + 1, none⟩ (.int .i64 (El.ml (El.eqp p j k) (El.sb El.on (p j))).v.2)) = W9 at R9 Q9 G9 ⊢
          clear hE9 RN KW SA hHeld o0 o1 p0 p1
          clear RI QI GI hxb hbl hnl
          have hxb : xb < W9.heap.size := by have := HXB.out; have := RowE.lt R9.out; omega
          have hbl : b < W9.heap.size := RowE.lt Q9.out
          have hnl : wo.heap.size < W9.heap.size := RowE.lt R9.out
          have o0 := RowE.c0 Q9.out hkl
          have o1 := RowE.c1 Q9.out hkl
          have p0 := PairE.c0 (PairE.keep h.out G9.out) hlt
          have p1 := PairE.c1 (PairE.keep h.out G9.out) hlt
          go_wp2
          have KW := hik ((Chg.refl nob W9).drew1)
          have SA := hik (fun (WW : World) (kW : Chg nob W9 WW) => (show (WW.cell? ⟨b, k * 2, none⟩ = some (.int .i64 (El.eqp p j k).v.1) ∧ WW.cell? ⟨b, k * 2 + 1, none⟩ = some (.int .i64 (El.eqp p j k).v.2) ∧ WW.cell? ⟨xb, xo + j * 2, none⟩ = some (.int .i64 (p j).v.1) ∧ WW.cell? ⟨xb, xo + j * 2 + 1, none⟩ = some (.int .i64 (p j).v.2)) from ⟨kW.see o0, kW.see o1, kW.see p0, kW.see p1⟩))
          refine wp_region_held_drew (S := fun w' => w'.cell? ⟨b, k * 2, none⟩ = some (.int .i64 (El.eqp p j k).v.1) ∧ w'.cell? ⟨b, k * 2 + 1, none⟩ = some (.int .i64 (El.eqp p j k).v.2) ∧ w'.cell? ⟨xb, xo + j * 2, none⟩ = some (.int .i64 (p j).v.1) ∧ w'.cell? ⟨xb, xo + j * 2 + 1, none⟩ = some (.int .i64 (p j).v.2)) (by kernel_rfl) ⟨o0, o1, p0, p1⟩ (fun hHeld => ?_)
          refine wpAnyH_take (i := 0) (v := ?_) rfl (by kernel_rfl) (by kernel_rfl) (by kernel_rfl) (fun _ _ _ h => h) (Or.inl ⟨by rfl, ?_⟩) (by assumption) ?_
          rotate_left 1
          · (intro w' hSw; (try dsimp only at hSw); go_simp; try with_reducible rfl)
          try simp only [Act.put, List.setIfInBounds_toArray, List.set_cons_zero, List.set_cons_succ, List.getElem_toArray, List.getElem_cons_zero, List.getElem_cons_succ]
          refine wpAnyH_take (i := 1) (v := ?_) rfl (by kernel_rfl) (by kernel_rfl) (by kernel_rfl) (fun _ _ _ h => h) (Or.inl ⟨by rfl, ?_⟩) (by assumption) ?_
          rotate_left 1
          · (intro w' hSw; (try dsimp only at hSw); go_simp; try with_reducible rfl)
          try simp only [Act.put, List.setIfInBounds_toArray, List.set_cons_zero, List.set_cons_succ, List.getElem_toArray, List.getElem_cons_zero, List.getElem_cons_succ]
          refine wpAnyH_take (i := 2) (v := ?_) rfl (by kernel_rfl) (by kernel_rfl) (by kernel_rfl) (fun _ _ _ h => h) (Or.inl ⟨by rfl, ?_⟩) (by assumption) ?_
          rotate_left 1
          · (intro w' hSw; (try dsimp only at hSw); go_simp; try with_reducible rfl)
          try simp only [Act.put, List.setIfInBounds_toArray, List.set_cons_zero, List.set_cons_succ, List.getElem_toArray, List.getElem_cons_zero, List.getElem_cons_succ]
          refine wpAnyH_take (i := 3) (v := ?_) rfl (by kernel_rfl) (by kernel_rfl) (by kernel_rfl) (fun _ _ _ h => h) (Or.inl ⟨by rfl, ?_⟩) (by assumption) ?_
          rotate_left 1
          · (intro w' hSw; (try dsimp only at hSw); go_simp; try with_reducible rfl)
          try simp only [Act.put, List.setIfInBounds_toArray, List.set_cons_zero, List.set_cons_succ, List.getElem_toArray, List.getElem_cons_zero, List.getElem_cons_succ]
          refine wpAnyH_take (i := 4) (v := .int .i64 (q : Int)) rfl (by kernel_rfl) (by kernel_rfl) (by kernel_rfl) (fun _ _ _ h => h) (Or.inl ⟨by rfl, ?_⟩) (by assumption) ?_
          · (intro w' hSw; (try dsimp only at hSw); go_simp; first | done | exact hwq)
          try simp only [Act.put, List.setIfInBounds_toArray, List.set_cons_zero, List.set_cons_succ, List.getElem_toArray, List.getElem_cons_zero, List.getElem_cons_succ]
          refine wpAnyH_take (i := 5) (v := ?_) rfl (by kernel_rfl) (by kernel_rfl) (by kernel_rfl) (fun _ _ _ h => h) (Or.inl ⟨by rfl, ?_⟩) (by assumption) ?_
          rotate_left 1
          · (intro w' hSw; (try dsimp only at hSw); go_simp; try with_reducible rfl)
          try simp only [Act.put, List.setIfInBounds_toArray, List.set_cons_zero, List.set_cons_succ, List.getElem_toArray, List.getElem_cons_zero, List.getElem_cons_succ]
          refine wpAnyH_take (i := 6) (v := ?_) rfl (by kernel_rfl) (by kernel_rfl) (by kernel_rfl) (fun _ _ _ h => h) (Or.inl ⟨by rfl, ?_⟩) (by assumption) ?_
          rotate_left 1
          · (intro w' hSw; (try dsimp only at hSw); go_simp; try with_reducible rfl)
          try simp only [Act.put, List.setIfInBounds_toArray, List.set_cons_zero, List.set_cons_succ, List.getElem_toArray, List.getElem_cons_zero, List.getElem_cons_succ]
          refine wpAnyH_take (i := 7) (v := ?_) rfl (by kernel_rfl) (by kernel_rfl) (by kernel_rfl) (fun _ _ _ h => h) (Or.inl ⟨by rfl, ?_⟩) (by assumption) ?_
          rotate_left 1
          · (intro w' hSw; (try dsimp only at hSw); go_simp; try with_reducible rfl)
          try simp only [Act.put, List.setIfInBounds_toArray, List.set_cons_zero, List.set_cons_succ, List.getElem_toArray, List.getElem_cons_zero, List.getElem_cons_succ]
          refine wpAnyH_take (i := 8) (v := ?_) rfl (by kernel_rfl) (by kernel_rfl) (by kernel_rfl) (fun _ _ _ h => h) (Or.inl ⟨by rfl, ?_⟩) (by assumption) ?_
          rotate_left 1
          · (intro w' hSw; (try dsimp only at hSw); go_simp; try with_reducible rfl)
          try simp only [Act.put, List.setIfInBounds_toArray, List.set_cons_zero, List.set_cons_succ, List.getElem_toArray, List.getElem_cons_zero, List.getElem_cons_succ]
          refine wpAnyH_take (i := 9) (v := ?_) rfl (by kernel_rfl) (by kernel_rfl) (by kernel_rfl) (fun _ _ _ h => h) (Or.inl ⟨by rfl, ?_⟩) (by assumption) ?_
          rotate_left 1
          · (intro w' hSw; (try dsimp only at hSw); go_simp; try with_reducible rfl)
          try simp only [Act.put, List.setIfInBounds_toArray, List.set_cons_zero, List.set_cons_succ, List.getElem_toArray, List.getElem_cons_zero, List.getElem_cons_succ]
          refine wpAnyH_take (i := 10) (v := ?_) rfl (by kernel_rfl) (by kernel_rfl) (by kernel_rfl) (fun _ _ _ h => h) (Or.inl ⟨by rfl, ?_⟩) (by assumption) ?_
          rotate_left 1
          · (intro w' hSw; (try dsimp only at hSw); go_simp; try with_reducible rfl)
          try simp only [Act.put, List.setIfInBounds_toArray, List.set_cons_zero, List.set_cons_succ, List.getElem_toArray, List.getElem_cons_zero, List.getElem_cons_succ]
          refine wpAnyH_take (i := 11) (v := ?_) rfl (by kernel_rfl) (by kernel_rfl) (by kernel_rfl) (fun _ _ _ h => h) (Or.inl ⟨by rfl, ?_⟩) (by assumption) ?_
          rotate_left 1
          · (intro w' hSw; (try dsimp only at hSw); go_simp; try with_reducible rfl)
          try simp only [Act.put, List.setIfInBounds_toArray, List.set_cons_zero, List.set_cons_succ, List.getElem_toArray, List.getElem_cons_zero, List.getElem_cons_succ]
          refine wpAnyH_take (i := 12) (v := ?_) rfl (by kernel_rfl) (by kernel_rfl) (by kernel_rfl) (fun _ _ _ h => h) (Or.inl ⟨by rfl, ?_⟩) (by assumption) ?_
          rotate_left 1
          · (intro w' hSw; (try dsimp only at hSw); go_simp; try with_reducible rfl)
          try simp only [Act.put, List.setIfInBounds_toArray, List.set_cons_zero, List.set_cons_succ, List.getElem_toArray, List.getElem_cons_zero, List.getElem_cons_succ]
          refine wpAnyH_ready (rs := [13]) (by kernel_rfl) (by simp) ?_
          refine AllReadyH.cons rfl (fun K hK => ?_) AllReadyH.nil
          refine stepL_callN 29 #[.tmp 46, .tmp 50] #[27, 27] (by rfl) (by rfl) #[.agg #[.int .i64 (El.eqp p j k).v.1, .int .i64 (El.eqp p j k).v.2], .agg #[.int .i64 (p j).v.1, .int .i64 (p j).v.2]] (by simp only [List.map_toArray, List.map_cons, List.map_nil] <;> rfl) (run_go Try.func29 (by kernel_rfl) (by kernel_rfl) _ _) (sMl_el (El.eqp p j k) (p j) _) ?_
          rintro e U1 ⟨he, kk⟩
          refine ⟨_, he, ?_⟩
          replace KW := hik (KW.out.trans kk)
          refine hK.out _ _ (SA.out _ KW.out) (fun hHeld => ?_)
          clear hK K
          try simp only [Act.put, List.setIfInBounds_toArray, List.set_cons_zero, List.set_cons_succ, List.getElem_toArray, List.getElem_cons_zero, List.getElem_cons_succ]
          clear he kk
          refine wpAnyH_take (i := 14) (v := ?_) rfl (by kernel_rfl) (by kernel_rfl) (by kernel_rfl) (fun _ _ _ h => h) (Or.inl ⟨by rfl, ?_⟩) (by assumption) ?_
          rotate_left 1
          · (intro w' hSw; (try dsimp only at hSw); go_simp; try with_reducible rfl)
          try simp only [Act.put, List.setIfInBounds_toArray, List.set_cons_zero, List.set_cons_succ, List.getElem_toArray, List.getElem_cons_zero, List.getElem_cons_succ]
          refine wpAnyH_ready (rs := [15]) (by kernel_rfl) (by simp) ?_
          refine AllReadyH.cons rfl (fun K hK => ?_) AllReadyH.nil
          have RN := hik (RowE.keep R9.out KW.out)
          have g0 := RowE.c0 RN.out (i := q) (by omega)
          have g1 := RowE.c1 RN.out (i := q) (by omega)
          have f0 := World.rowIs.frozen RN.out (q * 2)
          have f1 := World.rowIs.frozen RN.out (q * 2 + 1)
          have ln : wo.heap.size < U1.heap.size := RowE.lt RN.out
          simp only [List.getElem_toArray, List.getElem_cons_zero, List.getElem_cons_succ]
          go_simp
          refine hK.out _ _ ⟨look_two hne2 (SA.out _ KW.out).1 _ _ _ _, look_two hne2 (SA.out _ KW.out).2.1 _ _ _ _, look_two hne1 (SA.out _ KW.out).2.2.1 _ _ _ _, look_two hne1 (SA.out _ KW.out).2.2.2 _ _ _ _⟩ (fun hHeld => ?_)
          clear hK K
          try simp only [Act.put, List.setIfInBounds_toArray, List.set_cons_zero, List.set_cons_succ, List.getElem_toArray, List.getElem_cons_zero, List.getElem_cons_succ]
          clear g0 g1 f0 f1 ln
          refine wpAnyH_done (by kernel_rfl) ?_ _
          have RX := hik (RowE.set RN.out q (El.ml (El.eqp p j k) (p j)))
          have QX := hik (RowE.other (RowE.keep Q9.out KW.out) hne2 (q * 2) (q * 2 + 1) (.int .i64 (El.ml (El.eqp p j k) (p j)).v.1) (.int .i64 (El.ml (El.eqp p j k) (p j)).v.2))
          have GX := hik (chg2_at (G9.out.trans KW.out) wo.heap.size (fun l => absurd l (by have := HBb.out; have := L2.out; omega)) (q * 2) (q * 2 + 1) (.int .i64 (El.ml (El.eqp p j k) (p j)).v.1) (.int .i64 (El.ml (El.eqp p j k) (p j)).v.2))
          generalize hEX : ((U1.setCell ⟨wo.heap.size, q * 2, none⟩ (.int .i64 (El.ml (El.eqp p j k) (p j)).v.1)).setCell ⟨wo.heap.size, q * 2 + 1, none⟩ (.int .i64 (El.ml (El.eqp p j k) (p j)).v.2)) = WX at RX QX GX ⊢
          clear hEX RN KW SA hHeld o0 o1 p0 p1
          have RX2 := hik (RowE.congr (u := nxt (El.eqp p j) (p j) N (k + 1)) RX.out (fun i _ => by rw [HQ.out]; exact nxt_step (El.eqp p j) (p j) hkl i))
          go_wp2
          go_roundw
          case rel => exact ⟨k + 1, by omega, by go_num, RX2, QX, GX⟩
          case measure => simp [intOf]; omega
        · obtain rfl : N = k := by omega
          have RZ := hik (RowE.congr (u := El.eqp p (j + 1)) RI.out (fun i hi => by rw [HN.out] at hi ⊢; exact nxt_all p j hi))
          have HN2 := hik (show 2 * N = 2 ^ (j + 1) by rw [HN.out, Nat.pow_succ]; omega)
          have HB2 := hik (show w.heap.size ≤ wo.heap.size by have := HBb.out; have := L2.out; omega)
          go_wp2
          go_roundw
          case rel => exact ⟨j + 1, 2 * N, wo.heap.size, by omega, by go_num, rfl, HN2, HB2, RZ, GI⟩
          case measure => simp [intOf]; omega
    · obtain rfl : n = j := by omega
      obtain rfl : N = 2 ^ n := HN.out
      go_wp2
      go_ret
      exact ⟨b, rfl, HBb.out, HR.out, HC.out⟩

end Go.Proofs.Yteokkgleahgcnaa

namespace Go.Proofs.Yteokkgleahgcnaa
open Go.ChangeShapes Go.WideShapes Go.ChangeAt Go.RowKit
set_option linter.unusedVariables false
set_option maxRecDepth 100000
set_option linter.unusedSimpArgs false

theorem sOfE (X : El) (hb : X.v.2 = 0) (w : World) : Calls Try.prog 30 #[.int .i64 X.v.1] w fun e w' => e = .returned (.agg #[.int .i64 X.v.1, .int .i64 X.v.2]) ∧ Chg nob w w' :=
  (l02Of_any X.v.1 w).mono (fun e w' h => ⟨by rw [h.1, hb], by rw [h.2]; exact (Chg.refl nob w).alloc _⟩)

set_option maxHeartbeats 4000000 in
theorem sMat_el (c : Option Addr) (n cap : Nat) (X : Nat → En) (cx : Option Addr) (rx capx : Nat) (p : Nat → El) (cy : Option Addr) (ry capy : Nat) (q : Nat → El) (w : World) (hv : Hid (EntV w c n X)) (hp : Hid (PairE w cx rx p)) (hq : Hid (PairE w cy ry q)) (hrx : rx ≤ 5) (hry : ry ≤ 5) (hn : n ≤ 200)
    (hw : Hid (∀ i, i < n → win (2 ^ rx) (2 ^ ry) (X i) = true)) :
    Calls Try.prog 16 #[.slice c n cap, .slice cx rx capx, .slice cy ry capy] w fun e w' => e = .returned (.agg #[.int .i64 (mte X (El.eqp p rx) (El.eqp q ry) n).v.1, .int .i64 (mte X (El.eqp p rx) (El.eqp q ry) n).v.2]) ∧ Chg nob w w' := by
  obtain ⟨A, hA⟩ : ∃ A, A = El.eqp p rx := ⟨_, rfl⟩
  obtain ⟨B, hB⟩ : ∃ B, B = El.eqp q ry := ⟨_, rfl⟩
  rw [← hA, ← hB]
  have HA := hik hA
  have HB := hik hB
  clear hA hB
  go_enter Try.func16, Try.ntmps16
  go_wp2_with fail
  refine (sEq_any cx rx capx p _ (hik (PairE.keep hp.out ((Chg.refl nob w).alloc _))) (by omega)).mono ?_
  rintro e W1 ⟨ya, rfl, hb1, r1, k1⟩
  have A1 := hik (show RowE W1 ya (2 ^ rx) A by rw [HA.out]; exact r1)
  have R1 := hik ((ElB.zero w).keep k1)
  have G1 := hik (((Chg.refl nob w).alloc _).trans k1)
  clear k1 r1
  go_wp2_with fail
  refine (sEq_any cy ry capy q _ (hik (PairE.keep hq.out G1.out)) (by omega)).mono ?_
  rintro e W2 ⟨yb, rfl, hb2, r2, k2⟩
  have B2 := hik (show RowE W2 yb (2 ^ ry) B by rw [HB.out]; exact r2)
  have A2 := hik (A1.out.keep k2)
  have R2 := hik (R1.out.keep k2)
  have G2 := hik (G1.out.trans k2)
  clear k2 r2 A1 R1 G1
  have hw1 : w.heap.size < W2.heap.size := R2.out.lt
  have hya : ya < W2.heap.size := A2.out.lt
  have hyb : yb < W2.heap.size := B2.out.lt
  clear hb1 hb2
  go_wp2
  go_loopw [10] (fun i W => ∃ k : Nat, k ≤ n ∧ i = .int .i64 k ∧ Hid (ElB W W2.heap.size (mte X A B k)) ∧ Hid (ElB W w.heap.size El.zr) ∧ Hid (Chg nob w W) ∧ Hid (RowE W ya (2 ^ rx) A) ∧ Hid (RowE W yb (2 ^ ry) B)) (fun i _ => n - (intOf i).toNat)
  case atStart => exact ⟨0, Nat.zero_le _, rfl, hik (ElB.zero W2), hik (R2.out.keep ((Chg.refl nob _).alloc _)), hik (G2.out.alloc _), hik (A2.out.keep ((Chg.refl nob _).alloc _)), hik (B2.out.keep ((Chg.refl nob _).alloc _))⟩
  case round =>
    clear R2 G2 A2 B2
    obtain ⟨k, hk, rfl, HE, HR, HG, HYA, HYB⟩ := hrel
    rename World => wi
    by_cases hlt : k < n
    · have hkn : ((k : Nat) : Int) < n := by omega
      obtain ⟨xb, xo, rfl, hxb, c0, c1, c2⟩ := (hv.out.keep HG.out) k hlt
      obtain ⟨ri, ci, er, ec, hri, hci, v0, v1⟩ := win_nat (hw.out k hlt)
      have hriN : ri < 2 ^ rx := by have e := pow_cast rx; omega
      have hciN : ci < 2 ^ ry := by have e := pow_cast ry; omega
      rw [er] at c0
      rw [ec] at c1
      rw [← El.ofi_v (by omega) v1] at c2
      have HST := hik (show mte X A B (k + 1) = El.ad (mte X A B k) (El.ml (El.ofi (X k).2.2) (El.ml (A ri) (B ci))) by
        show El.ad _ (El.ml _ (El.ml (A (X k).1.toNat) (B (X k).2.1.toNat))) = _
        rw [er, ec, Int.toNat_natCast, Int.toNat_natCast])
      have hV2 := El.ofi_w (X k).2.2
      clear er ec v0 v1
      generalize El.ofi (X k).2.2 = V at c2 HST hV2
      generalize hS : mte X A B k = S at HE HST
      clear hS
      have KB := hik ((Chg.refl nob wi).alloc (.cells #[.int .i64 (ri : Int), .int .i64 (ci : Int), .int .i64 V.v.1] 43))
      have p0 := KB.out.see (HYA.out.c0 hriN)
      have p1 := KB.out.see (HYA.out.c1 hriN)
      have q0 := KB.out.see (HYB.out.c0 hciN)
      have q1 := KB.out.see (HYB.out.c1 hciN)
      have s0 := KB.out.see HE.out.c0
      have s1 := KB.out.see HE.out.c1
      have e0 : World.cell? (wi.alloc (.cells #[.int .i64 (ri : Int), .int .i64 (ci : Int), .int .i64 V.v.1] 43)) ⟨wi.heap.size, 0, none⟩ = some (.int .i64 (ri : Int)) := by go_simp
      have e1 : World.cell? (wi.alloc (.cells #[.int .i64 (ri : Int), .int .i64 (ci : Int), .int .i64 V.v.1] 43)) ⟨wi.heap.size, 1, none⟩ = some (.int .i64 (ci : Int)) := by go_simp
      have e2 : World.cell? (wi.alloc (.cells #[.int .i64 (ri : Int), .int .i64 (ci : Int), .int .i64 V.v.1] 43)) ⟨wi.heap.size, 2, none⟩ = some (.int .i64 V.v.1) := by go_simp
      replace HE := hik (HE.out.keep KB.out)
      replace HR := hik (HR.out.keep KB.out)
      replace HG := hik (HG.out.trans KB.out)
      replace HYA := hik (HYA.out.keep KB.out)
      replace HYB := hik (HYB.out.keep KB.out)
      go_upto_region 8 with fail
      clear c0 c1 c2
      generalize wi.alloc (.cells #[.int .i64 (ri : Int), .int .i64 (ci : Int), .int .i64 V.v.1] 43) = W0 at p0 p1 q0 q1 s0 s1 e0 e1 e2 HE HR HG HYA HYB KB ⊢
      have KW := hik ((Chg.refl nob W0).drew1)
      have SA := hik (fun (WW : World) (kW : Chg nob W0 WW) => (show (WW.cell? ⟨wi.heap.size, 0, none⟩ = some (.int .i64 (ri : Int)) ∧ WW.cell? ⟨wi.heap.size, 1, none⟩ = some (.int .i64 (ci : Int)) ∧ WW.cell? ⟨wi.heap.size, 2, none⟩ = some (.int .i64 V.v.1) ∧ WW.cell? ⟨ya, ri * 2, none⟩ = some (.int .i64 (A ri).v.1) ∧ WW.cell? ⟨ya, ri * 2 + 1, none⟩ = some (.int .i64 (A ri).v.2) ∧ WW.cell? ⟨yb, ci * 2, none⟩ = some (.int .i64 (B ci).v.1) ∧ WW.cell? ⟨yb, ci * 2 + 1, none⟩ = some (.int .i64 (B ci).v.2) ∧ WW.cell? ⟨W2.heap.size, 0, none⟩ = some (.int .i64 S.v.1) ∧ WW.cell? ⟨W2.heap.size, 1, none⟩ = some (.int .i64 S.v.2)) from ⟨kW.see e0, kW.see e1, kW.see e2, kW.see p0, kW.see p1, kW.see q0, kW.see q1, kW.see s0, kW.see s1⟩))
      refine wp_regionL (L := 17) (S := fun w' => w'.cell? ⟨wi.heap.size, 0, none⟩ = some (.int .i64 (ri : Int)) ∧ w'.cell? ⟨wi.heap.size, 1, none⟩ = some (.int .i64 (ci : Int)) ∧ w'.cell? ⟨wi.heap.size, 2, none⟩ = some (.int .i64 V.v.1) ∧ w'.cell? ⟨ya, ri * 2, none⟩ = some (.int .i64 (A ri).v.1) ∧ w'.cell? ⟨ya, ri * 2 + 1, none⟩ = some (.int .i64 (A ri).v.2) ∧ w'.cell? ⟨yb, ci * 2, none⟩ = some (.int .i64 (B ci).v.1) ∧ w'.cell? ⟨yb, ci * 2 + 1, none⟩ = some (.int .i64 (B ci).v.2) ∧ w'.cell? ⟨W2.heap.size, 0, none⟩ = some (.int .i64 S.v.1) ∧ w'.cell? ⟨W2.heap.size, 1, none⟩ = some (.int .i64 S.v.2)) (by kernel_rfl) ⟨e0, e1, e2, p0, p1, q0, q1, s0, s1⟩ (fun hHeld => ?_)
      refine wpAnyL_take (i := 0) (v := ?_) rfl (by kernel_rfl) (by kernel_rfl) (by kernel_rfl) (fun _ _ _ h => h) (by rfl) (by kernel_rfl) (by kernel_rfl) (Or.inl ⟨by rfl, ?_⟩) (by assumption) ?_
      rotate_left 1
      · (intro w' hSw; (try dsimp only at hSw); go_simp; try with_reducible rfl)
      try simp only [Act.put, List.setIfInBounds_toArray, List.set_cons_zero, List.set_cons_succ, List.getElem_toArray, List.getElem_cons_zero, List.getElem_cons_succ]
      refine wpAnyL_take (i := 1) (v := ?_) rfl (by kernel_rfl) (by kernel_rfl) (by kernel_rfl) (fun _ _ _ h => h) (by rfl) (by kernel_rfl) (by kernel_rfl) (Or.inl ⟨by rfl, ?_⟩) (by assumption) ?_
      rotate_left 1
      · (intro w' hSw; (try dsimp only at hSw); go_simp; try with_reducible rfl)
      try simp only [Act.put, List.setIfInBounds_toArray, List.set_cons_zero, List.set_cons_succ, List.getElem_toArray, List.getElem_cons_zero, List.getElem_cons_succ]
      refine wpAnyL_take (i := 2) (v := ?_) rfl (by kernel_rfl) (by kernel_rfl) (by kernel_rfl) (fun _ _ _ h => h) (by rfl) (by kernel_rfl) (by kernel_rfl) (Or.inl ⟨by rfl, ?_⟩) (by assumption) ?_
      rotate_left 1
      · (intro w' hSw; (try dsimp only at hSw); go_simp; try with_reducible rfl)
      try simp only [Act.put, List.setIfInBounds_toArray, List.set_cons_zero, List.set_cons_succ, List.getElem_toArray, List.getElem_cons_zero, List.getElem_cons_succ]
      refine wpAnyL_take (i := 4) (v := ?_) rfl (by kernel_rfl) (by kernel_rfl) (by kernel_rfl) (fun _ _ _ h => h) (by rfl) (by kernel_rfl) (by kernel_rfl) (Or.inl ⟨by rfl, ?_⟩) (by assumption) ?_
      rotate_left 1
      · (intro w' hSw; (try dsimp only at hSw); go_simp; try with_reducible rfl)
      try simp only [Act.put, List.setIfInBounds_toArray, List.set_cons_zero, List.set_cons_succ, List.getElem_toArray, List.getElem_cons_zero, List.getElem_cons_succ]
      refine wpAnyL_take (i := 5) (v := ?_) rfl (by kernel_rfl) (by kernel_rfl) (by kernel_rfl) (fun _ _ _ h => h) (by rfl) (by kernel_rfl) (by kernel_rfl) (Or.inl ⟨by rfl, ?_⟩) (by assumption) ?_
      rotate_left 1
      · (intro w' hSw; (try dsimp only at hSw); go_simp; try with_reducible rfl)
      try simp only [Act.put, List.setIfInBounds_toArray, List.set_cons_zero, List.set_cons_succ, List.getElem_toArray, List.getElem_cons_zero, List.getElem_cons_succ]
      refine wpAnyL_take (i := 6) (v := ?_) rfl (by kernel_rfl) (by kernel_rfl) (by kernel_rfl) (fun _ _ _ h => h) (by rfl) (by kernel_rfl) (by kernel_rfl) (Or.inl ⟨by rfl, ?_⟩) (by assumption) ?_
      rotate_left 1
      · (intro w' hSw; (try dsimp only at hSw); go_simp; try with_reducible rfl)
      try simp only [Act.put, List.setIfInBounds_toArray, List.set_cons_zero, List.set_cons_succ, List.getElem_toArray, List.getElem_cons_zero, List.getElem_cons_succ]
      refine wpAnyL_take (i := 7) (v := ?_) rfl (by kernel_rfl) (by kernel_rfl) (by kernel_rfl) (fun _ _ _ h => h) (by rfl) (by kernel_rfl) (by kernel_rfl) (Or.inl ⟨by rfl, ?_⟩) (by assumption) ?_
      rotate_left 1
      · (intro w' hSw; (try dsimp only at hSw); go_simp; try with_reducible rfl)
      try simp only [Act.put, List.setIfInBounds_toArray, List.set_cons_zero, List.set_cons_succ, List.getElem_toArray, List.getElem_cons_zero, List.getElem_cons_succ]
      refine wpAnyL_take (i := 8) (v := ?_) rfl (by kernel_rfl) (by kernel_rfl) (by kernel_rfl) (fun _ _ _ h => h) (by rfl) (by kernel_rfl) (by kernel_rfl) (Or.inl ⟨by rfl, ?_⟩) (by assumption) ?_
      rotate_left 1
      · (intro w' hSw; (try dsimp only at hSw); go_simp; try with_reducible rfl)
      try simp only [Act.put, List.setIfInBounds_toArray, List.set_cons_zero, List.set_cons_succ, List.getElem_toArray, List.getElem_cons_zero, List.getElem_cons_succ]
      refine wpAnyL_take (i := 9) (v := ?_) rfl (by kernel_rfl) (by kernel_rfl) (by kernel_rfl) (fun _ _ _ h => h) (by rfl) (by kernel_rfl) (by kernel_rfl) (Or.inl ⟨by rfl, ?_⟩) (by assumption) ?_
      rotate_left 1
      · (intro w' hSw; (try dsimp only at hSw); go_simp; try with_reducible rfl)
      try simp only [Act.put, List.setIfInBounds_toArray, List.set_cons_zero, List.set_cons_succ, List.getElem_toArray, List.getElem_cons_zero, List.getElem_cons_succ]
      refine wpAnyL_take (i := 10) (v := ?_) rfl (by kernel_rfl) (by kernel_rfl) (by kernel_rfl) (fun _ _ _ h => h) (by rfl) (by kernel_rfl) (by kernel_rfl) (Or.inl ⟨by rfl, ?_⟩) (by assumption) ?_
      rotate_left 1
      · (intro w' hSw; (try dsimp only at hSw); go_simp; try with_reducible rfl)
      try simp only [Act.put, List.setIfInBounds_toArray, List.set_cons_zero, List.set_cons_succ, List.getElem_toArray, List.getElem_cons_zero, List.getElem_cons_succ]
      refine wpAnyL_take (i := 11) (v := ?_) rfl (by kernel_rfl) (by kernel_rfl) (by kernel_rfl) (fun _ _ _ h => h) (by rfl) (by kernel_rfl) (by kernel_rfl) (Or.inl ⟨by rfl, ?_⟩) (by assumption) ?_
      rotate_left 1
      · (intro w' hSw; (try dsimp only at hSw); go_simp; try with_reducible rfl)
      try simp only [Act.put, List.setIfInBounds_toArray, List.set_cons_zero, List.set_cons_succ, List.getElem_toArray, List.getElem_cons_zero, List.getElem_cons_succ]
      refine wpAnyL_take (i := 12) (v := ?_) rfl (by kernel_rfl) (by kernel_rfl) (by kernel_rfl) (fun _ _ _ h => h) (by rfl) (by kernel_rfl) (by kernel_rfl) (Or.inl ⟨by rfl, ?_⟩) (by assumption) ?_
      rotate_left 1
      · (intro w' hSw; (try dsimp only at hSw); go_simp; try with_reducible rfl)
      try simp only [Act.put, List.setIfInBounds_toArray, List.set_cons_zero, List.set_cons_succ, List.getElem_toArray, List.getElem_cons_zero, List.getElem_cons_succ]
      refine wpAnyL_take (i := 13) (v := ?_) rfl (by kernel_rfl) (by kernel_rfl) (by kernel_rfl) (fun _ _ _ h => h) (by rfl) (by kernel_rfl) (by kernel_rfl) (Or.inl ⟨by rfl, ?_⟩) (by assumption) ?_
      rotate_left 1
      · (intro w' hSw; (try dsimp only at hSw); go_simp; try with_reducible rfl)
      try simp only [Act.put, List.setIfInBounds_toArray, List.set_cons_zero, List.set_cons_succ, List.getElem_toArray, List.getElem_cons_zero, List.getElem_cons_succ]
      refine wpAnyL_ready (rs := [3]) (by kernel_rfl) (by simp) ?_
      refine AllReadyL.cons rfl (fun K hK => ?_) AllReadyL.nil
      refine stepL_callN 30 #[.tmp 29] #[3] (by rfl) (by rfl) #[.int .i64 V.v.1] (by simp only [List.map_toArray, List.map_cons, List.map_nil] <;> rfl) (run_go Try.func30 (by kernel_rfl) (by kernel_rfl) _ _) (sOfE V hV2 _) ?_
      rintro e U1 ⟨he, kk⟩
      refine ⟨_, he, ?_⟩
      replace KW := hik (KW.out.trans kk)
      refine hK.out _ _ (SA.out _ KW.out) (fun hHeld => ?_)
      clear hK K
      try simp only [Act.put, List.setIfInBounds_toArray, List.set_cons_zero, List.set_cons_succ, List.getElem_toArray, List.getElem_cons_zero, List.getElem_cons_succ]
      clear he kk
      refine wpAnyL_ready (rs := [14]) (by kernel_rfl) (by simp) ?_
      refine AllReadyL.cons rfl (fun K hK => ?_) AllReadyL.nil
      refine stepL_callN 29 #[.tmp 35, .tmp 40] #[27, 27] (by rfl) (by rfl) #[.agg #[.int .i64 (A ri).v.1, .int .i64 (A ri).v.2], .agg #[.int .i64 (B ci).v.1, .int .i64 (B ci).v.2]] (by simp only [List.map_toArray, List.map_cons, List.map_nil] <;> rfl) (run_go Try.func29 (by kernel_rfl) (by kernel_rfl) _ _) (sMl_el (A ri) (B ci) _) ?_
      rintro e U2 ⟨he, kk⟩
      refine ⟨_, he, ?_⟩
      replace KW := hik (KW.out.trans kk)
      refine hK.out _ _ (SA.out _ KW.out) (fun hHeld => ?_)
      clear hK K
      try simp only [Act.put, List.setIfInBounds_toArray, List.set_cons_zero, List.set_cons_succ, List.getElem_toArray, List.getElem_cons_zero, List.getElem_cons_succ]
      clear he kk
      refine wpAnyL_ready (rs := [15]) (by kernel_rfl) (by simp) ?_
      refine AllReadyL.cons rfl (fun K hK => ?_) AllReadyL.nil
      refine stepL_callN 29 #[.tmp 30, .tmp 41] #[27, 27] (by rfl) (by rfl) #[.agg #[.int .i64 V.v.1, .int .i64 V.v.2], .agg #[.int .i64 (El.ml (A ri) (B ci)).v.1, .int .i64 (El.ml (A ri) (B ci)).v.2]] (by simp only [List.map_toArray, List.map_cons, List.map_nil] <;> rfl) (run_go Try.func29 (by kernel_rfl) (by kernel_rfl) _ _) (sMl_el V (El.ml (A ri) (B ci)) _) ?_
      rintro e U3 ⟨he, kk⟩
      refine ⟨_, he, ?_⟩
      replace KW := hik (KW.out.trans kk)
      refine hK.out _ _ (SA.out _ KW.out) (fun hHeld => ?_)
      clear hK K
      try simp only [Act.put, List.setIfInBounds_toArray, List.set_cons_zero, List.set_cons_succ, List.getElem_toArray, List.getElem_cons_zero, List.getElem_cons_succ]
      clear he kk
      refine wpAnyL_ready (rs := [16]) (by kernel_rfl) (by simp) ?_
      refine AllReadyL.cons rfl (fun K hK => ?_) AllReadyL.nil
      refine stepL_callN 28 #[.tmp 27, .tmp 42] #[27, 27] (by rfl) (by rfl) #[.agg #[.int .i64 S.v.1, .int .i64 S.v.2], .agg #[.int .i64 (El.ml V (El.ml (A ri) (B ci))).v.1, .int .i64 (El.ml V (El.ml (A ri) (B ci))).v.2]] (by simp only [List.map_toArray, List.map_cons, List.map_nil] <;> rfl) (run_go Try.func28 (by kernel_rfl) (by kernel_rfl) _ _) (sAd_el S (El.ml V (El.ml (A ri) (B ci))) _) ?_
      rintro e U4 ⟨he, kk⟩
      refine ⟨_, he, ?_⟩
      replace KW := hik (KW.out.trans kk)
      refine hK.out _ _ (SA.out _ KW.out) (fun hHeld => ?_)
      clear hK K
      try simp only [Act.put, List.setIfInBounds_toArray, List.set_cons_zero, List.set_cons_succ, List.getElem_toArray, List.getElem_cons_zero, List.getElem_cons_succ]
      clear he kk
      refine wpAnyL_ready (rs := [17]) (by kernel_rfl) (by simp) ?_
      refine AllReadyL.last rfl (by kernel_rfl) (fun K hK => ?_)
      have EN := hik (HE.out.keep KW.out)
      have g0 := EN.out.c0
      have g1 := EN.out.c1
      have f0 := EN.out.fz 0
      have f1 := EN.out.fz 1
      have ln : W2.heap.size < U4.heap.size := EN.out.lt
      simp only [List.getElem_toArray, List.getElem_cons_zero, List.getElem_cons_succ]
      go_simp
      refine hK.out _ _ ?_
      clear hK K
      try simp only [Act.put, List.setIfInBounds_toArray, List.set_cons_zero, List.set_cons_succ, List.getElem_toArray, List.getElem_cons_zero, List.getElem_cons_succ]
      clear g0 g1 f0 f1 ln
      refine wpAnyL_done (by kernel_rfl) ?_ _
      have E2 : Hid (ElB _ W2.heap.size (mte X A B (k + 1))) := hik (by rw [HST.out]; exact EN.out.set (El.ad S (El.ml V (El.ml (A ri) (B ci)))))
      have R2 := hik (ElB.other (HR.out.keep KW.out) (g := W2.heap.size) (by omega) 0 1 (.int .i64 (El.ad S (El.ml V (El.ml (A ri) (B ci)))).v.1) (.int .i64 (El.ad S (El.ml V (El.ml (A ri) (B ci)))).v.2))
      have G2 := hik (chg2_at (HG.out.trans KW.out) W2.heap.size (fun l => absurd l (by omega)) 0 1 (.int .i64 (El.ad S (El.ml V (El.ml (A ri) (B ci)))).v.1) (.int .i64 (El.ad S (El.ml V (El.ml (A ri) (B ci)))).v.2))
      have A2 := hik (RowE.other (HYA.out.keep KW.out) (g := W2.heap.size) (by omega) 0 1 (.int .i64 (El.ad S (El.ml V (El.ml (A ri) (B ci)))).v.1) (.int .i64 (El.ad S (El.ml V (El.ml (A ri) (B ci)))).v.2))
      have B2 := hik (RowE.other (HYB.out.keep KW.out) (g := W2.heap.size) (by omega) 0 1 (.int .i64 (El.ad S (El.ml V (El.ml (A ri) (B ci)))).v.1) (.int .i64 (El.ad S (El.ml V (El.ml (A ri) (B ci)))).v.2))
      generalize hE : ((U4.setCell ⟨W2.heap.size, 0, none⟩ (.int .i64 (El.ad S (El.ml V (El.ml (A ri) (B ci)))).v.1)).setCell ⟨W2.heap.size, 1, none⟩ (.int .i64 (El.ad S (El.ml V (El.ml (A ri) (B ci)))).v.2)) = W5 at E2 R2 G2 A2 B2 ⊢
      clear hE EN KW SA hHeld p0 p1 q0 q1 e0 e1 e2 s0 s1 HE HR HG HYA HYB
      go_wp2
      go_roundw
      case rel => exact ⟨k + 1, by omega, by go_num, E2, R2, G2, A2, B2⟩
      case measure => simp [intOf]; omega
    · obtain rfl : n = k := by omega
      have e0 := HE.out.c0
      have e1 := HE.out.c1
      have c0 : wi.cell? ⟨w.heap.size, 0, none⟩ = some (.int .i64 0) := HR.out.c0
      have c1 : wi.cell? ⟨w.heap.size, 1, none⟩ = some (.int .i64 0) := HR.out.c1
      have f0 := HR.out.fz 0
      have f1 := HR.out.fz 1
      go_wp2
      have u0 := (HR.out.set (mte X A B n)).c0
      have u1 := (HR.out.set (mte X A B n)).c1
      exact bodyPost_ret (v := .agg #[.int .i64 (mte X A B n).v.1, .int .i64 (mte X A B n).v.2]) (by simp [results, Try.results16, go_sem, u0, u1]) rfl ⟨rfl, chg2_at HG.out w.heap.size (fun l => absurd l (by omega)) 0 1 (.int .i64 (mte X A B n).v.1) (.int .i64 (mte X A B n).v.2)⟩


end Go.Proofs.Yteokkgleahgcnaa
