/- What the model's coefficients, values and products of points answer: contracts. Conditions: elements of the greater field, rows that can be read, tables of at most 64. -/
import Derived.Test.YtabioonijjibnanTabS
import Derived.Test.YtabioonijjibnanRegL
import Derived.Test.YtabioonijjibnanCubM
import Derived.Test.YtabioonijjibnanBitE
namespace Go.Proofs.Ytabioonijjibnan
open Go.ChangeShapes Go.WideShapes Go.ChangeAt Go.RowKit
set_option linter.unusedVariables false
set_option maxRecDepth 100000
set_option linter.unusedSimpArgs false

/-- A row that begins with n elements. -/
def RowP (W : World) (b n : Nat) (t : Nat → El) : Prop := ∃ (N : Nat) (H : Nat → Value), W.rowIs b 47 N H ∧ n * 2 ≤ N ∧ ∀ i, i < n * 2 → H i = pf (cA t) (cB t) i
theorem RowP.keep {W W' : World} {b n : Nat} {t : Nat → El} (h : RowP W b n t) (k : Chg nob W W') : RowP W' b n t := by
  obtain ⟨N, H, r, q⟩ := h
  exact ⟨N, H, rowIs_keep r k, q⟩
theorem RowP.lt {W : World} {b n : Nat} {t : Nat → El} (h : RowP W b n t) : b < W.heap.size := by
  obtain ⟨N, H, r, q⟩ := h
  exact r.lt
theorem RowP.c0 {W : World} {b n : Nat} {t : Nat → El} (h : RowP W b n t) {k : Nat} (hk : k < n) : W.cell? ⟨b, k * 2, none⟩ = some (.int .i64 (t k).v.1) := by
  obtain ⟨N, H, r, q, e⟩ := h
  rw [r.cell (by omega), e _ (by omega), pf_even]; rfl
theorem RowP.c1 {W : World} {b n : Nat} {t : Nat → El} (h : RowP W b n t) {k : Nat} (hk : k < n) : W.cell? ⟨b, k * 2 + 1, none⟩ = some (.int .i64 (t k).v.2) := by
  obtain ⟨N, H, r, q, e⟩ := h
  rw [r.cell (by omega), e _ (by omega), pf_odd]; rfl
theorem RowP.fz {W : World} {b n : Nat} {t : Nat → El} (h : RowP W b n t) (o : Nat) : W.frozen? ⟨b, o, none⟩ = false := by
  obtain ⟨N, H, r, q⟩ := h
  exact r.frozen o
theorem RowP.congr {W : World} {b n : Nat} {t u : Nat → El} (h : RowP W b n t) (e : ∀ i, i < n → t i = u i) : RowP W b n u := by
  obtain ⟨N, H, r, q, e'⟩ := h
  exact ⟨N, H, r, q, fun i hi => by rw [e' i hi]; unfold pf cA cB; rw [e (i / 2) (by omega)]⟩
theorem RowP.set {W : World} {b n : Nat} {t : Nat → El} (h : RowP W b n t) (k : Nat) (x : El) : RowP ((W.setCell ⟨b, k * 2, none⟩ (.int .i64 x.v.1)).setCell ⟨b, k * 2 + 1, none⟩ (.int .i64 x.v.2)) b n (upE t k x) := by
  obtain ⟨N, H, r, q, e⟩ := h
  refine ⟨N, _, World.rowIs.set (World.rowIs.set r (k * 2) _) (k * 2 + 1) _, q, fun i hi => ?_⟩
  by_cases e1 : i = k * 2 + 1
  · subst e1; simp [pf_odd, cB, upE]
  · by_cases e2 : i = k * 2
    · subst e2; simp [pf_even, cA, upE]
    · have e3 : ¬ i / 2 = k := by omega
      simp [e1, e2, pf, cA, cB, upE, e3]
      have := e i hi
      unfold pf cA cB at this
      exact this
theorem RowP.own {W : World} {B b n : Nat} {t : Nat → El} (h : RowP W b n t) (hB : B ≤ b) : OwnE W B (some ⟨b, 0, none⟩) n (cA t) (cB t) := by
  obtain ⟨N, H, r, q, e⟩ := h
  exact .inr ⟨b, N, H, rfl, hB, r, q, e⟩
theorem RowP.of_own {W : World} {B n : Nat} {c : Option Addr} {t : Nat → El} (h : OwnE W B c n (cA t) (cB t)) (hn : 1 ≤ n) : ∃ b, c = some ⟨b, 0, none⟩ ∧ B ≤ b ∧ RowP W b n t := by
  rcases h with rfl | ⟨b, N, H, rfl, hB, r, q, e⟩
  · omega
  · exact ⟨b, rfl, hB, N, H, r, q, e⟩

set_option maxHeartbeats 2000000 in
theorem sEqAt_el (c d : Option Addr) (n cap cap' : Nat) (p q : Nat → El) (w : World) (h : Hid (PairE w c n p)) (h' : Hid (PairE w d n q)) (hn : n ≤ 6) : Calls Try.prog 46 #[.slice c n cap, .slice d n cap'] w fun e w' => e = .returned (.agg #[.int .i64 (El.eqa p q n).v.1, .int .i64 (El.eqa p q n).v.2]) ∧ Chg nob w w' := by
  go_enter Try.func46, Try.ntmps46
  go_wp2_with fail
  refine (sOne_el _).mono ?_
  rintro e W1 ⟨rfl, k1⟩
  have R1 := hik ((ElB.zero w).keep k1)
  have G1 := hik (((Chg.refl nob w).alloc _).trans k1)
  clear k1
  have hw1 : w.heap.size < W1.heap.size := R1.out.lt
  go_wp2
  go_loopw [6] (fun i W => ∃ k : Nat, k ≤ n ∧ i = .int .i64 k ∧ Hid (ElB W W1.heap.size (El.eqa p q k)) ∧ Hid (ElB W w.heap.size El.zr) ∧ Hid (Chg nob w W)) (fun i _ => n - (intOf i).toNat)
  case atStart => exact ⟨0, Nat.zero_le _, rfl, hik (ElB.new W1 El.on), hik (R1.out.keep ((Chg.refl nob _).alloc _)), hik (G1.out.alloc _)⟩
  case round =>
    clear R1 G1
    obtain ⟨k, hk, rfl, HE, HR, HG⟩ := hrel
    rename World => wi
    by_cases hlt : k < n
    · have hk1' : (k : Int) < (n : Int) := by omega
      have hk0 : (0 : Int) ≤ (k : Int) := by omega
      obtain ⟨xb, xo, ec, hxb, _, _⟩ := PairE.at_ (PairE.keep h.out HG.out) hlt
      obtain ⟨yb, yo, ed, hyb, _, _⟩ := PairE.at_ (PairE.keep h'.out HG.out) hlt
      subst ec ed
      have p0 := PairE.c0 (PairE.keep h.out HG.out) hlt
      have p1 := PairE.c1 (PairE.keep h.out HG.out) hlt
      have q0 := PairE.c0 (PairE.keep h'.out HG.out) hlt
      have q1 := PairE.c1 (PairE.keep h'.out HG.out) hlt
      have e0 := HE.out.c0
      have e1 := HE.out.c1
      go_wp2
      have KW := hik ((Chg.refl nob wi).drew1)
      have SA := hik (fun (WW : World) (kW : Chg nob wi WW) => (show (WW.cell? ⟨W1.heap.size, 0, none⟩ = some (.int .i64 (El.eqa p q k).v.1) ∧ WW.cell? ⟨W1.heap.size, 1, none⟩ = some (.int .i64 (El.eqa p q k).v.2) ∧ WW.cell? ⟨xb, xo + k * 2, none⟩ = some (.int .i64 (p k).v.1) ∧ WW.cell? ⟨xb, xo + k * 2 + 1, none⟩ = some (.int .i64 (p k).v.2) ∧ WW.cell? ⟨yb, yo + k * 2, none⟩ = some (.int .i64 (q k).v.1) ∧ WW.cell? ⟨yb, yo + k * 2 + 1, none⟩ = some (.int .i64 (q k).v.2)) from ⟨kW.see e0, kW.see e1, kW.see p0, kW.see p1, kW.see q0, kW.see q1⟩))
      refine wp_regionL (L := 23) (S := fun w' => w'.cell? ⟨W1.heap.size, 0, none⟩ = some (.int .i64 (El.eqa p q k).v.1) ∧ w'.cell? ⟨W1.heap.size, 1, none⟩ = some (.int .i64 (El.eqa p q k).v.2) ∧ w'.cell? ⟨xb, xo + k * 2, none⟩ = some (.int .i64 (p k).v.1) ∧ w'.cell? ⟨xb, xo + k * 2 + 1, none⟩ = some (.int .i64 (p k).v.2) ∧ w'.cell? ⟨yb, yo + k * 2, none⟩ = some (.int .i64 (q k).v.1) ∧ w'.cell? ⟨yb, yo + k * 2 + 1, none⟩ = some (.int .i64 (q k).v.2)) (by kernel_rfl) ⟨e0, e1, p0, p1, q0, q1⟩ (fun hHeld => ?_)
      refine wpAnyL_take (i := 0) (v := ?_) rfl (by kernel_rfl) (by kernel_rfl) (by kernel_rfl) (fun _ _ _ h => h) (by rfl) (by kernel_rfl) (by kernel_rfl) (Or.inl ⟨by rfl, ?_⟩) (by assumption) ?_
      rotate_left 1
      · (intro w' hSw; (try dsimp only at hSw); go_simp; try with_reducible rfl)
      try simp only [Act.put, List.setIfInBounds_toArray, List.set_cons_zero, List.set_cons_succ, List.getElem_toArray, List.getElem_cons_zero, List.getElem_cons_succ]
      refine wpAnyL_take (i := 1) (v := ?_) rfl (by kernel_rfl) (by kernel_rfl) (by kernel_rfl) (fun _ _ _ h => h) (by rfl) (by kernel_rfl) (by kernel_rfl) (Or.inl ⟨by rfl, ?_⟩) (by assumption) ?_
      rotate_left 1
      · (intro w' hSw; (try dsimp only at hSw); go_simp; try with_reducible rfl)
      try simp only [Act.put, List.setIfInBounds_toArray, List.set_cons_zero, List.set_cons_succ, List.getElem_toArray, List.getElem_cons_zero, List.getElem_cons_succ]
      refine wpAnyL_take (i := 2) (v := ?_) rfl (by kernel_rfl) (by kernel_rfl) (by kernel_rfl) (fun _ _ _ h => h) (by rfl) (by kernel_rfl) (by kernel_rfl) (Or.inl ⟨by rfl, ?_⟩) (by assumption) ?_
      rotate_left 1
      · (intro w' hSw; (try dsimp only at hSw); go_simp; try with_reducible rfl)
      try simp only [Act.put, List.setIfInBounds_toArray, List.set_cons_zero, List.set_cons_succ, List.getElem_toArray, List.getElem_cons_zero, List.getElem_cons_succ]
      refine wpAnyL_take (i := 3) (v := ?_) rfl (by kernel_rfl) (by kernel_rfl) (by kernel_rfl) (fun _ _ _ h => h) (by rfl) (by kernel_rfl) (by kernel_rfl) (Or.inl ⟨by rfl, ?_⟩) (by assumption) ?_
      rotate_left 1
      · (intro w' hSw; (try dsimp only at hSw); go_simp; try with_reducible rfl)
      try simp only [Act.put, List.setIfInBounds_toArray, List.set_cons_zero, List.set_cons_succ, List.getElem_toArray, List.getElem_cons_zero, List.getElem_cons_succ]
      refine wpAnyL_take (i := 4) (v := ?_) rfl (by kernel_rfl) (by kernel_rfl) (by kernel_rfl) (fun _ _ _ h => h) (by rfl) (by kernel_rfl) (by kernel_rfl) (Or.inl ⟨by rfl, ?_⟩) (by assumption) ?_
      rotate_left 1
      · (intro w' hSw; (try dsimp only at hSw); go_simp; try with_reducible rfl)
      try simp only [Act.put, List.setIfInBounds_toArray, List.set_cons_zero, List.set_cons_succ, List.getElem_toArray, List.getElem_cons_zero, List.getElem_cons_succ]
      refine wpAnyL_take (i := 5) (v := ?_) rfl (by kernel_rfl) (by kernel_rfl) (by kernel_rfl) (fun _ _ _ h => h) (by rfl) (by kernel_rfl) (by kernel_rfl) (Or.inl ⟨by rfl, ?_⟩) (by assumption) ?_
      rotate_left 1
      · (intro w' hSw; (try dsimp only at hSw); go_simp; try with_reducible rfl)
      try simp only [Act.put, List.setIfInBounds_toArray, List.set_cons_zero, List.set_cons_succ, List.getElem_toArray, List.getElem_cons_zero, List.getElem_cons_succ]
      refine wpAnyL_take (i := 6) (v := ?_) rfl (by kernel_rfl) (by kernel_rfl) (by kernel_rfl) (fun _ _ _ h => h) (by rfl) (by kernel_rfl) (by kernel_rfl) (Or.inl ⟨by rfl, ?_⟩) (by assumption) ?_
      rotate_left 1
      · (intro w' hSw; (try dsimp only at hSw); go_simp; try with_reducible rfl)
      try simp only [Act.put, List.setIfInBounds_toArray, List.set_cons_zero, List.set_cons_succ, List.getElem_toArray, List.getElem_cons_zero, List.getElem_cons_succ]
      refine wpAnyL_take (i := 7) (v := ?_) rfl (by kernel_rfl) (by kernel_rfl) (by kernel_rfl) (fun _ _ _ h => h) (by rfl) (by kernel_rfl) (by kernel_rfl) (Or.inl ⟨by rfl, ?_⟩) (by assumption) ?_
      rotate_left 1
      · (intro w' hSw; (try dsimp only at hSw); go_simp; try with_reducible rfl)
      try simp only [Act.put, List.setIfInBounds_toArray, List.set_cons_zero, List.set_cons_succ, List.getElem_toArray, List.getElem_cons_zero, List.getElem_cons_succ]
      refine wpAnyL_take (i := 8) (v := ?_) rfl (by kernel_rfl) (by kernel_rfl) (by kernel_rfl) (fun _ _ _ h => h) (by rfl) (by kernel_rfl) (by kernel_rfl) (Or.inl ⟨by rfl, ?_⟩) (by assumption) ?_
      rotate_left 1
      · (intro w' hSw; (try dsimp only at hSw); go_simp; try with_reducible rfl)
      try simp only [Act.put, List.setIfInBounds_toArray, List.set_cons_zero, List.set_cons_succ, List.getElem_toArray, List.getElem_cons_zero, List.getElem_cons_succ]
      refine wpAnyL_take (i := 10) (v := ?_) rfl (by kernel_rfl) (by kernel_rfl) (by kernel_rfl) (fun _ _ _ h => h) (by rfl) (by kernel_rfl) (by kernel_rfl) (Or.inl ⟨by rfl, ?_⟩) (by assumption) ?_
      rotate_left 1
      · (intro w' hSw; (try dsimp only at hSw); go_simp; try with_reducible rfl)
      try simp only [Act.put, List.setIfInBounds_toArray, List.set_cons_zero, List.set_cons_succ, List.getElem_toArray, List.getElem_cons_zero, List.getElem_cons_succ]
      refine wpAnyL_take (i := 11) (v := ?_) rfl (by kernel_rfl) (by kernel_rfl) (by kernel_rfl) (fun _ _ _ h => h) (by rfl) (by kernel_rfl) (by kernel_rfl) (Or.inl ⟨by rfl, ?_⟩) (by assumption) ?_
      rotate_left 1
      · (intro w' hSw; (try dsimp only at hSw); go_simp; try with_reducible rfl)
      try simp only [Act.put, List.setIfInBounds_toArray, List.set_cons_zero, List.set_cons_succ, List.getElem_toArray, List.getElem_cons_zero, List.getElem_cons_succ]
      refine wpAnyL_take (i := 12) (v := ?_) rfl (by kernel_rfl) (by kernel_rfl) (by kernel_rfl) (fun _ _ _ h => h) (by rfl) (by kernel_rfl) (by kernel_rfl) (Or.inl ⟨by rfl, ?_⟩) (by assumption) ?_
      rotate_left 1
      · (intro w' hSw; (try dsimp only at hSw); go_simp; try with_reducible rfl)
      try simp only [Act.put, List.setIfInBounds_toArray, List.set_cons_zero, List.set_cons_succ, List.getElem_toArray, List.getElem_cons_zero, List.getElem_cons_succ]
      refine wpAnyL_take (i := 13) (v := ?_) rfl (by kernel_rfl) (by kernel_rfl) (by kernel_rfl) (fun _ _ _ h => h) (by rfl) (by kernel_rfl) (by kernel_rfl) (Or.inl ⟨by rfl, ?_⟩) (by assumption) ?_
      rotate_left 1
      · (intro w' hSw; (try dsimp only at hSw); go_simp; try with_reducible rfl)
      try simp only [Act.put, List.setIfInBounds_toArray, List.set_cons_zero, List.set_cons_succ, List.getElem_toArray, List.getElem_cons_zero, List.getElem_cons_succ]
      refine wpAnyL_take (i := 15) (v := ?_) rfl (by kernel_rfl) (by kernel_rfl) (by kernel_rfl) (fun _ _ _ h => h) (by rfl) (by kernel_rfl) (by kernel_rfl) (Or.inl ⟨by rfl, ?_⟩) (by assumption) ?_
      rotate_left 1
      · (intro w' hSw; (try dsimp only at hSw); go_simp; try with_reducible rfl)
      try simp only [Act.put, List.setIfInBounds_toArray, List.set_cons_zero, List.set_cons_succ, List.getElem_toArray, List.getElem_cons_zero, List.getElem_cons_succ]
      refine wpAnyL_take (i := 16) (v := ?_) rfl (by kernel_rfl) (by kernel_rfl) (by kernel_rfl) (fun _ _ _ h => h) (by rfl) (by kernel_rfl) (by kernel_rfl) (Or.inl ⟨by rfl, ?_⟩) (by assumption) ?_
      rotate_left 1
      · (intro w' hSw; (try dsimp only at hSw); go_simp; try with_reducible rfl)
      try simp only [Act.put, List.setIfInBounds_toArray, List.set_cons_zero, List.set_cons_succ, List.getElem_toArray, List.getElem_cons_zero, List.getElem_cons_succ]
      refine wpAnyL_take (i := 17) (v := ?_) rfl (by kernel_rfl) (by kernel_rfl) (by kernel_rfl) (fun _ _ _ h => h) (by rfl) (by kernel_rfl) (by kernel_rfl) (Or.inl ⟨by rfl, ?_⟩) (by assumption) ?_
      rotate_left 1
      · (intro w' hSw; (try dsimp only at hSw); go_simp; try with_reducible rfl)
      try simp only [Act.put, List.setIfInBounds_toArray, List.set_cons_zero, List.set_cons_succ, List.getElem_toArray, List.getElem_cons_zero, List.getElem_cons_succ]
      refine wpAnyL_take (i := 18) (v := ?_) rfl (by kernel_rfl) (by kernel_rfl) (by kernel_rfl) (fun _ _ _ h => h) (by rfl) (by kernel_rfl) (by kernel_rfl) (Or.inl ⟨by rfl, ?_⟩) (by assumption) ?_
      rotate_left 1
      · (intro w' hSw; (try dsimp only at hSw); go_simp; try with_reducible rfl)
      try simp only [Act.put, List.setIfInBounds_toArray, List.set_cons_zero, List.set_cons_succ, List.getElem_toArray, List.getElem_cons_zero, List.getElem_cons_succ]
      refine wpAnyL_ready (rs := [9]) (by kernel_rfl) (by simp) ?_
      refine AllReadyL.cons rfl (fun K hK => ?_) AllReadyL.nil
      refine stepL_callN 57 #[.tmp 18, .tmp 22] #[47, 47] (by rfl) (by rfl) #[.agg #[.int .i64 (p k).v.1, .int .i64 (p k).v.2], .agg #[.int .i64 (q k).v.1, .int .i64 (q k).v.2]] (by simp only [List.map_toArray, List.map_cons, List.map_nil] <;> rfl) (run_go Try.func57 (by kernel_rfl) (by kernel_rfl) _ _) (sMl_el (p k) (q k) _) ?_
      rintro e U1 ⟨he, kk⟩
      refine ⟨_, he, ?_⟩
      replace KW := hik (KW.out.trans kk)
      refine hK.out _ _ (SA.out _ KW.out) (fun hHeld => ?_)
      clear hK K
      try simp only [Act.put, List.setIfInBounds_toArray, List.set_cons_zero, List.set_cons_succ, List.getElem_toArray, List.getElem_cons_zero, List.getElem_cons_succ]
      clear he kk
      refine wpAnyL_ready (rs := [14]) (by kernel_rfl) (by simp) ?_
      refine AllReadyL.cons rfl (fun K hK => ?_) AllReadyL.nil
      refine stepL_callN 58 #[.tmp 27] #[47] (by rfl) (by rfl) #[.agg #[.int .i64 (p k).v.1, .int .i64 (p k).v.2]] (by simp only [List.map_toArray, List.map_cons, List.map_nil] <;> rfl) (run_go Try.func58 (by kernel_rfl) (by kernel_rfl) _ _) (sLess_el (p k) _) ?_
      rintro e U2 ⟨he, kk⟩
      refine ⟨_, he, ?_⟩
      replace KW := hik (KW.out.trans kk)
      refine hK.out _ _ (SA.out _ KW.out) (fun hHeld => ?_)
      clear hK K
      try simp only [Act.put, List.setIfInBounds_toArray, List.set_cons_zero, List.set_cons_succ, List.getElem_toArray, List.getElem_cons_zero, List.getElem_cons_succ]
      clear he kk
      refine wpAnyL_ready (rs := [19]) (by kernel_rfl) (by simp) ?_
      refine AllReadyL.cons rfl (fun K hK => ?_) AllReadyL.nil
      refine stepL_callN 58 #[.tmp 32] #[47] (by rfl) (by rfl) #[.agg #[.int .i64 (q k).v.1, .int .i64 (q k).v.2]] (by simp only [List.map_toArray, List.map_cons, List.map_nil] <;> rfl) (run_go Try.func58 (by kernel_rfl) (by kernel_rfl) _ _) (sLess_el (q k) _) ?_
      rintro e U3 ⟨he, kk⟩
      refine ⟨_, he, ?_⟩
      replace KW := hik (KW.out.trans kk)
      refine hK.out _ _ (SA.out _ KW.out) (fun hHeld => ?_)
      clear hK K
      try simp only [Act.put, List.setIfInBounds_toArray, List.set_cons_zero, List.set_cons_succ, List.getElem_toArray, List.getElem_cons_zero, List.getElem_cons_succ]
      clear he kk
      refine wpAnyL_ready (rs := [20]) (by kernel_rfl) (by simp) ?_
      refine AllReadyL.cons rfl (fun K hK => ?_) AllReadyL.nil
      refine stepL_callN 57 #[.tmp 28, .tmp 33] #[47, 47] (by rfl) (by rfl) #[.agg #[.int .i64 (El.sb El.on (p k)).v.1, .int .i64 (El.sb El.on (p k)).v.2], .agg #[.int .i64 (El.sb El.on (q k)).v.1, .int .i64 (El.sb El.on (q k)).v.2]] (by simp only [List.map_toArray, List.map_cons, List.map_nil] <;> rfl) (run_go Try.func57 (by kernel_rfl) (by kernel_rfl) _ _) (sMl_el (El.sb El.on (p k)) (El.sb El.on (q k)) _) ?_
      rintro e U4 ⟨he, kk⟩
      refine ⟨_, he, ?_⟩
      replace KW := hik (KW.out.trans kk)
      refine hK.out _ _ (SA.out _ KW.out) (fun hHeld => ?_)
      clear hK K
      try simp only [Act.put, List.setIfInBounds_toArray, List.set_cons_zero, List.set_cons_succ, List.getElem_toArray, List.getElem_cons_zero, List.getElem_cons_succ]
      clear he kk
      refine wpAnyL_ready (rs := [21]) (by kernel_rfl) (by simp) ?_
      refine AllReadyL.cons rfl (fun K hK => ?_) AllReadyL.nil
      refine stepL_callN 61 #[.tmp 23, .tmp 34] #[47, 47] (by rfl) (by rfl) #[.agg #[.int .i64 (El.ml (p k) (q k)).v.1, .int .i64 (El.ml (p k) (q k)).v.2], .agg #[.int .i64 (El.ml (El.sb El.on (p k)) (El.sb El.on (q k))).v.1, .int .i64 (El.ml (El.sb El.on (p k)) (El.sb El.on (q k))).v.2]] (by simp only [List.map_toArray, List.map_cons, List.map_nil] <;> rfl) (run_go Try.func61 (by kernel_rfl) (by kernel_rfl) _ _) (sAd_el (El.ml (p k) (q k)) (El.ml (El.sb El.on (p k)) (El.sb El.on (q k))) _) ?_
      rintro e U5 ⟨he, kk⟩
      refine ⟨_, he, ?_⟩
      replace KW := hik (KW.out.trans kk)
      refine hK.out _ _ (SA.out _ KW.out) (fun hHeld => ?_)
      clear hK K
      try simp only [Act.put, List.setIfInBounds_toArray, List.set_cons_zero, List.set_cons_succ, List.getElem_toArray, List.getElem_cons_zero, List.getElem_cons_succ]
      clear he kk
      refine wpAnyL_ready (rs := [22]) (by kernel_rfl) (by simp) ?_
      refine AllReadyL.cons rfl (fun K hK => ?_) AllReadyL.nil
      refine stepL_callN 57 #[.tmp 14, .tmp 35] #[47, 47] (by rfl) (by rfl) #[.agg #[.int .i64 (El.eqa p q k).v.1, .int .i64 (El.eqa p q k).v.2], .agg #[.int .i64 (El.ad (El.ml (p k) (q k)) (El.ml (El.sb El.on (p k)) (El.sb El.on (q k)))).v.1, .int .i64 (El.ad (El.ml (p k) (q k)) (El.ml (El.sb El.on (p k)) (El.sb El.on (q k)))).v.2]] (by simp only [List.map_toArray, List.map_cons, List.map_nil] <;> rfl) (run_go Try.func57 (by kernel_rfl) (by kernel_rfl) _ _) (sMl_el (El.eqa p q k) (El.ad (El.ml (p k) (q k)) (El.ml (El.sb El.on (p k)) (El.sb El.on (q k)))) _) ?_
      rintro e U6 ⟨he, kk⟩
      refine ⟨_, he, ?_⟩
      replace KW := hik (KW.out.trans kk)
      refine hK.out _ _ (SA.out _ KW.out) (fun hHeld => ?_)
      clear hK K
      try simp only [Act.put, List.setIfInBounds_toArray, List.set_cons_zero, List.set_cons_succ, List.getElem_toArray, List.getElem_cons_zero, List.getElem_cons_succ]
      clear he kk
      refine wpAnyL_ready (rs := [23]) (by kernel_rfl) (by simp) ?_
      refine AllReadyL.last rfl (by kernel_rfl) (fun K hK => ?_)
      have EN := hik (HE.out.keep KW.out)
      have g0 := EN.out.c0
      have g1 := EN.out.c1
      have f0 := EN.out.fz 0
      have f1 := EN.out.fz 1
      have ln : W1.heap.size < U6.heap.size := EN.out.lt
      simp only [List.getElem_toArray, List.getElem_cons_zero, List.getElem_cons_succ]
      go_simp
      refine hK.out _ _ ?_
      clear hK K
      try simp only [Act.put, List.setIfInBounds_toArray, List.set_cons_zero, List.set_cons_succ, List.getElem_toArray, List.getElem_cons_zero, List.getElem_cons_succ]
      clear g0 g1 f0 f1 ln
      refine wpAnyL_done (by kernel_rfl) ?_ _
      have E2 : Hid (ElB _ W1.heap.size (El.eqa p q (k + 1))) := hik (EN.out.set (El.ml (El.eqa p q k) (El.ad (El.ml (p k) (q k)) (El.ml (El.sb El.on (p k)) (El.sb El.on (q k))))))
      have R2 := hik (ElB.other (HR.out.keep KW.out) (g := W1.heap.size) (by omega) 0 1 (.int .i64 (El.ml (El.eqa p q k) (El.ad (El.ml (p k) (q k)) (El.ml (El.sb El.on (p k)) (El.sb El.on (q k))))).v.1) (.int .i64 (El.ml (El.eqa p q k) (El.ad (El.ml (p k) (q k)) (El.ml (El.sb El.on (p k)) (El.sb El.on (q k))))).v.2))
      have G2 := hik (chg2_at (HG.out.trans KW.out) W1.heap.size (fun l => absurd l (by omega)) 0 1 (.int .i64 (El.ml (El.eqa p q k) (El.ad (El.ml (p k) (q k)) (El.ml (El.sb El.on (p k)) (El.sb El.on (q k))))).v.1) (.int .i64 (El.ml (El.eqa p q k) (El.ad (El.ml (p k) (q k)) (El.ml (El.sb El.on (p k)) (El.sb El.on (q k))))).v.2))
      generalize hE : ((U6.setCell ⟨W1.heap.size, 0, none⟩ (.int .i64 (El.ml (El.eqa p q k) (El.ad (El.ml (p k) (q k)) (El.ml (El.sb El.on (p k)) (El.sb El.on (q k))))).v.1)).setCell ⟨W1.heap.size, 1, none⟩ (.int .i64 (El.ml (El.eqa p q k) (El.ad (El.ml (p k) (q k)) (El.ml (El.sb El.on (p k)) (El.sb El.on (q k))))).v.2)) = W5 at E2 R2 G2 ⊢
      clear hE EN KW SA hHeld p0 p1 q0 q1 e0 e1 HE HR HG
      go_wp2
      go_roundw
      case rel => exact ⟨k + 1, by omega, by go_num, E2, R2, G2⟩
      case measure => simp [intOf]; omega
    · obtain rfl : n = k := by omega
      have e0 := HE.out.c0
      have e1 := HE.out.c1
      have c0 : wi.cell? ⟨w.heap.size, 0, none⟩ = some (.int .i64 0) := HR.out.c0
      have c1 : wi.cell? ⟨w.heap.size, 1, none⟩ = some (.int .i64 0) := HR.out.c1
      have f0 := HR.out.fz 0
      have f1 := HR.out.fz 1
      go_wp2
      have u0 := (HR.out.set (El.eqa p q n)).c0
      have u1 := (HR.out.set (El.eqa p q n)).c1
      exact bodyPost_ret (v := .agg #[.int .i64 (El.eqa p q n).v.1, .int .i64 (El.eqa p q n).v.2]) (by simp [results, Try.results46, go_sem, u0, u1]) rfl ⟨rfl, chg2_at HG.out w.heap.size (fun l => absurd l (by omega)) 0 1 (.int .i64 (El.eqa p q n).v.1) (.int .i64 (El.eqa p q n).v.2)⟩

end Go.Proofs.Ytabioonijjibnan
