/- What the model's WitnessOf answers: a contract. -/
import Derived.Test.YtgimmmmiodlepabDoorRunS
import Derived.Test.YtgimmmmiodlepabDoorWitA
import Derived.Deep.DeepCutAuto
namespace Go.Proofs.YtgimmmmiodlepabDoor
open Go.ChangeShapes Go.WideShapes Go.ChangeAt Go.RowKit
set_option linter.unusedVariables false
set_option maxRecDepth 100000
set_option linter.unusedSimpArgs false

section
variable {ops : Array Oper} {o : Oper} {a : Act} {w : World} {K : Act → World → Prop} {Q : Exit → Act → World → Prop} {E : Prop}
/-- append(x, list...) onto an empty row, a step of a region that draws its order. -/
theorem stepL_appN (x y : Operand) (hop : o.op = .call { callee := .builtin .append, args := #[x, y], argTypes := #[40, 40] }) (hw : Region.wanted o (yielded ops a.tmps) = true) (B pb po m cm : Nat) (v : Value) (f P : Nat → Int)
    (hx : a.eval x = v) (hy : a.eval y = .slice (some ⟨pb, po, none⟩) m cm) (hr : IGr w B v 0 f) (hc : RowV w (some ⟨pb, po, none⟩) m (iv P)) (hk : m ≤ 1000000) (hB : B ≤ w.heap.size)
    (h : ∀ v' w', IGr w' B v' m P → Chg (fun i => B ≤ i) w w' → K (a.put o.dst v') w') : if Region.wanted o (yielded ops a.tmps) = true then Oper.wp Tryd.prog o a w K Q else E := by
  rw [if_pos hw]
  obtain ⟨i0, hi, hz0, hz1, hz2⟩ := info_parts infoInt
  refine wp_append_own w x y 40 hop B 3 i0 (.int .i64 0) 1 8 Tryd.underlying40 hi hz0 hz1 hz2 rfl (by decide) v 0 ((List.range 0).map (iv f)) hx hr ⟨pb, po, none⟩ m cm ((List.range m).map (iv P)) hy (by simp) ?_ ?_ (by unfold maxLen; omega) (by omega) hB ?_
  · intro j u hj
    rw [List.getElem?_map] at hj
    by_cases hjm : j < m
    · rw [List.getElem?_range hjm] at hj
      simp at hj
      subst hj
      obtain ⟨yb, yo, e, _, q⟩ := hc j hjm
      cases e
      rw [Go.WideShapes.add_plain]
      exact q
    · rw [List.getElem?_eq_none (by simp; omega)] at hj
      cases hj
  · intro u hu
    simp at hu
    obtain ⟨j, _, rfl⟩ := hu
    rfl
  · intro v' w' hown hgr _
    refine h v' w' (by unfold IGr; simpa using hown) ((Chg.refl _ w).grown hgr (fun b e _ => hr.len e))
end
set_option maxHeartbeats 4000000 in
theorem sPriv_any (c : Option Addr) (n cap : Nat) (G : Nat → Gt) (cs : Option Addr) (caps : Nat) (V : Nat → Int) (w : World) (hv : Hid (GatV w c n G)) (hs : Hid (RowV w cs n (iv V))) (h15 : n ≤ 15) :
    Calls Tryd.prog 49 #[.agg #[.slice c n cap], .slice cs n caps] w fun e w' => ∃ v, e = .returned v ∧ IGr w' w.heap.size v (n - ctg 2 n G) (prF G V n) ∧ Chg nob w w' := by
  have KB := hik ((Chg.refl nob w).alloc (.cells #[.slice c n cap] 33))
  have x0 : World.cell? (w.alloc (.cells #[.slice c n cap] 33)) ⟨w.heap.size, 0, none⟩ = some (.slice c n cap) := by go_simp
  have HB0 := hik (show w.heap.size + 1 = (w.alloc (.cells #[.slice c n cap] 33)).heap.size by simp)
  have FR := hik (IGr.fresh (w.alloc (.cells #[.slice c n cap] 33)) (w.heap.size + 1) (prF G V 0) (by simp))
  have KO := hik (KB.out.alloc (.cells #[] 3))
  have X1 := hik (((Chg.refl nob (w.alloc (.cells #[.slice c n cap] 33))).alloc (.cells #[] 3)).look x0)
  have LO := hik (show w.heap.size + 1 ≤ ((w.alloc (.cells #[.slice c n cap] 33)).alloc (.cells #[] 3)).heap.size by simp)
  rw [← HB0.out] at FR
  clear x0 KB HB0
  go_enter Tryd.func49, Tryd.ntmps49
  go_wp2
  generalize (w.alloc (.cells #[.slice c n cap] 33)).alloc (.cells #[] 3) = W0 at FR KO X1 LO ⊢
  go_loopw [5, 6] (fun v5 i W => ∃ k : Nat, k ≤ n ∧ i = .int .i64 k ∧ Hid (IGr W (w.heap.size + 1) v5 (k - ctg 2 k G) (prF G V k)) ∧ Hid (Chg nob w W) ∧ Hid (W.cell? ⟨w.heap.size, 0, none⟩ = some (.slice c n cap)) ∧ Hid (w.heap.size + 1 ≤ W.heap.size)) (fun _ i _ => n - (intOf i).toNat)
  case atStart => exact ⟨0, Nat.zero_le _, rfl, FR, KO, X1, LO⟩
  case round =>
    clear FR KO X1 LO
    obtain ⟨k, hk, rfl, HI, HK, HX, HL⟩ := hrel
    rename World => wi
    have x0 := HX.out
    have hcl := ctg_le 2 G k
    by_cases hlt : k < n
    · have hkn : ((k : Nat) : Int) < n := by omega
      obtain ⟨xb, xo, rfl, hxb, c0, c1, c2, c3⟩ := (hv.out.keep HK.out) k hlt
      obtain ⟨yb, yo, rfl, hyb, d0⟩ := (hs.out.keep HK.out) k hlt
      replace d0 : wi.cell? ⟨yb, yo + k, none⟩ = some (.int .i64 (V k)) := d0
      have HS2 := hik (ctg_s 2 k G)
      clear c1 c2 c3
      by_cases e2 : (G k).1 = 2
      · have E2 := hik e2
        rw [e2] at c0
        go_wp2
        go_roundw
        case rel => exact ⟨k + 1, by omega, by go_num, hik (by rw [HS2.out, if_pos E2.out, show k + 1 - (ctg 2 k G + 1) = k - ctg 2 k G by omega]; exact HI.out.congr (fun i _ => prF_pub E2.out i)), HK, HX, HL⟩
        case measure => simp [intOf]; omega
      · have E2 := hik e2
        generalize (G k).1 = op9 at c0 e2
        have e2' : (op9 != 2) = true := by simpa using e2
        obtain ⟨z, hz⟩ : ∃ z, z = V k := ⟨_, rfl⟩
        rw [← hz] at d0
        have EZ := hik hz
        clear hz
        have IB := hik (HI.out.keep ((Chg.refl nob wi).alloc (.cells #[.int .i64 z] 3)))
        have CB := hik (show World.cell? (wi.alloc (.cells #[.int .i64 z] 3)) ⟨wi.heap.size, 0, none⟩ = some (.int .i64 z) by go_simp)
        have LB := hik (show w.heap.size + 1 ≤ (wi.alloc (.cells #[.int .i64 z] 3)).heap.size from Nat.le_trans HL.out ((Chg.refl nob wi).alloc (.cells #[.int .i64 z] 3)).size)
        have KQ := hik (HK.out.alloc (.cells #[.int .i64 z] 3))
        have XB := hik (((Chg.refl nob wi).alloc (.cells #[.int .i64 z] 3)).look HX.out)
        go_wp2_with (at_builtin; refine wpList_app1 (by rfl) (.tmp 22) (.tmp 27) (by rfl) (w.heap.size + 1) (k - ctg 2 k G) wi.heap.size _ _ z (by rfl) (by rfl) IB.out CB.out (by omega) LB.out ?b6)
        case b6 =>
          intro v7 w7 hg7 k7
          have HI7 := hik (hg7.congr (g := prF G V (k + 1)) (fun i _ => by rw [EZ.out]; exact prF_oth E2.out i))
          have KZ := hik (KQ.out.near k7 (fun i q => by have q : w.heap.size + 1 ≤ i := q; omega))
          have X7 := hik (k7.seeP XB.out (fun q => by have q : w.heap.size + 1 ≤ w.heap.size := q; omega))
          have L7 := hik (Nat.le_trans LB.out k7.size)
          clear hg7 k7 IB CB LB KQ XB
          go_wp2
          go_roundw
          case rel => exact ⟨k + 1, by omega, by go_num, hik (by rw [HS2.out, if_neg E2.out, show k + 1 - (ctg 2 k G + 0) = k - ctg 2 k G + 1 by omega]; exact HI7.out), KZ, X7, L7⟩
          case measure => simp [intOf]; omega
    · obtain rfl : k = n := by omega
      go_wp2
      go_ret
      exact ⟨_, rfl, HI.out.lower (by omega), HK.out⟩

set_option maxHeartbeats 4000000 in
theorem sWitX_any (c : Option Addr) (n cap : Nat) (G : Nat → Gt) (pb po np capp : Nat) (P : Nat → Int) (ci : Option Addr) (ni capi : Nat) (I : Nat → Int) (w : World) (hv : Hid (GatV w c n G)) (hp : Hid (RowV w (some ⟨pb, po, none⟩) np (iv P))) (hi : Hid (RowV w ci ni (iv I))) (hn : n ≤ 1099511627776) (hnp : np ≤ 1099511627776) (hni : ni ≤ 1099511627776) :
    Calls Tryd.prog 16 #[.agg #[.slice c n cap], .slice (some ⟨pb, po, none⟩) np capp, .slice ci ni capi] w fun e w' => WtAns w (rcc n G np P ni I) np P (n - np) (prF G (rvl G P I n) n) e w' := by
  have KB := hik ((Chg.refl nob w).alloc (.cells #[.slice c n cap] 33))
  have x0 : World.cell? (w.alloc (.cells #[.slice c n cap] 33)) ⟨w.heap.size, 0, none⟩ = some (.slice c n cap) := by go_simp
  have hask := sAsk11_any c n cap G (some ⟨pb, po, none⟩) np capp P ci ni capi I (w.alloc (.cells #[.slice c n cap] 33)) (hik (hv.out.keep KB.out)) (hik (hp.out.keep KB.out)) (hik (hi.out.keep KB.out)) hn hnp hni
  by_cases h1 : 4096 < np
  · have h1' : (4096 : Int) < np := by omega
    have HC := hik (show rcc n G np P ni I = 2 by have ha : akr n G np P ni I = 2 := (by unfold akr; rw [if_pos (.inl h1)]); unfold rcc; rw [ha]; rfl)
    go_enter Tryd.func16, Tryd.ntmps16
    go_wp2
    exact bodyPost_ret (v := .tuple #[.slice (some ⟨w.heap.size + 1, 0, none⟩) 0 0, .slice (some ⟨w.heap.size + 1 + 1, 0, none⟩) 0 0, .int .i64 2]) (by simp [results, Tryd.results16, go_sem]) rfl (WtAns.no HC.out (by omega) rfl ((KB.out.alloc _).alloc _))
  have h1' : ¬ (4096 : Int) < np := by omega
  by_cases h2 : 4096 < ni
  · have h2' : (4096 : Int) < ni := by omega
    have HC := hik (show rcc n G np P ni I = 2 by have ha : akr n G np P ni I = 2 := (by unfold akr; rw [if_pos (.inr h2)]); unfold rcc; rw [ha]; rfl)
    go_enter Tryd.func16, Tryd.ntmps16
    go_wp2
    exact bodyPost_ret (v := .tuple #[.slice (some ⟨w.heap.size + 1, 0, none⟩) 0 0, .slice (some ⟨w.heap.size + 1 + 1, 0, none⟩) 0 0, .int .i64 2]) (by simp [results, Tryd.results16, go_sem]) rfl (WtAns.no HC.out (by omega) rfl ((KB.out.alloc _).alloc _))
  have h2' : ¬ (4096 : Int) < ni := by omega
  by_cases h0 : akr n G np P ni I = 0
  · obtain ⟨hcr, hfp, hfi, ep, ei⟩ := akr_ok h0
    obtain ⟨h1n, h15, hg, q7⟩ := crb_ok hcr
    have HC := hik (show rcc n G np P ni I = if fts G (rvl G P I n) n = true then 0 else 15 by unfold rcc; rw [if_pos h0])
    rw [h0] at hask
    have EP := hik ep
    have hrun := fun W (k : Hid (Chg nob w W)) => sRun11_any c n cap G (some ⟨pb, po, none⟩) np capp P ci ni capi I W (hik (hv.out.keep k.out)) (hik (hp.out.keep k.out)) (hik (hi.out.keep k.out)) h15 (hik hg) (hik ep) (hik ei) (hik hfp) (hik hfi)
    have hfit := fun (cs : Option Addr) (caps : Nat) W (k : Hid (Chg nob w W)) (r : Hid (RowV W cs n (iv (rvl G P I n)))) => sFits11_any c n cap G cs caps (rvl G P I n) W (hik (hv.out.keep k.out)) r h15 (hik hg)
    have hpri := fun (cs : Option Addr) (caps : Nat) W (k : Hid (GatV W c n G)) (r : Hid (RowV W cs n (iv (rvl G P I n)))) => sPriv_any c n cap G cs caps (rvl G P I n) W k r h15
    clear h0 hg ep ei hfp hfi hcr q7
    generalize rcc n G np P ni I = cd at HC ⊢
    generalize rvl G P I n = V at hrun hfit hpri HC ⊢
    generalize fts G V n = ft at hfit HC
    go_enter Tryd.func16, Tryd.ntmps16
    go_wp2_with (go_at_call 46; refine hask.mono ?_; rintro e W1 ⟨rfl, k1⟩; have K1 := hik (KB.out.trans k1); have x1 := k1.look x0; clear k1)
    refine (hrun _ K1).mono ?_
    rintro e W2 ⟨v2, rfl, g2, k2⟩
    have K2 := hik (K1.out.trans k2)
    have x2 := k2.look x1
    obtain ⟨c2, p2, rfl, l2, m2, r2⟩ := g2.row
    have R2 := hik r2
    clear k2 g2 r2
    go_wp2_with fail
    refine (hfit c2 p2 _ K2 R2).mono ?_
    rintro e W3 ⟨rfl, k3⟩
    have K3 := hik (K2.out.trans k3)
    have R3 := hik (R2.out.keep k3)
    have x3 := k3.look x2
    clear k3
    cases ft with
    | true =>
      have HC0 := hik (show cd = 0 by rw [HC.out]; rfl)
      have hw3 : w.heap.size ≤ W3.heap.size := K3.out.size
      go_upto_region 9 with fail
      clear x0 x1 x2
      have KW := hik ((Chg.refl (fun i => W3.heap.size ≤ i) W3).drew1)
      have SA := hik (fun (WW : World) (kW : Chg (fun i => W3.heap.size ≤ i) W3 WW) => (show (WW.cell? ⟨w.heap.size, 0, none⟩ = some (.slice c n cap)) from kW.seeP x3 (fun q => by have q : W3.heap.size ≤ w.heap.size := q; have := World.block_lt_of_cell? _ _ x3; simp at this; omega)))
      refine wp_region_held_drew (S := fun w' => w'.cell? ⟨w.heap.size, 0, none⟩ = some (.slice c n cap)) (by kernel_rfl) (SA.out _ KW.out) (fun hHeld => ?_)
      refine wpAnyH_take (i := 1) (v := ?_) rfl (by kernel_rfl) (by kernel_rfl) (by kernel_rfl) (fun _ _ _ h => h) (Or.inl ⟨by rfl, ?_⟩) (by assumption) ?_
      rotate_left 1
      · (intro w' hSw; (try dsimp only at hSw); go_simp; try with_reducible rfl)
      try simp only [Act.put, List.setIfInBounds_toArray, List.set_cons_zero, List.set_cons_succ, List.getElem_toArray, List.getElem_cons_zero, List.getElem_cons_succ]
      refine wpAnyH_take (i := 3) (v := ?_) rfl (by kernel_rfl) (by kernel_rfl) (by kernel_rfl) (fun _ _ _ h => h) (Or.inl ⟨by rfl, ?_⟩) (by assumption) ?_
      rotate_left 1
      · (intro w' hSw; (try dsimp only at hSw); go_simp; try with_reducible rfl)
      try simp only [Act.put, List.setIfInBounds_toArray, List.set_cons_zero, List.set_cons_succ, List.getElem_toArray, List.getElem_cons_zero, List.getElem_cons_succ]
      refine wpAnyH_take (i := 4) (v := ?_) rfl (by kernel_rfl) (by kernel_rfl) (by kernel_rfl) (fun _ _ _ h => h) (Or.inl ⟨by rfl, ?_⟩) (by assumption) ?_
      rotate_left 1
      · (intro w' hSw; (try dsimp only at hSw); go_simp; try with_reducible rfl)
      try simp only [Act.put, List.setIfInBounds_toArray, List.set_cons_zero, List.set_cons_succ, List.getElem_toArray, List.getElem_cons_zero, List.getElem_cons_succ]
      refine wpAnyH_ready (rs := [0]) (by kernel_rfl) (by simp) ?_
      refine AllReadyH.cons rfl (fun K hK => ?_) AllReadyH.nil
      simp only [List.getElem_toArray, List.getElem_cons_zero, List.getElem_cons_succ]
      go_simp
      have FR : Hid (IGr ((World.alloc W3 (.cells #[] 3)).drew) W3.heap.size (.slice (some ⟨W3.heap.size, 0, none⟩) 0 0) 0 P) := hik ((IGr.fresh W3 W3.heap.size P (Nat.le_refl _)).keep ((Chg.refl nob _).drew1))
      replace KW : Hid (Chg (fun i => W3.heap.size ≤ i) W3 ((World.alloc W3 (.cells #[] 3)).drew)) := hik (((Chg.refl _ W3).alloc _).drew1)
      generalize hUA : (World.alloc W3 (.cells #[] 3)).drew = UA at FR KW ⊢
      clear hUA
      generalize hgF : (some ⟨W3.heap.size, 0, none⟩ : Option Addr) = cF at FR ⊢
      clear hgF
      refine hK.out _ _ (SA.out _ KW.out) (fun hHeld => ?_)
      clear hK K
      try simp only [Act.put, List.setIfInBounds_toArray, List.set_cons_zero, List.set_cons_succ, List.getElem_toArray, List.getElem_cons_zero, List.getElem_cons_succ]
      refine wpAnyH_ready (rs := [2]) (by kernel_rfl) (by simp) ?_
      refine AllReadyH.cons rfl (fun K hK => ?_) AllReadyH.nil
      refine stepL_appN (.tmp 40) (.tmp 41) (by rfl) (by rfl) W3.heap.size pb po np capp _ _ P (by rfl) (by rfl) FR.out ((hp.out.keep K3.out).chg KW.out (fun xb xo _ l q => by have q : W3.heap.size ≤ xb := q; omega)) (by omega) KW.out.size (fun v7 w7 hg7 k7 => ?_)
      have H7 := hik hg7
      replace KW := hik (KW.out.trans k7)
      have LW7 := hik (show W3.heap.size ≤ w7.heap.size from KW.out.size)
      clear hg7 k7 FR
      refine hK.out _ _ (SA.out _ KW.out) (fun hHeld => ?_)
      clear hK K
      try simp only [Act.put, List.setIfInBounds_toArray, List.set_cons_zero, List.set_cons_succ, List.getElem_toArray, List.getElem_cons_zero, List.getElem_cons_succ]
      refine wpAnyH_ready (rs := [5]) (by kernel_rfl) (by simp) ?_
      refine AllReadyH.cons rfl (fun K hK => ?_) AllReadyH.nil
      refine stepL_callN 49 #[.tmp 43, .tmp 44] #[33, 40] (by rfl) (by rfl) #[.agg #[.slice c n cap], .slice c2 n p2] (by simp only [List.map_toArray, List.map_cons, List.map_nil] <;> rfl) (run_go Tryd.func49 (by kernel_rfl) (by kernel_rfl) _ _) (hpri c2 p2 _ (hik ((hv.out.keep K3.out).chg KW.out (fun xb xo _ _ l q => by have q : W3.heap.size ≤ xb := q; omega))) (hik (R3.out.chg KW.out (fun xb xo _ l q => by have q : W3.heap.size ≤ xb := q; omega)))) ?_
      rintro e U1 ⟨v8, he, g8, kk⟩
      have H8 := hik g8
      have S7 := hik (fun x (q : v7.ownBlock = some x) => (H7.out.blk q).2)
      replace H7 := hik (H7.out.keep kk)
      clear g8
      refine ⟨_, he, ?_⟩
      replace KW := hik (KW.out.trans kk.wide)
      refine hK.out _ _ (SA.out _ KW.out) (fun hHeld => ?_)
      clear hK K
      try simp only [Act.put, List.setIfInBounds_toArray, List.set_cons_zero, List.set_cons_succ, List.getElem_toArray, List.getElem_cons_zero, List.getElem_cons_succ]
      clear he kk
      refine wpAnyH_take (i := 6) (v := ?_) rfl (by kernel_rfl) (by kernel_rfl) (by kernel_rfl) (fun _ _ _ h => h) (Or.inl ⟨by rfl, ?_⟩) (by assumption) ?_
      rotate_left 1
      · (intro w' hSw; (try dsimp only at hSw); go_simp; try with_reducible rfl)
      try simp only [Act.put, List.setIfInBounds_toArray, List.set_cons_zero, List.set_cons_succ, List.getElem_toArray, List.getElem_cons_zero, List.getElem_cons_succ]
      refine wpAnyH_take (i := 7) (v := ?_) rfl (by kernel_rfl) (by kernel_rfl) (by kernel_rfl) (fun _ _ _ h => h) (Or.inl ⟨by rfl, ?_⟩) (by assumption) ?_
      rotate_left 1
      · (intro w' hSw; (try dsimp only at hSw); go_simp; try with_reducible rfl)
      try simp only [Act.put, List.setIfInBounds_toArray, List.set_cons_zero, List.set_cons_succ, List.getElem_toArray, List.getElem_cons_zero, List.getElem_cons_succ]
      refine wpAnyH_take (i := 8) (v := ?_) rfl (by kernel_rfl) (by kernel_rfl) (by kernel_rfl) (fun _ _ _ h => h) (Or.inl ⟨by rfl, ?_⟩) (by assumption) ?_
      rotate_left 1
      · (intro w' hSw; (try dsimp only at hSw); go_simp; try with_reducible rfl)
      try simp only [Act.put, List.setIfInBounds_toArray, List.set_cons_zero, List.set_cons_succ, List.getElem_toArray, List.getElem_cons_zero, List.getElem_cons_succ]
      refine wpAnyH_done (by kernel_rfl) ?_ _
      obtain ⟨d1, q1, rfl, o1, b1⟩ := H7.out.out9
      obtain ⟨d2, q2, rfl, o2, b2⟩ := H8.out.out9
      have hw7 : W3.heap.size ≤ w7.heap.size := LW7.out
      have O1 := hik (o1.mono (g := P) hw3 (fun _ _ => rfl))
      have O2 := hik (o2.mono (B' := w.heap.size) (g := prF G V n) (by omega) (fun _ _ => rfl))
      have AQ := hik (show ∀ b o o', d1 = some ⟨b, o, none⟩ → d2 = some ⟨b, o', none⟩ → np = 0 ∨ n - np = 0 from fun b o o' e1 e2 => by
        rcases Nat.eq_zero_or_pos np with q | q
        · exact .inl q
        · rcases Nat.eq_zero_or_pos (n - np) with r | r
          · exact .inr r
          · have t1 := S7.out b (b1 b o e1 q)
            have t2 := (H8.out.blk (b2 b o' e2 (by rw [← EP.out]; exact r))).1
            omega)
      rw [← EP.out] at O2
      have KF := hik (K3.out.near KW.out (fun i q => by have q : W3.heap.size ≤ i := q; omega))
      clear o1 o2 b1 b2 SA KW
      rw [← EP.out]
      go_wp2
      exact bodyPost_ret (v := .tuple #[.slice d1 np q1, .slice d2 (n - np) q2, .int .i64 0]) (by simp [results, Tryd.results16, go_sem]) rfl (WtAns.yes HC0.out rfl O1.out O2.out AQ.out KF.out)
    | false =>
      go_wp2
      exact bodyPost_ret (v := .tuple #[.slice (some ⟨W3.heap.size, 0, none⟩) 0 0, .slice (some ⟨W3.heap.size + 1, 0, none⟩) 0 0, .int .i64 15]) (by simp [results, Tryd.results16, go_sem]) rfl (WtAns.no (by rw [HC.out]; rfl) (by omega) rfl ((K3.out.alloc _).alloc _))
  · have HC := hik (show rcc n G np P ni I = akr n G np P ni I by unfold rcc; rw [if_neg h0])
    generalize rcc n G np P ni I = cd at HC ⊢
    generalize akr n G np P ni I = ak at hask h0 HC
    have h0' : (ak != 0) = true := by simpa using h0
    go_enter Tryd.func16, Tryd.ntmps16
    go_wp2_with (go_at_call 46; refine hask.mono ?_; rintro e W1 ⟨rfl, k1⟩; have K1 := hik (KB.out.trans k1); clear k1)
    exact bodyPost_ret (v := .tuple #[.slice (some ⟨W1.heap.size, 0, none⟩) 0 0, .slice (some ⟨W1.heap.size + 1, 0, none⟩) 0 0, .int .i64 ak]) (by simp [results, Tryd.results16, go_sem]) rfl (WtAns.no HC.out h0 rfl ((K1.out.alloc _).alloc _))
end Go.Proofs.YtgimmmmiodlepabDoor
