/- What the program's WitnessOf answers: a contract. -/
import Derived.Test.YtgimmmmiodlepabDoorRunZ
import Derived.Test.YtgimmmmiodlepabDoorWitA
import Derived.Deep.DeepCutAuto
namespace Go.Proofs.YtgimmmmiodlepabDoor
open Go.ChangeShapes Go.WideShapes Go.ChangeAt Go.RowKit
set_option linter.unusedVariables false
set_option maxRecDepth 100000
set_option linter.unusedSimpArgs false

theorem pub_next {P : Nat → Int} {c : Nat} {z : Int} (h : z = P c) (i : Nat) : (if i = c then z else P i) = P i := by
  split
  · rename_i e; rw [h, e]
  · rfl
set_option maxHeartbeats 4000000 in
theorem witX_any (c : Option Addr) (n cap : Nat) (G : Nat → Gt) (cp : Option Addr) (np capp : Nat) (P : Nat → Int) (ci : Option Addr) (ni capi : Nat) (I : Nat → Int) (w : World) (hv : Hid (GatV w c n G)) (h : Hid (Shp w)) (hp : Hid (RowV w cp np (iv P))) (hi : Hid (RowV w ci ni (iv I))) (hn : n ≤ 1099511627776) (hnp : np ≤ 1099511627776) (hni : ni ≤ 1099511627776) (lp : np ≤ capp) (lp2 : capp ≤ 1099511627776) (li : ni ≤ capi) (li2 : capi ≤ 1099511627776) :
    Calls Tryd.prog 18 #[.agg #[.slice c n cap], .slice cp np capp, .slice ci ni capi] w fun e w' => WtAns w (rcc n G np P ni I) np P (n - np) (prF G (rvl G P I n) n) e w' := by
  have KB := hik ((Chg.refl nob w).alloc (.cells #[.slice c n cap] 33))
  have x0 : World.cell? (w.alloc (.cells #[.slice c n cap] 33)) ⟨w.heap.size, 0, none⟩ = some (.slice c n cap) := by go_simp
  have hrun := runX_any c n cap G cp np capp P ci ni capi I (w.alloc (.cells #[.slice c n cap] 33)) (hik (hv.out.keep KB.out)) (hik (h.out.keep KB.out)) (hik (hp.out.keep KB.out)) (hik (hi.out.keep KB.out)) hn hnp hni lp lp2 li li2
  by_cases h0 : rcc n G np P ni I = 0
  · have hak : akr n G np P ni I = 0 := by
      unfold rcc at h0
      split at h0
      · assumption
      · exact absurd h0 (by assumption)
    obtain ⟨hcr, q1, q2, ep, ei⟩ := akr_ok hak
    obtain ⟨h1n, h15, hg, q7⟩ := crb_ok hcr
    have HC := hik h0
    unfold RnAns at hrun
    rw [h0, if_pos rfl] at hrun
    have EP := hik ep
    clear h0 hak hcr hg ep ei q1 q2 q7
    have HPU := hik (fun k (hk : k < n) (e : (G k).1 = 2) => rvl_pub (P := P) (I := I) hk e)
    generalize rvl G P I n = V at hrun HPU ⊢
    go_enter Tryd.func18, Tryd.ntmps18
    go_wp2_with (go_at_call 50; refine hrun.mono ?_; rintro e W1 ⟨cV, pV, rfl, oV, k1⟩; have K1 := hik (KB.out.trans k1); have x1 := k1.look x0; have OV := hik oV; clear k1 oV)
    clear x0 KB
    have HB := hik (show w.heap.size ≤ W1.heap.size from K1.out.size)
    go_loopw [11, 12, 28] (fun v11 v12 i W => ∃ k : Nat, k ≤ n ∧ i = .int .i64 k ∧ Hid (IGr W W1.heap.size v11 (ctg 2 k G) P) ∧ Hid (IGr W W1.heap.size v12 (k - ctg 2 k G) (prF G V k)) ∧ Hid (Aprt v11 v12) ∧ Hid (Chg (fun i => W1.heap.size ≤ i) W1 W)) (fun _ _ i _ => n - (intOf i).toNat)
    case atStart => exact ⟨0, Nat.zero_le _, rfl, hik (IGr.nil W1 _ _), hik (IGr.nil W1 _ _), hik (fun x e _ => by simp [Value.ownBlock] at e), hik (Chg.refl _ _)⟩
    case round =>
      clear x1
      obtain ⟨k, hk, rfl, H1, H2, AP, KC⟩ := hrel
      rename World => wi
      have hcl := ctg_le 2 G k
      by_cases hlt : k < n
      · have hkn : ((k : Nat) : Int) < n := by omega
        obtain ⟨xb, xo, rfl, hxb, c0, c1, c2, c3⟩ := ((hv.out.keep K1.out).chg KC.out (fun xb xo _ _ l q => by have q : W1.heap.size ≤ xb := q; omega)) k hlt
        obtain ⟨yb, yo, rfl, hyb, d0⟩ := (OV.out.row.chg KC.out (fun xb xo _ l q => by have q : W1.heap.size ≤ xb := q; omega)) k hlt
        have d0 : wi.cell? ⟨yb, yo + k, none⟩ = some (.int .i64 (V k)) := d0
        have HS2 := hik (ctg_s 2 k G)
        generalize (G k).2.1 = ga at c1
        generalize (G k).2.2.1 = gb at c2
        generalize (G k).2.2.2 = gk at c3
        by_cases e2 : (G k).1 = 2
        · have EZ := hik (HPU.out k hlt e2)
          generalize V k = z at d0 EZ
          rw [e2] at c0
          have KA := hik ((Chg.refl nob wi).alloc (.cells #[.int .i64 2, .int .i64 ga, .int .i64 gb, .int .i64 gk] 51))
          have d1 := KA.out.see d0
          have A1 := hik (H1.out.keep KA.out)
          have A2 := hik (H2.out.keep KA.out)
          have KD := hik ((KC.out.trans (KA.out.wide (P := fun i => W1.heap.size ≤ i))))
          go_upto_region 9 with fail
          clear c0 c1 c2 c3 d0
          generalize wi.alloc (.cells #[.int .i64 2, .int .i64 ga, .int .i64 gb, .int .i64 gk] 51) = W2 at KA d1 A1 A2 KD ⊢
          clear KA
          have LB := hik (show W1.heap.size ≤ W2.heap.size from KD.out.size)
          have IB := hik (A1.out.keep ((Chg.refl nob W2).alloc (.cells #[.int .i64 z] 3)))
          have JB := hik (A2.out.keep ((Chg.refl nob W2).alloc (.cells #[.int .i64 z] 3)))
          have CB := hik (show World.cell? (W2.alloc (.cells #[.int .i64 z] 3)) ⟨W2.heap.size, 0, none⟩ = some (.int .i64 z) by go_simp)
          have LC := hik (show W1.heap.size ≤ (W2.alloc (.cells #[.int .i64 z] 3)).heap.size from Nat.le_trans LB.out ((Chg.refl nob W2).alloc (.cells #[.int .i64 z] 3)).size)
          have KQ := hik (KD.out.alloc (.cells #[.int .i64 z] 3))
          go_wp2_with (at_builtin; refine wpList_app2 (by rfl) (.tmp 36) (.tmp 41) (by rfl) W1.heap.size (ctg 2 k G) W2.heap.size _ _ z (by rfl) (by rfl) IB.out CB.out (by omega) LC.out ?b6)
          case b6 =>
            intro v7 w7 hg7 k7 hat7
            have HI7 := hik (hg7.congr (g := P) (fun i _ => pub_next EZ.out i))
            have HO7 := hik (JB.out.far k7 (fun x e q => AP.out x q e))
            have AP7 := hik (show Aprt v7 u12 from fun x e1 e2 => by
              rcases hat7 x e1 with q | q
              · exact AP.out x q e2
              · have hx := (JB.out.blk e2).2
                have hs : (W2.alloc (.cells #[.int .i64 z] 3)).heap.size = W2.heap.size + 1 := by simp
                omega)
            have KZ := hik (KQ.out.trans (k7.mono (fun x _ e => (IB.out.blk e).1)))
            clear hg7 k7 hat7 IB JB CB LC KQ
            go_wp2
            go_roundw
            case rel => exact ⟨k + 1, by omega, by go_num, hik (by rw [HS2.out, if_pos e2]; exact HI7.out), hik (by rw [HS2.out, if_pos e2, show k + 1 - (ctg 2 k G + 1) = k - ctg 2 k G by omega]; exact HO7.out.congr (fun i _ => prF_pub e2 i)), AP7, KZ⟩
            case measure => simp [intOf]; omega
        · have EZ := hik (show V k = V k from rfl)
          obtain ⟨z, hz⟩ : ∃ z, z = V k := ⟨_, rfl⟩
          rw [← hz] at d0
          replace EZ := hik hz
          clear hz
          have E29 := hik e2
          generalize hop : (G k).1 = op9 at c0 HS2
          have e29 : ¬ op9 = 2 := by rw [← hop]; exact E29.out
          have HOP := hik hop
          clear hop
          have KA := hik ((Chg.refl nob wi).alloc (.cells #[.int .i64 op9, .int .i64 ga, .int .i64 gb, .int .i64 gk] 51))
          have d1 := KA.out.see d0
          have A1 := hik (H1.out.keep KA.out)
          have A2 := hik (H2.out.keep KA.out)
          have KD := hik ((KC.out.trans (KA.out.wide (P := fun i => W1.heap.size ≤ i))))
          go_upto_region 10 with fail
          clear c0 c1 c2 c3 d0
          generalize wi.alloc (.cells #[.int .i64 op9, .int .i64 ga, .int .i64 gb, .int .i64 gk] 51) = W2 at KA d1 A1 A2 KD ⊢
          clear KA
          have LB := hik (show W1.heap.size ≤ W2.heap.size from KD.out.size)
          have IB := hik (A2.out.keep ((Chg.refl nob W2).alloc (.cells #[.int .i64 z] 3)))
          have JB := hik (A1.out.keep ((Chg.refl nob W2).alloc (.cells #[.int .i64 z] 3)))
          have CB := hik (show World.cell? (W2.alloc (.cells #[.int .i64 z] 3)) ⟨W2.heap.size, 0, none⟩ = some (.int .i64 z) by go_simp)
          have LC := hik (show W1.heap.size ≤ (W2.alloc (.cells #[.int .i64 z] 3)).heap.size from Nat.le_trans LB.out ((Chg.refl nob W2).alloc (.cells #[.int .i64 z] 3)).size)
          have KQ := hik (KD.out.alloc (.cells #[.int .i64 z] 3))
          go_wp2_with (at_builtin; refine wpList_app2 (by rfl) (.tmp 43) (.tmp 48) (by rfl) W1.heap.size (k - ctg 2 k G) W2.heap.size _ _ z (by rfl) (by rfl) IB.out CB.out (by omega) LC.out ?b6)
          case b6 =>
            intro v7 w7 hg7 k7 hat7
            have HI7 := hik (hg7.congr (g := prF G V (k + 1)) (fun i hi => by rw [EZ.out]; exact prF_oth E29.out i))
            have HO7 := hik (JB.out.far k7 (fun x e q => AP.out x e q))
            have AP7 := hik (show Aprt u11 v7 from fun x e1 e2 => by
              rcases hat7 x e2 with q | q
              · exact AP.out x e1 q
              · have hx := (JB.out.blk e1).2
                have hs : (W2.alloc (.cells #[.int .i64 z] 3)).heap.size = W2.heap.size + 1 := by simp
                omega)
            have KZ := hik (KQ.out.trans (k7.mono (fun x _ e => (IB.out.blk e).1)))
            clear hg7 k7 hat7 IB JB CB LC KQ
            go_wp2
            go_roundw
            case rel => exact ⟨k + 1, by omega, by go_num, hik (by rw [HS2.out, if_neg e29]; exact HO7.out), hik (by rw [HS2.out, if_neg e29, show k + 1 - (ctg 2 k G + 0) = k - ctg 2 k G + 1 by omega]; exact HI7.out), AP7, KZ⟩
            case measure => simp [intOf]; omega
      · obtain rfl : k = n := by omega
        obtain ⟨c1, p1, rfl, o1, b1⟩ := H1.out.out9
        obtain ⟨c2, p2, rfl, o2, b2⟩ := H2.out.out9
        have O1 := hik (o1.mono (g := P) HB.out (fun _ _ => rfl))
        have O2 := hik (o2.mono (g := prF G V k) HB.out (fun _ _ => rfl))
        have AQ := hik (show ∀ b o o', c1 = some ⟨b, o, none⟩ → c2 = some ⟨b, o', none⟩ → np = 0 ∨ k - np = 0 from fun b o o' e1 e2 => by
          rcases Nat.eq_zero_or_pos np with q | q
          · exact .inl q
          · rcases Nat.eq_zero_or_pos (k - np) with r | r
            · exact .inr r
            · exact (AP.out b (b1 b o e1 (by rw [← EP.out]; exact q)) (b2 b o' e2 (by rw [← EP.out]; exact r))).elim)
        rw [← EP.out] at O1 O2
        clear o1 o2 b1 b2
        rw [← EP.out]
        go_wp2
        exact bodyPost_ret (v := .tuple #[.slice c1 np p1, .slice c2 (k - np) p2, .int .i64 0]) (by simp [results, Tryd.results18, go_sem]) rfl (WtAns.yes HC.out rfl O1.out O2.out AQ.out (K1.out.near KC.out (fun i q => by have q : W1.heap.size ≤ i := q; have := HB.out; omega)))
  · have HC := hik h0
    unfold RnAns at hrun
    rw [if_neg h0] at hrun
    generalize hcd : rcc n G np P ni I = cd at hrun HC ⊢
    have h0' : (cd != 0) = true := by have := HC.out; simpa using this
    go_enter Tryd.func18, Tryd.ntmps18
    go_wp2_with (go_at_call 50; refine hrun.mono ?_; rintro e W1 ⟨cV, pV, rfl, oV, k1⟩; have K1 := hik (KB.out.trans k1); clear k1 oV)
    exact bodyPost_ret (v := .tuple #[.slice none 0 0, .slice none 0 0, .int .i64 cd]) (by simp [results, Tryd.results18, go_sem]) rfl (WtAns.no rfl HC.out rfl K1.out)
end Go.Proofs.YtgimmmmiodlepabDoor
