/- What the program's SumProve answers: a contract. Conditions: lists that can be read. -/
import Derived.Test.YtgiefpipflcbgaqGreatDoorPrvX
import Derived.Test.YtgiefpipflcbgaqGreatDoorSumF
namespace Go.Proofs.YtgiefpipflcbgaqGreatDoor
open Go.ChangeShapes Go.WideShapes Go.ChangeAt Go.RowKit
set_option linter.unusedVariables false
set_option maxRecDepth 100000
set_option linter.unusedSimpArgs false

theorem PIAns.zero {w w' : World} {q q' : Int} {nR m nV nS : Nat} {G : Nat → Nat → El} {R V : Nat → El} {fs gs : Nat → Int} {a : Int} {s : ByteArray} {c : Int} {e : Ending} (hq : q = q') (h0 : ¬ q' = 0) (he : e = .returned (.tuple #[.slice none 0 0, .slice none 0 0, .slice none 0 0, .agg #[.slice none 0 0, .int .i64 0, .string ⟨#[]⟩, .int .i64 0], .int .i64 q'])) (k : Chg nob w w') :
    PIAns w q (scn q nR) (scn q m) (scn q nV) (scn q nS) G R V fs gs (scI q a) (scS q s) (scI q c) e w' := by
  subst hq
  have e1 : ∀ n, scn q n = 0 := fun n => if_neg h0
  have e2 : ∀ a, scI q a = 0 := fun a => if_neg h0
  have e3 : ∀ s, scS q s = ⟨#[]⟩ := fun s => if_neg h0
  rw [e1, e1, e1, e1, e2, e2, e3]
  refine ⟨none, 0, fun _ => 0, fun _ => 0, none, 0, none, 0, none, 0, he, OwnSS.nil _ _ _ _ _ _ _ _, .inl rfl, .inl rfl, .inl rfl, ⟨fun b hb => ⟨fun ⟨o, e⟩ => (by cases e), fun ⟨o, e⟩ => (by cases e), fun ⟨o, e⟩ => (by cases e)⟩, fun b hb => ⟨fun ⟨o, e⟩ => (by cases e), fun ⟨o, e⟩ => (by cases e)⟩, fun b hb ⟨o, e⟩ => (by cases e)⟩, k⟩
theorem PIAns.full {w w' : World} {q : Int} {nR m nV nS : Nat} {G : Nat → Nat → El} {R V : Nat → El} {fs gs : Nat → Int} {a : Int} {s : ByteArray} {c : Int} {e : Ending} (hq : q = 0) (h : PIAns w 0 nR m nV nS G R V fs gs a s c e w') : PIAns w q (scn q nR) (scn q m) (scn q nV) (scn q nS) G R V fs gs (scI q a) (scS q s) (scI q c) e w' := by
  subst hq
  exact h

set_option maxHeartbeats 4000000 in
theorem prvZ_any (K : Int) (c : Option Addr) (n cap : Nat) (A : Nat → Option Addr) (L C : Nat → Nat) (f g : Nat → Nat → Int) (cs : Option Addr) (len caps : Nat) (fs gs : Nat → Int) (at' : Int) (st : ByteArray) (ct : Int) (w : World) (h : Hid (RowsV w c n A L C f g)) (hL : Hid (∀ i, i < n → L i ≤ 1099511627776)) (hn : n ≤ 1099511627776) (hs : Hid (PairV w cs len fs gs)) (hl : (len : Int) ≤ 9223372036854775807) (hst : (st.size : Int) ≤ 9223372036854775807) (ht : Hid (Tabs w)) (hq : ¬ (spc8 K n L f g fs gs len at' st ct) = 0) :
    Calls Tryz.prog 10 #[.int .i64 K, .slice c n cap, .agg #[.slice cs len caps, .int .i64 at', .string st, .int .i64 ct]] w fun e w' => PIAns w (spc8 K n L f g fs gs len at' st ct) (scn (spc8 K n L f g fs gs len at' st ct) (Nat.log2 (L 0))) (scn (spc8 K n L f g fs gs len at' st ct) (K.toNat + 2)) (scn (spc8 K n L f g fs gs len at' st ct) n) (scn (spc8 K n L f g fs gs len at' st ct) len) (prd K.toNat fs gs len (Nat.log2 (L 0)) ⟨fun i => elF (f i) (g i), at', st, ct⟩) (ppt K.toNat fs gs len (Nat.log2 (L 0)) ⟨fun i => elF (f i) (g i), at', st, ct⟩) (pvl K.toNat fs gs len (Nat.log2 (L 0)) ⟨fun i => elF (f i) (g i), at', st, ct⟩) fs gs (scI (spc8 K n L f g fs gs len at' st ct) (pst K.toNat fs gs len (Nat.log2 (L 0)) ⟨fun i => elF (f i) (g i), at', st, ct⟩ (Nat.log2 (L 0))).a) (scS (spc8 K n L f g fs gs len at' st ct) (pst K.toNat fs gs len (Nat.log2 (L 0)) ⟨fun i => elF (f i) (g i), at', st, ct⟩ (Nat.log2 (L 0))).s) (scI (spc8 K n L f g fs gs len at' st ct) (pst K.toNat fs gs len (Nat.log2 (L 0)) ⟨fun i => elF (f i) (g i), at', st, ct⟩ (Nat.log2 (L 0))).c) e w' := by
  have HQ0 := hik hq
  obtain ⟨q, hqq⟩ : ∃ q, q = (spc8 K n L f g fs gs len at' st ct) := ⟨_, rfl⟩
  have HQ := hik hqq
  rw [← hqq] at hq ⊢
  clear hqq
  have A0 : Hid (((w.alloc (.cells #[.slice cs len caps, .int .i64 at', .string st, .int .i64 ct] 31)).alloc (.cells #[.slice none 0 0, .int .i64 0, .string ⟨#[]⟩, .int .i64 0] 31)).rowIs w.heap.size 31 4 (pv4 (.slice cs len caps) (.int .i64 at') (.string st) (.int .i64 ct))) := hik (World.rowIs.alloc (row4_new w _ _ _ _ _) _)
  have Z0 : Hid (((w.alloc (.cells #[.slice cs len caps, .int .i64 at', .string st, .int .i64 ct] 31)).alloc (.cells #[.slice none 0 0, .int .i64 0, .string ⟨#[]⟩, .int .i64 0] 31)).rowIs (w.heap.size + 1) 31 4 (pv4 (.slice none 0 0) (.int .i64 0) (.string ⟨#[]⟩) (.int .i64 0))) := hik (by simpa using row4_new (w.alloc (.cells #[.slice cs len caps, .int .i64 at', .string st, .int .i64 ct] 31)) (.slice none 0 0) (.int .i64 0) (.string ⟨#[]⟩) (.int .i64 0) 31)
  have G0 := hik (((Chg.refl nob w).alloc (.cells #[.slice cs len caps, .int .i64 at', .string st, .int .i64 ct] 31)).alloc (.cells #[.slice none 0 0, .int .i64 0, .string ⟨#[]⟩, .int .i64 0] 31))
  go_enter Tryz.func10, Tryz.ntmps10
  go_wp2_with fail
  generalize hE : (w.alloc (.cells #[.slice cs len caps, .int .i64 at', .string st, .int .i64 ct] 31)).alloc (.cells #[.slice none 0 0, .int .i64 0, .string ⟨#[]⟩, .int .i64 0] 31) = W0 at A0 Z0 G0 ⊢
  clear hE
  refine (tabs_any K c n cap A L C f g _ (hik (RowsV.keep h.out G0.out)) hL hn).mono ?_
  rintro e W1 (⟨q', hq', h0, rfl, k1⟩ | ⟨hq', k, t, d, ff, b, hKk, hKD, rfl, hCb, hb, k1⟩)
  · have HC := hik (show q = q' by rw [HQ.out]; unfold spc8; rw [if_neg (by rw [hq']; exact h0), hq'])
    have hb : (q' != 0) = true := bne_iff_ne.2 h0
    have Z2 := hik (rowIs_keep Z0.out (k1.alloc (.cells #[.int .i64 0, .int .i64 0, .nilFunc] 61)))
    have G2 := hik (G0.out.trans (k1.alloc (.cells #[.int .i64 0, .int .i64 0, .nilFunc] 61)))
    have H0 := hik h0
    clear k1 A0 Z0 G0 hq' h0
    go_upto_region 2 with fail
    generalize hE : W1.alloc (.cells #[.int .i64 0, .int .i64 0, .nilFunc] 61) = W2 at Z2 G2 ⊢
    clear hE
    have y0 : (W2).cell? ⟨w.heap.size + 1, 0, none⟩ = some (.slice none 0 0) := Z2.out.cell (by omega)
    have y1 : (W2).cell? ⟨w.heap.size + 1, 1, none⟩ = some (.int .i64 0) := Z2.out.cell (by omega)
    have y2 : (W2).cell? ⟨w.heap.size + 1, 2, none⟩ = some (.string ⟨#[]⟩) := Z2.out.cell (by omega)
    have y3 : (W2).cell? ⟨w.heap.size + 1, 3, none⟩ = some (.int .i64 0) := Z2.out.cell (by omega)
    have v0 := Z2.out.frozen 0
    have v1 := Z2.out.frozen 1
    have v2 := Z2.out.frozen 2
    have v3 := Z2.out.frozen 3
    have zz : w.heap.size + 1 < W2.heap.size := Z2.out.lt
    go_wp2
    exact bodyPost_ret (v := .tuple #[.slice none 0 0, .slice none 0 0, .slice none 0 0, .agg #[.slice none 0 0, .int .i64 0, .string ⟨#[]⟩, .int .i64 0], .int .i64 q']) (by simp [results, Tryz.results10, go_sem, row4_s0 Z2.out (.slice none 0 0), row4_s1 Z2.out (.slice none 0 0) (.int .i64 0), row4_s2 Z2.out (.slice none 0 0) (.int .i64 0) (.string ⟨#[]⟩), row4_s3 Z2.out (.slice none 0 0) (.int .i64 0) (.string ⟨#[]⟩) (.int .i64 0)]) rfl (PIAns.zero HC.out H0.out rfl (chg4_set G2.out (w.heap.size + 1) (fun l => absurd l (by omega)) (.slice none 0 0) (.int .i64 0) (.string ⟨#[]⟩) (.int .i64 0)))
  have S2 := hik (rowIs_keep A0.out (k1.alloc (.cells #[.int .i64 t, .int .i64 d, .func (.func ff) #[] #[]] 61)))
  have Z2 := hik (rowIs_keep Z0.out (k1.alloc (.cells #[.int .i64 t, .int .i64 d, .func (.func ff) #[] #[]] 61)))
  have G2 := hik (G0.out.trans (k1.alloc (.cells #[.int .i64 t, .int .i64 d, .func (.func ff) #[] #[]] 61)))
  have HA := hik hq'
  clear k1 A0 Z0 G0 hCb hKD hKk hq' hb
  go_upto_region 2 with fail
  generalize hE : W1.alloc (.cells #[.int .i64 t, .int .i64 d, .func (.func ff) #[] #[]] 61) = W2 at S2 Z2 G2 ⊢
  clear hE
  have x0 : (W2).cell? ⟨w.heap.size, 0, none⟩ = some (.slice cs len caps) := S2.out.cell (by omega)
  have x1 : (W2).cell? ⟨w.heap.size, 1, none⟩ = some (.int .i64 at') := S2.out.cell (by omega)
  have x2 : (W2).cell? ⟨w.heap.size, 2, none⟩ = some (.string st) := S2.out.cell (by omega)
  have x3 : (W2).cell? ⟨w.heap.size, 3, none⟩ = some (.int .i64 ct) := S2.out.cell (by omega)
  go_wp2_with fail
  refine (sourceOK_any cs len caps at' st ct fs gs _ (hik (PairV.keep hs.out G2.out)) hl hst).mono ?_
  rintro e W3 ⟨he, k3⟩
  have S3 := hik (rowIs_keep S2.out k3)
  have Z3 := hik (rowIs_keep Z2.out k3)
  have G3 := hik (G2.out.trans k3)
  clear k3 S2 Z2 G2 x0 x1 x2 x3
  cases hb : sokb fs gs len at' st ct
  · have HC := hik (show q = 1 by rw [HQ.out]; unfold spc8; rw [if_pos HA.out, hb]; rfl)
    rw [hb] at he
    subst he
    have y0 : (W3).cell? ⟨w.heap.size + 1, 0, none⟩ = some (.slice none 0 0) := Z3.out.cell (by omega)
    have y1 : (W3).cell? ⟨w.heap.size + 1, 1, none⟩ = some (.int .i64 0) := Z3.out.cell (by omega)
    have y2 : (W3).cell? ⟨w.heap.size + 1, 2, none⟩ = some (.string ⟨#[]⟩) := Z3.out.cell (by omega)
    have y3 : (W3).cell? ⟨w.heap.size + 1, 3, none⟩ = some (.int .i64 0) := Z3.out.cell (by omega)
    have v0 := Z3.out.frozen 0
    have v1 := Z3.out.frozen 1
    have v2 := Z3.out.frozen 2
    have v3 := Z3.out.frozen 3
    have zz : w.heap.size + 1 < W3.heap.size := Z3.out.lt
    go_wp2
    exact bodyPost_ret (v := .tuple #[.slice none 0 0, .slice none 0 0, .slice none 0 0, .agg #[.slice none 0 0, .int .i64 0, .string ⟨#[]⟩, .int .i64 0], .int .i64 1]) (by simp [results, Tryz.results10, go_sem, row4_s0 Z3.out (.slice none 0 0), row4_s1 Z3.out (.slice none 0 0) (.int .i64 0), row4_s2 Z3.out (.slice none 0 0) (.int .i64 0) (.string ⟨#[]⟩), row4_s3 Z3.out (.slice none 0 0) (.int .i64 0) (.string ⟨#[]⟩) (.int .i64 0)]) rfl (PIAns.zero HC.out (by decide) rfl (chg4_set G3.out (w.heap.size + 1) (fun l => absurd l (by omega)) (.slice none 0 0) (.int .i64 0) (.string ⟨#[]⟩) (.int .i64 0)))
  rw [hb] at he
  subst he
  obtain ⟨p1, p2, p3, p4, p5⟩ := sokb_parts hb
  have hd : spb at' ct 6 = true := by
    cases hd : spb at' ct 6
    · exact absurd (show (spc8 K n L f g fs gs len at' st ct) = 0 by unfold spc8; rw [if_pos HA.out, hb, if_pos rfl, hd]; rfl) HQ0.out
    · rfl
  have HC := hik (show q = 6 by rw [HQ.out]; unfold spc8; rw [if_pos HA.out, hb, if_pos rfl, hd]; rfl)
  have HD := hik hd
  clear hd p1 p2 p4
  have x0 : (W3).cell? ⟨w.heap.size, 0, none⟩ = some (.slice cs len caps) := S3.out.cell (by omega)
  have x1 : (W3).cell? ⟨w.heap.size, 1, none⟩ = some (.int .i64 at') := S3.out.cell (by omega)
  have x2 : (W3).cell? ⟨w.heap.size, 2, none⟩ = some (.string st) := S3.out.cell (by omega)
  have x3 : (W3).cell? ⟨w.heap.size, 3, none⟩ = some (.int .i64 ct) := S3.out.cell (by omega)
  go_wp2_with fail
  refine (left_any cs len caps at' st ct _ p3.1 p3.2 p5.1 p5.2).mono ?_
  rintro e W4 ⟨lf, rfl, hlf, k4⟩
  have hl6 : lf < 6 := (hlf 6).2 HD.out
  have Z4 := hik (rowIs_keep Z3.out k4)
  have G4 := hik (G3.out.trans k4)
  clear k4 hlf S3 Z3 G3 x0 x1 x2 x3
  have y0 : (W4).cell? ⟨w.heap.size + 1, 0, none⟩ = some (.slice none 0 0) := Z4.out.cell (by omega)
  have y1 : (W4).cell? ⟨w.heap.size + 1, 1, none⟩ = some (.int .i64 0) := Z4.out.cell (by omega)
  have y2 : (W4).cell? ⟨w.heap.size + 1, 2, none⟩ = some (.string ⟨#[]⟩) := Z4.out.cell (by omega)
  have y3 : (W4).cell? ⟨w.heap.size + 1, 3, none⟩ = some (.int .i64 0) := Z4.out.cell (by omega)
  have v0 := Z4.out.frozen 0
  have v1 := Z4.out.frozen 1
  have v2 := Z4.out.frozen 2
  have v3 := Z4.out.frozen 3
  have zz : w.heap.size + 1 < W4.heap.size := Z4.out.lt
  go_wp2
  exact bodyPost_ret (v := .tuple #[.slice none 0 0, .slice none 0 0, .slice none 0 0, .agg #[.slice none 0 0, .int .i64 0, .string ⟨#[]⟩, .int .i64 0], .int .i64 6]) (by simp [results, Tryz.results10, go_sem, row4_s0 Z4.out (.slice none 0 0), row4_s1 Z4.out (.slice none 0 0) (.int .i64 0), row4_s2 Z4.out (.slice none 0 0) (.int .i64 0) (.string ⟨#[]⟩), row4_s3 Z4.out (.slice none 0 0) (.int .i64 0) (.string ⟨#[]⟩) (.int .i64 0)]) rfl (PIAns.zero HC.out (by decide) rfl (chg4_set G4.out (w.heap.size + 1) (fun l => absurd l (by omega)) (.slice none 0 0) (.int .i64 0) (.string ⟨#[]⟩) (.int .i64 0)))

theorem proveX_any (K : Int) (c : Option Addr) (n cap : Nat) (A : Nat → Option Addr) (L C : Nat → Nat) (f g : Nat → Nat → Int) (cs : Option Addr) (len caps : Nat) (fs gs : Nat → Int) (at' : Int) (st : ByteArray) (ct : Int) (w : World) (h : Hid (RowsV w c n A L C f g)) (hL : Hid (∀ i, i < n → L i ≤ 1099511627776)) (hn : n ≤ 1099511627776) (hs : Hid (PairV w cs len fs gs)) (hl : (len : Int) ≤ 9223372036854775807) (hst : (st.size : Int) ≤ 9223372036854775807) (ht : Hid (Tabs w)) :
    Calls Tryz.prog 10 #[.int .i64 K, .slice c n cap, .agg #[.slice cs len caps, .int .i64 at', .string st, .int .i64 ct]] w fun e w' => PIAns w (spc8 K n L f g fs gs len at' st ct) (scn (spc8 K n L f g fs gs len at' st ct) (Nat.log2 (L 0))) (scn (spc8 K n L f g fs gs len at' st ct) (K.toNat + 2)) (scn (spc8 K n L f g fs gs len at' st ct) n) (scn (spc8 K n L f g fs gs len at' st ct) len) (prd K.toNat fs gs len (Nat.log2 (L 0)) ⟨fun i => elF (f i) (g i), at', st, ct⟩) (ppt K.toNat fs gs len (Nat.log2 (L 0)) ⟨fun i => elF (f i) (g i), at', st, ct⟩) (pvl K.toNat fs gs len (Nat.log2 (L 0)) ⟨fun i => elF (f i) (g i), at', st, ct⟩) fs gs (scI (spc8 K n L f g fs gs len at' st ct) (pst K.toNat fs gs len (Nat.log2 (L 0)) ⟨fun i => elF (f i) (g i), at', st, ct⟩ (Nat.log2 (L 0))).a) (scS (spc8 K n L f g fs gs len at' st ct) (pst K.toNat fs gs len (Nat.log2 (L 0)) ⟨fun i => elF (f i) (g i), at', st, ct⟩ (Nat.log2 (L 0))).s) (scI (spc8 K n L f g fs gs len at' st ct) (pst K.toNat fs gs len (Nat.log2 (L 0)) ⟨fun i => elF (f i) (g i), at', st, ct⟩ (Nat.log2 (L 0))).c) e w' := by
  by_cases hq : (spc8 K n L f g fs gs len at' st ct) = 0
  · obtain ⟨h1, h2, h3⟩ := spc8_ok hq
    obtain ⟨k, hKk, hk12, hnk, htk⟩ := ac8_ok h1
    subst hKk
    have hn0 : 0 < n := by rcases hk12 with rfl | rfl <;> omega
    obtain ⟨v, hv, ev⟩ := p6_ex (tok_p6 (htk 0 hn0).1).1
    have hlog : Nat.log2 (L 0) = v := by rw [ev, log2_p6]
    obtain ⟨p1, p2, p3, p4, p5⟩ := sokb_parts h2
    have hb := spb_no h3
    have hb' : at' + 6 ≤ 1000000 ∧ ct + 6 ≤ 1000000 := hb
    have q := prvT_any hk12 c n v cap hnk hv A L C f g (fun i => (pst k fs gs len v ⟨fun i => elF (f i) (g i), at', st, ct⟩ i).t) (prd k fs gs len v ⟨fun i => elF (f i) (g i), at', st, ct⟩) (ppt k fs gs len v ⟨fun i => elF (f i) (g i), at', st, ct⟩) (fun i => (pst k fs gs len v ⟨fun i => elF (f i) (g i), at', st, ct⟩ i).a) (fun i => (pst k fs gs len v ⟨fun i => elF (f i) (g i), at', st, ct⟩ i).s) (fun i => (pst k fs gs len v ⟨fun i => elF (f i) (g i), at', st, ct⟩ i).c) cs len caps fs gs w h hL hn hs ht (hik h1) (hik ev) (hik rfl) h2 h3
      (hik (fun i => pst_t k fs gs len v _ i)) (hik (fun i => rfl)) (hik (fun i => pst_s k fs gs len v _ i)) (hik (fun i => pst_aS k fs gs len v _ i)) (hik (fun i => pst_cS k fs gs len v _ i)) (hik (fun i => ppt_v p2 k v _ i)) (hik (fun i => pst_size p4 i))
      (hik (fun i hi => by
        have z : at' ≤ (pst k fs gs len v ⟨fun i => elF (f i) (g i), at', st, ct⟩ i).a ∧ (pst k fs gs len v ⟨fun i => elF (f i) (g i), at', st, ct⟩ i).a ≤ at' + i := pst_a (k := k) (f := fs) (g := gs) (len := len) (v := v) (p := ⟨fun i => elF (f i) (g i), at', st, ct⟩) i
        omega))
      (hik (fun i hi => by
        have z : 0 ≤ (pst k fs gs len v ⟨fun i => elF (f i) (g i), at', st, ct⟩ i).c ∧ (pst k fs gs len v ⟨fun i => elF (f i) (g i), at', st, ct⟩ i).c ≤ ct + i := pst_c (k := k) (f := fs) (g := gs) (len := len) (v := v) (p := ⟨fun i => elF (f i) (g i), at', st, ct⟩) p5.1 i
        omega))
    refine q.mono (fun e w' r => ?_)
    rw [Int.toNat_natCast, hlog]
    exact PIAns.full hq r
  · exact prvZ_any K c n cap A L C f g cs len caps fs gs at' st ct w h hL hn hs hl hst ht hq

end Go.Proofs.YtgiefpipflcbgaqGreatDoor
