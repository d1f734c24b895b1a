/- What the program's tablesOf answers: a contract. Conditions: lists of lists that can be read, of at most 2 to the 40. -/
import Derived.Test.YtgiefpipflcbgaqGreatDoorRndX
import Derived.Test.YtgiefpipflcbgaqGreatDoorSumA
namespace Go.Proofs.YtgiefpipflcbgaqGreatDoor
open Go.ChangeShapes Go.WideShapes Go.ChangeAt Go.RowKit
set_option linter.unusedVariables false
set_option maxRecDepth 100000
set_option linter.unusedSimpArgs false

theorem KD.eq {k : Nat} {t d t' d' : Int} {f f' : Nat} (h : KD k t d f) (h' : KD k t' d' f') : t = t' ∧ d = d' ∧ f = f' := by
  rcases h with ⟨rfl, rfl, rfl, rfl⟩ | ⟨rfl, rfl, rfl, rfl⟩
  · rcases h' with ⟨_, rfl, rfl, rfl⟩ | ⟨h, _⟩
    · exact ⟨rfl, rfl, rfl⟩
    · omega
  · rcases h' with ⟨h, _⟩ | ⟨_, rfl, rfl, rfl⟩
    · omega
    · exact ⟨rfl, rfl, rfl⟩
/-- What tablesOf answers: the kind's combination and the tables, or a code. -/
def TaAns (w : World) (K : Int) (n : Nat) (L : Nat → Nat) (f g : Nat → Nat → Int) (e : Ending) (w' : World) : Prop :=
  (∃ q, ac8 K n L f g = q ∧ ¬ q = 0 ∧ e = .returned (.tuple #[.agg #[.int .i64 0, .int .i64 0, .nilFunc], .slice none 0 0, .int .i64 q]) ∧ Chg nob w w') ∨
  (ac8 K n L f g = 0 ∧ ∃ (k : Nat) (t d : Int) (ff b : Nat), K = (k : Int) ∧ KD k t d ff ∧ e = .returned (.tuple #[.agg #[.int .i64 t, .int .i64 d, .func (.func ff) #[] #[]], .slice (some ⟨b, 0, none⟩) n n, .int .i64 0]) ∧ Cbs w' b n (fun _ => L 0) (fun i => fitE (elF (f i) (g i)) (L 0) zE) ∧ w.heap.size ≤ b ∧ Chg nob w w')
theorem TaAns.no {w w' : World} {K q : Int} {n : Nat} {L : Nat → Nat} {f g : Nat → Nat → Int} (hq : ac8 K n L f g = q) (h0 : ¬ q = 0) (k : Chg nob w w') : TaAns w K n L f g (.returned (.tuple #[.agg #[.int .i64 0, .int .i64 0, .nilFunc], .slice none 0 0, .int .i64 q])) w' := .inl ⟨q, hq, h0, rfl, k⟩

set_option maxHeartbeats 4000000 in
theorem tabs_any (K : Int) (c : Option Addr) (n cap : Nat) (A : Nat → Option Addr) (L C : Nat → Nat) (f g : Nat → Nat → Int) (w : World) (h : Hid (RowsV w c n A L C f g)) (hL : Hid (∀ i, i < n → L i ≤ 1099511627776)) (hn : n ≤ 1099511627776) :
    Calls Tryz.prog 31 #[.int .i64 K, .slice c n cap] w fun e w' => TaAns w K n L f g e w' := by
  have E0 := hik (CmB.new w 0 0 .nilFunc)
  have G0 := hik ((Chg.refl nob w).alloc (.cells #[.int .i64 0, .int .i64 0, .nilFunc] 61))
  by_cases hl : 4096 < n
  · have hl' : 4096 < (n : Int) := by omega
    have HC := hik (show ac8 K n L f g = 2 by unfold ac8; rw [if_pos hl])
    have f0 := E0.out.fz 0
    have f1 := E0.out.fz 1
    have f2 := E0.out.fz 2
    go_enter Tryz.func31, Tryz.ntmps31
    go_wp2
    exact bodyPost_ret (v := .tuple #[.agg #[.int .i64 0, .int .i64 0, .nilFunc], .slice none 0 0, .int .i64 2]) (by simp [results, Tryz.results31, go_sem]) rfl (TaAns.no HC.out (by decide) G0.out)
  have hl' : ¬ 4096 < (n : Int) := by omega
  cases hk : kdb K
  · have HC := hik (show ac8 K n L f g = 4 by unfold ac8; rw [if_neg hl, if_neg (fun q => by rw [hk] at q; cases q.1)])
    go_enter Tryz.func31, Tryz.ntmps31
    go_wp2_with fail
    generalize hE : w.alloc (.cells #[.int .i64 0, .int .i64 0, .nilFunc] 61) = W0 at E0 G0 ⊢
    clear hE
    refine (co_no K hk _).mono ?_
    rintro e W1 ⟨rfl, k1⟩
    have E2 := hik ((E0.out.keep k1).keep ((Chg.refl nob W1).alloc (.cells #[.int .i64 0, .int .i64 0, .nilFunc] 61)))
    have G2 := hik ((G0.out.trans k1).alloc (.cells #[.int .i64 0, .int .i64 0, .nilFunc] 61))
    clear k1 E0 G0
    go_upto_region 4 with fail
    generalize hE : W1.alloc (.cells #[.int .i64 0, .int .i64 0, .nilFunc] 61) = W2 at E2 G2 ⊢
    clear hE
    have c0 : W2.cell? ⟨w.heap.size, 0, none⟩ = some (.int .i64 0) := E2.out.c0
    have c1 : W2.cell? ⟨w.heap.size, 1, none⟩ = some (.int .i64 0) := E2.out.c1
    have c2 : W2.cell? ⟨w.heap.size, 2, none⟩ = some .nilFunc := E2.out.c2
    have f0 := E2.out.fz 0
    have f1 := E2.out.fz 1
    have f2 := E2.out.fz 2
    go_wp2
    have u := hik (E2.out.set 0 0 .nilFunc)
    have u0 := u.out.c0
    have u1 := u.out.c1
    have u2 := u.out.c2
    exact bodyPost_ret (v := .tuple #[.agg #[.int .i64 0, .int .i64 0, .nilFunc], .slice none 0 0, .int .i64 4]) (by simp [results, Tryz.results31, go_sem, u0, u1, u2]) rfl (TaAns.no HC.out (by decide) (chg3_set G2.out w.heap.size (fun l => absurd l (by omega)) _ _ _))
  obtain ⟨k, hKk, hk12⟩ := kdb_nat hk
  subst hKk
  obtain ⟨t, d, ff, hKD, ht, hd⟩ := KD.ex hk12
  have HKD := hik hKD
  have hn4 : (n : Int) = t → n ≤ 4 ∧ 0 < n := fun e => by rcases hk12 with rfl | rfl <;> omega
  have HN4 := hik hn4
  by_cases hnt : (n : Int) = t
  · have HC := hik (show ac8 (k : Int) n L f g = tqc L f g 0 n by unfold ac8; rw [if_neg hl, if_pos ⟨hk, by omega⟩])
    have hbz : ((n : Int) != t) = false := by rw [hnt]; simp
    obtain ⟨hn4', hn0⟩ := hn4 hnt
    have hn0' : (0 : Int) < (n : Int) := by omega
    have HN' := hik hn4'
    have HNT := hik hnt
    have HH := hik hKD
    clear hnt ht hd hKD hn4 hk12 hn4' HN4 hk
    obtain ⟨xb, xo, ec, hxb, _, _⟩ := h.out 0 hn0
    subst ec
    go_enter Tryz.func31, Tryz.ntmps31
    go_wp2_with fail
    generalize hE : w.alloc (.cells #[.int .i64 0, .int .i64 0, .nilFunc] 61) = W0 at E0 G0 ⊢
    clear hE
    refine (co_ok HKD.out _).mono ?_
    rintro e W1 ⟨rfl, k1⟩
    obtain ⟨bc, hbc⟩ : ∃ bc, bc = W1.heap.size := ⟨_, rfl⟩
    have E2 := hik ((E0.out.keep k1).keep ((Chg.refl nob W1).alloc (.cells #[.int .i64 t, .int .i64 d, .func (.func ff) #[] #[]] 61)))
    have C2 := hik (show CmB (W1.alloc (.cells #[.int .i64 t, .int .i64 d, .func (.func ff) #[] #[]] 61)) bc t d (.func (.func ff) #[] #[]) from by rw [hbc]; exact CmB.new W1 t d _)
    have G2 := hik ((G0.out.trans k1).alloc (.cells #[.int .i64 t, .int .i64 d, .func (.func ff) #[] #[]] 61))
    clear k1 E0 G0
    go_upto_region 4 with fail
    rw [← hbc]
    generalize hE : W1.alloc (.cells #[.int .i64 t, .int .i64 d, .func (.func ff) #[] #[]] 61) = W2 at E2 G2 C2 ⊢
    clear hE hbc
    have m0 : W2.cell? ⟨bc, 0, none⟩ = some (.int .i64 t) := C2.out.c0
    go_wp2
    clear m0
    go_loopw [32] (fun i W => ∃ j m : Nat, j + m = n ∧ i = .int .i64 (j : Int) ∧ Hid (tqc L f g 0 n = tqc L f g j m) ∧ Hid (Chg nob W2 W)) (fun i _ => n - (intOf i).toNat)
    case atStart => exact ⟨0, n, by omega, rfl, hik rfl, hik (Chg.refl _ _)⟩
    case round =>
      obtain ⟨j, m, hjm, rfl, HT, HG⟩ := hrel
      rename World => wi
      have E3 := hik (E2.out.keep HG.out)
      have C3 := hik (C2.out.keep HG.out)
      have G3 := hik (G2.out.trans HG.out)
      have HU := hik (RowsV.keep h.out G3.out)
      by_cases hlt : j < n
      · obtain ⟨m', rfl⟩ : ∃ m', m = m' + 1 := ⟨m - 1, by omega⟩
        have hj1 : (j : Int) < (n : Int) := by omega
        have hj0 : (0 : Int) ≤ (j : Int) := by omega
        obtain ⟨xb', xo', ec, _, hc, hP⟩ := HU.out j hlt
        cases ec
        have PJ := hik hP
        clear hP
        cases ht : tok (f j) (g j) (L j)
        · have HQ := hik (show ac8 (k : Int) n L f g = 1 by rw [HC.out, HT.out, tqc, ht]; rfl)
          go_wp2_with fail
          refine (tableOK_any (A j) (L j) (C j) (f j) (g j) _ PJ (hL.out j hlt)).mono ?_
          rintro e W4 ⟨he, k4⟩
          rw [ht] at he
          subst he
          have E4 := hik (E3.out.keep k4)
          have G4 := hik (G3.out.trans k4)
          clear k4 hc
          have c0 : W4.cell? ⟨w.heap.size, 0, none⟩ = some (.int .i64 0) := E4.out.c0
          have c1 : W4.cell? ⟨w.heap.size, 1, none⟩ = some (.int .i64 0) := E4.out.c1
          have c2 : W4.cell? ⟨w.heap.size, 2, none⟩ = some .nilFunc := E4.out.c2
          have f0 := E4.out.fz 0
          have f1 := E4.out.fz 1
          have f2 := E4.out.fz 2
          go_wp2
          have u := hik (E4.out.set 0 0 .nilFunc)
          have u0 := u.out.c0
          have u1 := u.out.c1
          have u2 := u.out.c2
          exact bodyPost_ret (v := .tuple #[.agg #[.int .i64 0, .int .i64 0, .nilFunc], .slice none 0 0, .int .i64 1]) (by simp [results, Tryz.results31, go_sem, u0, u1, u2]) rfl (TaAns.no HQ.out (by decide) (chg3_set G4.out w.heap.size (fun l => absurd l (by omega)) _ _ _))
        · go_wp2_with fail
          refine (tableOK_any (A j) (L j) (C j) (f j) (g j) _ PJ (hL.out j hlt)).mono ?_
          rintro e W4 ⟨he, k4⟩
          rw [ht] at he
          subst he
          have HU4 := hik (RowsV.keep HU.out k4)
          have HG4 := hik (HG.out.trans k4)
          have E4 := hik (E3.out.keep k4)
          have G4 := hik (G3.out.trans k4)
          clear k4 hc HU HG PJ E3 C3 G3
          obtain ⟨xb', xo', ec, _, hc, _⟩ := HU4.out j hlt
          cases ec
          obtain ⟨xb', xo', ec, _, hc0', _⟩ := HU4.out 0 hn0
          cases ec
          have hc0 : W4.cell? ⟨xb, xo, none⟩ = some (.slice (A 0) (L 0) (C 0)) := by simpa using hc0'
          clear hc0'
          by_cases hLL : L j = L 0
          · have HQ := hik (show tqc L f g 0 n = tqc L f g (j + 1) m' by rw [HT.out, tqc, ht, if_pos rfl, if_pos hLL])
            have hbL : ((L j : Int) != (L 0 : Int)) = false := by rw [hLL]; simp
            have HLL := hik hLL
            clear hLL
            go_wp2
            go_roundw
            case rel => exact ⟨j + 1, m', by omega, by go_num, HQ, HG4⟩
            case measure => simp [intOf]; omega
          · have HQ := hik (show ac8 (k : Int) n L f g = 8 by rw [HC.out, HT.out, tqc, ht, if_pos rfl, if_neg hLL])
            have hbL : ((L j : Int) != (L 0 : Int)) = true := by simp only [bne_iff_ne]; omega
            have HLL := hik hLL
            clear hLL
            have c0 : W4.cell? ⟨w.heap.size, 0, none⟩ = some (.int .i64 0) := E4.out.c0
            have c1 : W4.cell? ⟨w.heap.size, 1, none⟩ = some (.int .i64 0) := E4.out.c1
            have c2 : W4.cell? ⟨w.heap.size, 2, none⟩ = some .nilFunc := E4.out.c2
            have f0 := E4.out.fz 0
            have f1 := E4.out.fz 1
            have f2 := E4.out.fz 2
            go_wp2
            have u := hik (E4.out.set 0 0 .nilFunc)
            have u0 := u.out.c0
            have u1 := u.out.c1
            have u2 := u.out.c2
            exact bodyPost_ret (v := .tuple #[.agg #[.int .i64 0, .int .i64 0, .nilFunc], .slice none 0 0, .int .i64 8]) (by simp [results, Tryz.results31, go_sem, u0, u1, u2]) rfl (TaAns.no HQ.out (by decide) (chg3_set G4.out w.heap.size (fun l => absurd l (by omega)) _ _ _))
      · obtain rfl : m = 0 := by omega
        obtain rfl : n = j := by omega
        have HQ := hik (show ac8 (k : Int) n L f g = 0 by rw [HC.out, HT.out]; rfl)
        have hcc : ¬ (n : Int) < (n : Int) := by omega
        have HTK := hik (ac8_ok HQ.out)
        have HR := hik (show RowsE wi (some ⟨xb, xo, none⟩) n (L 0) (fun i => elF (f i) (g i)) from by
          obtain ⟨_, _, _, _, htk⟩ := HTK.out
          exact rows_ok HU.out htk)
        have h64 : L 0 ≤ 64 := by
          obtain ⟨_, _, _, _, htk⟩ := HTK.out
          obtain ⟨i, hi, e⟩ := p6_ex (tok_p6 (htk 0 hn0).1).1
          rw [e]; exact pow_le6 hi
        have m0 := C3.out.c0
        have m1 := C3.out.c1
        have m2 := C3.out.c2
        have QC := hik (fun (W : World) (hw : Hid (RowsE W (some ⟨xb, xo, none⟩) n (L 0) (fun i => elF (f i) (g i)))) => cubes_any (some ⟨xb, xo, none⟩) n (L 0) cap (fun i => elF (f i) (g i)) W hw hn0 HN'.out h64)
        have s3 := G3.out.size
        go_upto_region 16 with fail
        have KW := hik ((Chg.refl nob wi).drew1)
        have SA := hik (fun (WW : World) (kW : Chg nob wi WW) => (show (WW.cell? ⟨bc, 0, none⟩ = some (.int .i64 t) ∧ WW.cell? ⟨bc, 1, none⟩ = some (.int .i64 d) ∧ WW.cell? ⟨bc, 2, none⟩ = some (.func (.func ff) #[] #[])) from ⟨kW.see m0, kW.see m1, kW.see m2⟩))
        refine wp_regionL (L := 3) (S := fun w' => w'.cell? ⟨bc, 0, none⟩ = some (.int .i64 t) ∧ w'.cell? ⟨bc, 1, none⟩ = some (.int .i64 d) ∧ w'.cell? ⟨bc, 2, none⟩ = some (.func (.func ff) #[] #[])) (by kernel_rfl) ⟨m0, m1, m2⟩ (fun hHeld => ?_)
        refine wpAnyL_take (i := 0) (v := ?_) rfl (by kernel_rfl) (by kernel_rfl) (by kernel_rfl) (fun _ _ _ h => h) (by rfl) (by kernel_rfl) (by kernel_rfl) (Or.inl ⟨by rfl, ?_⟩) (by assumption) ?_
        rotate_left 1
        · (intro w' hSw; (try dsimp only at hSw); go_simp; try with_reducible rfl)
        try simp only [Act.put, List.setIfInBounds_toArray, List.set_cons_zero, List.set_cons_succ, List.getElem_toArray, List.getElem_cons_zero, List.getElem_cons_succ]
        refine wpAnyL_take0 (i := 1) (v := ?_) rfl (by kernel_rfl) (by kernel_rfl) (by kernel_rfl) (fun _ _ _ h => h) (by rfl) (Or.inl ⟨by rfl, ?_⟩) (by assumption) ?_
        rotate_left 1
        · (intro w' hSw; (try dsimp only at hSw); go_simp; try with_reducible rfl)
        try simp only [Act.put, List.setIfInBounds_toArray, List.set_cons_zero, List.set_cons_succ, List.getElem_toArray, List.getElem_cons_zero, List.getElem_cons_succ]
        refine wpAnyL_ready (rs := [2]) (by kernel_rfl) (by simp) ?_
        refine AllReadyL.cons rfl (fun K hK => ?_) AllReadyL.nil
        refine stepL_callN 55 #[.tmp 50] #[28] (by rfl) (by rfl) #[.slice (some ⟨xb, xo, none⟩) n cap] (by simp only [List.map_toArray, List.map_cons, List.map_nil] <;> rfl) (run_go Tryz.func55 (by kernel_rfl) (by kernel_rfl) _ _) (QC.out _ (hik (HR.out.keep KW.out))) ?_
        rintro e U1 ⟨b, he, hCb, hbl, kk⟩
        have CB := hik hCb
        have hbl2 : w.heap.size ≤ b := Nat.le_trans s3 (Nat.le_trans KW.out.size hbl)
        clear hCb hbl
        refine ⟨_, he, ?_⟩
        replace KW := hik (KW.out.trans kk)
        refine hK.out _ _ (SA.out _ KW.out) (fun hHeld => ?_)
        clear hK K
        try simp only [Act.put, List.setIfInBounds_toArray, List.set_cons_zero, List.set_cons_succ, List.getElem_toArray, List.getElem_cons_zero, List.getElem_cons_succ]
        clear he kk
        refine wpAnyL_ready (rs := [3]) (by kernel_rfl) (by simp) ?_
        refine AllReadyL.last rfl (by kernel_rfl) (fun K hK => ?_)
        have EN := hik (E3.out.keep KW.out)
        have g0 : U1.cell? ⟨w.heap.size, 0, none⟩ = some (.int .i64 0) := EN.out.c0
        have g1 : U1.cell? ⟨w.heap.size, 1, none⟩ = some (.int .i64 0) := EN.out.c1
        have g2 : U1.cell? ⟨w.heap.size, 2, none⟩ = some .nilFunc := EN.out.c2
        have f0 := EN.out.fz 0
        have f1 := EN.out.fz 1
        have f2 := EN.out.fz 2
        have ln : w.heap.size < U1.heap.size := EN.out.lt
        simp only [List.getElem_toArray, List.getElem_cons_zero, List.getElem_cons_succ]
        go_simp
        refine hK.out _ _ ?_
        clear hK K
        try simp only [Act.put, List.setIfInBounds_toArray, List.set_cons_zero, List.set_cons_succ, List.getElem_toArray, List.getElem_cons_zero, List.getElem_cons_succ]
        clear g0 g1 g2 f0 f1 f2 ln
        refine wpAnyL_take1 (i := 4) (v := ?_) rfl (by kernel_rfl) (by kernel_rfl) (by kernel_rfl) (fun _ _ _ h => h) (by rfl) (by rfl) (Or.inl ⟨by rfl, ?_⟩) ?_
        rotate_left 1
        · (intro w' hSw; (try dsimp only at hSw); go_simp; try with_reducible rfl)
        try simp only [Act.put, List.setIfInBounds_toArray, List.set_cons_zero, List.set_cons_succ, List.getElem_toArray, List.getElem_cons_zero, List.getElem_cons_succ]
        refine wpAnyL_take1 (i := 5) (v := ?_) rfl (by kernel_rfl) (by kernel_rfl) (by kernel_rfl) (fun _ _ _ h => h) (by rfl) (by rfl) (Or.inl ⟨by rfl, ?_⟩) ?_
        rotate_left 1
        · (intro w' hSw; (try dsimp only at hSw); go_simp; try with_reducible rfl)
        try simp only [Act.put, List.setIfInBounds_toArray, List.set_cons_zero, List.set_cons_succ, List.getElem_toArray, List.getElem_cons_zero, List.getElem_cons_succ]
        refine wpAnyL_done (by kernel_rfl) ?_ _
        have u := hik (EN.out.set t d (.func (.func ff) #[] #[]))
        have q := chg3_set (Chg.refl (fun x => x = w.heap.size) U1) w.heap.size (fun _ => rfl) (.int .i64 t) (.int .i64 d) (.func (.func ff) #[] #[])
        have CB2 := hik (CB.out.chg q (fun e => absurd (rowIs_kind (e ▸ CB.out) EN.out) (by decide)))
        have GE := hik (chg3_set (G3.out.trans KW.out) w.heap.size (fun l => absurd l (by omega)) (.int .i64 t) (.int .i64 d) (.func (.func ff) #[] #[]))
        have u0 := u.out.c0
        have u1 := u.out.c1
        have u2 := u.out.c2
        clear q
        go_wp2
        exact bodyPost_ret (v := .tuple #[.agg #[.int .i64 t, .int .i64 d, .func (.func ff) #[] #[]], .slice (some ⟨b, 0, none⟩) n n, .int .i64 0]) (by simp [results, Tryz.results31, go_sem, u0, u1, u2]) rfl (.inr ⟨HQ.out, k, t, d, ff, b, rfl, HH.out, rfl, CB2.out, hbl2, GE.out⟩)
  · have HC := hik (show ac8 (k : Int) n L f g = 4 by unfold ac8; rw [if_neg hl, if_neg (fun q => hnt (by have := q.2; omega))])
    have hbz : ((n : Int) != t) = true := by simp only [bne_iff_ne]; omega
    have HNT := hik hnt
    clear hnt ht hd hKD hn4 hk12 HN4 hk
    go_enter Tryz.func31, Tryz.ntmps31
    go_wp2_with fail
    generalize hE : w.alloc (.cells #[.int .i64 0, .int .i64 0, .nilFunc] 61) = W0 at E0 G0 ⊢
    clear hE
    refine (co_ok HKD.out _).mono ?_
    rintro e W1 ⟨rfl, k1⟩
    obtain ⟨bc, hbc⟩ : ∃ bc, bc = W1.heap.size := ⟨_, rfl⟩
    have E2 := hik ((E0.out.keep k1).keep ((Chg.refl nob W1).alloc (.cells #[.int .i64 t, .int .i64 d, .func (.func ff) #[] #[]] 61)))
    have C2 := hik (show CmB (W1.alloc (.cells #[.int .i64 t, .int .i64 d, .func (.func ff) #[] #[]] 61)) bc t d (.func (.func ff) #[] #[]) from by rw [hbc]; exact CmB.new W1 t d _)
    have G2 := hik ((G0.out.trans k1).alloc (.cells #[.int .i64 t, .int .i64 d, .func (.func ff) #[] #[]] 61))
    clear k1 E0 G0
    go_upto_region 4 with fail
    rw [← hbc]
    generalize hE : W1.alloc (.cells #[.int .i64 t, .int .i64 d, .func (.func ff) #[] #[]] 61) = W2 at E2 G2 C2 ⊢
    clear hE hbc
    have m0 : W2.cell? ⟨bc, 0, none⟩ = some (.int .i64 t) := C2.out.c0
    have c0 : W2.cell? ⟨w.heap.size, 0, none⟩ = some (.int .i64 0) := E2.out.c0
    have c1 : W2.cell? ⟨w.heap.size, 1, none⟩ = some (.int .i64 0) := E2.out.c1
    have c2 : W2.cell? ⟨w.heap.size, 2, none⟩ = some .nilFunc := E2.out.c2
    have f0 := E2.out.fz 0
    have f1 := E2.out.fz 1
    have f2 := E2.out.fz 2
    go_wp2
    have u := hik (E2.out.set 0 0 .nilFunc)
    have u0 := u.out.c0
    have u1 := u.out.c1
    have u2 := u.out.c2
    exact bodyPost_ret (v := .tuple #[.agg #[.int .i64 0, .int .i64 0, .nilFunc], .slice none 0 0, .int .i64 4]) (by simp [results, Tryz.results31, go_sem, u0, u1, u2]) rfl (TaAns.no HC.out (by decide) (chg3_set G2.out w.heap.size (fun l => absurd l (by omega)) _ _ _))

end Go.Proofs.YtgiefpipflcbgaqGreatDoor
