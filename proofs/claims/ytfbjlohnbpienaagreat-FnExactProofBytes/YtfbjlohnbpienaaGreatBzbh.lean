/- Several texts in one: What the model's OpeningBytes answers: contracts. Conditions: an opening that can be read, lengths of at most 2 to the 20. · What the model's ProofBytes answers: contracts. Conditions: a proof and a system that can be read, lengths of at most 2 to the 20. -/
import Derived.Test.YtfbjlohnbpienaaGreatBzat
import Derived.Test.YtfbjlohnbpienaaGreatBzau
import Derived.Test.YtfbjlohnbpienaaGreatBzbf
import Derived.Test.YtfbjlohnbpienaaGreatBzbg
import Derived.Test.YtfbjlohnbpienaaGreatBzah
import Derived.Lib.SmallJoins
import Derived.Test.YtfbjlohnbpienaaGreatBzba
import Derived.Test.YtfbjlohnbpienaaGreatBzbc
namespace Go.Proofs.YtfbjlohnbpienaaGreat
open Go.ChangeShapes Go.WideShapes Go.ChangeAt Go.RowKit
set_option linter.unusedVariables false
set_option maxRecDepth 100000
set_option linter.unusedSimpArgs false

theorem one_pair9 (W : World) (a b : Int) : PairV (W.drew.alloc (.cells #[.int .i64 a, .int .i64 b] 42)) (some ⟨W.heap.size, 0, none⟩) 1 (fun _ => a) (fun _ => b) := by
  have q : PairV (W.drew.alloc (.cells #[.int .i64 a, .int .i64 b] 42)) (some ⟨W.drew.heap.size, 0, none⟩) 1 (fun _ => a) (fun _ => b) := by
    intro i hi
    obtain rfl : i = 0 := by omega
    generalize W.drew = V
    refine ⟨V.heap.size, 0, rfl, by simp, ?_, ?_⟩ <;> simp
  exact q
theorem wv_one8 (a : Int) : ∀ u ∈ wv a, u.oneCell' = true := by
  intro u hu
  simp [wv] at hu
  rcases hu with rfl | rfl | rfl | rfl <;> rfl
theorem rowIs_grown {w w' : World} {b n : Nat} {t : TypeId} {h : Nat → Value} {q : Option Nat} (r : w.rowIs b t n h) (hg : w.grownBy w' q) (hn : ¬ q = some b) : w'.rowIs b t n h :=
  rowIs_chg r ((Chg.refl (fun i => q = some i) w).grown hg (fun b e _ => e)) hn
/-- The model's bytes of a right opening. -/
def SbAns (w : World) (ys : List Value) (e : Ending) (w' : World) : Prop :=
  ∃ (g N cap : Nat), e = .returned (.slice (some ⟨g, 0, none⟩) N cap) ∧ N = ys.length ∧ w'.ownsRow w.heap.size 5 1 (.slice (some ⟨g, 0, none⟩) N cap) N ys ∧ Chg nob w w'
theorem own_len {w : World} {B n : Nat} {t : TypeId} {v : Value} {xs : List Value} (ho : w.ownsRow B t 1 v n xs) : n = xs.length := by simpa using ho.1.symm
theorem tBs_len32 {L : Nat → ByteArray} {n : Nat} (h : hsB L n = true) : ∀ k, k ≤ n → (tBs L k).length = k * 32
  | 0, _ => rfl
  | k + 1, hk => by
    have := tBs_len32 h k (by omega)
    have h2 := of_decide_eq_true (allN_at h (i := k) (by omega))
    have e : tBs L (k + 1) = tBs L k ++ tB (L k) := rfl
    rw [e, List.length_append, this, tB_len, h2]
    omega

set_option maxHeartbeats 8000000 in
theorem sBytes9_any (o : OD) (cR : Option Addr) (pR : Nat) (cT : Option Addr) (pT : Nat) (cQ : Option Addr) (pQ : Nat) (v r n : Int) (w : World) (h : Hid (OpV w o cR pR cT pT cQ pQ)) (OK : Hid (OkO o v r n)) :
    Calls Tryz.prog 46 #[.agg #[.slice cR o.nr pR, .slice cT o.nt pT, .int .i64 o.la, .int .i64 o.lb, .int .i64 o.no, .slice cQ o.nq pQ]] w fun e w' => SbAns w (oby o) e w' := by
  obtain ⟨i0, hi, hz0, hz1, hz2⟩ := info_parts infoU8
  have HI := hik hi
  have HZ0 := hik hz0
  have HZ1 := hik hz1
  have HZ2 := hik hz2
  clear hi hz0 hz1 hz2
  have hnr6 : o.nr ≤ 6 := by have := OK.out.nr; have := OK.out.v1; omega
  have hnt5 : o.nt ≤ 5 := by have := OK.out.nt; have := OK.out.v1; omega
  have hnq8 : o.nq ≤ 8 := by have := OK.out.nq; have := OK.out.q1; omega
  have hno0 := OK.out.n0
  have hno1 := OK.out.n1
  have EL := hik OK.out.el
  have K0 := hik ((Chg.refl nob w).alloc (.cells #[.slice cR o.nr pR, .slice cT o.nt pT, .int .i64 o.la, .int .i64 o.lb, .int .i64 o.no, .slice cQ o.nq pQ] 45))
  have RA := hik (rowN_new w 6 #[.slice cR o.nr pR, .slice cT o.nt pT, .int .i64 o.la, .int .i64 o.lb, .int .i64 o.no, .slice cQ o.nq pQ] 45 rfl)
  have hs1 : w.heap.size ≤ (w.alloc (.cells #[.slice cR o.nr pR, .slice cT o.nt pT, .int .i64 o.la, .int .i64 o.lb, .int .i64 o.no, .slice cQ o.nq pQ] 45)).heap.size := K0.out.size
  obtain ⟨_, _, eT, hTT⟩ := h.out.2.1
  cases eT
  have HT := hik hTT
  clear hTT
  go_enter Tryz.func46, Tryz.ntmps46
  go_wp2
  generalize hW : w.alloc (.cells #[.slice cR o.nr pR, .slice cT o.nt pT, .int .i64 o.la, .int .i64 o.lb, .int .i64 o.no, .slice cQ o.nq pQ] 45) = W1 at K0 RA hs1 ⊢
  have hz1 : w.heap.size + 1 = W1.heap.size := by rw [← hW]; simp
  clear hW
  rw [hz1]
  have G1 := K0
  have rlt := RA.out.lt
  go_loopw [3, 4] (fun v i W => ∃ (k N g cp : Nat), k ≤ o.nr ∧ N ≤ 1000 ∧ i = .int .i64 (k : Int) ∧ v = .slice (some ⟨g, 0, none⟩) N cp ∧ Hid (W.ownsRow W1.heap.size 5 1 (.slice (some ⟨g, 0, none⟩) N cp) N (obR o k)) ∧ Hid (Chg nob W1 W)) (fun _ i _ => o.nr - (intOf i).toNat)
  case atStart => exact ⟨0, 0, W1.heap.size, 0, Nat.zero_le _, by omega, rfl, rfl, hik (flNone W1 W1.heap.size 5 1 (Nat.le_refl _)), hik ((Chg.refl _ _).alloc _)⟩
  case round =>
    obtain ⟨k, N, g, cp, hk, hN, rfl, rfl, HO, HG⟩ := hrel
    rename World => wi
    have GW := hik (G1.out.trans HG.out)
    have x0 : wi.cell? ⟨w.heap.size, 0, none⟩ = some (.slice cR o.nr pR) := HG.out.see (RA.out.cell (i := 0) (by omega))
    have hsi := Nat.lt_of_lt_of_le rlt HG.out.size
    by_cases hlt : k < o.nr
    · have hk1 : (k : Int) < (o.nr : Int) := by omega
      have hk0 : (0 : Int) ≤ (k : Int) := by omega
      obtain ⟨xb, xo, ec, hxb, hcc⟩ := (rep_list (h.out.1.keep GW.out)).2 k hlt
      obtain ⟨u, hc, hu⟩ := hcc 0 (by omega)
      obtain ⟨c1, p1, rfl, hP⟩ := hu
      subst ec
      rw [show xo + (k * 1 + 0) = xo + k by omega] at hc
      have PJ := hik hP
      have RK := hik (OK.out.rd k hlt)
      have hrl : 1 ≤ o.rl k := by rw [RK.out.1]; omega
      have hrl2 : o.rl k ≤ 3 := by rw [RK.out.1]; omega
      clear hP hcc
      go_wp2_with fail
      refine (l02Bytes_any c1 (o.rl k) p1 (o.rf k) (o.rg k) _ PJ (by omega) (hik (by rw [RK.out.1]; exact RK.out.2))).mono ?_
      rintro e W2 ⟨c2, cap2, rfl, r2, k2⟩
      have hm8 : 0 < (o.rl k) * 8 := by omega
      obtain ⟨b2, o2, e2, hb2, _⟩ := r2 0 hm8
      subst e2
      have HO2 := hik (flKeep HO.out k2)
      have HR2 := hik (news_rowV r2)
      have K2 := hik (HG.out.trans k2)
      clear r2 k2 hb2
      go_wp2_with (at_builtin; refine wpList_append_lies _ rfl (.tmp 18) (.tmp 24) 38 rfl W1.heap.size 5 i0 (.int .u8 0) 1 1 Tryz.underlying38 HI.out HZ0.out HZ1.out HZ2.out rfl (by decide) _ N _ rfl HO2.out ⟨b2, o2, none⟩ ((o.rl k) * 8) cap2 (eB (o.rf k) (o.rg k) (o.rl k)) rfl (by rw [eB_len]; omega) HR2.out (eB_one _ _ _) (by omega) (by unfold maxLen; omega) (by omega) K2.out.size _ rfl ?_)
      intro g7 cp7 w7 o7 hg7 hat7 hlt7
      have K7 := hik (K2.out.grown hg7 (fun b e l => absurd (HO2.out.lt b e).1 (by omega)))
      clear hat7 hlt7 hg7 HR2 K2 HO2
      have O7 := hik (show w7.ownsRow W1.heap.size 5 1 (.slice (some ⟨g7, 0, none⟩) (N + o.rl k * 8) cp7) (N + o.rl k * 8) (obR o (k + 1)) from o7)
      have hl := obR_len OK.out (k := k + 1) (by omega)
      have hN2 : N + o.rl k * 8 ≤ 1000 := by have := own_len O7.out; omega
      clear o7 hc PJ hl x0
      go_wp2
      go_roundw
      case rel => exact ⟨k + 1, _, g7, cp7, by omega, hN2, by go_num, rfl, O7, K7⟩
      case measure => simp [intOf]; omega
    · have hcc : ¬ (k : Int) < (o.nr : Int) := by omega
      have ek : k = o.nr := by omega
      have HO1 := hik (show wi.ownsRow W1.heap.size 5 1 (.slice (some ⟨g, 0, none⟩) N cp) N (obR o o.nr ++ tBs o.ts 0) by have q := HO.out; rw [ek] at q; simpa [tBs, catN] using q)
      have lR := obR_len OK.out (k := o.nr) (Nat.le_refl _)
      clear HO ek
      go_wp2
      clear x0
      go_loopw [3, 5] (fun v i W => ∃ (k N g cp : Nat), k ≤ o.nt ∧ N ≤ 1000 ∧ i = .int .i64 (k : Int) ∧ v = .slice (some ⟨g, 0, none⟩) N cp ∧ Hid (W.ownsRow W1.heap.size 5 1 (.slice (some ⟨g, 0, none⟩) N cp) N (obR o o.nr ++ tBs o.ts k)) ∧ Hid (Chg nob W1 W)) (fun _ i _ => o.nt - (intOf i).toNat)
      case atStart => exact ⟨0, N, g, cp, Nat.zero_le _, by omega, rfl, rfl, HO1, HG⟩
      case round =>
        clear HO1 HG GW hsi
        obtain ⟨k, N, g, cp, hk, hN, rfl, rfl, HO, HG⟩ := hrel
        rename World => wi
        have GW := hik (G1.out.trans HG.out)
        have x1 : wi.cell? ⟨w.heap.size, 1, none⟩ = some (.slice cT o.nt pT) := HG.out.see (RA.out.cell (i := 1) (by omega))
        have hsi := Nat.lt_of_lt_of_le rlt HG.out.size
        by_cases hlt : k < o.nt
        · have hk1 : (k : Int) < (o.nt : Int) := by omega
          have hk0 : (0 : Int) ≤ (k : Int) := by omega
          obtain ⟨xb, xo, ec, hxb, hcell⟩ := HT.out k hlt
          have hx : wi.cell? ⟨xb, xo + k, none⟩ = some (Value.string (o.ts k)) := GW.out.see hcell
          replace hxb := Nat.lt_of_lt_of_le hxb GW.out.size
          subst ec
          have hsz : (o.ts k).size = 32 := of_decide_eq_true (allN_at OK.out.ts hlt)
          have HS := hik hsz
          have hsm : (o.ts k).size ≤ 32 := by omega
          have hs0 : 0 < (o.ts k).size := by omega
          clear hcell hsz
          go_wp2_with (at_builtin; refine wpList_append_text_lies _ rfl (.tmp 33) (.tmp 38) 38 9 rfl W1.heap.size 5 i0 Tryz.underlying38 Tryz.underlying9 HI.out HZ0.out HZ1.out HZ2.out _ N _ rfl HO.out (o.ts k) rfl hs0 (by unfold maxLen; omega) (by omega) HG.out.size ?_)
          intro g7 cp7 w7 o7 hg7 hat7
          have K7 := hik (HG.out.grown hg7 (fun b e l => absurd ((HO.out).lt b e).1 (by omega)))
          clear hat7 hg7
          obtain ⟨M, hM⟩ : ∃ M, M = N + (o.ts k).size := ⟨_, rfl⟩
          rw [← hM] at o7 ⊢
          have O7 := hik (show w7.ownsRow W1.heap.size 5 1 (.slice (some ⟨g7, 0, none⟩) M cp7) M (obR o o.nr ++ tBs o.ts (k + 1)) by have q := o7; simpa [tBs, catN, tB] using q)
          have hMb : M ≤ 1000 := by
            have l0 := own_len O7.out
            rw [List.length_append, tBs_len32 OK.out.ts (k + 1) (by omega)] at l0
            omega
          clear o7 hM hx x1
          go_wp2
          go_roundw
          case rel => exact ⟨k + 1, M, g7, cp7, by omega, hMb, by go_num, rfl, O7, K7⟩
          case measure => simp [intOf]; omega
        · have hcc : ¬ (k : Int) < (o.nt : Int) := by omega
          have ek : k = o.nt := by omega
          have HO3 := hik (show wi.ownsRow W1.heap.size 5 1 (.slice (some ⟨g, 0, none⟩) N cp) N (obR o o.nr ++ tBs o.ts o.nt) by rw [← ek]; exact HO.out)
          have HG3 := HG
          clear HO ek
          go_wp2
          clear x1
          have x2 : W1.cell? ⟨w.heap.size, 2, none⟩ = some (.int .i64 o.la) := (hik (Chg.refl nob W1)).out.see (RA.out.cell (i := 2) (by omega))
          have x3 : W1.cell? ⟨w.heap.size, 3, none⟩ = some (.int .i64 o.lb) := (hik (Chg.refl nob W1)).out.see (RA.out.cell (i := 3) (by omega))
          have x4 : W1.cell? ⟨w.heap.size, 4, none⟩ = some (.int .i64 o.no) := (hik (Chg.refl nob W1)).out.see (RA.out.cell (i := 4) (by omega))
          have KW := hik (HG3.out.drew1)
          have SA := hik (fun (WW : World) (kW : Chg nob W1 WW) => (show (WW.cell? ⟨w.heap.size, 2, none⟩ = some (.int .i64 o.la) ∧ WW.cell? ⟨w.heap.size, 3, none⟩ = some (.int .i64 o.lb) ∧ WW.cell? ⟨w.heap.size, 4, none⟩ = some (.int .i64 o.no)) from ⟨kW.see x2, kW.see x3, kW.see x4⟩))
          refine wp_region_held_drew (S := fun w' => w'.cell? ⟨w.heap.size, 2, none⟩ = some (.int .i64 o.la) ∧ w'.cell? ⟨w.heap.size, 3, none⟩ = some (.int .i64 o.lb) ∧ w'.cell? ⟨w.heap.size, 4, none⟩ = some (.int .i64 o.no)) (by kernel_rfl) (SA.out _ KW.out) (fun hHeld => ?_)
          refine wpAnyH_take (i := 0) (v := ?_) rfl (by kernel_rfl) (by kernel_rfl) (by kernel_rfl) (fun _ _ _ h => h) (Or.inl ⟨by rfl, ?_⟩) (by assumption) ?_
          rotate_left 1
          · (intro w' hSw; (try dsimp only at hSw); go_simp; try with_reducible rfl)
          try simp only [Act.put, List.setIfInBounds_toArray, List.set_cons_zero, List.set_cons_succ, List.getElem_toArray, List.getElem_cons_zero, List.getElem_cons_succ]
          refine wpAnyH_take (i := 1) (v := ?_) rfl (by kernel_rfl) (by kernel_rfl) (by kernel_rfl) (fun _ _ _ h => h) (Or.inl ⟨by rfl, ?_⟩) (by assumption) ?_
          rotate_left 1
          · (intro w' hSw; (try dsimp only at hSw); go_simp; try with_reducible rfl)
          try simp only [Act.put, List.setIfInBounds_toArray, List.set_cons_zero, List.set_cons_succ, List.getElem_toArray, List.getElem_cons_zero, List.getElem_cons_succ]
          refine wpAnyH_take (i := 2) (v := ?_) rfl (by kernel_rfl) (by kernel_rfl) (by kernel_rfl) (fun _ _ _ h => h) (Or.inl ⟨by rfl, ?_⟩) (by assumption) ?_
          rotate_left 1
          · (intro w' hSw; (try dsimp only at hSw); go_simp; try with_reducible rfl)
          try simp only [Act.put, List.setIfInBounds_toArray, List.set_cons_zero, List.set_cons_succ, List.getElem_toArray, List.getElem_cons_zero, List.getElem_cons_succ]
          refine wpAnyH_take (i := 6) (v := ?_) rfl (by kernel_rfl) (by kernel_rfl) (by kernel_rfl) (fun _ _ _ h => h) (Or.inl ⟨by rfl, ?_⟩) (by assumption) ?_
          rotate_left 1
          · (intro w' hSw; (try dsimp only at hSw); go_simp; try with_reducible rfl)
          try simp only [Act.put, List.setIfInBounds_toArray, List.set_cons_zero, List.set_cons_succ, List.getElem_toArray, List.getElem_cons_zero, List.getElem_cons_succ]
          refine wpAnyH_take (i := 7) (v := ?_) rfl (by kernel_rfl) (by kernel_rfl) (by kernel_rfl) (fun _ _ _ h => h) (Or.inl ⟨by rfl, ?_⟩) (by assumption) ?_
          rotate_left 1
          · (intro w' hSw; (try dsimp only at hSw); go_simp; try with_reducible rfl)
          try simp only [Act.put, List.setIfInBounds_toArray, List.set_cons_zero, List.set_cons_succ, List.getElem_toArray, List.getElem_cons_zero, List.getElem_cons_succ]
          refine wpAnyH_ready (rs := [3]) (by kernel_rfl) (by simp) ?_
          refine AllReadyH.cons rfl (fun K hK => ?_) AllReadyH.nil
          simp only [List.getElem_toArray, List.getElem_cons_zero, List.getElem_cons_succ]
          go_simp
          replace KW := hik (KW.out.alloc (.cells #[.int .i64 o.la, .int .i64 o.lb] 42))
          have HO4 := hik (HO3.out.drew.alloc (.cells #[.int .i64 o.la, .int .i64 o.lb] 42))
          refine hK.out _ _ (SA.out _ KW.out) (fun hHeld => ?_)
          clear hK K
          try simp only [Act.put, List.setIfInBounds_toArray, List.set_cons_zero, List.set_cons_succ, List.getElem_toArray, List.getElem_cons_zero, List.getElem_cons_succ]
          refine wpAnyH_ready (rs := [4]) (by kernel_rfl) (by simp) ?_
          refine AllReadyH.cons rfl (fun K hK => ?_) AllReadyH.nil
          refine stepL_callN 45 #[.tmp 43] #[73] (by rfl) (by rfl) #[.slice (some ⟨wi.heap.size, 0, none⟩) 1 1] (by simp only [List.map_toArray, List.map_cons, List.map_nil] <;> rfl) (run_go Tryz.func45 (by kernel_rfl) (by kernel_rfl) _ _) (l02Bytes_any (some ⟨wi.heap.size, 0, none⟩) 1 1 (fun _ => o.la) (fun _ => o.lb) _ (hik (one_pair9 wi o.la o.lb)) (by omega) (hik (by simp [okP, EL.out]))) ?_
          rintro e V1 ⟨c2, cap2, he, r2, kk⟩
          obtain ⟨b2, o2, e2, hb2, _⟩ := r2 0 (by omega)
          subst e2
          have HO5 := hik (flKeep HO4.out kk)
          have HR2 := hik (news_rowV r2)
          clear r2 hb2
          refine ⟨_, he, ?_⟩
          replace KW := hik (KW.out.trans kk)
          refine hK.out _ _ (SA.out _ KW.out) (fun hHeld => ?_)
          clear hK K
          try simp only [Act.put, List.setIfInBounds_toArray, List.set_cons_zero, List.set_cons_succ, List.getElem_toArray, List.getElem_cons_zero, List.getElem_cons_succ]
          clear he kk
          refine wpAnyH_ready (rs := [5]) (by kernel_rfl) (by simp) ?_
          refine AllReadyH.cons rfl (fun K hK => ?_) AllReadyH.nil
          refine step_append_lies _ (by rfl) (.tmp 40) (.tmp 44) 38 (by rfl) W1.heap.size 5 i0 (.int .u8 0) 1 1 Tryz.underlying38 HI.out HZ0.out HZ1.out HZ2.out rfl (by decide) _ (N) _ (by rfl) HO5.out ⟨b2, o2, none⟩ (1 * 8) cap2 (eB (fun _ => o.la) (fun _ => o.lb) 1) (by rfl) (by rw [eB_len]) HR2.out (eB_one _ _ _) (by decide) (by unfold maxLen; omega) (by omega) KW.out.size _ rfl ?_
          intro g6 cp6 w6 o6 hg hat hlt
          replace KW := hik (KW.out.grown hg (fun b e l => absurd (HO5.out.lt b e).1 (by omega)))
          have HO6 := hik o6
          clear o6 hg hat hlt
          refine hK.out _ _ (SA.out _ KW.out) (fun hHeld => ?_)
          clear hK K
          try simp only [Act.put, List.setIfInBounds_toArray, List.set_cons_zero, List.set_cons_succ, List.getElem_toArray, List.getElem_cons_zero, List.getElem_cons_succ]
          refine wpAnyH_ready (rs := [8]) (by kernel_rfl) (by simp) ?_
          refine AllReadyH.cons rfl (fun K hK => ?_) AllReadyH.nil
          refine stepL_callN 70 #[.tmp 47, .const (.int .i64 4)] #[3, 3] (by rfl) (by rfl) #[.int .i64 o.no, .int .i64 4] (by simp only [List.map_toArray, List.map_cons, List.map_nil] <;> rfl) (run_go Tryz.func70 (by kernel_rfl) (by kernel_rfl) _ _) (l02Number_any o.no _ hno0 (by omega)) ?_
          rintro e V2 ⟨b4, cap4, hb4, he, r4, kk⟩
          have HO7 := hik (flKeep HO6.out kk)
          have HR4 := hik r4
          clear r4 hb4
          refine ⟨_, he, ?_⟩
          replace KW := hik (KW.out.trans kk)
          refine hK.out _ _ (SA.out _ KW.out) (fun hHeld => ?_)
          clear hK K
          try simp only [Act.put, List.setIfInBounds_toArray, List.set_cons_zero, List.set_cons_succ, List.getElem_toArray, List.getElem_cons_zero, List.getElem_cons_succ]
          clear he kk
          refine wpAnyH_ready (rs := [9]) (by kernel_rfl) (by simp) ?_
          refine AllReadyH.cons rfl (fun K hK => ?_) AllReadyH.nil
          refine step_append_lies _ (by rfl) (.tmp 45) (.tmp 48) 38 (by rfl) W1.heap.size 5 i0 (.int .u8 0) 1 1 Tryz.underlying38 HI.out HZ0.out HZ1.out HZ2.out rfl (by decide) _ (N + 1 * 8) _ (by rfl) HO7.out ⟨b4, 0, none⟩ 4 cap4 (wv o.no) (by rfl) rfl HR4.out (wv_one8 _) (by decide) (by unfold maxLen; omega) (by omega) KW.out.size _ rfl ?_
          intro g8 cp8 w8 o8 hg hat hlt
          replace KW := hik (KW.out.grown hg (fun b e l => absurd (HO7.out.lt b e).1 (by omega)))
          have HO8 := hik o8
          clear o8 hg hat hlt
          refine hK.out _ _ (SA.out _ KW.out) (fun hHeld => ?_)
          clear hK K
          try simp only [Act.put, List.setIfInBounds_toArray, List.set_cons_zero, List.set_cons_succ, List.getElem_toArray, List.getElem_cons_zero, List.getElem_cons_succ]
          refine wpAnyH_take (i := 10) (v := ?_) rfl (by kernel_rfl) (by kernel_rfl) (by kernel_rfl) (fun _ _ _ h => h) (Or.inl ⟨by rfl, ?_⟩) (by assumption) ?_
          rotate_left 1
          · (intro w' hSw; (try dsimp only at hSw); go_simp; try with_reducible rfl)
          try simp only [Act.put, List.setIfInBounds_toArray, List.set_cons_zero, List.set_cons_succ, List.getElem_toArray, List.getElem_cons_zero, List.getElem_cons_succ]
          refine wpAnyH_done (by kernel_rfl) ?_ _
          clear SA hHeld HO3 HO4 HO5 HO6 HO7 HR2 HR4 x2 x3 x4
          have GW8 := hik (G1.out.trans KW.out)
          have HOx := hik (show w8.ownsRow W1.heap.size 5 1 (.slice (some ⟨g8, 0, none⟩) (N + 1 * 8 + 4) cp8) (N + 1 * 8 + 4) (obH o) from HO8.out)
          clear HO8
          have x5 : w8.cell? ⟨w.heap.size, 5, none⟩ = some (.slice cQ o.nq pQ) := KW.out.see (RA.out.cell (i := 5) (by omega))
          have hN8 : N + 1 * 8 + 4 ≤ 20000 := by omega
          go_wp2
          clear x5
          go_loopw [3, 6] (fun v i W => ∃ (k N g cp : Nat), k ≤ o.nq ∧ N ≤ 20000 ∧ i = .int .i64 (k : Int) ∧ v = .slice (some ⟨g, 0, none⟩) N cp ∧ Hid (W.ownsRow W1.heap.size 5 1 (.slice (some ⟨g, 0, none⟩) N cp) N (obH o ++ obQs o k)) ∧ Hid (Chg nob W1 W)) (fun _ i _ => o.nq - (intOf i).toNat)
          case atStart => exact ⟨0, _, g8, cp8, Nat.zero_le _, hN8, rfl, rfl, hik (by have q := HOx.out; simpa [obQs, catN] using q), KW⟩
          case round =>
            clear HOx KW GW8 GW HG3 hsi
            obtain ⟨k, N, g, cp, hk, hN, rfl, rfl, HO, HG⟩ := hrel
            rename World => wj
            have GW := hik (G1.out.trans HG.out)
            have x5 : wj.cell? ⟨w.heap.size, 5, none⟩ = some (.slice cQ o.nq pQ) := HG.out.see (RA.out.cell (i := 5) (by omega))
            have hsi := Nat.lt_of_lt_of_le rlt HG.out.size
            have og := own_at HO.out (b := g) rfl
            by_cases hlt : k < o.nq
            · have hk1 : (k : Int) < (o.nq : Int) := by omega
              have hk0 : (0 : Int) ≤ (k : Int) := by omega
              obtain ⟨xb, xo, ca, pa, cb, pb, ec, hxb, hc0, hc1, hP, hS⟩ := dQs_at h.out.2.2 hlt
              replace hxb := Nat.lt_of_lt_of_le hxb GW.out.size
              replace hc0 := GW.out.see hc0
              replace hc1 := GW.out.see hc1
              subst ec
              obtain ⟨_, _, eP, hPP⟩ := hP
              cases eP
              have QK := hik (qrB_ok (OK.out.qr k hlt))
              have hnp : (o.q k).np ≤ 12 := by have := QK.out.np; have := OK.out.v1; omega
              have hnp1 : 1 ≤ (o.q k).np := by have := QK.out.np; have := OK.out.v0; omega
              have hnqk : (o.q k).nq ≤ 6 := by have := QK.out.nq; have := OK.out.v1; omega
              have KA := hik ((Chg.refl nob wj).alloc (.cells #[.slice ca (o.q k).np pa, .slice cb (o.q k).nq pb] 106))
              have RQ := hik (row2_new wj (.slice ca (o.q k).np pa) (.slice cb (o.q k).nq pb) 106)
              have PJ := hik (PairV.keep (PairV.keep hPP GW.out) KA.out)
              have HOA := hik (flKeep HO.out KA.out)
              have SJ := hik hS
              have HBQ := hik (show wj.heap.size < (wj.alloc (.cells #[.slice ca (o.q k).np pa, .slice cb (o.q k).nq pb] 106)).heap.size by simp)
              replace HG := hik (HG.out.trans KA.out)
              clear hPP hS
              go_wp2_with fail
              generalize hQ : wj.heap.size = bq at RQ HBQ ⊢
              generalize hW : wj.alloc (.cells #[.slice ca (o.q k).np pa, .slice cb (o.q k).nq pb] 106) = W6 at KA RQ PJ HOA HBQ HG ⊢
              have hbq := hik hQ
              clear hQ hW
              refine (l02Bytes_any ca (o.q k).np pa ((o.q k).f) ((o.q k).g) _ PJ (by omega) (hik QK.out.ok)).mono ?_
              rintro e W2 ⟨c2, cap2, rfl, r2, k2⟩
              replace RQ := hik (rowIs_keep RQ.out k2)
              have hm8 : 0 < (o.q k).np * 8 := by omega
              obtain ⟨b2, o2, e2, hb2, _⟩ := r2 0 hm8
              subst e2
              have HO2 := hik (flKeep HOA.out k2)
              have HR2 := hik (news_rowV r2)
              have K2 := hik (HG.out.trans k2)
              clear r2 k2 hb2
              go_wp2_with (at_builtin; refine wpList_append_lies _ rfl (.tmp 62) (.tmp 65) 38 rfl W1.heap.size 5 i0 (.int .u8 0) 1 1 Tryz.underlying38 HI.out HZ0.out HZ1.out HZ2.out rfl (by decide) _ N _ rfl HO2.out ⟨b2, o2, none⟩ ((o.q k).np * 8) cap2 (eB ((o.q k).f) ((o.q k).g) (o.q k).np) rfl (by rw [eB_len]; omega) HR2.out (eB_one _ _ _) (by omega) (by unfold maxLen; omega) (by omega) K2.out.size _ rfl ?_)
              intro g7 cp7 w7 o7 hg7 hat7 hlt7
              have K7 := hik (K2.out.grown hg7 (fun b e l => absurd (HO2.out.lt b e).1 (by omega)))
              have RQ7 := hik (show w7.rowIs bq 106 2 (pv2 (.slice ca (o.q k).np pa) (.slice cb (o.q k).nq pb)) from rowIs_grown RQ.out hg7 (fun e => by have e' : g = bq := (by simpa [Value.ownBlock] using e); have := hbq.out; omega))
              have HNE := hik (show g7 ≠ bq by
                rcases hat7 with q | q
                · have e' : g = g7 := (by simpa [Value.ownBlock] using q)
                  have := hbq.out; omega
                · have := RQ.out.lt; omega)
              clear hat7 hlt7 hg7 HR2 K2 HO2 RQ
              obtain ⟨N7, hN7⟩ : ∃ N7, N7 = N + (o.q k).np * 8 := ⟨_, rfl⟩
              have hN7b : N7 ≤ 21000 := by omega
              rw [← hN7] at o7 ⊢
              have HO7 := hik (show w7.ownsRow W1.heap.size 5 1 (.slice (some ⟨g7, 0, none⟩) N7 cp7) N7 (obH o ++ obQs o k ++ eB (o.q k).f (o.q k).g (o.q k).np ++ obP (o.q k) 0) by have q := o7; simpa [obP, catN] using q)
              clear o7 hN7 hc0 hc1 PJ HOA HO og x5
              have KQ := hik (show Chg nob W1 w7 from K7.out)
              go_wp2
              go_loopw [3, 8] (fun v i W => ∃ (j N g cp : Nat), j ≤ (o.q k).nq ∧ N ≤ 24000 ∧ i = .int .i64 (j : Int) ∧ v = .slice (some ⟨g, 0, none⟩) N cp ∧ Hid (W.ownsRow W1.heap.size 5 1 (.slice (some ⟨g, 0, none⟩) N cp) N (obH o ++ obQs o k ++ eB (o.q k).f (o.q k).g (o.q k).np ++ obP (o.q k) j)) ∧ Hid (Chg nob W1 W) ∧ Hid (W.rowIs bq 106 2 (pv2 (.slice ca (o.q k).np pa) (.slice cb (o.q k).nq pb))) ∧ Hid (g ≠ bq)) (fun _ i _ => (o.q k).nq - (intOf i).toNat)
              case atStart => exact ⟨0, N7, g7, cp7, Nat.zero_le _, by omega, rfl, rfl, HO7, KQ, RQ7, HNE⟩
              case round =>
                clear HO7 KQ RQ7 HNE K7 GW HG KA hsi HBQ hbq
                obtain ⟨j, N8, g8, cp8, hj, hN8, rfl, rfl, HO, HG, RQ, HNE⟩ := hrel
                rename World => wk
                have GW := hik (G1.out.trans HG.out)
                have bq1 := row2_c1 RQ.out
                have bqz := RQ.out.lt
                by_cases hjl : j < (o.q k).nq
                · have hj1 : (j : Int) < ((o.q k).nq : Int) := by omega
                  have hj0 : (0 : Int) ≤ (j : Int) := by omega
                  obtain ⟨yb, yo, ey, hyb, hcc⟩ := (rep_list SJ.out).2 j hjl
                  obtain ⟨u, hc, hu⟩ := hcc 0 (by omega)
                  obtain ⟨c1, p1, rfl, hP⟩ := hu
                  subst ey
                  rw [show yo + (j * 1 + 0) = yo + j by omega] at hc
                  have PJ := hik hP
                  have QJ := hik (QK.out.pt j hjl)
                  have hl8 : (o.q k).l j ≤ 8 := by have := QJ.out.1; have := OK.out.v1; have := OK.out.r1; omega
                  have HC := hik hc
                  have hbY := hyb
                  clear hP hcc hc
                  have HOj := hik (show wk.ownsRow W1.heap.size 5 1 (.slice (some ⟨g8, 0, none⟩) N8 cp8) N8 (obH o ++ obQs o k ++ eB (o.q k).f (o.q k).g (o.q k).np ++ obP (o.q k) j ++ tBs ((o.q k).T j) 0) by have q := HO.out; simpa [tBs, catN] using q)
                  have hyc := GW.out.see HC.out
                  replace hyb := Nat.lt_of_lt_of_le hbY GW.out.size
                  go_wp2
                  clear hyc hyb bq1 bqz
                  go_loopw [3, 9] (fun v i W => ∃ (m N g cp : Nat), m ≤ (o.q k).l j ∧ N ≤ 24256 ∧ i = .int .i64 (m : Int) ∧ v = .slice (some ⟨g, 0, none⟩) N cp ∧ Hid (W.ownsRow W1.heap.size 5 1 (.slice (some ⟨g, 0, none⟩) N cp) N (obH o ++ obQs o k ++ eB (o.q k).f (o.q k).g (o.q k).np ++ obP (o.q k) j ++ tBs ((o.q k).T j) m)) ∧ Hid (Chg nob W1 W) ∧ Hid (W.rowIs bq 106 2 (pv2 (.slice ca (o.q k).np pa) (.slice (some ⟨yb, yo, none⟩) (o.q k).nq pb))) ∧ Hid (g ≠ bq)) (fun _ i _ => (o.q k).l j - (intOf i).toNat)
                  case atStart => exact ⟨0, N8, g8, cp8, Nat.zero_le _, by omega, rfl, rfl, HOj, HG, RQ, HNE⟩
                  case round =>
                    clear HO HOj HG RQ HNE GW
                    obtain ⟨m, N9, g9, cp9, hm, hN9, rfl, rfl, HO, HG, RQ, HNE⟩ := hrel
                    rename World => wl
                    have GW := hik (G1.out.trans HG.out)
                    have bq1 := row2_c1 RQ.out
                    have bqz := RQ.out.lt
                    have hyc := GW.out.see HC.out
                    have hyb := Nat.lt_of_lt_of_le hbY GW.out.size
                    by_cases hml : m < (o.q k).l j
                    · have hm1 : (m : Int) < ((o.q k).l j : Int) := by omega
                      have hm0 : (0 : Int) ≤ (m : Int) := by omega
                      obtain ⟨zb, zo, ez, hzb, hcell⟩ := PJ.out m hml
                      have hx : wl.cell? ⟨zb, zo + m, none⟩ = some (Value.string ((o.q k).T j m)) := GW.out.see hcell
                      replace hzb := Nat.lt_of_lt_of_le hzb GW.out.size
                      subst ez
                      have hsz : ((o.q k).T j m).size = 32 := of_decide_eq_true (allN_at QJ.out.2 hml)
                      have HS := hik hsz
                      have hsm : ((o.q k).T j m).size ≤ 32 := by omega
                      have hs0 : 0 < ((o.q k).T j m).size := by omega
                      clear hcell hsz
                      go_wp2_with (at_builtin; refine wpList_append_text_lies _ rfl (.tmp 84) (.tmp 92) 38 9 rfl W1.heap.size 5 i0 Tryz.underlying38 Tryz.underlying9 HI.out HZ0.out HZ1.out HZ2.out _ N9 _ rfl HO.out ((o.q k).T j m) rfl hs0 (by unfold maxLen; omega) (by omega) HG.out.size ?_)
                      intro g7 cp7 w7 o7 hg7 hat7
                      have K7 := hik (HG.out.grown hg7 (fun b e l => absurd ((HO.out).lt b e).1 (by omega)))
                      have RQ7 := hik (show w7.rowIs bq 106 2 (pv2 (.slice ca (o.q k).np pa) (.slice (some ⟨yb, yo, none⟩) (o.q k).nq pb)) from rowIs_grown RQ.out hg7 (fun e => by have e' : g9 = bq := (by simpa [Value.ownBlock] using e); exact HNE.out e'))
                      have HNE7 := hik (show g7 ≠ bq by
                        rcases hat7 with q | q
                        · have e' : g9 = g7 := (by simpa [Value.ownBlock] using q)
                          have := HNE.out; omega
                        · have := RQ.out.lt; omega)
                      clear hat7 hg7
                      obtain ⟨M, hM⟩ : ∃ M, M = N9 + ((o.q k).T j m).size := ⟨_, rfl⟩
                      rw [← hM] at o7 ⊢
                      have O7 := hik (show w7.ownsRow W1.heap.size 5 1 (.slice (some ⟨g7, 0, none⟩) M cp7) M (obH o ++ obQs o k ++ eB (o.q k).f (o.q k).g (o.q k).np ++ obP (o.q k) j ++ tBs ((o.q k).T j) (m + 1)) by have q := o7; simpa [tBs, catN, tB] using q)
                      have hMb : M ≤ 24256 := by
                        have l0 := own_len O7.out
                        have l1 := obQs_len OK.out (k := k) (by omega)
                        have l2 := obH_len OK.out
                        have l3 := obP_len QK.out OK.out.v1 OK.out.r1 (k := j) (by omega)
                        have l4 := tBs_len QJ.out.2 (k := m + 1) (by omega)
                        simp only [List.length_append, eB_len] at l0
                        omega
                      clear o7 hM hx bq1 bqz hyc hyb
                      go_wp2
                      go_roundw
                      case rel => exact ⟨m + 1, M, g7, cp7, by omega, hMb, by go_num, rfl, O7, K7, RQ7, HNE7⟩
                      case measure => simp [intOf]; omega
                    · have hcc : ¬ (m : Int) < ((o.q k).l j : Int) := by omega
                      have em : m = (o.q k).l j := by omega
                      have HO9 := hik (show wl.ownsRow W1.heap.size 5 1 (.slice (some ⟨g9, 0, none⟩) N9 cp9) N9 (obH o ++ obQs o k ++ eB (o.q k).f (o.q k).g (o.q k).np ++ obP (o.q k) (j + 1)) by
                        have q := HO.out
                        rw [em] at q
                        simpa [obP, catN, List.append_assoc] using q)
                      have hlen : N9 ≤ 24000 := by
                        have l0 := own_len HO9.out
                        have l1 := obQs_len OK.out (k := k) (by omega)
                        have l2 := obH_len OK.out
                        have l3 := obP_len QK.out OK.out.v1 OK.out.r1 (k := j + 1) (by omega)
                        simp only [List.length_append, eB_len] at l0
                        omega
                      clear HO em
                      go_wp2
                      go_roundw
                      case rel => exact ⟨j + 1, N9, g9, cp9, by omega, hlen, by go_num, rfl, HO9, HG, RQ, HNE⟩
                      case measure => simp [intOf]; omega
                · have hcc : ¬ (j : Int) < ((o.q k).nq : Int) := by omega
                  have ej : j = (o.q k).nq := by omega
                  have HO9 := hik (show wk.ownsRow W1.heap.size 5 1 (.slice (some ⟨g8, 0, none⟩) N8 cp8) N8 (obH o ++ obQs o (k + 1)) by
                    have q := HO.out
                    rw [ej] at q
                    simpa [obQs, catN, obQ, List.append_assoc] using q)
                  have hl := obQs_len OK.out (k := k + 1) (by omega)
                  have hl2 := obH_len OK.out
                  have hN9 : N8 ≤ 20000 := by have := own_len HO9.out; rw [List.length_append] at this; omega
                  clear HO ej
                  go_wp2
                  go_roundw
                  case rel => exact ⟨k + 1, by omega, N8, hN9, by omega, g8, cp8, ⟨rfl, rfl, rfl⟩, HO9⟩
                  case measure => simp [intOf]; omega
            · have hcc : ¬ (k : Int) < (o.nq : Int) := by omega
              have ek : k = o.nq := by omega
              have HO9 := hik (show wj.ownsRow W1.heap.size 5 1 (.slice (some ⟨g, 0, none⟩) N cp) N (oby o) by rw [show oby o = obH o ++ obQs o k by rw [ek]; rfl]; exact HO.out)
              clear ek HO
              go_wp2
              go_ret
              exact ⟨_, N, _, rfl, own_len HO9.out, Go.Joins.ownsRow_le HO9.out hs1, GW.out⟩

end Go.Proofs.YtfbjlohnbpienaaGreat

namespace Go.Proofs.YtfbjlohnbpienaaGreat
open Go.ChangeShapes Go.WideShapes Go.ChangeAt Go.RowKit
set_option linter.unusedVariables false
set_option maxRecDepth 100000
set_option linter.unusedSimpArgs false

set_option maxHeartbeats 8000000 in
theorem sBytes14_any (p : PD) (a : PA) (s : Sy) (r n g : Int) (w : World) (h : Hid (PrV w p a)) (OK : Hid (OkPf p s r n g)) :
    Calls Tryz.prog 22 #[.agg #[.string p.rt, .slice a.cG p.ng a.pG, .int .i64 p.a0, .int .i64 p.a1, .int .i64 p.b0, .int .i64 p.b1, .int .i64 p.c0, .int .i64 p.c1, .slice a.cW p.nw a.pW, .int .i64 p.v0, .int .i64 p.v1, .slice a.cR p.op.nr a.pR, .slice a.cT p.op.nt a.pT, .int .i64 p.op.la, .int .i64 p.op.lb, .int .i64 p.op.no, .slice a.cQ p.op.nq a.pQ]] w fun e w' => ∃ gb cap : Nat, e = .returned (.slice (some ⟨gb, 0, none⟩) (pby p).length cap) ∧ GRow w' w.heap.size gb (pby p).length cap (pby p) ∧ Chg nob w w' := by
  obtain ⟨i0, hi, hz0, hz1, hz2⟩ := info_parts infoU8
  have HI := hik hi
  have HZ0 := hik hz0
  have HZ1 := hik hz1
  have HZ2 := hik hz2
  clear hi hz0 hz1 hz2
  have OO := hik (ook_ok OK.out.op)
  have hr32 : p.rt.size ≤ 32 := by have := OK.out.rt; omega
  have SQ := hik OK.out.rnd
  have hng5 : p.ng ≤ 5 := by have := SQ.out; have := OK.out.ng; omega
  have hnw5 : p.nw ≤ 5 := by have := SQ.out; have := OK.out.nw; omega
  have K0 := hik ((Chg.refl nob w).alloc (.cells #[.string p.rt, .slice a.cG p.ng a.pG, .int .i64 p.a0, .int .i64 p.a1, .int .i64 p.b0, .int .i64 p.b1, .int .i64 p.c0, .int .i64 p.c1, .slice a.cW p.nw a.pW, .int .i64 p.v0, .int .i64 p.v1, .slice a.cR p.op.nr a.pR, .slice a.cT p.op.nt a.pT, .int .i64 p.op.la, .int .i64 p.op.lb, .int .i64 p.op.no, .slice a.cQ p.op.nq a.pQ] 47))
  have RP := hik (rowN_new w 17 #[.string p.rt, .slice a.cG p.ng a.pG, .int .i64 p.a0, .int .i64 p.a1, .int .i64 p.b0, .int .i64 p.b1, .int .i64 p.c0, .int .i64 p.c1, .slice a.cW p.nw a.pW, .int .i64 p.v0, .int .i64 p.v1, .slice a.cR p.op.nr a.pR, .slice a.cT p.op.nt a.pT, .int .i64 p.op.la, .int .i64 p.op.lb, .int .i64 p.op.no, .slice a.cQ p.op.nq a.pQ] 47 rfl)
  go_enter Tryz.func22, Tryz.ntmps22
  go_upto_region 1 with fail
  generalize hW : w.alloc (.cells #[.string p.rt, .slice a.cG p.ng a.pG, .int .i64 p.a0, .int .i64 p.a1, .int .i64 p.b0, .int .i64 p.b1, .int .i64 p.c0, .int .i64 p.c1, .slice a.cW p.nw a.pW, .int .i64 p.v0, .int .i64 p.v1, .slice a.cR p.op.nr a.pR, .slice a.cT p.op.nt a.pT, .int .i64 p.op.la, .int .i64 p.op.lb, .int .i64 p.op.no, .slice a.cQ p.op.nq a.pQ] 47) = W1 at K0 RP ⊢
  clear hW
  obtain ⟨WM, capM, hcvM, HBM, KM, hcm⟩ := conv_gr p.rt W1 (by omega)
  have hw01 := K0.out.size
  have G0 := hik (HBM.out.low hw01)
  have kk := KM.out
  have hw02 := RP.out.lt
  have x0 : W1.cell? ⟨w.heap.size, 0, none⟩ = some (.string p.rt) := RP.out.cell (i := 0) (by omega)
  go_upto_region 2 with fail
  clear x0 hcvM hcm HBM
  replace K0 := hik (K0.out.trans kk)
  replace RP := hik (rowIs_keep RP.out kk)
  clear kk KM
  have hgl0 : w.heap.size < W1.heap.size := hw02
  have x0 : WM.cell? ⟨w.heap.size, 1, none⟩ = some (.slice a.cG p.ng a.pG) := RP.out.cell (i := 1) (by omega)
  have zz := RP.out.lt
  go_wp2
  clear x0 zz
  go_loopw [3, 4] (fun v i W => ∃ (k N g' cp : Nat), k ≤ p.ng ∧ N ≤ 2000 ∧ i = .int .i64 (k : Int) ∧ v = .slice (some ⟨g', 0, none⟩) N cp ∧ Hid (N = p.rt.size + (obE p.gl p.gf p.gg k).length) ∧ Hid (GRow W w.heap.size g' N cp (tB p.rt ++ obE p.gl p.gf p.gg k)) ∧ Hid (w.heap.size < g') ∧ Hid (Chg nob w W) ∧ Hid (W.rowIs w.heap.size 47 17 (fun i => (#[.string p.rt, .slice a.cG p.ng a.pG, .int .i64 p.a0, .int .i64 p.a1, .int .i64 p.b0, .int .i64 p.b1, .int .i64 p.c0, .int .i64 p.c1, .slice a.cW p.nw a.pW, .int .i64 p.v0, .int .i64 p.v1, .slice a.cR p.op.nr a.pR, .slice a.cT p.op.nt a.pT, .int .i64 p.op.la, .int .i64 p.op.lb, .int .i64 p.op.no, .slice a.cQ p.op.nq a.pQ] : Array Value).getD i undef))) (fun _ i _ => p.ng - (intOf i).toNat)
  case atStart => exact ⟨0, p.rt.size, W1.heap.size, capM, Nat.zero_le _, by omega, rfl, rfl, hik (by simp [obE, catN]), hik (by have q := G0.out; simpa [obE, catN] using q), hik (by omega), K0, RP⟩
  case round =>
    clear G0 K0 RP
    obtain ⟨k, N, g', cp, hk, hN, rfl, rfl, HN, G0, HL, K0, RP⟩ := hrel
    rename World => wi
    have x0 : wi.cell? ⟨w.heap.size, 1, none⟩ = some (.slice a.cG p.ng a.pG) := RP.out.cell (i := 1) (by omega)
    have hsi := RP.out.lt
    by_cases hlt : k < p.ng
    · have hk1 : (k : Int) < (p.ng : Int) := by omega
      have hk0 : (0 : Int) ≤ (k : Int) := by omega
      obtain ⟨xb, xo, ec, hxb, hcc⟩ := (rep_list (h.out.1.keep K0.out)).2 k hlt
      obtain ⟨u, hc, hu⟩ := hcc 0 (by omega)
      obtain ⟨c1, p1, rfl, hP⟩ := hu
      rw [ec] at x0
      clear ec
      rw [show xo + (k * 1 + 0) = xo + k by omega] at hc
      have PJ := hik hP
      have RK := hik (OK.out.g8 k hlt)
      have hrl := RK.out.1
      have hrl2 := RK.out.2.1
      clear hP hcc
      go_wp2_with fail
      refine (l02Bytes_any c1 (p.gl k) p1 (p.gf k) (p.gg k) _ PJ (by omega) (hik RK.out.2.2)).mono ?_
      rintro e W2 ⟨c2, cap2, rfl, r2, k2⟩
      have hm8 : 0 < (p.gl k) * 8 := by omega
      obtain ⟨b2, o2, e2, hb2, _⟩ := r2 0 hm8
      subst e2
      have HO2 := hik (G0.out.keep k2)
      have HR2 := hik (news_rowV r2)
      have K2 := hik (K0.out.trans k2)
      replace RP := hik (rowIs_keep RP.out k2)
      have hK2 := K2.out.size
      have hz2 := RP.out.lt
      clear r2 k2 hb2 G0
      go_wp2_with (at_builtin; refine wpList_append_gr _ rfl (.tmp 16) (.tmp 22) 38 rfl 5 i0 (.int .u8 0) Tryz.underlying38 HI.out HZ0.out HZ1.out HZ2.out rfl w.heap.size g' N cp _ rfl hK2 HO2.out ⟨b2, o2, none⟩ ((p.gl k) * 8) cap2 (eB (p.gf k) (p.gg k) (p.gl k)) rfl (by rw [eB_len]) HR2.out (eB_one _ _ _) hm8 (by omega) ?_)
      intro g7 cp7 w7 o7 k7 l7
      replace RP := hik (rowIs_chg RP.out k7 (fun e => by have := HL.out; omega))
      have K7 := hik (K2.out.near k7 (fun b e => by have := HL.out; omega))
      have HL7 := hik (show w.heap.size < g7 by have := HL.out; rcases l7 with q | q <;> omega)
      have O7 := hik (show GRow w7 w.heap.size g7 (N + p.gl k * 8) cp7 (tB p.rt ++ obE p.gl p.gf p.gg (k + 1)) by have q := o7; first | exact q | simpa [obE, catN, List.append_assoc] using q)
      have HN3 := hik (show N + p.gl k * 8 = p.rt.size + (obE p.gl p.gf p.gg (k + 1)).length by rw [HN.out]; simp only [obE, catN, List.length_append, eB_len]; omega)
      have hl := obE_len OK.out.g8 (k := k + 1) (by omega)
      obtain ⟨M, hM⟩ : ∃ M, M = N + p.gl k * 8 := ⟨_, rfl⟩
      rw [← hM] at O7 HN3 ⊢
      have hN2 : M ≤ 2000 := by have := HN3.out; omega
      clear o7 k7 l7 HR2 K2 HO2 hc PJ hl x0 hM hsi
      go_wp2
      go_roundw
      case rel => exact ⟨k + 1, M, g7, cp7, by omega, hN2, by go_num, rfl, HN3, O7, HL7, K7, RP⟩
      case measure => simp [intOf]; omega
    · have hcc : ¬ (k : Int) < (p.ng : Int) := by omega
      have ek : k = p.ng := by omega
      have hl1 := obE_len OK.out.g8 (Nat.le_refl p.ng)
      replace G0 := hik (show GRow wi w.heap.size g' N cp (tB p.rt ++ obE p.gl p.gf p.gg p.ng) by have q := G0.out; rw [ek] at q; exact q)
      have hNb : N ≤ p.rt.size + p.ng * 64 := by have := HN.out; rw [ek] at this; omega
      have hgl := HL.out
      clear ek HN hk hN hl1 HL
      go_upto_region 6 with fail
      clear x0
  
      have kk := (Chg.refl nob wi).alloc (.cells #[.int .i64 p.a0, .int .i64 p.a1, .int .i64 p.b0, .int .i64 p.b1, .int .i64 p.c0, .int .i64 p.c1] 42)
      have P3 := hik (pair3_new wi p.a0 p.a1 p.b0 p.b1 p.c0 p.c1 42)
      have x2 : wi.cell? ⟨w.heap.size, 2, none⟩ = some (.int .i64 p.a0) := RP.out.cell (i := 2) (by omega)
      have x3 : wi.cell? ⟨w.heap.size, 3, none⟩ = some (.int .i64 p.a1) := RP.out.cell (i := 3) (by omega)
      have x4 : wi.cell? ⟨w.heap.size, 4, none⟩ = some (.int .i64 p.b0) := RP.out.cell (i := 4) (by omega)
      have x5 : wi.cell? ⟨w.heap.size, 5, none⟩ = some (.int .i64 p.b1) := RP.out.cell (i := 5) (by omega)
      have x6 : wi.cell? ⟨w.heap.size, 6, none⟩ = some (.int .i64 p.c0) := RP.out.cell (i := 6) (by omega)
      have x7 : wi.cell? ⟨w.heap.size, 7, none⟩ = some (.int .i64 p.c1) := RP.out.cell (i := 7) (by omega)
      go_wp2_with fail
      clear x2 x3 x4 x5 x6 x7
      replace G0 := hik (G0.out.keep kk)
      replace K0 := hik (K0.out.trans kk)
      replace RP := hik (rowIs_keep RP.out kk)
      clear kk hsi
      generalize hW : wi.alloc (.cells #[.int .i64 p.a0, .int .i64 p.a1, .int .i64 p.b0, .int .i64 p.b1, .int .i64 p.c0, .int .i64 p.c1] 42) = W3 at K0 RP P3 G0 ⊢
      clear hW
      refine (l02Bytes_any _ 3 3 _ _ _ P3 (by omega) (hik (by rw [okP3]; exact OK.out.abc))).mono ?_
      rintro e W4 ⟨c2, cap2, rfl, r2, k2⟩
      obtain ⟨b2, o2, e2, hb2, _⟩ := r2 0 (by omega)
      subst e2
      have HO2 := hik (G0.out.keep k2)
      have HR2 := hik (news_rowV r2)
      replace K0 := hik (K0.out.trans k2)
      replace RP := hik (rowIs_keep RP.out k2)
      have hK2 := K0.out.size
      have hz2 := RP.out.lt
      clear r2 k2 hb2 G0 P3
      go_wp2_with (at_builtin; refine wpList_append_gr _ rfl (.tmp 24) (.tmp 32) 38 rfl 5 i0 (.int .u8 0) Tryz.underlying38 HI.out HZ0.out HZ1.out HZ2.out rfl w.heap.size g' N cp _ rfl hK2 HO2.out ⟨b2, o2, none⟩ (3 * 8) cap2 (eB (pk4 p.a0 p.b0 p.c0 0) (pk4 p.a1 p.b1 p.c1 0) 3) rfl (by rw [eB_len]) HR2.out (eB_one _ _ _) (by omega) (by omega) ?_)
      intro g7 cp7 W5 o7 k7 l7
      replace RP := hik (rowIs_chg RP.out k7 (fun e => by omega))
      replace K0 := hik (K0.out.near k7 (fun b e => by omega))
      have hgl7 : w.heap.size < g7 := by rcases l7 with q | q <;> omega
      have G0 := hik (show GRow W5 w.heap.size g7 (N + 3 * 8) cp7 ((tB p.rt ++ obE p.gl p.gf p.gg p.ng) ++ eB (pk4 p.a0 p.b0 p.c0 0) (pk4 p.a1 p.b1 p.c1 0) 3) by have q := o7; first | exact q | (rw [List.append_assoc]; exact q))
      clear o7 k7 l7 HR2 HO2 hK2 hgl
      obtain ⟨N1, hN1⟩ : ∃ N1, N1 = N + 3 * 8 := ⟨_, rfl⟩
      rw [← hN1] at G0 ⊢
      have hN1b : N1 ≤ 400 := by omega
      clear hN1
      go_upto_region 7 with fail
      have x0 : W5.cell? ⟨w.heap.size, 8, none⟩ = some (.slice a.cW p.nw a.pW) := RP.out.cell (i := 8) (by omega)
      have zz := RP.out.lt
      go_wp2
      clear x0 zz
      go_loopw [3, 5] (fun v i W => ∃ (k N g' cp : Nat), k ≤ p.nw ∧ N ≤ 2000 ∧ i = .int .i64 (k : Int) ∧ v = .slice (some ⟨g', 0, none⟩) N cp ∧ Hid (N = N1 + (obE p.wl p.wf p.wg k).length) ∧ Hid (GRow W w.heap.size g' N cp (((tB p.rt ++ obE p.gl p.gf p.gg p.ng) ++ eB (pk4 p.a0 p.b0 p.c0 0) (pk4 p.a1 p.b1 p.c1 0) 3) ++ obE p.wl p.wf p.wg k)) ∧ Hid (w.heap.size < g') ∧ Hid (Chg nob w W) ∧ Hid (W.rowIs w.heap.size 47 17 (fun i => (#[.string p.rt, .slice a.cG p.ng a.pG, .int .i64 p.a0, .int .i64 p.a1, .int .i64 p.b0, .int .i64 p.b1, .int .i64 p.c0, .int .i64 p.c1, .slice a.cW p.nw a.pW, .int .i64 p.v0, .int .i64 p.v1, .slice a.cR p.op.nr a.pR, .slice a.cT p.op.nt a.pT, .int .i64 p.op.la, .int .i64 p.op.lb, .int .i64 p.op.no, .slice a.cQ p.op.nq a.pQ] : Array Value).getD i undef))) (fun _ i _ => p.nw - (intOf i).toNat)
      case atStart => exact ⟨0, N1, g7, cp7, Nat.zero_le _, by omega, rfl, rfl, hik (by simp [obE, catN]), hik (by have q := G0.out; simpa [obE, catN] using q), hik (by omega), K0, RP⟩
      case round =>
        clear G0 K0 RP
        obtain ⟨k, N, g', cp, hk, hN, rfl, rfl, HN, G0, HL, K0, RP⟩ := hrel
        rename World => wi
        have x0 : wi.cell? ⟨w.heap.size, 8, none⟩ = some (.slice a.cW p.nw a.pW) := RP.out.cell (i := 8) (by omega)
        have hsi := RP.out.lt
        by_cases hlt : k < p.nw
        · have hk1 : (k : Int) < (p.nw : Int) := by omega
          have hk0 : (0 : Int) ≤ (k : Int) := by omega
          obtain ⟨xb, xo, ec, hxb, hcc⟩ := (rep_list (h.out.2.1.keep K0.out)).2 k hlt
          obtain ⟨u, hc, hu⟩ := hcc 0 (by omega)
          obtain ⟨c1, p1, rfl, hP⟩ := hu
          rw [ec] at x0
          clear ec
          rw [show xo + (k * 1 + 0) = xo + k by omega] at hc
          have PJ := hik hP
          have RK := hik (OK.out.w8 k hlt)
          have hrl := RK.out.1
          have hrl2 := RK.out.2.1
          clear hP hcc
          go_wp2_with fail
          refine (l02Bytes_any c1 (p.wl k) p1 (p.wf k) (p.wg k) _ PJ (by omega) (hik RK.out.2.2)).mono ?_
          rintro e W2 ⟨c2, cap2, rfl, r2, k2⟩
          have hm8 : 0 < (p.wl k) * 8 := by omega
          obtain ⟨b2, o2, e2, hb2, _⟩ := r2 0 hm8
          subst e2
          have HO2 := hik (G0.out.keep k2)
          have HR2 := hik (news_rowV r2)
          have K2 := hik (K0.out.trans k2)
          replace RP := hik (rowIs_keep RP.out k2)
          have hK2 := K2.out.size
          have hz2 := RP.out.lt
          clear r2 k2 hb2 G0
          go_wp2_with (at_builtin; refine wpList_append_gr _ rfl (.tmp 41) (.tmp 47) 38 rfl 5 i0 (.int .u8 0) Tryz.underlying38 HI.out HZ0.out HZ1.out HZ2.out rfl w.heap.size g' N cp _ rfl hK2 HO2.out ⟨b2, o2, none⟩ ((p.wl k) * 8) cap2 (eB (p.wf k) (p.wg k) (p.wl k)) rfl (by rw [eB_len]) HR2.out (eB_one _ _ _) hm8 (by omega) ?_)
          intro g7 cp7 w7 o7 k7 l7
          replace RP := hik (rowIs_chg RP.out k7 (fun e => by have := HL.out; omega))
          have K7 := hik (K2.out.near k7 (fun b e => by have := HL.out; omega))
          have HL7 := hik (show w.heap.size < g7 by have := HL.out; rcases l7 with q | q <;> omega)
          have O7 := hik (show GRow w7 w.heap.size g7 (N + p.wl k * 8) cp7 (((tB p.rt ++ obE p.gl p.gf p.gg p.ng) ++ eB (pk4 p.a0 p.b0 p.c0 0) (pk4 p.a1 p.b1 p.c1 0) 3) ++ obE p.wl p.wf p.wg (k + 1)) by have q := o7; first | exact q | simpa [obE, catN, List.append_assoc] using q)
          have HN3 := hik (show N + p.wl k * 8 = N1 + (obE p.wl p.wf p.wg (k + 1)).length by rw [HN.out]; simp only [obE, catN, List.length_append, eB_len]; omega)
          have hl := obE_len OK.out.w8 (k := k + 1) (by omega)
          obtain ⟨M, hM⟩ : ∃ M, M = N + p.wl k * 8 := ⟨_, rfl⟩
          rw [← hM] at O7 HN3 ⊢
          have hN2 : M ≤ 2000 := by have := HN3.out; omega
          clear o7 k7 l7 HR2 K2 HO2 hc PJ hl x0 hM hsi
          go_wp2
          go_roundw
          case rel => exact ⟨k + 1, M, g7, cp7, by omega, hN2, by go_num, rfl, HN3, O7, HL7, K7, RP⟩
          case measure => simp [intOf]; omega
        · have hcc : ¬ (k : Int) < (p.nw : Int) := by omega
          have ek : k = p.nw := by omega
          have hl1 := obE_len OK.out.w8 (Nat.le_refl p.nw)
          replace G0 := hik (show GRow wi w.heap.size g' N cp (((tB p.rt ++ obE p.gl p.gf p.gg p.ng) ++ eB (pk4 p.a0 p.b0 p.c0 0) (pk4 p.a1 p.b1 p.c1 0) 3) ++ obE p.wl p.wf p.wg p.nw) by have q := G0.out; rw [ek] at q; exact q)
          have hNb : N ≤ N1 + p.nw * 64 := by have := HN.out; rw [ek] at this; omega
          have hgl := HL.out
          clear ek HN hk hN hl1 HL
          go_upto_region 11 with fail
          clear x0
      
          have x9 : wi.cell? ⟨w.heap.size, 9, none⟩ = some (.int .i64 p.v0) := RP.out.cell (i := 9) (by omega)
          have x10 : wi.cell? ⟨w.heap.size, 10, none⟩ = some (.int .i64 p.v1) := RP.out.cell (i := 10) (by omega)
          have x11 : wi.cell? ⟨w.heap.size, 11, none⟩ = some (.slice a.cR p.op.nr a.pR) := RP.out.cell (i := 11) (by omega)
          have x12 : wi.cell? ⟨w.heap.size, 12, none⟩ = some (.slice a.cT p.op.nt a.pT) := RP.out.cell (i := 12) (by omega)
          have x13 : wi.cell? ⟨w.heap.size, 13, none⟩ = some (.int .i64 p.op.la) := RP.out.cell (i := 13) (by omega)
          have x14 : wi.cell? ⟨w.heap.size, 14, none⟩ = some (.int .i64 p.op.lb) := RP.out.cell (i := 14) (by omega)
          have x15 : wi.cell? ⟨w.heap.size, 15, none⟩ = some (.int .i64 p.op.no) := RP.out.cell (i := 15) (by omega)
          have x16 : wi.cell? ⟨w.heap.size, 16, none⟩ = some (.slice a.cQ p.op.nq a.pQ) := RP.out.cell (i := 16) (by omega)
          have zwi := RP.out.lt
          have KW := hik ((Chg.refl (fun b => w.heap.size < b) wi).drew1)
          have SA := hik (fun (WW : World) (kW : Chg (fun b => w.heap.size < b) wi WW) => (show (WW.cell? ⟨w.heap.size, 9, none⟩ = some (.int .i64 p.v0) ∧ WW.cell? ⟨w.heap.size, 10, none⟩ = some (.int .i64 p.v1) ∧ WW.cell? ⟨w.heap.size, 11, none⟩ = some (.slice a.cR p.op.nr a.pR) ∧ WW.cell? ⟨w.heap.size, 12, none⟩ = some (.slice a.cT p.op.nt a.pT) ∧ WW.cell? ⟨w.heap.size, 13, none⟩ = some (.int .i64 p.op.la) ∧ WW.cell? ⟨w.heap.size, 14, none⟩ = some (.int .i64 p.op.lb) ∧ WW.cell? ⟨w.heap.size, 15, none⟩ = some (.int .i64 p.op.no) ∧ WW.cell? ⟨w.heap.size, 16, none⟩ = some (.slice a.cQ p.op.nq a.pQ)) from ⟨kW.seeQ x9 (by omega), kW.seeQ x10 (by omega), kW.seeQ x11 (by omega), kW.seeQ x12 (by omega), kW.seeQ x13 (by omega), kW.seeQ x14 (by omega), kW.seeQ x15 (by omega), kW.seeQ x16 (by omega)⟩))
          refine wp_region_held_drew (S := fun w' => w'.cell? ⟨w.heap.size, 9, none⟩ = some (.int .i64 p.v0) ∧ w'.cell? ⟨w.heap.size, 10, none⟩ = some (.int .i64 p.v1) ∧ w'.cell? ⟨w.heap.size, 11, none⟩ = some (.slice a.cR p.op.nr a.pR) ∧ w'.cell? ⟨w.heap.size, 12, none⟩ = some (.slice a.cT p.op.nt a.pT) ∧ w'.cell? ⟨w.heap.size, 13, none⟩ = some (.int .i64 p.op.la) ∧ w'.cell? ⟨w.heap.size, 14, none⟩ = some (.int .i64 p.op.lb) ∧ w'.cell? ⟨w.heap.size, 15, none⟩ = some (.int .i64 p.op.no) ∧ w'.cell? ⟨w.heap.size, 16, none⟩ = some (.slice a.cQ p.op.nq a.pQ)) (by kernel_rfl) (SA.out _ KW.out) (fun hHeld => ?_)
          refine wpAnyH_take (i := 0) (v := ?_) rfl (by kernel_rfl) (by kernel_rfl) (by kernel_rfl) (fun _ _ _ h => h) (Or.inl ⟨by rfl, ?_⟩) (by assumption) ?_
          rotate_left 1
          · (intro w' hSw; (try dsimp only at hSw); go_simp; try with_reducible rfl)
          try simp only [Act.put, List.setIfInBounds_toArray, List.set_cons_zero, List.set_cons_succ, List.getElem_toArray, List.getElem_cons_zero, List.getElem_cons_succ]
          refine wpAnyH_take (i := 1) (v := ?_) rfl (by kernel_rfl) (by kernel_rfl) (by kernel_rfl) (fun _ _ _ h => h) (Or.inl ⟨by rfl, ?_⟩) (by assumption) ?_
          rotate_left 1
          · (intro w' hSw; (try dsimp only at hSw); go_simp; try with_reducible rfl)
          try simp only [Act.put, List.setIfInBounds_toArray, List.set_cons_zero, List.set_cons_succ, List.getElem_toArray, List.getElem_cons_zero, List.getElem_cons_succ]
          refine wpAnyH_take (i := 2) (v := ?_) rfl (by kernel_rfl) (by kernel_rfl) (by kernel_rfl) (fun _ _ _ h => h) (Or.inl ⟨by rfl, ?_⟩) (by assumption) ?_
          rotate_left 1
          · (intro w' hSw; (try dsimp only at hSw); go_simp; try with_reducible rfl)
          try simp only [Act.put, List.setIfInBounds_toArray, List.set_cons_zero, List.set_cons_succ, List.getElem_toArray, List.getElem_cons_zero, List.getElem_cons_succ]
          refine wpAnyH_take (i := 6) (v := ?_) rfl (by kernel_rfl) (by kernel_rfl) (by kernel_rfl) (fun _ _ _ h => h) (Or.inl ⟨by rfl, ?_⟩) (by assumption) ?_
          rotate_left 1
          · (intro w' hSw; (try dsimp only at hSw); go_simp; try with_reducible rfl)
          try simp only [Act.put, List.setIfInBounds_toArray, List.set_cons_zero, List.set_cons_succ, List.getElem_toArray, List.getElem_cons_zero, List.getElem_cons_succ]
          refine wpAnyH_take (i := 7) (v := ?_) rfl (by kernel_rfl) (by kernel_rfl) (by kernel_rfl) (fun _ _ _ h => h) (Or.inl ⟨by rfl, ?_⟩) (by assumption) ?_
          rotate_left 1
          · (intro w' hSw; (try dsimp only at hSw); go_simp; try with_reducible rfl)
          try simp only [Act.put, List.setIfInBounds_toArray, List.set_cons_zero, List.set_cons_succ, List.getElem_toArray, List.getElem_cons_zero, List.getElem_cons_succ]
          refine wpAnyH_ready (rs := [3]) (by kernel_rfl) (by simp) ?_
          refine AllReadyH.cons rfl (fun K hK => ?_) AllReadyH.nil
          simp only [List.getElem_toArray, List.getElem_cons_zero, List.getElem_cons_succ]
          go_simp
          replace KW := hik (KW.out.alloc (.cells #[.int .i64 p.v0, .int .i64 p.v1] 42))
          have G1 := hik (G0.out.chg ((Chg.refl nob wi).drew1.alloc (.cells #[.int .i64 p.v0, .int .i64 p.v1] 42)) (fun x => x))
          have P1 := hik (one_pair wi p.v0 p.v1)
          refine hK.out _ _ (SA.out _ KW.out) (fun hHeld => ?_)
          clear hK K
          try simp only [Act.put, List.setIfInBounds_toArray, List.set_cons_zero, List.set_cons_succ, List.getElem_toArray, List.getElem_cons_zero, List.getElem_cons_succ]
          refine wpAnyH_ready (rs := [4]) (by kernel_rfl) (by simp) ?_
          refine AllReadyH.cons rfl (fun K hK => ?_) AllReadyH.nil
          refine stepL_callN 45 #[.tmp 52] #[73] (by rfl) (by rfl) #[.slice (some ⟨wi.heap.size, 0, none⟩) 1 1] (by simp only [List.map_toArray, List.map_cons, List.map_nil] <;> rfl) (run_go Tryz.func45 (by kernel_rfl) (by kernel_rfl) _ _) (l02Bytes_any (some ⟨wi.heap.size, 0, none⟩) 1 1 (fun _ => p.v0) (fun _ => p.v1) _ P1 (by omega) (hik (by simp [okP, OK.out.v]))) ?_
          rintro e V1 ⟨c2, cap2, he, r2, kk⟩
          obtain ⟨b2, o2, e2, hb2, _⟩ := r2 0 (by omega)
          subst e2
          replace G1 := hik (G1.out.keep kk)
          have HR2 := hik (news_rowV r2)
          clear r2 hb2 P1
          have kk := Chg.wide (P := (fun b => w.heap.size < b)) kk
          refine ⟨_, he, ?_⟩
          replace KW := hik (KW.out.trans kk)
          refine hK.out _ _ (SA.out _ KW.out) (fun hHeld => ?_)
          clear hK K
          try simp only [Act.put, List.setIfInBounds_toArray, List.set_cons_zero, List.set_cons_succ, List.getElem_toArray, List.getElem_cons_zero, List.getElem_cons_succ]
          clear he kk
          refine wpAnyH_ready (rs := [5]) (by kernel_rfl) (by simp) ?_
          refine AllReadyH.cons rfl (fun K hK => ?_) AllReadyH.nil
          have hKs := (K0.out.near KW.out (fun b e => Nat.le_of_lt e)).size
          refine stepL_append_gr _ (.tmp 49) (.tmp 53) 38 (by rfl) (by rfl) 5 i0 (.int .u8 0) Tryz.underlying38 HI.out HZ0.out HZ1.out HZ2.out rfl w.heap.size g' (N) cp _ (by rfl) hKs G1.out ⟨b2, o2, none⟩ (1 * 8) cap2 (eB (fun _ => p.v0) (fun _ => p.v1) 1) (by rfl) (by rw [eB_len]) HR2.out (eB_one _ _ _) (by omega) (by omega) ?_
          intro ga cpa Wa o_ k_ l_
          have hlo := G1.out.lo
          have hwi := RP.out.lt
          have hkw := KW.out.size
          have hgla : w.heap.size < ga := by rcases l_ with q | q <;> omega
          replace KW := hik (KW.out.trans (k_.mono (Q := (fun b => w.heap.size < b)) (fun b _ e => by show w.heap.size < b; omega)))
          replace G1 := hik (show GRow Wa w.heap.size ga (N + 1 * 8) cpa (pbH p) by have q := o_; first | exact q | simpa [pbH, List.append_assoc] using q)
          clear o_ k_ l_ hlo hKs HR2
          refine hK.out _ _ (SA.out _ KW.out) (fun hHeld => ?_)
          clear hK K
          try simp only [Act.put, List.setIfInBounds_toArray, List.set_cons_zero, List.set_cons_succ, List.getElem_toArray, List.getElem_cons_zero, List.getElem_cons_succ]
          refine wpAnyH_ready (rs := [8]) (by kernel_rfl) (by simp) ?_
          refine AllReadyH.cons rfl (fun K hK => ?_) AllReadyH.nil
          refine stepL_callN 46 #[.tmp 56] #[45] (by rfl) (by rfl) #[.agg #[.slice a.cR p.op.nr a.pR, .slice a.cT p.op.nt a.pT, .int .i64 p.op.la, .int .i64 p.op.lb, .int .i64 p.op.no, .slice a.cQ p.op.nq a.pQ]] (by simp only [List.map_toArray, List.map_cons, List.map_nil] <;> rfl) (run_go Tryz.func46 (by kernel_rfl) (by kernel_rfl) _ _) (sBytes9_any p.op a.cR a.pR a.cT a.pT a.cQ a.pQ (s.q - 1) r n _ (hik (h.out.2.2.keep (K0.out.near KW.out (fun b e => Nat.le_of_lt e)))) OO) ?_
          rintro e V2 ⟨g8, N8, cap8, he, hN8, o8, kk⟩
          replace G1 := hik (G1.out.keep kk)
          have hlen := oby_len OO.out
          obtain ⟨g9, cp9, e9, go9⟩ := GRow.of_owns o8 (by omega)
          cases e9
          have G8 := hik go9
          subst hN8
          clear o8 go9
          have kk := Chg.wide (P := (fun b => w.heap.size < b)) kk
          refine ⟨_, he, ?_⟩
          replace KW := hik (KW.out.trans kk)
          refine hK.out _ _ (SA.out _ KW.out) (fun hHeld => ?_)
          clear hK K
          try simp only [Act.put, List.setIfInBounds_toArray, List.set_cons_zero, List.set_cons_succ, List.getElem_toArray, List.getElem_cons_zero, List.getElem_cons_succ]
          clear he kk
          refine wpAnyH_ready (rs := [9]) (by kernel_rfl) (by simp) ?_
          refine AllReadyH.cons rfl (fun K hK => ?_) AllReadyH.nil
          have hKs := (K0.out.near KW.out (fun b e => Nat.le_of_lt e)).size
          refine stepL_append_gr _ (.tmp 54) (.tmp 57) 38 (by rfl) (by rfl) 5 i0 (.int .u8 0) Tryz.underlying38 HI.out HZ0.out HZ1.out HZ2.out rfl w.heap.size ga (N + 1 * 8) cpa _ (by rfl) hKs G1.out ⟨g8, 0, none⟩ ((oby p.op).length) cap8 (oby p.op) (by rfl) rfl (fun j u hj => by rw [Go.WideShapes.add_plain, Nat.zero_add]; exact G8.out.at_ j u hj) (isB_one (isB_oby p.op)) (by omega) (by omega) ?_
          intro gb cpb Wb o_ k_ l_
          have hlo := G1.out.lo
          replace KW := hik (KW.out.trans (k_.mono (Q := (fun b => w.heap.size < b)) (fun b _ e => by show w.heap.size < b; omega)))
          replace G1 := hik (show GRow Wb w.heap.size gb (N + 1 * 8 + (oby p.op).length) cpb (pby p) by have q := o_; first | exact q | simpa [pby, pbH, List.append_assoc] using q)
          clear o_ k_ l_ hlo hKs G8 hlen
          refine hK.out _ _ (SA.out _ KW.out) (fun hHeld => ?_)
          clear hK K
          try simp only [Act.put, List.setIfInBounds_toArray, List.set_cons_zero, List.set_cons_succ, List.getElem_toArray, List.getElem_cons_zero, List.getElem_cons_succ]
          refine wpAnyH_take (i := 10) (v := ?_) rfl (by kernel_rfl) (by kernel_rfl) (by kernel_rfl) (fun _ _ _ h => h) (Or.inl ⟨by rfl, ?_⟩) (by assumption) ?_
          rotate_left 1
          · (intro w' hSw; (try dsimp only at hSw); go_simp; try with_reducible rfl)
          try simp only [Act.put, List.setIfInBounds_toArray, List.set_cons_zero, List.set_cons_succ, List.getElem_toArray, List.getElem_cons_zero, List.getElem_cons_succ]
          refine wpAnyH_done (by kernel_rfl) ?_ _
          replace K0 := hik (K0.out.near KW.out (fun b e => Nat.le_of_lt e))
          clear SA hHeld KW x9 x10 x11 x12 x13 x14 x15 x16 RP G0
          have HE := G1.out.e
          rw [HE] at G1 ⊢
          go_wp2
          go_ret
          exact ⟨gb, cpb, rfl, G1.out, K0.out⟩
set_option maxHeartbeats 8000000 in
theorem sProofBytes_any (p : PD) (a : PA) (s : Sy) (y : SyA) (r n g : Int) (w : World) (h : Hid (PrV w p a)) (hs : Hid p.small) (hv : Hid (SyV w s y)) (hsy : s.small) :
    Calls Tryz.prog 6 #[.agg #[.string p.rt, .slice a.cG p.ng a.pG, .int .i64 p.a0, .int .i64 p.a1, .int .i64 p.b0, .int .i64 p.b1, .int .i64 p.c0, .int .i64 p.c1, .slice a.cW p.nw a.pW, .int .i64 p.v0, .int .i64 p.v1, .slice a.cR p.op.nr a.pR, .slice a.cT p.op.nt a.pT, .int .i64 p.op.la, .int .i64 p.op.lb, .int .i64 p.op.no, .slice a.cQ p.op.nq a.pQ], .agg #[.int .i64 s.r, .int .i64 s.q, .int .i64 s.p, .slice y.cA s.nA y.pA, .slice y.cB s.nB y.pB, .slice y.cC s.nC y.pC], .agg #[.int .i64 r, .int .i64 n, .int .i64 g]] w fun e w' => OyAns w (pbc p s r n g) (pbl p s r n g) e w' := by
  have hrt : p.rt.size ≤ 1048576 := hs.out.1
  have hng : p.ng ≤ 1048576 := hs.out.2.1.1
  have hnw : p.nw ≤ 1048576 := hs.out.2.2.1.1
  have K0 := hik ((((Chg.refl nob w).alloc (.cells #[.string p.rt, .slice a.cG p.ng a.pG, .int .i64 p.a0, .int .i64 p.a1, .int .i64 p.b0, .int .i64 p.b1, .int .i64 p.c0, .int .i64 p.c1, .slice a.cW p.nw a.pW, .int .i64 p.v0, .int .i64 p.v1, .slice a.cR p.op.nr a.pR, .slice a.cT p.op.nt a.pT, .int .i64 p.op.la, .int .i64 p.op.lb, .int .i64 p.op.no, .slice a.cQ p.op.nq a.pQ] 47)).alloc (.cells #[.int .i64 s.r, .int .i64 s.q, .int .i64 s.p, .slice y.cA s.nA y.pA, .slice y.cB s.nB y.pB, .slice y.cC s.nC y.pC] 51)).alloc (.cells #[.int .i64 r, .int .i64 n, .int .i64 g] 53))
  have RP := hik (rowIs_keep (rowN_new w 17 #[.string p.rt, .slice a.cG p.ng a.pG, .int .i64 p.a0, .int .i64 p.a1, .int .i64 p.b0, .int .i64 p.b1, .int .i64 p.c0, .int .i64 p.c1, .slice a.cW p.nw a.pW, .int .i64 p.v0, .int .i64 p.v1, .slice a.cR p.op.nr a.pR, .slice a.cT p.op.nt a.pT, .int .i64 p.op.la, .int .i64 p.op.lb, .int .i64 p.op.no, .slice a.cQ p.op.nq a.pQ] 47 rfl) (((Chg.refl nob _).alloc (.cells #[.int .i64 s.r, .int .i64 s.q, .int .i64 s.p, .slice y.cA s.nA y.pA, .slice y.cB s.nB y.pB, .slice y.cC s.nC y.pC] 51)).alloc (.cells #[.int .i64 r, .int .i64 n, .int .i64 g] 53)))
  have RS := hik (rowIs_keep (rowN_new (w.alloc (.cells #[.string p.rt, .slice a.cG p.ng a.pG, .int .i64 p.a0, .int .i64 p.a1, .int .i64 p.b0, .int .i64 p.b1, .int .i64 p.c0, .int .i64 p.c1, .slice a.cW p.nw a.pW, .int .i64 p.v0, .int .i64 p.v1, .slice a.cR p.op.nr a.pR, .slice a.cT p.op.nt a.pT, .int .i64 p.op.la, .int .i64 p.op.lb, .int .i64 p.op.no, .slice a.cQ p.op.nq a.pQ] 47)) 6 #[.int .i64 s.r, .int .i64 s.q, .int .i64 s.p, .slice y.cA s.nA y.pA, .slice y.cB s.nB y.pB, .slice y.cC s.nC y.pC] 51 rfl) ((Chg.refl nob _).alloc (.cells #[.int .i64 r, .int .i64 n, .int .i64 g] 53)))
  have RT := hik (rowN_new ((w.alloc (.cells #[.string p.rt, .slice a.cG p.ng a.pG, .int .i64 p.a0, .int .i64 p.a1, .int .i64 p.b0, .int .i64 p.b1, .int .i64 p.c0, .int .i64 p.c1, .slice a.cW p.nw a.pW, .int .i64 p.v0, .int .i64 p.v1, .slice a.cR p.op.nr a.pR, .slice a.cT p.op.nt a.pT, .int .i64 p.op.la, .int .i64 p.op.lb, .int .i64 p.op.no, .slice a.cQ p.op.nq a.pQ] 47)).alloc (.cells #[.int .i64 s.r, .int .i64 s.q, .int .i64 s.p, .slice y.cA s.nA y.pA, .slice y.cB s.nB y.pB, .slice y.cC s.nC y.pC] 51)) 3 #[.int .i64 r, .int .i64 n, .int .i64 g] 53 rfl)
  rw [asz] at RS
  rw [asz, asz] at RT
  go_enter Tryz.func6, Tryz.ntmps6
  go_wp2_with fail
  generalize hW : ((w.alloc (.cells #[.string p.rt, .slice a.cG p.ng a.pG, .int .i64 p.a0, .int .i64 p.a1, .int .i64 p.b0, .int .i64 p.b1, .int .i64 p.c0, .int .i64 p.c1, .slice a.cW p.nw a.pW, .int .i64 p.v0, .int .i64 p.v1, .slice a.cR p.op.nr a.pR, .slice a.cT p.op.nt a.pT, .int .i64 p.op.la, .int .i64 p.op.lb, .int .i64 p.op.no, .slice a.cQ p.op.nq a.pQ] 47)).alloc (.cells #[.int .i64 s.r, .int .i64 s.q, .int .i64 s.p, .slice y.cA s.nA y.pA, .slice y.cB s.nB y.pB, .slice y.cC s.nC y.pC] 51)).alloc (.cells #[.int .i64 r, .int .i64 n, .int .i64 g] 53) = W0 at K0 RP RS RT ⊢
  clear hW
  refine (sProofOK_any p a s y r n g _ (hik (h.out.keep K0.out)) hs (hik (hv.out.keep K0.out)) hsy).mono ?_
  rintro e W1 ⟨rfl, kk⟩
  replace K0 := hik (K0.out.trans kk)
  replace RP := hik (rowIs_keep RP.out kk)
  replace RS := hik (rowIs_keep RS.out kk)
  replace RT := hik (rowIs_keep RT.out kk)
  clear kk
  cases b0 : pfb p s r n g
  · have H1 := hik (show pbc p s r n g = 1 by unfold pbc; rw [b0]; rfl)
    have H2 := hik (show pbl p s r n g = [] by unfold pbl; rw [b0]; rfl)
    go_wp2
    go_ret2
    rw [H1.out, H2.out]
    exact ⟨_, _, rfl, .inl rfl, K0.out.alloc _⟩
  have H1 := hik (show pbc p s r n g = 0 by unfold pbc; rw [b0]; rfl)
  have H2 := hik (show pbl p s r n g = pby p by unfold pbl; rw [b0]; rfl)
  have OK := hik (pfb_ok b0)
  clear b0
  have xRP0 : W1.cell? ⟨w.heap.size, 0, none⟩ = some (.string p.rt) := RP.out.cell (i := 0) (by omega)
  have xRP1 : W1.cell? ⟨w.heap.size, 1, none⟩ = some (.slice a.cG p.ng a.pG) := RP.out.cell (i := 1) (by omega)
  have xRP2 : W1.cell? ⟨w.heap.size, 2, none⟩ = some (.int .i64 p.a0) := RP.out.cell (i := 2) (by omega)
  have xRP3 : W1.cell? ⟨w.heap.size, 3, none⟩ = some (.int .i64 p.a1) := RP.out.cell (i := 3) (by omega)
  have xRP4 : W1.cell? ⟨w.heap.size, 4, none⟩ = some (.int .i64 p.b0) := RP.out.cell (i := 4) (by omega)
  have xRP5 : W1.cell? ⟨w.heap.size, 5, none⟩ = some (.int .i64 p.b1) := RP.out.cell (i := 5) (by omega)
  have xRP6 : W1.cell? ⟨w.heap.size, 6, none⟩ = some (.int .i64 p.c0) := RP.out.cell (i := 6) (by omega)
  have xRP7 : W1.cell? ⟨w.heap.size, 7, none⟩ = some (.int .i64 p.c1) := RP.out.cell (i := 7) (by omega)
  have xRP8 : W1.cell? ⟨w.heap.size, 8, none⟩ = some (.slice a.cW p.nw a.pW) := RP.out.cell (i := 8) (by omega)
  have xRP9 : W1.cell? ⟨w.heap.size, 9, none⟩ = some (.int .i64 p.v0) := RP.out.cell (i := 9) (by omega)
  have xRP10 : W1.cell? ⟨w.heap.size, 10, none⟩ = some (.int .i64 p.v1) := RP.out.cell (i := 10) (by omega)
  have xRP11 : W1.cell? ⟨w.heap.size, 11, none⟩ = some (.slice a.cR p.op.nr a.pR) := RP.out.cell (i := 11) (by omega)
  have xRP12 : W1.cell? ⟨w.heap.size, 12, none⟩ = some (.slice a.cT p.op.nt a.pT) := RP.out.cell (i := 12) (by omega)
  have xRP13 : W1.cell? ⟨w.heap.size, 13, none⟩ = some (.int .i64 p.op.la) := RP.out.cell (i := 13) (by omega)
  have xRP14 : W1.cell? ⟨w.heap.size, 14, none⟩ = some (.int .i64 p.op.lb) := RP.out.cell (i := 14) (by omega)
  have xRP15 : W1.cell? ⟨w.heap.size, 15, none⟩ = some (.int .i64 p.op.no) := RP.out.cell (i := 15) (by omega)
  have xRP16 : W1.cell? ⟨w.heap.size, 16, none⟩ = some (.slice a.cQ p.op.nq a.pQ) := RP.out.cell (i := 16) (by omega)
  go_wp2_with fail
  clear xRP0 xRP1 xRP2 xRP3 xRP4 xRP5 xRP6 xRP7 xRP8 xRP9 xRP10 xRP11 xRP12 xRP13 xRP14 xRP15 xRP16
  have hs0 := K0.out.size
  refine (sBytes14_any p a s r n g _ (hik (h.out.keep K0.out)) OK).mono ?_
  rintro e W2 ⟨gb, cp, rfl, gr, kk⟩
  replace K0 := hik (K0.out.trans kk)
  have G1 := hik (gr.low hs0)
  clear kk gr
  go_wp2
  go_ret2
  rw [H1.out, H2.out]
  exact ⟨_, cp, rfl, G1.out.mine ((isB_pbH p).app (isB_oby p.op)), K0.out⟩

end Go.Proofs.YtfbjlohnbpienaaGreat
