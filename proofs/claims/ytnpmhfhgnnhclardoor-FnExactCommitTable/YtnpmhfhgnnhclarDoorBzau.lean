/- Several texts in one: What the model's values at the powers of a root answer: a contract. Conditions: elements of the greater field, lists of at most 512 that can be read, a number of the field. · What the model's way back from values to coefficients answers: a contract. Conditions: elements of the greater field, a list of 2 to the m, at most 512, that can be read. -/
import Derived.Test.YtnpmhfhgnnhclarDoorBzas
import Derived.Test.YtnpmhfhgnnhclarDoorBzat
import Derived.Test.YtnpmhfhgnnhclarDoorBzaq
import Derived.Laws.CopyOwn
import Derived.Test.YtnpmhfhgnnhclarDoorBzav
namespace Go.Proofs.YtnpmhfhgnnhclarDoor
open Go.ChangeShapes Go.WideShapes Go.ChangeAt Go.RowKit
set_option linter.unusedVariables false
set_option maxRecDepth 100000
set_option linter.unusedSimpArgs false

theorem pwi_w (r : Int) (k : Nat) : (El.pwE (El.ofi r) k).v.2 = 0 := by rw [El.ofi_pw]; rfl
theorem pwi_step {r : Int} (h0 : 0 ≤ r) (h1 : r < 2130706433) (k : Nat) : (El.pwE (El.ofi r) k).v.1 * r % 2130706433 = (El.pwE (El.ofi r) (k + 1)).v.1 := by
  rw [El.pwE]
  show _ = Fld.mA _ _ _ _
  unfold Fld.mA
  rw [pwi_w, El.ofi_v h0 h1, El.ofi_w]
  simp
theorem sOf_el (X : El) (hb : X.v.2 = 0) (w : World) : Calls Tryd.prog 58 #[.int .i64 X.v.1] w fun e w' => e = .returned (.agg #[.int .i64 X.v.1, .int .i64 X.v.2]) ∧ Chg nob w w' :=
  (l02Of_any X.v.1 w).mono (fun e w' h => ⟨by rw [h.1, hb], by rw [h.2]; exact (Chg.refl nob w).alloc _⟩)
/-- Values half put together: the first k of each half. -/
def nst (A B : Nat → El) (x : El) (H k i : Nat) : El := if i < k then El.ad (A i) (El.ml (B i) (El.pwE x i)) else if H ≤ i ∧ i < H + k then El.sb (A (i - H)) (El.ml (B (i - H)) (El.pwE x (i - H))) else El.zr
theorem nst_zero (A B : Nat → El) (x : El) (H i : Nat) : nst A B x H 0 i = El.zr := by unfold nst; rw [if_neg (by omega), if_neg (by omega)]
theorem nst_step (A B : Nat → El) (x : El) {H k : Nat} (hk : k < H) (i : Nat) : upE (upE (nst A B x H k) k (El.ad (A k) (El.ml (B k) (El.pwE x k)))) (k + H) (El.sb (A k) (El.ml (B k) (El.pwE x k))) i = nst A B x H (k + 1) i := by
  unfold upE nst
  by_cases e1 : i = k + H
  · subst e1
    rw [if_pos rfl, if_neg (by omega), if_pos (by omega), show k + H - H = k by omega]
  · rw [if_neg e1]
    by_cases e2 : i = k
    · subst e2
      rw [if_pos rfl, if_pos (Nat.lt_succ_self i)]
    · rw [if_neg e2]
      by_cases h : i < k
      · rw [if_pos h, if_pos (by omega)]
      · rw [if_neg h, if_neg (show ¬ i < k + 1 by omega)]
        by_cases h2 : H ≤ i ∧ i < H + k
        · rw [if_pos h2, if_pos (by omega)]
        · rw [if_neg h2, if_neg (by omega)]
theorem nst_all {m H : Nat} (hH : H = 2 ^ m) (t : Nat → El) (x : El) {i : Nat} (hi : i < 2 * H) : nst (El.nt m (El.evC t) (El.ml x x)) (El.nt m (El.odC t) (El.ml x x)) x H H i = El.nt (m + 1) t x i := by
  unfold nst
  rw [El.nt, ← hH]
  by_cases h : i < H
  · rw [if_pos h, if_pos h]
  · rw [if_neg h, if_neg h, if_pos (by omega)]

theorem flPairs' {w : World} {B n : Nat} {v : Value} {f g : Nat → Int} (ho : w.ownsRow B 38 2 v n ((List.range (n * 2)).map (pf f g))) : ∃ c cap, v = .slice c n cap ∧ PairV w c n f g := by
  obtain ⟨c, cap, e, _, h⟩ := OwnE.of_owns ho
  exact ⟨c, cap, e, h.pairs⟩

set_option maxHeartbeats 1500000 in
theorem sNtt_any (m : Nat) : ∀ (c : Option Addr) (N cap : Nat) (t : Nat → El) (r : Int) (w : World), N = 2 ^ m → Hid (PairE w c N t) → m ≤ 9 → 0 ≤ r → r < 2130706433 → Calls Tryd.prog 39 #[.slice c N cap, .int .i64 r] w fun e w' => SlAns w N (El.nt m t (El.ofi r)) e w' := by
  obtain ⟨i0, hi, hz0, hz1, hz2⟩ := info_parts infoExt
  have HI := hik hi
  have HZ0 := hik hz0
  have HZ1 := hik hz1
  have HZ2 := hik hz2
  clear hi hz0 hz1 hz2
  induction m with
  | zero =>
    intro c N cap t r w hN h hm r0 r1
    obtain rfl : N = 1 := hN
    go_enter Tryd.func39, Tryd.ntmps39
    go_wp2_with (at_builtin; refine wpList_append_pairs _ (.tmp 19) (.tmp 20) 26 rfl rfl i0 Tryd.underlying26 HI.out HZ0.out HZ1.out HZ2.out w.heap.size (by simp) rfl c 1 cap (cA t) (cB t) rfl (PairE.keep h.out ((Chg.refl nob w).alloc _)) (by omega) ?_)
    intro c' cap' W1 ho hc hcm k1
    have O1 := hik (OwnE.low ho (B' := w.heap.size) (by simp))
    have G1 := hik (((Chg.refl nob w).alloc _).trans k1)
    clear ho k1
    go_wp2
    go_ret
    exact ⟨c', cap', rfl, hc, hcm, O1.out.congr (fun i hi => by obtain rfl : i = 0 := (by omega); exact ⟨rfl, rfl⟩), G1.out⟩
  | succ m ih =>
    intro c N cap t r w hN h hm r0 r1
    have IH := hik ih
    clear ih
    obtain ⟨H, hH⟩ : ∃ H, H = 2 ^ m := ⟨_, rfl⟩
    have hNH : N = 2 * H := by rw [hN, hH, Nat.pow_succ, Nat.mul_comm]
    have hH256 : H ≤ 256 := by rw [hH]; exact Nat.le_trans (Nat.pow_le_pow_right (by omega) (show m ≤ 8 by omega)) (by decide)
    have hH1 : 1 ≤ H := by rw [hH]; exact Nat.one_le_two_pow
    have HH := hik hH
    have HN := hik hNH
    have hN1 : ((N : Int) == 1) = false := by
      have : ¬ (N : Int) = 1 := by omega
      simpa using this
    have hN512 : N ≤ 512 := by omega
    clear hN hH hNH
    go_enter Tryd.func39, Tryd.ntmps39
    go_wp2
    go_loopw [6, 7, 8] (fun v u i W => ∃ (k q ge go ce co : Nat), k ≤ H ∧ i = .int .i64 (q : Int) ∧ Hid (q = 2 * k) ∧ v = .slice (some ⟨ge, 0, none⟩) k ce ∧ u = .slice (some ⟨go, 0, none⟩) k co ∧ Hid (ge ≠ go) ∧ Hid (W.ownsRow w.heap.size 38 2 (.slice (some ⟨ge, 0, none⟩) k ce) k ((List.range (k * 2)).map (pf (cA (El.evC t)) (cB (El.evC t))))) ∧ Hid (W.ownsRow w.heap.size 38 2 (.slice (some ⟨go, 0, none⟩) k co) k ((List.range (k * 2)).map (pf (cA (El.odC t)) (cB (El.odC t))))) ∧ Hid (Chg nob w W)) (fun _ _ i _ => N - (intOf i).toNat)
    case atStart => exact ⟨0, 0, w.heap.size, w.heap.size + 1, 0, 0, Nat.zero_le _, rfl, hik rfl, rfl, rfl, hik (by omega), hik ((flNone w w.heap.size 38 2 (Nat.le_refl _)).alloc _), hik (by simpa using flNone (w.alloc (.cells #[] 38)) w.heap.size 38 2 (by simp)), hik (((Chg.refl _ _).alloc _).alloc _)⟩
    case round =>
      obtain ⟨k, q, ge, go, ce, co, hk, rfl, HQ, rfl, rfl, HNE, HE, HO, HG⟩ := hrel
      rename World => wi
      have hsz := HG.out.size
      have hgel := hik (HE.out.lt ge rfl)
      have hgol := hik (HO.out.lt go rfl)
      by_cases hlt : k < H
      · have hq := HQ.out
        obtain ⟨p, hp⟩ : ∃ p, p = q + 1 := ⟨_, rfl⟩
        obtain ⟨q2, hq2⟩ : ∃ q2, q2 = q + 2 := ⟨_, rfl⟩
        have HQ2 := hik hq2
        have HP := hik hp
        have hqN : q < N := by have := HN.out; omega
        have hpN : p < N := by have := HN.out; omega
        have hq1 : (q : Int) < (N : Int) := by omega
        have hq0 : (0 : Int) ≤ (q : Int) := by omega
        have hp1 : (p : Int) < (N : Int) := by omega
        have hp0 : (0 : Int) ≤ (p : Int) := by omega
        have hwp : IntKind.i64.wrap ((q : Int) + 1) = (p : Int) := by rw [IntKind.wrap_i64]; omega
        have hw2 : IntKind.i64.wrap ((q : Int) + 2) = (q2 : Int) := by rw [IntKind.wrap_i64]; omega
        have hmes : N - q2 < N - q := by omega
        clear hq hp hq2
        obtain ⟨xb, xo, ec, hxb, _, _⟩ := PairE.at_ h.out hqN
        subst ec
        have PY := hik (PairE.keep h.out HG.out)
        have x0 := PairE.c0 PY.out hqN
        have x1 := PairE.c1 PY.out hqN
        go_wp2_with (at_builtin; refine wpList_append_lies _ rfl (.tmp 29) (.tmp 34) 26 rfl w.heap.size 38 i0 (.agg #[.int .i64 0, .int .i64 0]) 2 16 Tryd.underlying26 HI.out HZ0.out HZ1.out HZ2.out rfl (by decide) _ k _ rfl (HE.out.alloc _) ⟨_, 0, none⟩ 1 1 [.int .i64 (t q).v.1, .int .i64 (t q).v.2] rfl rfl ?c1 ?c2 (by decide) ?c3 ?c4 ?c5 _ rfl ?c6)
        case c1 => exact flNews _ _ _ _
        case c2 => exact flOne _ _
        case c3 => unfold maxLen; omega
        case c4 => omega
        case c5 => simp; omega
        case c6 =>
          intro g6 cp6 w6 o6 hg6 hat6 hlt6
          have HE2 := hik (show w6.ownsRow w.heap.size 38 2 (.slice (some ⟨g6, 0, none⟩) (k + 1) cp6) (k + 1) ((List.range ((k + 1) * 2)).map (pf (cA (El.evC t)) (cB (El.evC t)))) by
            rw [← flPair]
            have e1 : cA (El.evC t) k = (t q).v.1 := by rw [HQ.out]; rfl
            have e2 : cB (El.evC t) k = (t q).v.2 := by rw [HQ.out]; rfl
            rw [e1, e2]
            exact o6)
          have HO2 := hik (World.ownsRow.kept (HO.out.alloc _) hg6 (.inr (by simp only [Value.ownBlock]; intro e; exact HNE.out (by simpa using e.symm))))
          have HG2 := hik ((HG.out.alloc _).grown hg6 (fun b e l => absurd (HE.out.lt b e).1 (by omega)))
          have HNE2 := hik (show g6 ≠ go by
            have h1 := hgol.out
            rcases hat6 with e | e
            · simp only [Value.ownBlock, Option.some.injEq] at e; rw [← e]; exact HNE.out
            · first | omega | (simp at e; omega))
          clear o6 hg6 hat6 hlt6 HE HO HG HNE x0 x1 PY hgel hgol hsz
          have hsz := HG2.out.size
          have hgol := hik (HO2.out.lt go rfl)
          have hgel := hik (HE2.out.lt g6 rfl)
          have PY := hik (PairE.keep h.out HG2.out)
          have y0 := PairE.c0 PY.out hpN
          have y1 := PairE.c1 PY.out hpN
          go_wp2_with (at_builtin; refine wpList_append_lies _ rfl (.tmp 36) (.tmp 42) 26 rfl w.heap.size 38 i0 (.agg #[.int .i64 0, .int .i64 0]) 2 16 Tryd.underlying26 HI.out HZ0.out HZ1.out HZ2.out rfl (by decide) _ k _ rfl (HO2.out.alloc _) ⟨_, 0, none⟩ 1 1 [.int .i64 (t p).v.1, .int .i64 (t p).v.2] rfl rfl ?c1 ?c2 (by decide) ?c3 ?c4 ?c5 _ rfl ?c6)
          case c1 => exact flNews _ _ _ _
          case c2 => exact flOne _ _
          case c3 => unfold maxLen; omega
          case c4 => omega
          case c5 => simp; omega
          case c6 =>
            intro g7 cp7 w7 o7 hg7 hat7 hlt7
            have HO3 := hik (show w7.ownsRow w.heap.size 38 2 (.slice (some ⟨g7, 0, none⟩) (k + 1) cp7) (k + 1) ((List.range ((k + 1) * 2)).map (pf (cA (El.odC t)) (cB (El.odC t)))) by
              rw [← flPair]
              have e1 : cA (El.odC t) k = (t p).v.1 := by rw [HP.out, HQ.out]; rfl
              have e2 : cB (El.odC t) k = (t p).v.2 := by rw [HP.out, HQ.out]; rfl
              rw [e1, e2]
              exact o7)
            have HE3 := hik (World.ownsRow.kept (HE2.out.alloc _) hg7 (.inr (by simp only [Value.ownBlock]; intro e; exact HNE2.out (by simpa using e))))
            have HG3 := hik ((HG2.out.alloc _).grown hg7 (fun b e l => absurd (HO2.out.lt b e).1 (by omega)))
            have HNE3 := hik (show g6 ≠ g7 by
              have h1 := hgel.out
              rcases hat7 with e | e
              · simp only [Value.ownBlock, Option.some.injEq] at e; rw [← e]; exact HNE2.out
              · first | omega | (simp at e; omega))
            clear o7 hg7 hat7 hlt7 HE2 HO2 HG2 HNE2 y0 y1 PY hgel hgol hsz
            go_wp2
            go_roundw
            case rel => exact ⟨k + 1, q2, g6, g7, cp6, cp7, by omega, rfl, hik (by rw [HQ2.out, HQ.out]; omega), rfl, rfl, HNE3, HE3, HO3, HG3⟩
            case measure => simp [intOf]; omega
      · obtain rfl : H = k := by omega
        have hc : ¬ (q : Int) < (N : Int) := by have := HN.out; have := HQ.out; omega
        obtain ⟨_, _, e1, hPE⟩ := flPairs' HE.out
        obtain ⟨_, _, e2, hPO⟩ := flPairs' HO.out
        cases e1
        cases e2
        have PE := hik (show PairE wi (some ⟨ge, 0, none⟩) H (El.evC t) from hPE)
        have PO := hik (show PairE wi (some ⟨go, 0, none⟩) H (El.odC t) from hPO)
        clear hPE hPO HE HO HNE hgel hgol hsz
        obtain ⟨r2, hr2⟩ : ∃ r2, r2 = r * r % 2130706433 := ⟨_, rfl⟩
        have HR2 := hik (show El.ofi r2 = El.ml (El.ofi r) (El.ofi r) by rw [hr2, El.ofi_mod, El.ofi_ml])
        have r20 : 0 ≤ r2 := by omega
        have r21 : r2 < 2130706433 := by omega
        have HRR := hik hr2
        clear hr2
        go_wp2_with fail
        refine (l01Mul_any r r _ r0 r1 r0 r1).mono ?_
        rintro e W1 ⟨rfl, hw1⟩
        have hw1' := hw1.symm
        clear hw1
        subst hw1'
        rw [← HRR.out]
        go_wp2_with fail
        refine (IH.out _ H _ (El.evC t) r2 _ HH.out PE (by omega) r20 r21).mono ?_
        rintro e W2 ⟨ca, cpa, rfl, hca, hcma, oa, k2⟩
        have A2 := hik (show PairE W2 ca H (El.nt m (El.evC t) (El.ofi r2)) from OwnE.pairs oa)
        have PO2 := hik (PO.out.keep k2)
        have G2 := hik (HG.out.trans k2)
        clear oa k2 PO PE HG
        go_wp2_with fail
        refine (l01Mul_any r r _ r0 r1 r0 r1).mono ?_
        rintro e W3 ⟨rfl, hw1⟩
        have hw1' := hw1.symm
        clear hw1
        subst hw1'
        rw [← HRR.out]
        go_wp2_with fail
        refine (IH.out _ H _ (El.odC t) r2 _ HH.out PO2 (by omega) r20 r21).mono ?_
        rintro e W4 ⟨cb, cpb, rfl, hcb, hcmb, ob, k4⟩
        have B4 := hik (show PairE W4 cb H (El.nt m (El.odC t) (El.ofi r2)) from OwnE.pairs ob)
        have A4 := hik (A2.out.keep k4)
        have G4 := hik (G2.out.trans k4)
        clear ob k4 PO2 A2 G2
        have hb16 : i0.bytes * N ≤ 281474976710656 := by rw [HZ2.out]; omega
        obtain ⟨x, hx⟩ : ∃ x, x = El.ofi r := ⟨_, rfl⟩
        have HX := hik hx
        obtain ⟨A, hA⟩ : ∃ A, A = El.nt m (El.evC t) (El.ofi r2) := ⟨_, rfl⟩
        obtain ⟨B, hB⟩ : ∃ B, B = El.nt m (El.odC t) (El.ofi r2) := ⟨_, rfl⟩
        rw [← hA] at A4
        rw [← hB] at B4
        have HA := hik (show A = El.nt m (El.evC t) (El.ml x x) by rw [hA, HR2.out, hx])
        have HB := hik (show B = El.nt m (El.odC t) (El.ml x x) by rw [hB, HR2.out, hx])
        clear hA hB hx
        go_wp2_with (at_make; refine wpList_make_pairs _ rfl (.tmp 54) (.tmp 54) 26 rfl 38 i0 Tryd.underlying26 HI.out HZ0.out HZ1.out .i64 .i64 _ _ N rfl rfl (by omega) (by omega) hb16 (by omega) ?_)
        intro W5 hr5 hk5
        have R5 := hik (show RowE W5 W4.heap.size N (nst A B x H 0) from World.rowIs.congr hr5 (fun i _ => by unfold pf cA cB; rw [nst_zero]; split <;> rfl))
        have G5 := hik hk5
        have hdiv : (N : Int) / 2 = (H : Int) := by have := HN.out; omega
        have h4 := G4.out.size
        clear hr5 hk5 hb16
        go_wp2
        go_loopw [12, 13] (fun y i W => ∃ k : Nat, k ≤ H ∧ i = .int .i64 k ∧ y = .int .i64 (El.pwE x k).v.1 ∧ Hid (RowE W W4.heap.size N (nst A B x H k)) ∧ Hid (Chg nob W4 W)) (fun _ i _ => H - (intOf i).toNat)
        case atStart => exact ⟨0, Nat.zero_le _, rfl, rfl, R5, G5⟩
        case round =>
          clear R5 G5
          obtain ⟨k, hk, rfl, rfl, RI, GI⟩ := hrel
          rename World => wl
          by_cases hkl : k < H
          · have hk1 : (k : Int) < (H : Int) := by omega
            have hk0 : (0 : Int) ≤ (k : Int) := by omega
            have AY := hik (A4.out.keep GI.out)
            have BY := hik (B4.out.keep GI.out)
            obtain ⟨ab, ao, ea, hab, _, _⟩ := PairE.at_ A4.out hkl
            obtain ⟨bb, bo, eb, hbb, _, _⟩ := PairE.at_ B4.out hkl
            subst ea eb
            have b0 := PairE.c0 BY.out hkl
            have b1 := PairE.c1 BY.out hkl
            have hol : W4.heap.size < wl.heap.size := RI.out.lt
            have HPW := hik (show (El.pwE x k).v.2 = 0 by rw [HX.out]; exact pwi_w r k)
            go_wp2
            have KW := hik ((Chg.refl nob wl).drew1)
            have SA := hik (fun (WW : World) (kW : Chg nob wl WW) => (show (WW.cell? ⟨bb, bo + k * 2, none⟩ = some (.int .i64 (B k).v.1) ∧ WW.cell? ⟨bb, bo + k * 2 + 1, none⟩ = some (.int .i64 (B k).v.2)) from ⟨kW.see b0, kW.see b1⟩))
            refine wp_region_held_drew (S := fun w' => w'.cell? ⟨bb, bo + k * 2, none⟩ = some (.int .i64 (B k).v.1) ∧ w'.cell? ⟨bb, bo + k * 2 + 1, none⟩ = some (.int .i64 (B k).v.2)) (by kernel_rfl) ⟨b0, b1⟩ (fun hHeld => ?_)
            refine wpAnyH_take (i := 0) (v := ?_) rfl (by kernel_rfl) (by kernel_rfl) (by kernel_rfl) (fun _ _ _ h => h) (Or.inl ⟨by rfl, ?_⟩) (by assumption) ?_
            rotate_left 1
            · (intro w' hSw; (try dsimp only at hSw); go_simp; try with_reducible rfl)
            try simp only [Act.put, List.setIfInBounds_toArray, List.set_cons_zero, List.set_cons_succ, List.getElem_toArray, List.getElem_cons_zero, List.getElem_cons_succ]
            refine wpAnyH_take (i := 1) (v := ?_) rfl (by kernel_rfl) (by kernel_rfl) (by kernel_rfl) (fun _ _ _ h => h) (Or.inl ⟨by rfl, ?_⟩) (by assumption) ?_
            rotate_left 1
            · (intro w' hSw; (try dsimp only at hSw); go_simp; try with_reducible rfl)
            try simp only [Act.put, List.setIfInBounds_toArray, List.set_cons_zero, List.set_cons_succ, List.getElem_toArray, List.getElem_cons_zero, List.getElem_cons_succ]
            refine wpAnyH_take (i := 2) (v := ?_) rfl (by kernel_rfl) (by kernel_rfl) (by kernel_rfl) (fun _ _ _ h => h) (Or.inl ⟨by rfl, ?_⟩) (by assumption) ?_
            rotate_left 1
            · (intro w' hSw; (try dsimp only at hSw); go_simp; try with_reducible rfl)
            try simp only [Act.put, List.setIfInBounds_toArray, List.set_cons_zero, List.set_cons_succ, List.getElem_toArray, List.getElem_cons_zero, List.getElem_cons_succ]
            refine wpAnyH_take (i := 3) (v := ?_) rfl (by kernel_rfl) (by kernel_rfl) (by kernel_rfl) (fun _ _ _ h => h) (Or.inl ⟨by rfl, ?_⟩) (by assumption) ?_
            rotate_left 1
            · (intro w' hSw; (try dsimp only at hSw); go_simp; try with_reducible rfl)
            try simp only [Act.put, List.setIfInBounds_toArray, List.set_cons_zero, List.set_cons_succ, List.getElem_toArray, List.getElem_cons_zero, List.getElem_cons_succ]
            refine wpAnyH_take (i := 4) (v := ?_) rfl (by kernel_rfl) (by kernel_rfl) (by kernel_rfl) (fun _ _ _ h => h) (Or.inl ⟨by rfl, ?_⟩) (by assumption) ?_
            rotate_left 1
            · (intro w' hSw; (try dsimp only at hSw); go_simp; try with_reducible rfl)
            try simp only [Act.put, List.setIfInBounds_toArray, List.set_cons_zero, List.set_cons_succ, List.getElem_toArray, List.getElem_cons_zero, List.getElem_cons_succ]
            refine wpAnyH_ready (rs := [5, 7]) (by kernel_rfl) (by simp) ?_
            refine AllReadyH.cons rfl (fun K hK => ?_) ?_
            · refine stepL_callN 58 #[.tmp 66] #[3] (by rfl) (by rfl) #[.int .i64 (El.pwE x k).v.1] (by simp only [List.map_toArray, List.map_cons, List.map_nil] <;> rfl) (run_go Tryd.func58 (by kernel_rfl) (by kernel_rfl) _ _) (sOf_el (El.pwE x k) HPW.out _) ?_
              rintro e U1 ⟨he, kk⟩
              refine ⟨_, he, ?_⟩
              replace KW := hik (KW.out.trans kk)
              refine hK.out _ _ (SA.out _ KW.out) (fun hHeld => ?_)
              clear hK K
              try simp only [Act.put, List.setIfInBounds_toArray, List.set_cons_zero, List.set_cons_succ, List.getElem_toArray, List.getElem_cons_zero, List.getElem_cons_succ]
              clear he kk
              refine wpAnyH_ready (rs := [6, 7]) (by kernel_rfl) (by simp) ?_
              refine AllReadyH.cons rfl (fun K hK => ?_) ?_
              · refine stepL_callN 57 #[.tmp 65, .tmp 67] #[38, 38] (by rfl) (by rfl) #[.agg #[.int .i64 (B k).v.1, .int .i64 (B k).v.2], .agg #[.int .i64 (El.pwE x k).v.1, .int .i64 (El.pwE x k).v.2]] (by simp only [List.map_toArray, List.map_cons, List.map_nil] <;> rfl) (run_go Tryd.func57 (by kernel_rfl) (by kernel_rfl) _ _) (sMl_el (B k) (El.pwE x k) _) ?_
                rintro e U2 ⟨he, kk⟩
                refine ⟨_, he, ?_⟩
                replace KW := hik (KW.out.trans kk)
                refine hK.out _ _ (SA.out _ KW.out) (fun hHeld => ?_)
                clear hK K
                try simp only [Act.put, List.setIfInBounds_toArray, List.set_cons_zero, List.set_cons_succ, List.getElem_toArray, List.getElem_cons_zero, List.getElem_cons_succ]
                clear he kk
                refine wpAnyH_ready (rs := [7]) (by kernel_rfl) (by simp) ?_
                refine AllReadyH.cons rfl (fun K hK => ?_) AllReadyH.nil
                simp only [List.getElem_toArray, List.getElem_cons_zero, List.getElem_cons_succ]
                go_simp
                have E7 : Hid (ElB (World.alloc U2 (.cells #[.int .i64 0, .int .i64 0] 38)) U2.heap.size El.zr) := hik (ElB.zero U2)
                have hgl : wl.heap.size ≤ U2.heap.size := KW.out.size
                replace KW : Hid (Chg nob wl (World.alloc U2 (.cells #[.int .i64 0, .int .i64 0] 38))) := hik (KW.out.alloc _)
                generalize hUA : (World.alloc U2 (.cells #[.int .i64 0, .int .i64 0] 38)) = UA at E7 KW ⊢
                clear hUA
                refine hK.out _ _ (SA.out _ KW.out) (fun hHeld => ?_)
                clear hK K
                try simp only [Act.put, List.setIfInBounds_toArray, List.set_cons_zero, List.set_cons_succ, List.getElem_toArray, List.getElem_cons_zero, List.getElem_cons_succ]
                refine wpAnyH_ready (rs := [8]) (by kernel_rfl) (by simp) ?_
                refine AllReadyH.cons rfl (fun K hK => ?_) AllReadyH.nil
                have y0 := E7.out.c0
                have y1 := E7.out.c1
                have f0 := E7.out.fz 0
                have f1 := E7.out.fz 1
                have l7 := E7.out.lt
                simp only [List.getElem_toArray, List.getElem_cons_zero, List.getElem_cons_succ]
                go_simp
                refine hK.out _ _ ⟨look_two (by omega) (SA.out _ KW.out).1 0 1 _ _, look_two (by omega) (SA.out _ KW.out).2 0 1 _ _⟩ (fun hHeld => ?_)
                clear hK K
                try simp only [Act.put, List.setIfInBounds_toArray, List.set_cons_zero, List.set_cons_succ, List.getElem_toArray, List.getElem_cons_zero, List.getElem_cons_succ]
                clear y0 y1 f0 f1 l7
                refine wpAnyH_done (by kernel_rfl) ?_ _
                have E8 := hik (E7.out.set (El.ml (B k) (El.pwE x k)))
                have R8 := hik (RowE.other (RI.out.keep KW.out) (g := U2.heap.size) (by omega) 0 1 (.int .i64 (El.ml (B k) (El.pwE x k)).v.1) (.int .i64 (El.ml (B k) (El.pwE x k)).v.2))
                have G8 := hik (chg2_at (GI.out.trans KW.out) U2.heap.size (fun l => absurd l (by omega)) 0 1 (.int .i64 (El.ml (B k) (El.pwE x k)).v.1) (.int .i64 (El.ml (B k) (El.pwE x k)).v.2))
                have NE := hik (show U2.heap.size ≠ W4.heap.size by omega)
                generalize hE : ((UA.setCell ⟨U2.heap.size, 0, none⟩ (.int .i64 (El.ml (B k) (El.pwE x k)).v.1)).setCell ⟨U2.heap.size, 1, none⟩ (.int .i64 (El.ml (B k) (El.pwE x k)).v.2)) = W8 at E8 R8 G8 ⊢
                clear hE SA hHeld KW E7 b0 b1 AY BY RI GI hol hgl
                generalize hE2 : U2.heap.size = gg at E8 NE ⊢
                clear hE2
                have hn1 : ab ≠ W4.heap.size := by omega
                have AY := hik (A4.out.keep G8.out)
                have x0 := PairE.c0 AY.out hkl
                have x1 := PairE.c1 AY.out hkl
                have y0 := E8.out.c0
                have y1 := E8.out.c1
                have hN2 : k < N := by have := HN.out; omega
                have hkN : (k : Int) < (N : Int) := by omega
                go_wp2
                have KW := hik ((Chg.refl nob W8).drew1)
                have SA := hik (fun (WW : World) (kW : Chg nob W8 WW) => (show (WW.cell? ⟨ab, ao + k * 2, none⟩ = some (.int .i64 (A k).v.1) ∧ WW.cell? ⟨ab, ao + k * 2 + 1, none⟩ = some (.int .i64 (A k).v.2) ∧ WW.cell? ⟨gg, 0, none⟩ = some (.int .i64 (El.ml (B k) (El.pwE x k)).v.1) ∧ WW.cell? ⟨gg, 1, none⟩ = some (.int .i64 (El.ml (B k) (El.pwE x k)).v.2)) from ⟨kW.see x0, kW.see x1, kW.see y0, kW.see y1⟩))
                refine wp_regionL (L := 9) (S := fun w' => w'.cell? ⟨ab, ao + k * 2, none⟩ = some (.int .i64 (A k).v.1) ∧ w'.cell? ⟨ab, ao + k * 2 + 1, none⟩ = some (.int .i64 (A k).v.2) ∧ w'.cell? ⟨gg, 0, none⟩ = some (.int .i64 (El.ml (B k) (El.pwE x k)).v.1) ∧ w'.cell? ⟨gg, 1, none⟩ = some (.int .i64 (El.ml (B k) (El.pwE x k)).v.2)) (by kernel_rfl) ⟨x0, x1, y0, y1⟩ (fun hHeld => ?_)
                refine wpAnyL_take (i := 0) (v := ?_) rfl (by kernel_rfl) (by kernel_rfl) (by kernel_rfl) (fun _ _ _ h => h) (by rfl) (by kernel_rfl) (by kernel_rfl) (Or.inl ⟨by rfl, ?_⟩) (by assumption) ?_
                rotate_left 1
                · (intro w' hSw; (try dsimp only at hSw); go_simp; try with_reducible rfl)
                try simp only [Act.put, List.setIfInBounds_toArray, List.set_cons_zero, List.set_cons_succ, List.getElem_toArray, List.getElem_cons_zero, List.getElem_cons_succ]
                refine wpAnyL_take (i := 1) (v := ?_) rfl (by kernel_rfl) (by kernel_rfl) (by kernel_rfl) (fun _ _ _ h => h) (by rfl) (by kernel_rfl) (by kernel_rfl) (Or.inl ⟨by rfl, ?_⟩) (by assumption) ?_
                rotate_left 1
                · (intro w' hSw; (try dsimp only at hSw); go_simp; try with_reducible rfl)
                try simp only [Act.put, List.setIfInBounds_toArray, List.set_cons_zero, List.set_cons_succ, List.getElem_toArray, List.getElem_cons_zero, List.getElem_cons_succ]
                refine wpAnyL_take (i := 2) (v := ?_) rfl (by kernel_rfl) (by kernel_rfl) (by kernel_rfl) (fun _ _ _ h => h) (by rfl) (by kernel_rfl) (by kernel_rfl) (Or.inl ⟨by rfl, ?_⟩) (by assumption) ?_
                rotate_left 1
                · (intro w' hSw; (try dsimp only at hSw); go_simp; try with_reducible rfl)
                try simp only [Act.put, List.setIfInBounds_toArray, List.set_cons_zero, List.set_cons_succ, List.getElem_toArray, List.getElem_cons_zero, List.getElem_cons_succ]
                refine wpAnyL_take (i := 3) (v := ?_) rfl (by kernel_rfl) (by kernel_rfl) (by kernel_rfl) (fun _ _ _ h => h) (by rfl) (by kernel_rfl) (by kernel_rfl) (Or.inl ⟨by rfl, ?_⟩) (by assumption) ?_
                rotate_left 1
                · (intro w' hSw; (try dsimp only at hSw); go_simp; try with_reducible rfl)
                try simp only [Act.put, List.setIfInBounds_toArray, List.set_cons_zero, List.set_cons_succ, List.getElem_toArray, List.getElem_cons_zero, List.getElem_cons_succ]
                refine wpAnyL_take (i := 4) (v := ?_) rfl (by kernel_rfl) (by kernel_rfl) (by kernel_rfl) (fun _ _ _ h => h) (by rfl) (by kernel_rfl) (by kernel_rfl) (Or.inl ⟨by rfl, ?_⟩) (by assumption) ?_
                rotate_left 1
                · (intro w' hSw; (try dsimp only at hSw); go_simp; try with_reducible rfl)
                try simp only [Act.put, List.setIfInBounds_toArray, List.set_cons_zero, List.set_cons_succ, List.getElem_toArray, List.getElem_cons_zero, List.getElem_cons_succ]
                refine wpAnyL_take (i := 5) (v := ?_) rfl (by kernel_rfl) (by kernel_rfl) (by kernel_rfl) (fun _ _ _ h => h) (by rfl) (by kernel_rfl) (by kernel_rfl) (Or.inl ⟨by rfl, ?_⟩) (by assumption) ?_
                rotate_left 1
                · (intro w' hSw; (try dsimp only at hSw); go_simp; try with_reducible rfl)
                try simp only [Act.put, List.setIfInBounds_toArray, List.set_cons_zero, List.set_cons_succ, List.getElem_toArray, List.getElem_cons_zero, List.getElem_cons_succ]
                refine wpAnyL_take (i := 6) (v := ?_) rfl (by kernel_rfl) (by kernel_rfl) (by kernel_rfl) (fun _ _ _ h => h) (by rfl) (by kernel_rfl) (by kernel_rfl) (Or.inl ⟨by rfl, ?_⟩) (by assumption) ?_
                rotate_left 1
                · (intro w' hSw; (try dsimp only at hSw); go_simp; try with_reducible rfl)
                try simp only [Act.put, List.setIfInBounds_toArray, List.set_cons_zero, List.set_cons_succ, List.getElem_toArray, List.getElem_cons_zero, List.getElem_cons_succ]
                refine wpAnyL_ready (rs := [7]) (by kernel_rfl) (by simp) ?_
                refine AllReadyL.cons rfl (fun K hK => ?_) AllReadyL.nil
                refine stepL_callN 42 #[.tmp 74, .tmp 75] #[38, 38] (by rfl) (by rfl) #[.agg #[.int .i64 (A k).v.1, .int .i64 (A k).v.2], .agg #[.int .i64 (El.ml (B k) (El.pwE x k)).v.1, .int .i64 (El.ml (B k) (El.pwE x k)).v.2]] (by simp only [List.map_toArray, List.map_cons, List.map_nil] <;> rfl) (run_go Tryd.func42 (by kernel_rfl) (by kernel_rfl) _ _) (sAd_el (A k) (El.ml (B k) (El.pwE x k)) _) ?_
                rintro e VY1 ⟨he, kk⟩
                refine ⟨_, he, ?_⟩
                replace KW := hik (KW.out.trans kk)
                refine hK.out _ _ (SA.out _ KW.out) (fun hHeld => ?_)
                clear hK K
                try simp only [Act.put, List.setIfInBounds_toArray, List.set_cons_zero, List.set_cons_succ, List.getElem_toArray, List.getElem_cons_zero, List.getElem_cons_succ]
                clear he kk
                refine wpAnyL_take (i := 8) (v := ?_) rfl (by kernel_rfl) (by kernel_rfl) (by kernel_rfl) (fun _ _ _ h => h) (by rfl) (by kernel_rfl) (by kernel_rfl) (Or.inl ⟨by rfl, ?_⟩) (by assumption) ?_
                rotate_left 1
                · (intro w' hSw; (try dsimp only at hSw); go_simp; try with_reducible rfl)
                try simp only [Act.put, List.setIfInBounds_toArray, List.set_cons_zero, List.set_cons_succ, List.getElem_toArray, List.getElem_cons_zero, List.getElem_cons_succ]
                refine wpAnyL_ready (rs := [9]) (by kernel_rfl) (by simp) ?_
                refine AllReadyL.last rfl (by kernel_rfl) (fun K hK => ?_)
                have RN := hik (RowE.keep R8.out KW.out)
                have g0 := RowE.c0 RN.out (i := k) (by omega)
                have g1 := RowE.c1 RN.out (i := k) (by omega)
                have f0 := World.rowIs.frozen RN.out (k * 2)
                have f1 := World.rowIs.frozen RN.out (k * 2 + 1)
                have ln : W4.heap.size < VY1.heap.size := RowE.lt RN.out
                simp only [List.getElem_toArray, List.getElem_cons_zero, List.getElem_cons_succ]
                go_simp
                refine hK.out _ _ ?_
                clear hK K
                try simp only [Act.put, List.setIfInBounds_toArray, List.set_cons_zero, List.set_cons_succ, List.getElem_toArray, List.getElem_cons_zero, List.getElem_cons_succ]
                clear g0 g1 f0 f1 ln
                refine wpAnyL_done (by kernel_rfl) ?_ _
                have R9 := hik (RowE.set RN.out k (El.ad (A k) (El.ml (B k) (El.pwE x k))))
                have E9 := hik (ElB.other (E8.out.keep KW.out) (g := W4.heap.size) NE.out (k * 2) (k * 2 + 1) (.int .i64 (El.ad (A k) (El.ml (B k) (El.pwE x k))).v.1) (.int .i64 (El.ad (A k) (El.ml (B k) (El.pwE x k))).v.2))
                have G9 := hik (chg2_at (G8.out.trans KW.out) W4.heap.size (fun l => absurd l (by omega)) (k * 2) (k * 2 + 1) (.int .i64 (El.ad (A k) (El.ml (B k) (El.pwE x k))).v.1) (.int .i64 (El.ad (A k) (El.ml (B k) (El.pwE x k))).v.2))
                generalize hE3 : ((VY1.setCell ⟨W4.heap.size, k * 2, none⟩ (.int .i64 (El.ad (A k) (El.ml (B k) (El.pwE x k))).v.1)).setCell ⟨W4.heap.size, k * 2 + 1, none⟩ (.int .i64 (El.ad (A k) (El.ml (B k) (El.pwE x k))).v.2)) = W9 at R9 E9 G9 ⊢
                clear hE3 SA hHeld KW x0 x1 y0 y1 RN R8 E8 G8 AY
                have AY := hik (A4.out.keep G9.out)
                have x0 := PairE.c0 AY.out hkl
                have x1 := PairE.c1 AY.out hkl
                have y0 := E9.out.c0
                have y1 := E9.out.c1
                obtain ⟨z, hz⟩ : ∃ z, z = k + H := ⟨_, rfl⟩
                have HZ := hik hz
                have hwz : IntKind.i64.wrap ((k : Int) + (H : Int)) = (z : Int) := by rw [IntKind.wrap_i64]; omega
                have hz0 : (0 : Int) ≤ (z : Int) := by omega
                have hzN' : z < N := by have := HN.out; omega
                have hzN : (z : Int) < (N : Int) := by omega
                clear hz
                go_wp2
                have KW := hik ((Chg.refl nob W9).drew1)
                have SA := hik (fun (WW : World) (kW : Chg nob W9 WW) => (show (WW.cell? ⟨ab, ao + k * 2, none⟩ = some (.int .i64 (A k).v.1) ∧ WW.cell? ⟨ab, ao + k * 2 + 1, none⟩ = some (.int .i64 (A k).v.2) ∧ WW.cell? ⟨gg, 0, none⟩ = some (.int .i64 (El.ml (B k) (El.pwE x k)).v.1) ∧ WW.cell? ⟨gg, 1, none⟩ = some (.int .i64 (El.ml (B k) (El.pwE x k)).v.2)) from ⟨kW.see x0, kW.see x1, kW.see y0, kW.see y1⟩))
                refine wp_regionL (L := 12) (S := fun w' => w'.cell? ⟨ab, ao + k * 2, none⟩ = some (.int .i64 (A k).v.1) ∧ w'.cell? ⟨ab, ao + k * 2 + 1, none⟩ = some (.int .i64 (A k).v.2) ∧ w'.cell? ⟨gg, 0, none⟩ = some (.int .i64 (El.ml (B k) (El.pwE x k)).v.1) ∧ w'.cell? ⟨gg, 1, none⟩ = some (.int .i64 (El.ml (B k) (El.pwE x k)).v.2)) (by kernel_rfl) ⟨x0, x1, y0, y1⟩ (fun hHeld => ?_)
                refine wpAnyL_take (i := 0) (v := ?_) rfl (by kernel_rfl) (by kernel_rfl) (by kernel_rfl) (fun _ _ _ h => h) (by rfl) (by kernel_rfl) (by kernel_rfl) (Or.inl ⟨by rfl, ?_⟩) (by assumption) ?_
                rotate_left 1
                · (intro w' hSw; (try dsimp only at hSw); go_simp; try with_reducible rfl)
                try simp only [Act.put, List.setIfInBounds_toArray, List.set_cons_zero, List.set_cons_succ, List.getElem_toArray, List.getElem_cons_zero, List.getElem_cons_succ]
                refine wpAnyL_take (i := 1) (v := ?_) rfl (by kernel_rfl) (by kernel_rfl) (by kernel_rfl) (fun _ _ _ h => h) (by rfl) (by kernel_rfl) (by kernel_rfl) (Or.inl ⟨by rfl, ?_⟩) (by assumption) ?_
                rotate_left 1
                · (intro w' hSw; (try dsimp only at hSw); go_simp; try with_reducible rfl)
                try simp only [Act.put, List.setIfInBounds_toArray, List.set_cons_zero, List.set_cons_succ, List.getElem_toArray, List.getElem_cons_zero, List.getElem_cons_succ]
                refine wpAnyL_take (i := 2) (v := ?_) rfl (by kernel_rfl) (by kernel_rfl) (by kernel_rfl) (fun _ _ _ h => h) (by rfl) (by kernel_rfl) (by kernel_rfl) (Or.inl ⟨by rfl, ?_⟩) (by assumption) ?_
                rotate_left 1
                · (intro w' hSw; (try dsimp only at hSw); go_simp; try with_reducible rfl)
                try simp only [Act.put, List.setIfInBounds_toArray, List.set_cons_zero, List.set_cons_succ, List.getElem_toArray, List.getElem_cons_zero, List.getElem_cons_succ]
                refine wpAnyL_take (i := 3) (v := .int .i64 (H : Int)) rfl (by kernel_rfl) (by kernel_rfl) (by kernel_rfl) (fun _ _ _ h => h) (by rfl) (by kernel_rfl) (by kernel_rfl) (Or.inl ⟨by rfl, ?_⟩) (by assumption) ?_
                · (intro w' hSw; (try dsimp only at hSw); go_simp; first | done | exact hdiv | (rw [IntKind.wrap_i64]; omega) | (rw [hdiv]))
                try simp only [Act.put, List.setIfInBounds_toArray, List.set_cons_zero, List.set_cons_succ, List.getElem_toArray, List.getElem_cons_zero, List.getElem_cons_succ]
                refine wpAnyL_take (i := 4) (v := .int .i64 (z : Int)) rfl (by kernel_rfl) (by kernel_rfl) (by kernel_rfl) (fun _ _ _ h => h) (by rfl) (by kernel_rfl) (by kernel_rfl) (Or.inl ⟨by rfl, ?_⟩) (by assumption) ?_
                · (intro w' hSw; (try dsimp only at hSw); go_simp; first | done | exact hwz)
                try simp only [Act.put, List.setIfInBounds_toArray, List.set_cons_zero, List.set_cons_succ, List.getElem_toArray, List.getElem_cons_zero, List.getElem_cons_succ]
                refine wpAnyL_take (i := 5) (v := ?_) rfl (by kernel_rfl) (by kernel_rfl) (by kernel_rfl) (fun _ _ _ h => h) (by rfl) (by kernel_rfl) (by kernel_rfl) (Or.inl ⟨by rfl, ?_⟩) (by assumption) ?_
                rotate_left 1
                · (intro w' hSw; (try dsimp only at hSw); go_simp; try with_reducible rfl)
                try simp only [Act.put, List.setIfInBounds_toArray, List.set_cons_zero, List.set_cons_succ, List.getElem_toArray, List.getElem_cons_zero, List.getElem_cons_succ]
                refine wpAnyL_take (i := 6) (v := ?_) rfl (by kernel_rfl) (by kernel_rfl) (by kernel_rfl) (fun _ _ _ h => h) (by rfl) (by kernel_rfl) (by kernel_rfl) (Or.inl ⟨by rfl, ?_⟩) (by assumption) ?_
                rotate_left 1
                · (intro w' hSw; (try dsimp only at hSw); go_simp; try with_reducible rfl)
                try simp only [Act.put, List.setIfInBounds_toArray, List.set_cons_zero, List.set_cons_succ, List.getElem_toArray, List.getElem_cons_zero, List.getElem_cons_succ]
                refine wpAnyL_take (i := 7) (v := ?_) rfl (by kernel_rfl) (by kernel_rfl) (by kernel_rfl) (fun _ _ _ h => h) (by rfl) (by kernel_rfl) (by kernel_rfl) (Or.inl ⟨by rfl, ?_⟩) (by assumption) ?_
                rotate_left 1
                · (intro w' hSw; (try dsimp only at hSw); go_simp; try with_reducible rfl)
                try simp only [Act.put, List.setIfInBounds_toArray, List.set_cons_zero, List.set_cons_succ, List.getElem_toArray, List.getElem_cons_zero, List.getElem_cons_succ]
                refine wpAnyL_take (i := 8) (v := ?_) rfl (by kernel_rfl) (by kernel_rfl) (by kernel_rfl) (fun _ _ _ h => h) (by rfl) (by kernel_rfl) (by kernel_rfl) (Or.inl ⟨by rfl, ?_⟩) (by assumption) ?_
                rotate_left 1
                · (intro w' hSw; (try dsimp only at hSw); go_simp; try with_reducible rfl)
                try simp only [Act.put, List.setIfInBounds_toArray, List.set_cons_zero, List.set_cons_succ, List.getElem_toArray, List.getElem_cons_zero, List.getElem_cons_succ]
                refine wpAnyL_take (i := 9) (v := ?_) rfl (by kernel_rfl) (by kernel_rfl) (by kernel_rfl) (fun _ _ _ h => h) (by rfl) (by kernel_rfl) (by kernel_rfl) (Or.inl ⟨by rfl, ?_⟩) (by assumption) ?_
                rotate_left 1
                · (intro w' hSw; (try dsimp only at hSw); go_simp; try with_reducible rfl)
                try simp only [Act.put, List.setIfInBounds_toArray, List.set_cons_zero, List.set_cons_succ, List.getElem_toArray, List.getElem_cons_zero, List.getElem_cons_succ]
                refine wpAnyL_ready (rs := [10]) (by kernel_rfl) (by simp) ?_
                refine AllReadyL.cons rfl (fun K hK => ?_) AllReadyL.nil
                refine stepL_callN 43 #[.tmp 86, .tmp 87] #[38, 38] (by rfl) (by rfl) #[.agg #[.int .i64 (A k).v.1, .int .i64 (A k).v.2], .agg #[.int .i64 (El.ml (B k) (El.pwE x k)).v.1, .int .i64 (El.ml (B k) (El.pwE x k)).v.2]] (by simp only [List.map_toArray, List.map_cons, List.map_nil] <;> rfl) (run_go Tryd.func43 (by kernel_rfl) (by kernel_rfl) _ _) (sSb_el (A k) (El.ml (B k) (El.pwE x k)) _) ?_
                rintro e VX1 ⟨he, kk⟩
                refine ⟨_, he, ?_⟩
                replace KW := hik (KW.out.trans kk)
                refine hK.out _ _ (SA.out _ KW.out) (fun hHeld => ?_)
                clear hK K
                try simp only [Act.put, List.setIfInBounds_toArray, List.set_cons_zero, List.set_cons_succ, List.getElem_toArray, List.getElem_cons_zero, List.getElem_cons_succ]
                clear he kk
                refine wpAnyL_take (i := 11) (v := ?_) rfl (by kernel_rfl) (by kernel_rfl) (by kernel_rfl) (fun _ _ _ h => h) (by rfl) (by kernel_rfl) (by kernel_rfl) (Or.inl ⟨by rfl, ?_⟩) (by assumption) ?_
                rotate_left 1
                · (intro w' hSw; (try dsimp only at hSw); go_simp; try with_reducible rfl)
                try simp only [Act.put, List.setIfInBounds_toArray, List.set_cons_zero, List.set_cons_succ, List.getElem_toArray, List.getElem_cons_zero, List.getElem_cons_succ]
                refine wpAnyL_ready (rs := [12]) (by kernel_rfl) (by simp) ?_
                refine AllReadyL.last rfl (by kernel_rfl) (fun K hK => ?_)
                have RN := hik (RowE.keep R9.out KW.out)
                have g0 := RowE.c0 RN.out (i := z) (by omega)
                have g1 := RowE.c1 RN.out (i := z) (by omega)
                have f0 := World.rowIs.frozen RN.out (z * 2)
                have f1 := World.rowIs.frozen RN.out (z * 2 + 1)
                have ln : W4.heap.size < VX1.heap.size := RowE.lt RN.out
                simp only [List.getElem_toArray, List.getElem_cons_zero, List.getElem_cons_succ]
                go_simp
                refine hK.out _ _ ?_
                clear hK K
                try simp only [Act.put, List.setIfInBounds_toArray, List.set_cons_zero, List.set_cons_succ, List.getElem_toArray, List.getElem_cons_zero, List.getElem_cons_succ]
                clear g0 g1 f0 f1 ln
                refine wpAnyL_done (by kernel_rfl) ?_ _
                have RX := hik (RowE.congr (u := nst A B x H (k + 1)) (RowE.set RN.out z (El.sb (A k) (El.ml (B k) (El.pwE x k)))) (fun i _ => by rw [HZ.out]; exact nst_step A B x hkl i))
                have GX := hik (chg2_at (G9.out.trans KW.out) W4.heap.size (fun l => absurd l (by omega)) (z * 2) (z * 2 + 1) (.int .i64 (El.sb (A k) (El.ml (B k) (El.pwE x k))).v.1) (.int .i64 (El.sb (A k) (El.ml (B k) (El.pwE x k))).v.2))
                generalize hE4 : ((VX1.setCell ⟨W4.heap.size, z * 2, none⟩ (.int .i64 (El.sb (A k) (El.ml (B k) (El.pwE x k))).v.1)).setCell ⟨W4.heap.size, z * 2 + 1, none⟩ (.int .i64 (El.sb (A k) (El.ml (B k) (El.pwE x k))).v.2)) = WX at RX GX ⊢
                clear hE4 SA hHeld KW x0 x1 y0 y1 RN R9 E9 G9 AY
                have hstep : (El.pwE x k).v.1 * r % 2130706433 = (El.pwE x (k + 1)).v.1 := by rw [HX.out]; exact pwi_step r0 r1 k
                have HST := hik hstep
                clear hstep
                go_wp2_with fail
                refine (l01Mul_any (El.pwE x k).v.1 r _ (El.pwE x k).lo1 (El.pwE x k).hi1 r0 r1).mono ?_
                rintro e WY ⟨rfl, hw1⟩
                have hw1' := hw1.symm
                clear hw1
                subst hw1'
                rw [HST.out]
                go_wp2
                go_roundw
                case rel => exact ⟨k + 1, by omega, by go_num, rfl, RX, GX⟩
                case measure => simp [intOf]; omega
              · refine AllReadyH.cons rfl (fun K hK => ?_) AllReadyH.nil
                simp only [List.getElem_toArray, List.getElem_cons_zero, List.getElem_cons_succ]
                go_simp
                have E7 : Hid (ElB (World.alloc U1 (.cells #[.int .i64 0, .int .i64 0] 38)) U1.heap.size El.zr) := hik (ElB.zero U1)
                have hgl : wl.heap.size ≤ U1.heap.size := KW.out.size
                replace KW : Hid (Chg nob wl (World.alloc U1 (.cells #[.int .i64 0, .int .i64 0] 38))) := hik (KW.out.alloc _)
                generalize hUA : (World.alloc U1 (.cells #[.int .i64 0, .int .i64 0] 38)) = UA at E7 KW ⊢
                clear hUA
                refine hK.out _ _ (SA.out _ KW.out) (fun hHeld => ?_)
                clear hK K
                try simp only [Act.put, List.setIfInBounds_toArray, List.set_cons_zero, List.set_cons_succ, List.getElem_toArray, List.getElem_cons_zero, List.getElem_cons_succ]
                refine wpAnyH_ready (rs := [6]) (by kernel_rfl) (by simp) ?_
                refine AllReadyH.cons rfl (fun K hK => ?_) AllReadyH.nil
                refine stepL_callN 57 #[.tmp 65, .tmp 67] #[38, 38] (by rfl) (by rfl) #[.agg #[.int .i64 (B k).v.1, .int .i64 (B k).v.2], .agg #[.int .i64 (El.pwE x k).v.1, .int .i64 (El.pwE x k).v.2]] (by simp only [List.map_toArray, List.map_cons, List.map_nil] <;> rfl) (run_go Tryd.func57 (by kernel_rfl) (by kernel_rfl) _ _) (sMl_el (B k) (El.pwE x k) _) ?_
                rintro e U2 ⟨he, kk⟩
                replace E7 := hik (E7.out.keep kk)
                refine ⟨_, he, ?_⟩
                replace KW := hik (KW.out.trans kk)
                refine hK.out _ _ (SA.out _ KW.out) (fun hHeld => ?_)
                clear hK K
                try simp only [Act.put, List.setIfInBounds_toArray, List.set_cons_zero, List.set_cons_succ, List.getElem_toArray, List.getElem_cons_zero, List.getElem_cons_succ]
                clear he kk
                refine wpAnyH_ready (rs := [8]) (by kernel_rfl) (by simp) ?_
                refine AllReadyH.cons rfl (fun K hK => ?_) AllReadyH.nil
                have y0 := E7.out.c0
                have y1 := E7.out.c1
                have f0 := E7.out.fz 0
                have f1 := E7.out.fz 1
                have l7 := E7.out.lt
                simp only [List.getElem_toArray, List.getElem_cons_zero, List.getElem_cons_succ]
                go_simp
                refine hK.out _ _ ⟨look_two (by omega) (SA.out _ KW.out).1 0 1 _ _, look_two (by omega) (SA.out _ KW.out).2 0 1 _ _⟩ (fun hHeld => ?_)
                clear hK K
                try simp only [Act.put, List.setIfInBounds_toArray, List.set_cons_zero, List.set_cons_succ, List.getElem_toArray, List.getElem_cons_zero, List.getElem_cons_succ]
                clear y0 y1 f0 f1 l7
                refine wpAnyH_done (by kernel_rfl) ?_ _
                have E8 := hik (E7.out.set (El.ml (B k) (El.pwE x k)))
                have R8 := hik (RowE.other (RI.out.keep KW.out) (g := U1.heap.size) (by omega) 0 1 (.int .i64 (El.ml (B k) (El.pwE x k)).v.1) (.int .i64 (El.ml (B k) (El.pwE x k)).v.2))
                have G8 := hik (chg2_at (GI.out.trans KW.out) U1.heap.size (fun l => absurd l (by omega)) 0 1 (.int .i64 (El.ml (B k) (El.pwE x k)).v.1) (.int .i64 (El.ml (B k) (El.pwE x k)).v.2))
                have NE := hik (show U1.heap.size ≠ W4.heap.size by omega)
                generalize hE : ((U2.setCell ⟨U1.heap.size, 0, none⟩ (.int .i64 (El.ml (B k) (El.pwE x k)).v.1)).setCell ⟨U1.heap.size, 1, none⟩ (.int .i64 (El.ml (B k) (El.pwE x k)).v.2)) = W8 at E8 R8 G8 ⊢
                clear hE SA hHeld KW E7 b0 b1 AY BY RI GI hol hgl
                generalize hE2 : U1.heap.size = gg at E8 NE ⊢
                clear hE2
                have hn1 : ab ≠ W4.heap.size := by omega
                have AY := hik (A4.out.keep G8.out)
                have x0 := PairE.c0 AY.out hkl
                have x1 := PairE.c1 AY.out hkl
                have y0 := E8.out.c0
                have y1 := E8.out.c1
                have hN2 : k < N := by have := HN.out; omega
                have hkN : (k : Int) < (N : Int) := by omega
                go_wp2
                have KW := hik ((Chg.refl nob W8).drew1)
                have SA := hik (fun (WW : World) (kW : Chg nob W8 WW) => (show (WW.cell? ⟨ab, ao + k * 2, none⟩ = some (.int .i64 (A k).v.1) ∧ WW.cell? ⟨ab, ao + k * 2 + 1, none⟩ = some (.int .i64 (A k).v.2) ∧ WW.cell? ⟨gg, 0, none⟩ = some (.int .i64 (El.ml (B k) (El.pwE x k)).v.1) ∧ WW.cell? ⟨gg, 1, none⟩ = some (.int .i64 (El.ml (B k) (El.pwE x k)).v.2)) from ⟨kW.see x0, kW.see x1, kW.see y0, kW.see y1⟩))
                refine wp_regionL (L := 9) (S := fun w' => w'.cell? ⟨ab, ao + k * 2, none⟩ = some (.int .i64 (A k).v.1) ∧ w'.cell? ⟨ab, ao + k * 2 + 1, none⟩ = some (.int .i64 (A k).v.2) ∧ w'.cell? ⟨gg, 0, none⟩ = some (.int .i64 (El.ml (B k) (El.pwE x k)).v.1) ∧ w'.cell? ⟨gg, 1, none⟩ = some (.int .i64 (El.ml (B k) (El.pwE x k)).v.2)) (by kernel_rfl) ⟨x0, x1, y0, y1⟩ (fun hHeld => ?_)
                refine wpAnyL_take (i := 0) (v := ?_) rfl (by kernel_rfl) (by kernel_rfl) (by kernel_rfl) (fun _ _ _ h => h) (by rfl) (by kernel_rfl) (by kernel_rfl) (Or.inl ⟨by rfl, ?_⟩) (by assumption) ?_
                rotate_left 1
                · (intro w' hSw; (try dsimp only at hSw); go_simp; try with_reducible rfl)
                try simp only [Act.put, List.setIfInBounds_toArray, List.set_cons_zero, List.set_cons_succ, List.getElem_toArray, List.getElem_cons_zero, List.getElem_cons_succ]
                refine wpAnyL_take (i := 1) (v := ?_) rfl (by kernel_rfl) (by kernel_rfl) (by kernel_rfl) (fun _ _ _ h => h) (by rfl) (by kernel_rfl) (by kernel_rfl) (Or.inl ⟨by rfl, ?_⟩) (by assumption) ?_
                rotate_left 1
                · (intro w' hSw; (try dsimp only at hSw); go_simp; try with_reducible rfl)
                try simp only [Act.put, List.setIfInBounds_toArray, List.set_cons_zero, List.set_cons_succ, List.getElem_toArray, List.getElem_cons_zero, List.getElem_cons_succ]
                refine wpAnyL_take (i := 2) (v := ?_) rfl (by kernel_rfl) (by kernel_rfl) (by kernel_rfl) (fun _ _ _ h => h) (by rfl) (by kernel_rfl) (by kernel_rfl) (Or.inl ⟨by rfl, ?_⟩) (by assumption) ?_
                rotate_left 1
                · (intro w' hSw; (try dsimp only at hSw); go_simp; try with_reducible rfl)
                try simp only [Act.put, List.setIfInBounds_toArray, List.set_cons_zero, List.set_cons_succ, List.getElem_toArray, List.getElem_cons_zero, List.getElem_cons_succ]
                refine wpAnyL_take (i := 3) (v := ?_) rfl (by kernel_rfl) (by kernel_rfl) (by kernel_rfl) (fun _ _ _ h => h) (by rfl) (by kernel_rfl) (by kernel_rfl) (Or.inl ⟨by rfl, ?_⟩) (by assumption) ?_
                rotate_left 1
                · (intro w' hSw; (try dsimp only at hSw); go_simp; try with_reducible rfl)
                try simp only [Act.put, List.setIfInBounds_toArray, List.set_cons_zero, List.set_cons_succ, List.getElem_toArray, List.getElem_cons_zero, List.getElem_cons_succ]
                refine wpAnyL_take (i := 4) (v := ?_) rfl (by kernel_rfl) (by kernel_rfl) (by kernel_rfl) (fun _ _ _ h => h) (by rfl) (by kernel_rfl) (by kernel_rfl) (Or.inl ⟨by rfl, ?_⟩) (by assumption) ?_
                rotate_left 1
                · (intro w' hSw; (try dsimp only at hSw); go_simp; try with_reducible rfl)
                try simp only [Act.put, List.setIfInBounds_toArray, List.set_cons_zero, List.set_cons_succ, List.getElem_toArray, List.getElem_cons_zero, List.getElem_cons_succ]
                refine wpAnyL_take (i := 5) (v := ?_) rfl (by kernel_rfl) (by kernel_rfl) (by kernel_rfl) (fun _ _ _ h => h) (by rfl) (by kernel_rfl) (by kernel_rfl) (Or.inl ⟨by rfl, ?_⟩) (by assumption) ?_
                rotate_left 1
                · (intro w' hSw; (try dsimp only at hSw); go_simp; try with_reducible rfl)
                try simp only [Act.put, List.setIfInBounds_toArray, List.set_cons_zero, List.set_cons_succ, List.getElem_toArray, List.getElem_cons_zero, List.getElem_cons_succ]
                refine wpAnyL_take (i := 6) (v := ?_) rfl (by kernel_rfl) (by kernel_rfl) (by kernel_rfl) (fun _ _ _ h => h) (by rfl) (by kernel_rfl) (by kernel_rfl) (Or.inl ⟨by rfl, ?_⟩) (by assumption) ?_
                rotate_left 1
                · (intro w' hSw; (try dsimp only at hSw); go_simp; try with_reducible rfl)
                try simp only [Act.put, List.setIfInBounds_toArray, List.set_cons_zero, List.set_cons_succ, List.getElem_toArray, List.getElem_cons_zero, List.getElem_cons_succ]
                refine wpAnyL_ready (rs := [7]) (by kernel_rfl) (by simp) ?_
                refine AllReadyL.cons rfl (fun K hK => ?_) AllReadyL.nil
                refine stepL_callN 42 #[.tmp 74, .tmp 75] #[38, 38] (by rfl) (by rfl) #[.agg #[.int .i64 (A k).v.1, .int .i64 (A k).v.2], .agg #[.int .i64 (El.ml (B k) (El.pwE x k)).v.1, .int .i64 (El.ml (B k) (El.pwE x k)).v.2]] (by simp only [List.map_toArray, List.map_cons, List.map_nil] <;> rfl) (run_go Tryd.func42 (by kernel_rfl) (by kernel_rfl) _ _) (sAd_el (A k) (El.ml (B k) (El.pwE x k)) _) ?_
                rintro e VY1 ⟨he, kk⟩
                refine ⟨_, he, ?_⟩
                replace KW := hik (KW.out.trans kk)
                refine hK.out _ _ (SA.out _ KW.out) (fun hHeld => ?_)
                clear hK K
                try simp only [Act.put, List.setIfInBounds_toArray, List.set_cons_zero, List.set_cons_succ, List.getElem_toArray, List.getElem_cons_zero, List.getElem_cons_succ]
                clear he kk
                refine wpAnyL_take (i := 8) (v := ?_) rfl (by kernel_rfl) (by kernel_rfl) (by kernel_rfl) (fun _ _ _ h => h) (by rfl) (by kernel_rfl) (by kernel_rfl) (Or.inl ⟨by rfl, ?_⟩) (by assumption) ?_
                rotate_left 1
                · (intro w' hSw; (try dsimp only at hSw); go_simp; try with_reducible rfl)
                try simp only [Act.put, List.setIfInBounds_toArray, List.set_cons_zero, List.set_cons_succ, List.getElem_toArray, List.getElem_cons_zero, List.getElem_cons_succ]
                refine wpAnyL_ready (rs := [9]) (by kernel_rfl) (by simp) ?_
                refine AllReadyL.last rfl (by kernel_rfl) (fun K hK => ?_)
                have RN := hik (RowE.keep R8.out KW.out)
                have g0 := RowE.c0 RN.out (i := k) (by omega)
                have g1 := RowE.c1 RN.out (i := k) (by omega)
                have f0 := World.rowIs.frozen RN.out (k * 2)
                have f1 := World.rowIs.frozen RN.out (k * 2 + 1)
                have ln : W4.heap.size < VY1.heap.size := RowE.lt RN.out
                simp only [List.getElem_toArray, List.getElem_cons_zero, List.getElem_cons_succ]
                go_simp
                refine hK.out _ _ ?_
                clear hK K
                try simp only [Act.put, List.setIfInBounds_toArray, List.set_cons_zero, List.set_cons_succ, List.getElem_toArray, List.getElem_cons_zero, List.getElem_cons_succ]
                clear g0 g1 f0 f1 ln
                refine wpAnyL_done (by kernel_rfl) ?_ _
                have R9 := hik (RowE.set RN.out k (El.ad (A k) (El.ml (B k) (El.pwE x k))))
                have E9 := hik (ElB.other (E8.out.keep KW.out) (g := W4.heap.size) NE.out (k * 2) (k * 2 + 1) (.int .i64 (El.ad (A k) (El.ml (B k) (El.pwE x k))).v.1) (.int .i64 (El.ad (A k) (El.ml (B k) (El.pwE x k))).v.2))
                have G9 := hik (chg2_at (G8.out.trans KW.out) W4.heap.size (fun l => absurd l (by omega)) (k * 2) (k * 2 + 1) (.int .i64 (El.ad (A k) (El.ml (B k) (El.pwE x k))).v.1) (.int .i64 (El.ad (A k) (El.ml (B k) (El.pwE x k))).v.2))
                generalize hE3 : ((VY1.setCell ⟨W4.heap.size, k * 2, none⟩ (.int .i64 (El.ad (A k) (El.ml (B k) (El.pwE x k))).v.1)).setCell ⟨W4.heap.size, k * 2 + 1, none⟩ (.int .i64 (El.ad (A k) (El.ml (B k) (El.pwE x k))).v.2)) = W9 at R9 E9 G9 ⊢
                clear hE3 SA hHeld KW x0 x1 y0 y1 RN R8 E8 G8 AY
                have AY := hik (A4.out.keep G9.out)
                have x0 := PairE.c0 AY.out hkl
                have x1 := PairE.c1 AY.out hkl
                have y0 := E9.out.c0
                have y1 := E9.out.c1
                obtain ⟨z, hz⟩ : ∃ z, z = k + H := ⟨_, rfl⟩
                have HZ := hik hz
                have hwz : IntKind.i64.wrap ((k : Int) + (H : Int)) = (z : Int) := by rw [IntKind.wrap_i64]; omega
                have hz0 : (0 : Int) ≤ (z : Int) := by omega
                have hzN' : z < N := by have := HN.out; omega
                have hzN : (z : Int) < (N : Int) := by omega
                clear hz
                go_wp2
                have KW := hik ((Chg.refl nob W9).drew1)
                have SA := hik (fun (WW : World) (kW : Chg nob W9 WW) => (show (WW.cell? ⟨ab, ao + k * 2, none⟩ = some (.int .i64 (A k).v.1) ∧ WW.cell? ⟨ab, ao + k * 2 + 1, none⟩ = some (.int .i64 (A k).v.2) ∧ WW.cell? ⟨gg, 0, none⟩ = some (.int .i64 (El.ml (B k) (El.pwE x k)).v.1) ∧ WW.cell? ⟨gg, 1, none⟩ = some (.int .i64 (El.ml (B k) (El.pwE x k)).v.2)) from ⟨kW.see x0, kW.see x1, kW.see y0, kW.see y1⟩))
                refine wp_regionL (L := 12) (S := fun w' => w'.cell? ⟨ab, ao + k * 2, none⟩ = some (.int .i64 (A k).v.1) ∧ w'.cell? ⟨ab, ao + k * 2 + 1, none⟩ = some (.int .i64 (A k).v.2) ∧ w'.cell? ⟨gg, 0, none⟩ = some (.int .i64 (El.ml (B k) (El.pwE x k)).v.1) ∧ w'.cell? ⟨gg, 1, none⟩ = some (.int .i64 (El.ml (B k) (El.pwE x k)).v.2)) (by kernel_rfl) ⟨x0, x1, y0, y1⟩ (fun hHeld => ?_)
                refine wpAnyL_take (i := 0) (v := ?_) rfl (by kernel_rfl) (by kernel_rfl) (by kernel_rfl) (fun _ _ _ h => h) (by rfl) (by kernel_rfl) (by kernel_rfl) (Or.inl ⟨by rfl, ?_⟩) (by assumption) ?_
                rotate_left 1
                · (intro w' hSw; (try dsimp only at hSw); go_simp; try with_reducible rfl)
                try simp only [Act.put, List.setIfInBounds_toArray, List.set_cons_zero, List.set_cons_succ, List.getElem_toArray, List.getElem_cons_zero, List.getElem_cons_succ]
                refine wpAnyL_take (i := 1) (v := ?_) rfl (by kernel_rfl) (by kernel_rfl) (by kernel_rfl) (fun _ _ _ h => h) (by rfl) (by kernel_rfl) (by kernel_rfl) (Or.inl ⟨by rfl, ?_⟩) (by assumption) ?_
                rotate_left 1
                · (intro w' hSw; (try dsimp only at hSw); go_simp; try with_reducible rfl)
                try simp only [Act.put, List.setIfInBounds_toArray, List.set_cons_zero, List.set_cons_succ, List.getElem_toArray, List.getElem_cons_zero, List.getElem_cons_succ]
                refine wpAnyL_take (i := 2) (v := ?_) rfl (by kernel_rfl) (by kernel_rfl) (by kernel_rfl) (fun _ _ _ h => h) (by rfl) (by kernel_rfl) (by kernel_rfl) (Or.inl ⟨by rfl, ?_⟩) (by assumption) ?_
                rotate_left 1
                · (intro w' hSw; (try dsimp only at hSw); go_simp; try with_reducible rfl)
                try simp only [Act.put, List.setIfInBounds_toArray, List.set_cons_zero, List.set_cons_succ, List.getElem_toArray, List.getElem_cons_zero, List.getElem_cons_succ]
                refine wpAnyL_take (i := 3) (v := .int .i64 (H : Int)) rfl (by kernel_rfl) (by kernel_rfl) (by kernel_rfl) (fun _ _ _ h => h) (by rfl) (by kernel_rfl) (by kernel_rfl) (Or.inl ⟨by rfl, ?_⟩) (by assumption) ?_
                · (intro w' hSw; (try dsimp only at hSw); go_simp; first | done | exact hdiv | (rw [IntKind.wrap_i64]; omega) | (rw [hdiv]))
                try simp only [Act.put, List.setIfInBounds_toArray, List.set_cons_zero, List.set_cons_succ, List.getElem_toArray, List.getElem_cons_zero, List.getElem_cons_succ]
                refine wpAnyL_take (i := 4) (v := .int .i64 (z : Int)) rfl (by kernel_rfl) (by kernel_rfl) (by kernel_rfl) (fun _ _ _ h => h) (by rfl) (by kernel_rfl) (by kernel_rfl) (Or.inl ⟨by rfl, ?_⟩) (by assumption) ?_
                · (intro w' hSw; (try dsimp only at hSw); go_simp; first | done | exact hwz)
                try simp only [Act.put, List.setIfInBounds_toArray, List.set_cons_zero, List.set_cons_succ, List.getElem_toArray, List.getElem_cons_zero, List.getElem_cons_succ]
                refine wpAnyL_take (i := 5) (v := ?_) rfl (by kernel_rfl) (by kernel_rfl) (by kernel_rfl) (fun _ _ _ h => h) (by rfl) (by kernel_rfl) (by kernel_rfl) (Or.inl ⟨by rfl, ?_⟩) (by assumption) ?_
                rotate_left 1
                · (intro w' hSw; (try dsimp only at hSw); go_simp; try with_reducible rfl)
                try simp only [Act.put, List.setIfInBounds_toArray, List.set_cons_zero, List.set_cons_succ, List.getElem_toArray, List.getElem_cons_zero, List.getElem_cons_succ]
                refine wpAnyL_take (i := 6) (v := ?_) rfl (by kernel_rfl) (by kernel_rfl) (by kernel_rfl) (fun _ _ _ h => h) (by rfl) (by kernel_rfl) (by kernel_rfl) (Or.inl ⟨by rfl, ?_⟩) (by assumption) ?_
                rotate_left 1
                · (intro w' hSw; (try dsimp only at hSw); go_simp; try with_reducible rfl)
                try simp only [Act.put, List.setIfInBounds_toArray, List.set_cons_zero, List.set_cons_succ, List.getElem_toArray, List.getElem_cons_zero, List.getElem_cons_succ]
                refine wpAnyL_take (i := 7) (v := ?_) rfl (by kernel_rfl) (by kernel_rfl) (by kernel_rfl) (fun _ _ _ h => h) (by rfl) (by kernel_rfl) (by kernel_rfl) (Or.inl ⟨by rfl, ?_⟩) (by assumption) ?_
                rotate_left 1
                · (intro w' hSw; (try dsimp only at hSw); go_simp; try with_reducible rfl)
                try simp only [Act.put, List.setIfInBounds_toArray, List.set_cons_zero, List.set_cons_succ, List.getElem_toArray, List.getElem_cons_zero, List.getElem_cons_succ]
                refine wpAnyL_take (i := 8) (v := ?_) rfl (by kernel_rfl) (by kernel_rfl) (by kernel_rfl) (fun _ _ _ h => h) (by rfl) (by kernel_rfl) (by kernel_rfl) (Or.inl ⟨by rfl, ?_⟩) (by assumption) ?_
                rotate_left 1
                · (intro w' hSw; (try dsimp only at hSw); go_simp; try with_reducible rfl)
                try simp only [Act.put, List.setIfInBounds_toArray, List.set_cons_zero, List.set_cons_succ, List.getElem_toArray, List.getElem_cons_zero, List.getElem_cons_succ]
                refine wpAnyL_take (i := 9) (v := ?_) rfl (by kernel_rfl) (by kernel_rfl) (by kernel_rfl) (fun _ _ _ h => h) (by rfl) (by kernel_rfl) (by kernel_rfl) (Or.inl ⟨by rfl, ?_⟩) (by assumption) ?_
                rotate_left 1
                · (intro w' hSw; (try dsimp only at hSw); go_simp; try with_reducible rfl)
                try simp only [Act.put, List.setIfInBounds_toArray, List.set_cons_zero, List.set_cons_succ, List.getElem_toArray, List.getElem_cons_zero, List.getElem_cons_succ]
                refine wpAnyL_ready (rs := [10]) (by kernel_rfl) (by simp) ?_
                refine AllReadyL.cons rfl (fun K hK => ?_) AllReadyL.nil
                refine stepL_callN 43 #[.tmp 86, .tmp 87] #[38, 38] (by rfl) (by rfl) #[.agg #[.int .i64 (A k).v.1, .int .i64 (A k).v.2], .agg #[.int .i64 (El.ml (B k) (El.pwE x k)).v.1, .int .i64 (El.ml (B k) (El.pwE x k)).v.2]] (by simp only [List.map_toArray, List.map_cons, List.map_nil] <;> rfl) (run_go Tryd.func43 (by kernel_rfl) (by kernel_rfl) _ _) (sSb_el (A k) (El.ml (B k) (El.pwE x k)) _) ?_
                rintro e VX1 ⟨he, kk⟩
                refine ⟨_, he, ?_⟩
                replace KW := hik (KW.out.trans kk)
                refine hK.out _ _ (SA.out _ KW.out) (fun hHeld => ?_)
                clear hK K
                try simp only [Act.put, List.setIfInBounds_toArray, List.set_cons_zero, List.set_cons_succ, List.getElem_toArray, List.getElem_cons_zero, List.getElem_cons_succ]
                clear he kk
                refine wpAnyL_take (i := 11) (v := ?_) rfl (by kernel_rfl) (by kernel_rfl) (by kernel_rfl) (fun _ _ _ h => h) (by rfl) (by kernel_rfl) (by kernel_rfl) (Or.inl ⟨by rfl, ?_⟩) (by assumption) ?_
                rotate_left 1
                · (intro w' hSw; (try dsimp only at hSw); go_simp; try with_reducible rfl)
                try simp only [Act.put, List.setIfInBounds_toArray, List.set_cons_zero, List.set_cons_succ, List.getElem_toArray, List.getElem_cons_zero, List.getElem_cons_succ]
                refine wpAnyL_ready (rs := [12]) (by kernel_rfl) (by simp) ?_
                refine AllReadyL.last rfl (by kernel_rfl) (fun K hK => ?_)
                have RN := hik (RowE.keep R9.out KW.out)
                have g0 := RowE.c0 RN.out (i := z) (by omega)
                have g1 := RowE.c1 RN.out (i := z) (by omega)
                have f0 := World.rowIs.frozen RN.out (z * 2)
                have f1 := World.rowIs.frozen RN.out (z * 2 + 1)
                have ln : W4.heap.size < VX1.heap.size := RowE.lt RN.out
                simp only [List.getElem_toArray, List.getElem_cons_zero, List.getElem_cons_succ]
                go_simp
                refine hK.out _ _ ?_
                clear hK K
                try simp only [Act.put, List.setIfInBounds_toArray, List.set_cons_zero, List.set_cons_succ, List.getElem_toArray, List.getElem_cons_zero, List.getElem_cons_succ]
                clear g0 g1 f0 f1 ln
                refine wpAnyL_done (by kernel_rfl) ?_ _
                have RX := hik (RowE.congr (u := nst A B x H (k + 1)) (RowE.set RN.out z (El.sb (A k) (El.ml (B k) (El.pwE x k)))) (fun i _ => by rw [HZ.out]; exact nst_step A B x hkl i))
                have GX := hik (chg2_at (G9.out.trans KW.out) W4.heap.size (fun l => absurd l (by omega)) (z * 2) (z * 2 + 1) (.int .i64 (El.sb (A k) (El.ml (B k) (El.pwE x k))).v.1) (.int .i64 (El.sb (A k) (El.ml (B k) (El.pwE x k))).v.2))
                generalize hE4 : ((VX1.setCell ⟨W4.heap.size, z * 2, none⟩ (.int .i64 (El.sb (A k) (El.ml (B k) (El.pwE x k))).v.1)).setCell ⟨W4.heap.size, z * 2 + 1, none⟩ (.int .i64 (El.sb (A k) (El.ml (B k) (El.pwE x k))).v.2)) = WX at RX GX ⊢
                clear hE4 SA hHeld KW x0 x1 y0 y1 RN R9 E9 G9 AY
                have hstep : (El.pwE x k).v.1 * r % 2130706433 = (El.pwE x (k + 1)).v.1 := by rw [HX.out]; exact pwi_step r0 r1 k
                have HST := hik hstep
                clear hstep
                go_wp2_with fail
                refine (l01Mul_any (El.pwE x k).v.1 r _ (El.pwE x k).lo1 (El.pwE x k).hi1 r0 r1).mono ?_
                rintro e WY ⟨rfl, hw1⟩
                have hw1' := hw1.symm
                clear hw1
                subst hw1'
                rw [HST.out]
                go_wp2
                go_roundw
                case rel => exact ⟨k + 1, by omega, by go_num, rfl, RX, GX⟩
                case measure => simp [intOf]; omega
            · refine AllReadyH.cons rfl (fun K hK => ?_) AllReadyH.nil
              simp only [List.getElem_toArray, List.getElem_cons_zero, List.getElem_cons_succ]
              go_simp
              have E7 : Hid (ElB (World.alloc wl (.cells #[.int .i64 0, .int .i64 0] 38)).drew wl.heap.size El.zr) := hik (ElB.keep (ElB.zero wl) (Chg.refl nob _).drew1)
              have hgl : wl.heap.size ≤ wl.heap.size := Nat.le_refl _
              replace KW : Hid (Chg nob wl (World.alloc wl (.cells #[.int .i64 0, .int .i64 0] 38)).drew) := hik (((Chg.refl nob wl).alloc _).drew1)
              generalize hUA : (World.alloc wl (.cells #[.int .i64 0, .int .i64 0] 38)).drew = UA at E7 KW ⊢
              clear hUA
              refine hK.out _ _ (SA.out _ KW.out) (fun hHeld => ?_)
              clear hK K
              try simp only [Act.put, List.setIfInBounds_toArray, List.set_cons_zero, List.set_cons_succ, List.getElem_toArray, List.getElem_cons_zero, List.getElem_cons_succ]
              refine wpAnyH_ready (rs := [5]) (by kernel_rfl) (by simp) ?_
              refine AllReadyH.cons rfl (fun K hK => ?_) AllReadyH.nil
              refine stepL_callN 58 #[.tmp 66] #[3] (by rfl) (by rfl) #[.int .i64 (El.pwE x k).v.1] (by simp only [List.map_toArray, List.map_cons, List.map_nil] <;> rfl) (run_go Tryd.func58 (by kernel_rfl) (by kernel_rfl) _ _) (sOf_el (El.pwE x k) HPW.out _) ?_
              rintro e U1 ⟨he, kk⟩
              replace E7 := hik (E7.out.keep kk)
              refine ⟨_, he, ?_⟩
              replace KW := hik (KW.out.trans kk)
              refine hK.out _ _ (SA.out _ KW.out) (fun hHeld => ?_)
              clear hK K
              try simp only [Act.put, List.setIfInBounds_toArray, List.set_cons_zero, List.set_cons_succ, List.getElem_toArray, List.getElem_cons_zero, List.getElem_cons_succ]
              clear he kk
              refine wpAnyH_ready (rs := [6]) (by kernel_rfl) (by simp) ?_
              refine AllReadyH.cons rfl (fun K hK => ?_) AllReadyH.nil
              refine stepL_callN 57 #[.tmp 65, .tmp 67] #[38, 38] (by rfl) (by rfl) #[.agg #[.int .i64 (B k).v.1, .int .i64 (B k).v.2], .agg #[.int .i64 (El.pwE x k).v.1, .int .i64 (El.pwE x k).v.2]] (by simp only [List.map_toArray, List.map_cons, List.map_nil] <;> rfl) (run_go Tryd.func57 (by kernel_rfl) (by kernel_rfl) _ _) (sMl_el (B k) (El.pwE x k) _) ?_
              rintro e U2 ⟨he, kk⟩
              replace E7 := hik (E7.out.keep kk)
              refine ⟨_, he, ?_⟩
              replace KW := hik (KW.out.trans kk)
              refine hK.out _ _ (SA.out _ KW.out) (fun hHeld => ?_)
              clear hK K
              try simp only [Act.put, List.setIfInBounds_toArray, List.set_cons_zero, List.set_cons_succ, List.getElem_toArray, List.getElem_cons_zero, List.getElem_cons_succ]
              clear he kk
              refine wpAnyH_ready (rs := [8]) (by kernel_rfl) (by simp) ?_
              refine AllReadyH.cons rfl (fun K hK => ?_) AllReadyH.nil
              have y0 := E7.out.c0
              have y1 := E7.out.c1
              have f0 := E7.out.fz 0
              have f1 := E7.out.fz 1
              have l7 := E7.out.lt
              simp only [List.getElem_toArray, List.getElem_cons_zero, List.getElem_cons_succ]
              go_simp
              refine hK.out _ _ ⟨look_two (by omega) (SA.out _ KW.out).1 0 1 _ _, look_two (by omega) (SA.out _ KW.out).2 0 1 _ _⟩ (fun hHeld => ?_)
              clear hK K
              try simp only [Act.put, List.setIfInBounds_toArray, List.set_cons_zero, List.set_cons_succ, List.getElem_toArray, List.getElem_cons_zero, List.getElem_cons_succ]
              clear y0 y1 f0 f1 l7
              refine wpAnyH_done (by kernel_rfl) ?_ _
              have E8 := hik (E7.out.set (El.ml (B k) (El.pwE x k)))
              have R8 := hik (RowE.other (RI.out.keep KW.out) (g := wl.heap.size) (by omega) 0 1 (.int .i64 (El.ml (B k) (El.pwE x k)).v.1) (.int .i64 (El.ml (B k) (El.pwE x k)).v.2))
              have G8 := hik (chg2_at (GI.out.trans KW.out) wl.heap.size (fun l => absurd l (by omega)) 0 1 (.int .i64 (El.ml (B k) (El.pwE x k)).v.1) (.int .i64 (El.ml (B k) (El.pwE x k)).v.2))
              have NE := hik (show wl.heap.size ≠ W4.heap.size by omega)
              generalize hE : ((U2.setCell ⟨wl.heap.size, 0, none⟩ (.int .i64 (El.ml (B k) (El.pwE x k)).v.1)).setCell ⟨wl.heap.size, 1, none⟩ (.int .i64 (El.ml (B k) (El.pwE x k)).v.2)) = W8 at E8 R8 G8 ⊢
              clear hE SA hHeld KW E7 b0 b1 AY BY RI GI hol hgl
              generalize hE2 : wl.heap.size = gg at E8 NE ⊢
              clear hE2
              have hn1 : ab ≠ W4.heap.size := by omega
              have AY := hik (A4.out.keep G8.out)
              have x0 := PairE.c0 AY.out hkl
              have x1 := PairE.c1 AY.out hkl
              have y0 := E8.out.c0
              have y1 := E8.out.c1
              have hN2 : k < N := by have := HN.out; omega
              have hkN : (k : Int) < (N : Int) := by omega
              go_wp2
              have KW := hik ((Chg.refl nob W8).drew1)
              have SA := hik (fun (WW : World) (kW : Chg nob W8 WW) => (show (WW.cell? ⟨ab, ao + k * 2, none⟩ = some (.int .i64 (A k).v.1) ∧ WW.cell? ⟨ab, ao + k * 2 + 1, none⟩ = some (.int .i64 (A k).v.2) ∧ WW.cell? ⟨gg, 0, none⟩ = some (.int .i64 (El.ml (B k) (El.pwE x k)).v.1) ∧ WW.cell? ⟨gg, 1, none⟩ = some (.int .i64 (El.ml (B k) (El.pwE x k)).v.2)) from ⟨kW.see x0, kW.see x1, kW.see y0, kW.see y1⟩))
              refine wp_regionL (L := 9) (S := fun w' => w'.cell? ⟨ab, ao + k * 2, none⟩ = some (.int .i64 (A k).v.1) ∧ w'.cell? ⟨ab, ao + k * 2 + 1, none⟩ = some (.int .i64 (A k).v.2) ∧ w'.cell? ⟨gg, 0, none⟩ = some (.int .i64 (El.ml (B k) (El.pwE x k)).v.1) ∧ w'.cell? ⟨gg, 1, none⟩ = some (.int .i64 (El.ml (B k) (El.pwE x k)).v.2)) (by kernel_rfl) ⟨x0, x1, y0, y1⟩ (fun hHeld => ?_)
              refine wpAnyL_take (i := 0) (v := ?_) rfl (by kernel_rfl) (by kernel_rfl) (by kernel_rfl) (fun _ _ _ h => h) (by rfl) (by kernel_rfl) (by kernel_rfl) (Or.inl ⟨by rfl, ?_⟩) (by assumption) ?_
              rotate_left 1
              · (intro w' hSw; (try dsimp only at hSw); go_simp; try with_reducible rfl)
              try simp only [Act.put, List.setIfInBounds_toArray, List.set_cons_zero, List.set_cons_succ, List.getElem_toArray, List.getElem_cons_zero, List.getElem_cons_succ]
              refine wpAnyL_take (i := 1) (v := ?_) rfl (by kernel_rfl) (by kernel_rfl) (by kernel_rfl) (fun _ _ _ h => h) (by rfl) (by kernel_rfl) (by kernel_rfl) (Or.inl ⟨by rfl, ?_⟩) (by assumption) ?_
              rotate_left 1
              · (intro w' hSw; (try dsimp only at hSw); go_simp; try with_reducible rfl)
              try simp only [Act.put, List.setIfInBounds_toArray, List.set_cons_zero, List.set_cons_succ, List.getElem_toArray, List.getElem_cons_zero, List.getElem_cons_succ]
              refine wpAnyL_take (i := 2) (v := ?_) rfl (by kernel_rfl) (by kernel_rfl) (by kernel_rfl) (fun _ _ _ h => h) (by rfl) (by kernel_rfl) (by kernel_rfl) (Or.inl ⟨by rfl, ?_⟩) (by assumption) ?_
              rotate_left 1
              · (intro w' hSw; (try dsimp only at hSw); go_simp; try with_reducible rfl)
              try simp only [Act.put, List.setIfInBounds_toArray, List.set_cons_zero, List.set_cons_succ, List.getElem_toArray, List.getElem_cons_zero, List.getElem_cons_succ]
              refine wpAnyL_take (i := 3) (v := ?_) rfl (by kernel_rfl) (by kernel_rfl) (by kernel_rfl) (fun _ _ _ h => h) (by rfl) (by kernel_rfl) (by kernel_rfl) (Or.inl ⟨by rfl, ?_⟩) (by assumption) ?_
              rotate_left 1
              · (intro w' hSw; (try dsimp only at hSw); go_simp; try with_reducible rfl)
              try simp only [Act.put, List.setIfInBounds_toArray, List.set_cons_zero, List.set_cons_succ, List.getElem_toArray, List.getElem_cons_zero, List.getElem_cons_succ]
              refine wpAnyL_take (i := 4) (v := ?_) rfl (by kernel_rfl) (by kernel_rfl) (by kernel_rfl) (fun _ _ _ h => h) (by rfl) (by kernel_rfl) (by kernel_rfl) (Or.inl ⟨by rfl, ?_⟩) (by assumption) ?_
              rotate_left 1
              · (intro w' hSw; (try dsimp only at hSw); go_simp; try with_reducible rfl)
              try simp only [Act.put, List.setIfInBounds_toArray, List.set_cons_zero, List.set_cons_succ, List.getElem_toArray, List.getElem_cons_zero, List.getElem_cons_succ]
              refine wpAnyL_take (i := 5) (v := ?_) rfl (by kernel_rfl) (by kernel_rfl) (by kernel_rfl) (fun _ _ _ h => h) (by rfl) (by kernel_rfl) (by kernel_rfl) (Or.inl ⟨by rfl, ?_⟩) (by assumption) ?_
              rotate_left 1
              · (intro w' hSw; (try dsimp only at hSw); go_simp; try with_reducible rfl)
              try simp only [Act.put, List.setIfInBounds_toArray, List.set_cons_zero, List.set_cons_succ, List.getElem_toArray, List.getElem_cons_zero, List.getElem_cons_succ]
              refine wpAnyL_take (i := 6) (v := ?_) rfl (by kernel_rfl) (by kernel_rfl) (by kernel_rfl) (fun _ _ _ h => h) (by rfl) (by kernel_rfl) (by kernel_rfl) (Or.inl ⟨by rfl, ?_⟩) (by assumption) ?_
              rotate_left 1
              · (intro w' hSw; (try dsimp only at hSw); go_simp; try with_reducible rfl)
              try simp only [Act.put, List.setIfInBounds_toArray, List.set_cons_zero, List.set_cons_succ, List.getElem_toArray, List.getElem_cons_zero, List.getElem_cons_succ]
              refine wpAnyL_ready (rs := [7]) (by kernel_rfl) (by simp) ?_
              refine AllReadyL.cons rfl (fun K hK => ?_) AllReadyL.nil
              refine stepL_callN 42 #[.tmp 74, .tmp 75] #[38, 38] (by rfl) (by rfl) #[.agg #[.int .i64 (A k).v.1, .int .i64 (A k).v.2], .agg #[.int .i64 (El.ml (B k) (El.pwE x k)).v.1, .int .i64 (El.ml (B k) (El.pwE x k)).v.2]] (by simp only [List.map_toArray, List.map_cons, List.map_nil] <;> rfl) (run_go Tryd.func42 (by kernel_rfl) (by kernel_rfl) _ _) (sAd_el (A k) (El.ml (B k) (El.pwE x k)) _) ?_
              rintro e VY1 ⟨he, kk⟩
              refine ⟨_, he, ?_⟩
              replace KW := hik (KW.out.trans kk)
              refine hK.out _ _ (SA.out _ KW.out) (fun hHeld => ?_)
              clear hK K
              try simp only [Act.put, List.setIfInBounds_toArray, List.set_cons_zero, List.set_cons_succ, List.getElem_toArray, List.getElem_cons_zero, List.getElem_cons_succ]
              clear he kk
              refine wpAnyL_take (i := 8) (v := ?_) rfl (by kernel_rfl) (by kernel_rfl) (by kernel_rfl) (fun _ _ _ h => h) (by rfl) (by kernel_rfl) (by kernel_rfl) (Or.inl ⟨by rfl, ?_⟩) (by assumption) ?_
              rotate_left 1
              · (intro w' hSw; (try dsimp only at hSw); go_simp; try with_reducible rfl)
              try simp only [Act.put, List.setIfInBounds_toArray, List.set_cons_zero, List.set_cons_succ, List.getElem_toArray, List.getElem_cons_zero, List.getElem_cons_succ]
              refine wpAnyL_ready (rs := [9]) (by kernel_rfl) (by simp) ?_
              refine AllReadyL.last rfl (by kernel_rfl) (fun K hK => ?_)
              have RN := hik (RowE.keep R8.out KW.out)
              have g0 := RowE.c0 RN.out (i := k) (by omega)
              have g1 := RowE.c1 RN.out (i := k) (by omega)
              have f0 := World.rowIs.frozen RN.out (k * 2)
              have f1 := World.rowIs.frozen RN.out (k * 2 + 1)
              have ln : W4.heap.size < VY1.heap.size := RowE.lt RN.out
              simp only [List.getElem_toArray, List.getElem_cons_zero, List.getElem_cons_succ]
              go_simp
              refine hK.out _ _ ?_
              clear hK K
              try simp only [Act.put, List.setIfInBounds_toArray, List.set_cons_zero, List.set_cons_succ, List.getElem_toArray, List.getElem_cons_zero, List.getElem_cons_succ]
              clear g0 g1 f0 f1 ln
              refine wpAnyL_done (by kernel_rfl) ?_ _
              have R9 := hik (RowE.set RN.out k (El.ad (A k) (El.ml (B k) (El.pwE x k))))
              have E9 := hik (ElB.other (E8.out.keep KW.out) (g := W4.heap.size) NE.out (k * 2) (k * 2 + 1) (.int .i64 (El.ad (A k) (El.ml (B k) (El.pwE x k))).v.1) (.int .i64 (El.ad (A k) (El.ml (B k) (El.pwE x k))).v.2))
              have G9 := hik (chg2_at (G8.out.trans KW.out) W4.heap.size (fun l => absurd l (by omega)) (k * 2) (k * 2 + 1) (.int .i64 (El.ad (A k) (El.ml (B k) (El.pwE x k))).v.1) (.int .i64 (El.ad (A k) (El.ml (B k) (El.pwE x k))).v.2))
              generalize hE3 : ((VY1.setCell ⟨W4.heap.size, k * 2, none⟩ (.int .i64 (El.ad (A k) (El.ml (B k) (El.pwE x k))).v.1)).setCell ⟨W4.heap.size, k * 2 + 1, none⟩ (.int .i64 (El.ad (A k) (El.ml (B k) (El.pwE x k))).v.2)) = W9 at R9 E9 G9 ⊢
              clear hE3 SA hHeld KW x0 x1 y0 y1 RN R8 E8 G8 AY
              have AY := hik (A4.out.keep G9.out)
              have x0 := PairE.c0 AY.out hkl
              have x1 := PairE.c1 AY.out hkl
              have y0 := E9.out.c0
              have y1 := E9.out.c1
              obtain ⟨z, hz⟩ : ∃ z, z = k + H := ⟨_, rfl⟩
              have HZ := hik hz
              have hwz : IntKind.i64.wrap ((k : Int) + (H : Int)) = (z : Int) := by rw [IntKind.wrap_i64]; omega
              have hz0 : (0 : Int) ≤ (z : Int) := by omega
              have hzN' : z < N := by have := HN.out; omega
              have hzN : (z : Int) < (N : Int) := by omega
              clear hz
              go_wp2
              have KW := hik ((Chg.refl nob W9).drew1)
              have SA := hik (fun (WW : World) (kW : Chg nob W9 WW) => (show (WW.cell? ⟨ab, ao + k * 2, none⟩ = some (.int .i64 (A k).v.1) ∧ WW.cell? ⟨ab, ao + k * 2 + 1, none⟩ = some (.int .i64 (A k).v.2) ∧ WW.cell? ⟨gg, 0, none⟩ = some (.int .i64 (El.ml (B k) (El.pwE x k)).v.1) ∧ WW.cell? ⟨gg, 1, none⟩ = some (.int .i64 (El.ml (B k) (El.pwE x k)).v.2)) from ⟨kW.see x0, kW.see x1, kW.see y0, kW.see y1⟩))
              refine wp_regionL (L := 12) (S := fun w' => w'.cell? ⟨ab, ao + k * 2, none⟩ = some (.int .i64 (A k).v.1) ∧ w'.cell? ⟨ab, ao + k * 2 + 1, none⟩ = some (.int .i64 (A k).v.2) ∧ w'.cell? ⟨gg, 0, none⟩ = some (.int .i64 (El.ml (B k) (El.pwE x k)).v.1) ∧ w'.cell? ⟨gg, 1, none⟩ = some (.int .i64 (El.ml (B k) (El.pwE x k)).v.2)) (by kernel_rfl) ⟨x0, x1, y0, y1⟩ (fun hHeld => ?_)
              refine wpAnyL_take (i := 0) (v := ?_) rfl (by kernel_rfl) (by kernel_rfl) (by kernel_rfl) (fun _ _ _ h => h) (by rfl) (by kernel_rfl) (by kernel_rfl) (Or.inl ⟨by rfl, ?_⟩) (by assumption) ?_
              rotate_left 1
              · (intro w' hSw; (try dsimp only at hSw); go_simp; try with_reducible rfl)
              try simp only [Act.put, List.setIfInBounds_toArray, List.set_cons_zero, List.set_cons_succ, List.getElem_toArray, List.getElem_cons_zero, List.getElem_cons_succ]
              refine wpAnyL_take (i := 1) (v := ?_) rfl (by kernel_rfl) (by kernel_rfl) (by kernel_rfl) (fun _ _ _ h => h) (by rfl) (by kernel_rfl) (by kernel_rfl) (Or.inl ⟨by rfl, ?_⟩) (by assumption) ?_
              rotate_left 1
              · (intro w' hSw; (try dsimp only at hSw); go_simp; try with_reducible rfl)
              try simp only [Act.put, List.setIfInBounds_toArray, List.set_cons_zero, List.set_cons_succ, List.getElem_toArray, List.getElem_cons_zero, List.getElem_cons_succ]
              refine wpAnyL_take (i := 2) (v := ?_) rfl (by kernel_rfl) (by kernel_rfl) (by kernel_rfl) (fun _ _ _ h => h) (by rfl) (by kernel_rfl) (by kernel_rfl) (Or.inl ⟨by rfl, ?_⟩) (by assumption) ?_
              rotate_left 1
              · (intro w' hSw; (try dsimp only at hSw); go_simp; try with_reducible rfl)
              try simp only [Act.put, List.setIfInBounds_toArray, List.set_cons_zero, List.set_cons_succ, List.getElem_toArray, List.getElem_cons_zero, List.getElem_cons_succ]
              refine wpAnyL_take (i := 3) (v := .int .i64 (H : Int)) rfl (by kernel_rfl) (by kernel_rfl) (by kernel_rfl) (fun _ _ _ h => h) (by rfl) (by kernel_rfl) (by kernel_rfl) (Or.inl ⟨by rfl, ?_⟩) (by assumption) ?_
              · (intro w' hSw; (try dsimp only at hSw); go_simp; first | done | exact hdiv | (rw [IntKind.wrap_i64]; omega) | (rw [hdiv]))
              try simp only [Act.put, List.setIfInBounds_toArray, List.set_cons_zero, List.set_cons_succ, List.getElem_toArray, List.getElem_cons_zero, List.getElem_cons_succ]
              refine wpAnyL_take (i := 4) (v := .int .i64 (z : Int)) rfl (by kernel_rfl) (by kernel_rfl) (by kernel_rfl) (fun _ _ _ h => h) (by rfl) (by kernel_rfl) (by kernel_rfl) (Or.inl ⟨by rfl, ?_⟩) (by assumption) ?_
              · (intro w' hSw; (try dsimp only at hSw); go_simp; first | done | exact hwz)
              try simp only [Act.put, List.setIfInBounds_toArray, List.set_cons_zero, List.set_cons_succ, List.getElem_toArray, List.getElem_cons_zero, List.getElem_cons_succ]
              refine wpAnyL_take (i := 5) (v := ?_) rfl (by kernel_rfl) (by kernel_rfl) (by kernel_rfl) (fun _ _ _ h => h) (by rfl) (by kernel_rfl) (by kernel_rfl) (Or.inl ⟨by rfl, ?_⟩) (by assumption) ?_
              rotate_left 1
              · (intro w' hSw; (try dsimp only at hSw); go_simp; try with_reducible rfl)
              try simp only [Act.put, List.setIfInBounds_toArray, List.set_cons_zero, List.set_cons_succ, List.getElem_toArray, List.getElem_cons_zero, List.getElem_cons_succ]
              refine wpAnyL_take (i := 6) (v := ?_) rfl (by kernel_rfl) (by kernel_rfl) (by kernel_rfl) (fun _ _ _ h => h) (by rfl) (by kernel_rfl) (by kernel_rfl) (Or.inl ⟨by rfl, ?_⟩) (by assumption) ?_
              rotate_left 1
              · (intro w' hSw; (try dsimp only at hSw); go_simp; try with_reducible rfl)
              try simp only [Act.put, List.setIfInBounds_toArray, List.set_cons_zero, List.set_cons_succ, List.getElem_toArray, List.getElem_cons_zero, List.getElem_cons_succ]
              refine wpAnyL_take (i := 7) (v := ?_) rfl (by kernel_rfl) (by kernel_rfl) (by kernel_rfl) (fun _ _ _ h => h) (by rfl) (by kernel_rfl) (by kernel_rfl) (Or.inl ⟨by rfl, ?_⟩) (by assumption) ?_
              rotate_left 1
              · (intro w' hSw; (try dsimp only at hSw); go_simp; try with_reducible rfl)
              try simp only [Act.put, List.setIfInBounds_toArray, List.set_cons_zero, List.set_cons_succ, List.getElem_toArray, List.getElem_cons_zero, List.getElem_cons_succ]
              refine wpAnyL_take (i := 8) (v := ?_) rfl (by kernel_rfl) (by kernel_rfl) (by kernel_rfl) (fun _ _ _ h => h) (by rfl) (by kernel_rfl) (by kernel_rfl) (Or.inl ⟨by rfl, ?_⟩) (by assumption) ?_
              rotate_left 1
              · (intro w' hSw; (try dsimp only at hSw); go_simp; try with_reducible rfl)
              try simp only [Act.put, List.setIfInBounds_toArray, List.set_cons_zero, List.set_cons_succ, List.getElem_toArray, List.getElem_cons_zero, List.getElem_cons_succ]
              refine wpAnyL_take (i := 9) (v := ?_) rfl (by kernel_rfl) (by kernel_rfl) (by kernel_rfl) (fun _ _ _ h => h) (by rfl) (by kernel_rfl) (by kernel_rfl) (Or.inl ⟨by rfl, ?_⟩) (by assumption) ?_
              rotate_left 1
              · (intro w' hSw; (try dsimp only at hSw); go_simp; try with_reducible rfl)
              try simp only [Act.put, List.setIfInBounds_toArray, List.set_cons_zero, List.set_cons_succ, List.getElem_toArray, List.getElem_cons_zero, List.getElem_cons_succ]
              refine wpAnyL_ready (rs := [10]) (by kernel_rfl) (by simp) ?_
              refine AllReadyL.cons rfl (fun K hK => ?_) AllReadyL.nil
              refine stepL_callN 43 #[.tmp 86, .tmp 87] #[38, 38] (by rfl) (by rfl) #[.agg #[.int .i64 (A k).v.1, .int .i64 (A k).v.2], .agg #[.int .i64 (El.ml (B k) (El.pwE x k)).v.1, .int .i64 (El.ml (B k) (El.pwE x k)).v.2]] (by simp only [List.map_toArray, List.map_cons, List.map_nil] <;> rfl) (run_go Tryd.func43 (by kernel_rfl) (by kernel_rfl) _ _) (sSb_el (A k) (El.ml (B k) (El.pwE x k)) _) ?_
              rintro e VX1 ⟨he, kk⟩
              refine ⟨_, he, ?_⟩
              replace KW := hik (KW.out.trans kk)
              refine hK.out _ _ (SA.out _ KW.out) (fun hHeld => ?_)
              clear hK K
              try simp only [Act.put, List.setIfInBounds_toArray, List.set_cons_zero, List.set_cons_succ, List.getElem_toArray, List.getElem_cons_zero, List.getElem_cons_succ]
              clear he kk
              refine wpAnyL_take (i := 11) (v := ?_) rfl (by kernel_rfl) (by kernel_rfl) (by kernel_rfl) (fun _ _ _ h => h) (by rfl) (by kernel_rfl) (by kernel_rfl) (Or.inl ⟨by rfl, ?_⟩) (by assumption) ?_
              rotate_left 1
              · (intro w' hSw; (try dsimp only at hSw); go_simp; try with_reducible rfl)
              try simp only [Act.put, List.setIfInBounds_toArray, List.set_cons_zero, List.set_cons_succ, List.getElem_toArray, List.getElem_cons_zero, List.getElem_cons_succ]
              refine wpAnyL_ready (rs := [12]) (by kernel_rfl) (by simp) ?_
              refine AllReadyL.last rfl (by kernel_rfl) (fun K hK => ?_)
              have RN := hik (RowE.keep R9.out KW.out)
              have g0 := RowE.c0 RN.out (i := z) (by omega)
              have g1 := RowE.c1 RN.out (i := z) (by omega)
              have f0 := World.rowIs.frozen RN.out (z * 2)
              have f1 := World.rowIs.frozen RN.out (z * 2 + 1)
              have ln : W4.heap.size < VX1.heap.size := RowE.lt RN.out
              simp only [List.getElem_toArray, List.getElem_cons_zero, List.getElem_cons_succ]
              go_simp
              refine hK.out _ _ ?_
              clear hK K
              try simp only [Act.put, List.setIfInBounds_toArray, List.set_cons_zero, List.set_cons_succ, List.getElem_toArray, List.getElem_cons_zero, List.getElem_cons_succ]
              clear g0 g1 f0 f1 ln
              refine wpAnyL_done (by kernel_rfl) ?_ _
              have RX := hik (RowE.congr (u := nst A B x H (k + 1)) (RowE.set RN.out z (El.sb (A k) (El.ml (B k) (El.pwE x k)))) (fun i _ => by rw [HZ.out]; exact nst_step A B x hkl i))
              have GX := hik (chg2_at (G9.out.trans KW.out) W4.heap.size (fun l => absurd l (by omega)) (z * 2) (z * 2 + 1) (.int .i64 (El.sb (A k) (El.ml (B k) (El.pwE x k))).v.1) (.int .i64 (El.sb (A k) (El.ml (B k) (El.pwE x k))).v.2))
              generalize hE4 : ((VX1.setCell ⟨W4.heap.size, z * 2, none⟩ (.int .i64 (El.sb (A k) (El.ml (B k) (El.pwE x k))).v.1)).setCell ⟨W4.heap.size, z * 2 + 1, none⟩ (.int .i64 (El.sb (A k) (El.ml (B k) (El.pwE x k))).v.2)) = WX at RX GX ⊢
              clear hE4 SA hHeld KW x0 x1 y0 y1 RN R9 E9 G9 AY
              have hstep : (El.pwE x k).v.1 * r % 2130706433 = (El.pwE x (k + 1)).v.1 := by rw [HX.out]; exact pwi_step r0 r1 k
              have HST := hik hstep
              clear hstep
              go_wp2_with fail
              refine (l01Mul_any (El.pwE x k).v.1 r _ (El.pwE x k).lo1 (El.pwE x k).hi1 r0 r1).mono ?_
              rintro e WY ⟨rfl, hw1⟩
              have hw1' := hw1.symm
              clear hw1
              subst hw1'
              rw [HST.out]
              go_wp2
              go_roundw
              case rel => exact ⟨k + 1, by omega, by go_num, rfl, RX, GX⟩
              case measure => simp [intOf]; omega
          · obtain rfl : H = k := by omega
            have RZ := hik (RowE.congr (u := El.nt (m + 1) t (El.ofi r)) RI.out (fun i hi => by rw [HA.out, HB.out, ← HX.out]; exact nst_all HH.out t x (by have := HN.out; omega)))
            go_wp2
            go_ret
            exact ⟨some ⟨W4.heap.size, 0, none⟩, N, rfl, Nat.le_refl _, by omega, RowE.own RZ.out h4, G4.out.trans GI.out⟩

end Go.Proofs.YtnpmhfhgnnhclarDoor

namespace Go.Proofs.YtnpmhfhgnnhclarDoor
open Go.ChangeShapes Go.WideShapes Go.ChangeAt Go.RowKit
set_option linter.unusedVariables false
set_option maxRecDepth 100000
set_option linter.unusedSimpArgs false

/-- A row of n elements in block b, with room behind. -/
def RowN (W : World) (b n : Nat) (t : Nat → El) : Prop := ∃ (N : Nat) (h : Nat → Value), W.rowIs b 38 N h ∧ n * 2 ≤ N ∧ ∀ i, i < n * 2 → h i = pf (cA t) (cB t) i
theorem RowN.of {W : World} {B n : Nat} {c : Option Addr} {t : Nat → El} (h : OwnE W B c n (cA t) (cB t)) (h1 : 1 ≤ n) : ∃ b, c = some ⟨b, 0, none⟩ ∧ B ≤ b ∧ RowN W b n t := by
  rcases h with rfl | ⟨b, N, h, rfl, hB, hr, hN, he⟩
  · omega
  · exact ⟨b, rfl, hB, N, h, hr, hN, he⟩
theorem RowN.own {W : World} {B b n : Nat} {t : Nat → El} (h : RowN W b n t) (hB : B ≤ b) : OwnE W B (some ⟨b, 0, none⟩) n (cA t) (cB t) := by
  obtain ⟨N, h, hr, hN, he⟩ := h
  exact .inr ⟨b, N, h, rfl, hB, hr, hN, he⟩
theorem RowN.keep {W W' : World} {b n : Nat} {t : Nat → El} (h : RowN W b n t) (k : Chg nob W W') : RowN W' b n t := by
  obtain ⟨N, h, hr, hN, he⟩ := h
  exact ⟨N, h, rowIs_keep hr k, hN, he⟩
theorem RowN.lt {W : World} {b n : Nat} {t : Nat → El} (h : RowN W b n t) : b < W.heap.size := by
  obtain ⟨N, h, hr, hN, he⟩ := h
  exact World.rowIs.lt hr
theorem RowN.fz {W : World} {b n : Nat} {t : Nat → El} (h : RowN W b n t) (o : Nat) : W.frozen? ⟨b, o, none⟩ = false := by
  obtain ⟨N, h, hr, hN, he⟩ := h
  exact World.rowIs.frozen hr o
theorem RowN.c0 {W : World} {b n : Nat} {t : Nat → El} (h : RowN W b n t) {i : Nat} (hi : i < n) : W.cell? ⟨b, i * 2, none⟩ = some (.int .i64 (t i).v.1) := by
  obtain ⟨N, h, hr, hN, he⟩ := h
  rw [World.rowIs.cell hr (by omega), he _ (by omega), pf_even]; rfl
theorem RowN.c1 {W : World} {b n : Nat} {t : Nat → El} (h : RowN W b n t) {i : Nat} (hi : i < n) : W.cell? ⟨b, i * 2 + 1, none⟩ = some (.int .i64 (t i).v.2) := by
  obtain ⟨N, h, hr, hN, he⟩ := h
  rw [World.rowIs.cell hr (by omega), he _ (by omega), pf_odd]; rfl
theorem RowN.congr {W : World} {b n : Nat} {t u : Nat → El} (h : RowN W b n t) (e : ∀ i, i < n → t i = u i) : RowN W b n u := by
  obtain ⟨N, h, hr, hN, he⟩ := h
  refine ⟨N, h, hr, hN, fun i hi => ?_⟩
  rw [he i hi]
  unfold pf cA cB
  rw [e (i / 2) (by omega)]
theorem RowN.set {W : World} {b n : Nat} {t : Nat → El} (h : RowN W b n t) (k : Nat) (x : El) : RowN ((W.setCell ⟨b, k * 2, none⟩ (.int .i64 x.v.1)).setCell ⟨b, k * 2 + 1, none⟩ (.int .i64 x.v.2)) b n (upE t k x) := by
  obtain ⟨N, h, hr, hN, he⟩ := h
  refine ⟨N, _, World.rowIs.set (World.rowIs.set hr (k * 2) _) (k * 2 + 1) _, hN, fun i hi => ?_⟩
  have h0 := he i hi
  by_cases e1 : i = k * 2 + 1
  · subst e1; simp [pf_odd, cB, upE]
  · by_cases e2 : i = k * 2
    · subst e2; simp [pf_even, cA, upE]
    · have e3 : ¬ i / 2 = k := by omega
      simp only [pf, cA, cB] at h0
      simp [e1, e2, pf, cA, cB, upE, e3, h0]


end Go.Proofs.YtnpmhfhgnnhclarDoor
