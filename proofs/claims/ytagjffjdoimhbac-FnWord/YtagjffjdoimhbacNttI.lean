/- What the model's EncodeWord answers: a contract. Conditions: lists that can be read, of at most 2 to the 40. -/
import Derived.Test.YtagjffjdoimhbacBdo
import Derived.Test.YtagjffjdoimhbacBdp
import Derived.Test.YtagjffjdoimhbacAppZ
namespace Go.Proofs.Ytagjffjdoimhbac
open Go.ChangeShapes Go.WideShapes Go.ChangeAt Go.RowKit
set_option linter.unusedVariables false
set_option maxRecDepth 100000
set_option linter.unusedSimpArgs false

theorem fit_list (t : Nat → El) (n k : Nat) : (List.range (n * 2)).map (pf (cA t) (cB t)) ++ zl k = (List.range ((n + k) * 2)).map (pf (cA (fitE t n zE)) (cB (fitE t n zE))) := by
  apply List.ext_getElem?
  intro i
  by_cases h1 : i < n * 2
  · rw [List.getElem?_append_left (by simpa using h1), List.getElem?_map, List.getElem?_range h1, List.getElem?_map, List.getElem?_range (by omega)]
    simp only [Option.map_some, Option.some.injEq]
    unfold pf cA cB fitE
    rw [if_pos (show i / 2 < n by omega)]
  · rw [List.getElem?_append_right (by simpa using Nat.le_of_not_lt h1)]
    simp only [List.length_map, List.length_range, zl]
    by_cases h2 : i < (n + k) * 2
    · rw [List.getElem?_map, List.getElem?_range (by omega), List.getElem?_map, List.getElem?_range h2]
      simp only [Option.map_some, Option.some.injEq]
      unfold pf cA cB fitE zE
      rw [if_neg (show ¬ i / 2 < n by omega)]
      split <;> rfl
    · rw [List.getElem?_eq_none (by simp; omega), List.getElem?_eq_none (by simp; omega)]
theorem ul_int : Try.prog.underlying 3 = some (.int .i64) := Try.underlying3

set_option maxHeartbeats 4000000 in
theorem sEncode_any {m q : Nat} (hmq : m + q ≤ 9) (c : Option Addr) (n cap : Nat) (t : Nat → El) (w : World) (HN : Hid (n = 2 ^ m)) (h : Hid (PairE w c n t)) :
    Calls Try.prog 81 #[.slice c n cap, .int .i64 (q : Int)] w fun e w' => SlAns w (n * 2 ^ q) (El.nt (m + q) (fitE t n zE) (El.rtE (m + q))) e w' := by
  have hn5 : n ≤ 512 := by rw [HN.out]; exact pow_le9 (by omega)
  have hn1 : 1 ≤ n := by rw [HN.out]; exact Nat.one_le_two_pow
  obtain ⟨z, hz⟩ : ∃ z, z = n * 2 ^ q := ⟨_, rfl⟩
  rw [← hz]
  have hsh : IntKind.i64.wrap ((n : Int) * 2 ^ q) = (z : Int) := by rw [hz]; exact shl9 hn5 (by omega)
  have HZP := hik (show z = 2 ^ (m + q) by rw [hz, HN.out, ← Nat.pow_add])
  have hz5 : z ≤ 512 := by rw [HZP.out]; exact pow_le9 hmq
  have hnz : n ≤ z := by rw [hz]; exact Nat.le_mul_of_pos_right n (Nat.two_pow_pos q)
  have hwq : IntKind.u64.wrap (q : Int) = (q : Int) := by rw [IntKind.wrap_u64]; omega
  have hq0 : (0 : Int) ≤ (q : Int) := by omega
  have hq9 : (q : Int) ≤ 9 := by omega
  obtain ⟨k, hk⟩ : ∃ k, k = z - n := ⟨_, rfl⟩
  have hwk : IntKind.i64.wrap ((z : Int) - (n : Int)) = (k : Int) := by rw [IntKind.wrap_i64]; omega
  have HK := hik (show n + k = z by omega)
  clear hz hk
  obtain ⟨xb, xo, ec, hxb, _, _⟩ := PairE.at_ h.out (show 0 < n by omega)
  subst ec
  obtain ⟨i0, hi, hz0, hz1, hz2⟩ := info_parts infoExt
  have HI := hik hi
  have HZ0 := hik hz0
  have HZ1 := hik hz1
  have HZ2 := hik hz2
  clear hi hz0 hz1 hz2
  have P0 := hik (PairE.keep h.out ((Chg.refl nob w).alloc (.cells #[] 31)))
  have hcs : ∀ j u, ((List.range (n * 2)).map (pf (cA t) (cB t)))[j]? = some u → (w.alloc (.cells #[] 31)).cell? ((⟨xb, xo, none⟩ : Addr).add j) = some u := by
    intro j v hj
    by_cases hjr : j < n * 2
    · rw [List.getElem?_map, List.getElem?_range hjr] at hj
      simp at hj
      subst hj
      rw [Go.WideShapes.add_plain]
      rcases (show j % 2 = 0 ∨ j % 2 = 1 by omega) with q | q
      · rw [show xo + j = xo + j / 2 * 2 by omega, P0.out.c0 (i := j / 2) (by omega)]
        unfold pf; rw [if_pos q]; rfl
      · rw [show xo + j = xo + j / 2 * 2 + 1 by omega, P0.out.c1 (i := j / 2) (by omega)]
        unfold pf; rw [if_neg (by omega)]; rfl
    · rw [List.getElem?_eq_none (by simp; omega)] at hj
      cases hj
  have HCS := hik hcs
  clear hcs
  go_enter Try.func81, Try.ntmps81
  go_wp2_with (at_builtin; refine wpList_append_grows _ rfl (.tmp 12) (.tmp 13) 24 rfl 31 i0 (.agg #[.int .i64 0, .int .i64 0]) 2 16 Try.underlying24 HI.out HZ0.out HZ1.out HZ2.out rfl (by decide) (some ⟨w.heap.size, 0, none⟩) 0 0 [] rfl (by intro h; cases h) rfl (by intro b _ j u h; simp at h) ⟨xb, xo, none⟩ n cap ((List.range (n * 2)).map (pf (cA t) (cB t))) rfl (by simp) HCS.out ?c1 (by omega) ?c2 ?c3 ?c4)
  case c1 =>
    intro u hu
    simp at hu
    obtain ⟨j, _, rfl⟩ := hu
    rfl
  case c2 => unfold maxLen; omega
  case c3 => omega
  case c4 =>
    intro v1 W1 o1 g1
    obtain ⟨b1, cp1, cur1, e1, _⟩ : ∃ b1 cp1 cur1, v1 = .slice (some ⟨b1, 0, none⟩) n cp1 ∧ W1.heap[b1]? = some (.cells cur1 31 (0, 0)) := by
      rcases o1.2 with ⟨_, h0⟩ | ⟨b, cp, cur, ev, _, hg, _⟩
      · omega
      · exact ⟨b, cp, cur, ev, hg⟩
    subst e1
    have O1 := hik o1
    have G1 := hik (((Chg.refl nob w).alloc (.cells #[] 31)).grown g1 (fun k e => by cases e))
    have hb1 : w.heap.size + 1 ≤ b1 := (o1.lt b1 rfl).1
    have hs1 : w.heap.size + 1 ≤ W1.heap.size := by have := g1.size; simpa using this
    clear o1 g1
    go_wp2_with (at_builtin; refine wpList_append_zeros _ rfl (.tmp 14) (.tmp 18) 24 3 rfl (w.heap.size + 1) 31 i0 Try.underlying24 ul_int HI.out HZ0.out HZ1.out HZ2.out _ n _ rfl O1.out hn1 k rfl (by rw [HK.out]; omega) hs1 ?c5)
    case c5 =>
      intro v2 W2 o2 g2
      rw [fit_list, HK.out] at o2
      obtain ⟨c2, cap2, e2, hc2, ho2⟩ := OwnE.of_owns o2
      subst e2
      have P2 := hik (show PairE W2 c2 z (fitE t n zE) from OwnE.pairs ho2)
      have G2 := hik (Chg.grown G1.out g2 (fun j e l => by simp [Value.ownBlock] at e; omega))
      clear o2 g2 ho2 O1 G1
      go_wp2_with fail
      refine (sVars_any hmq z HZP _).mono ?_
      rintro e W3 ⟨rfl, hw1⟩
      have hw1' := hw1.symm
      clear hw1
      subst hw1'
      go_wp2_with fail
      refine (sRoot_any hmq _).mono ?_
      rintro e W3 ⟨rfl, hw1⟩
      have hw1' := hw1.symm
      clear hw1
      subst hw1'
      go_wp2_with fail
      refine (sNtt_any (m + q) c2 z cap2 (fitE t n zE) (Fld.sq (24 - (m + q))) _ HZP.out P2 hmq (Fld.sq_lo _) (Fld.sq_hi _)).mono ?_
      rintro e W4 ⟨c', cap', rfl, h1c, h2c, ho, k4⟩
      have K4 := hik (G2.out.trans k4)
      have HO := hik ho
      have h2s := G2.out.size
      clear k4 ho
      go_wp2
      go_ret
      exact ⟨c', cap', rfl, h1c, h2c, OwnE.low HO.out h2s, K4.out⟩

set_option maxHeartbeats 2000000 in
theorem sEncX_any (c : Option Addr) (n cap : Nat) (f g : Nat → Int) (rate : Int) (w : World) (h : Hid (PairV w c n f g)) (hn : n ≤ 1099511627776) :
    Calls Try.prog 36 #[.slice c n cap, .int .i64 rate] w fun e w' => TbC w (ewc f g n rate) (ewn f g n rate) (ewv f g n rate) e w' := by
  by_cases hl : 4096 < n
  · have hl' : 4096 < (n : Int) := by omega
    have HC := hik (show ewc f g n rate = 2 by unfold ewc akc7; rw [if_pos hl]; rfl)
    have HM := hik (ewn_none HC.out (by decide))
    go_enter Try.func36, Try.ntmps36
    go_wp2
    go_ret2
    exact TbC.empty HC.out HM.out (by omega) ((Chg.refl _ _).alloc _)
  have hl' : ¬ 4096 < (n : Int) := by omega
  obtain ⟨k, hk⟩ : ∃ k, k = akc7 f g n := ⟨_, rfl⟩
  have HK := hik hk.symm
  by_cases h0 : k = 0
  · have HC0 := hik (show akc7 f g n = 0 by rw [← hk, h0])
    subst h0
    obtain ⟨hok, m, hm, hnm⟩ := akc7_ok HC0.out
    have hn5 : n ≤ 512 := by rw [hnm]; exact pow_le9 hm
    have HN := hik hnm
    have HP := hik (PairE.of h.out hok)
    clear hk hnm
    cases hr : inW rate 0 9
    · have HC := hik (show ewc f g n rate = 4 by
        unfold ewc
        rw [if_pos HC0.out, if_neg (fun q => by rw [inW, decide_eq_true ⟨q.1, q.2.1⟩] at hr; cases hr)])
      have HM := hik (ewn_none HC.out (by decide))
      go_enter Try.func36, Try.ntmps36
      go_wp2_with fail
      refine (sAsk7_any c n cap f g _ h hn).mono ?_
      rintro e W1 ⟨rfl, k1⟩
      rw [HK.out]
      have K1 := hik k1
      clear k1
      go_wp2_with fail
      refine (l01In_any rate 0 9 _).mono ?_
      rintro e W2 ⟨he, hw⟩
      rw [hr] at he
      subst he
      have hw' := hw.symm
      clear hw
      subst hw'
      go_wp2
      go_ret2
      exact TbC.empty HC.out HM.out (by omega) (K1.out.alloc _)
    · have hr' : 0 ≤ rate ∧ rate ≤ 9 := by unfold inW at hr; simpa using hr
      obtain ⟨r0, r9⟩ := hr'
      obtain ⟨q, hq⟩ : ∃ q : Nat, rate = (q : Int) := ⟨rate.toNat, by omega⟩
      subst hq
      have hq9 : q ≤ 9 := by omega
      obtain ⟨z, hz⟩ : ∃ z, z = n * 2 ^ q := ⟨_, rfl⟩
      have hsh : IntKind.i64.wrap ((n : Int) * 2 ^ q) = (z : Int) := by rw [hz]; exact shl9 hn5 hq9
      have hwq : IntKind.u64.wrap (q : Int) = (q : Int) := by rw [IntKind.wrap_u64]; omega
      have HZ := hik hz
      by_cases hz5 : z ≤ 512
      · have HC := hik (show ewc f g n (q : Int) = 0 by
          unfold ewc
          rw [if_pos HC0.out, if_pos ⟨r0, r9, by rw [Int.toNat_natCast, ← hz]; exact hz5⟩])
        have HM := hik (show ewn f g n (q : Int) = z by rw [ewn_all HC.out, Int.toNat_natCast, hz])
        have hz5' : ¬ (512 : Int) < (z : Int) := by omega
        have HZP := hik (show z = 2 ^ (m + q) by rw [hz, HN.out, ← Nat.pow_add])
        have hmq : m + q ≤ 9 := by
          by_cases e : m + q ≤ 9
          · exact e
          · have := Nat.pow_le_pow_right (show 1 ≤ 2 by omega) (show 10 ≤ m + q by omega)
            have e2 := HZP.out
            omega
        have HL := hik (show (n * 2 ^ ((q : Nat) : Int).toNat).log2 = m + q by rw [Int.toNat_natCast, ← hz, HZP.out, Nat.log2_two_pow])
        clear hz
        go_enter Try.func36, Try.ntmps36
        go_wp2_with fail
        refine (sAsk7_any c n cap f g _ h hn).mono ?_
        rintro e W1 ⟨rfl, k1⟩
        rw [HK.out]
        have K1 := hik k1
        clear k1
        go_wp2_with fail
        refine (l01In_any (q : Int) 0 9 _).mono ?_
        rintro e W2 ⟨he, hw⟩
        rw [hr] at he
        subst he
        have hw' := hw.symm
        clear hw
        subst hw'
        go_wp2_with fail
        refine (sEncode_any hmq c n cap (elF f g) _ HN (hik (HP.out.keep K1.out))).mono ?_
        rintro e W3 ⟨c', cap', rfl, h1c, h2c, ho, k3⟩
        rw [← HZ.out] at h1c ho ⊢
        have K3 := hik (K1.out.trans k3)
        have HO := hik ho
        have h1s := K1.out.size
        clear k3 ho
        go_wp2
        go_ret2
        exact TbC.some HC.out HM.out h1c h2c (OwnE.low (HO.out.congr (fun i hi => by
          have e2 : El.nt (m + q) (fitE (elF f g) n zE) (El.rtE (m + q)) i = ewv f g n (q : Int) i := by unfold ewv; rw [HL.out]
          unfold cA cB
          rw [e2]
          exact ⟨rfl, rfl⟩)) h1s) K3.out
      · have HC := hik (show ewc f g n (q : Int) = 4 by
          unfold ewc
          rw [if_pos HC0.out, if_neg (fun x => hz5 (by have := x.2.2; rw [Int.toNat_natCast, ← hz] at this; exact this))])
        have HM := hik (ewn_none HC.out (by decide))
        have hz5' : (512 : Int) < (z : Int) := by omega
        clear hz
        go_enter Try.func36, Try.ntmps36
        go_wp2_with fail
        refine (sAsk7_any c n cap f g _ h hn).mono ?_
        rintro e W1 ⟨rfl, k1⟩
        rw [HK.out]
        have K1 := hik k1
        clear k1
        go_wp2_with fail
        refine (l01In_any (q : Int) 0 9 _).mono ?_
        rintro e W2 ⟨he, hw⟩
        rw [hr] at he
        subst he
        have hw' := hw.symm
        clear hw
        subst hw'
        go_wp2
        go_ret2
        exact TbC.empty HC.out HM.out (by omega) (K1.out.alloc _)
  · have HC := hik (show ewc f g n rate = k by unfold ewc; rw [if_neg (by rw [← hk]; exact h0), ← hk])
    have HM := hik (ewn_none HC.out h0)
    have hb : (k != 0) = true := bne_iff_ne.2 h0
    clear hk
    go_enter Try.func36, Try.ntmps36
    go_wp2_with fail
    refine (sAsk7_any c n cap f g _ h hn).mono ?_
    rintro e W1 ⟨rfl, k1⟩
    rw [HK.out]
    have K1 := hik k1
    clear k1
    go_wp2
    go_ret2
    exact TbC.empty (k := k) HC.out HM.out (by omega) (K1.out.alloc _)

end Go.Proofs.Ytagjffjdoimhbac
