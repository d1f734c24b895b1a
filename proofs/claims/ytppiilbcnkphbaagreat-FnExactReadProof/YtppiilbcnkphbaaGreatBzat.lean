/- Several texts in one: What the program's roundsFit answers: a contract. Conditions: lists that can be read, lengths of at most 2 to the 20. · What the program's OpeningOK answers: contracts. Conditions: an opening that can be read, lengths of at most 2 to the 20. · Words on memory: whole arrays by value, out of rows and into rows. No program is named here. · What the program's ProofOK answers: a contract. Conditions: a proof and a system that can be read, lengths of at most 2 to the 20. -/
import Derived.Test.YtppiilbcnkphbaaGreatBzah
import Derived.Test.YtppiilbcnkphbaaGreatBzas
import Derived.Test.YtppiilbcnkphbaaGreatBzad
import Derived.Test.YtppiilbcnkphbaaGreatBzab
import Derived.WalkKit
import Derived.Laws.Rows
import Derived.Laws.Tables
import Derived.Deep.WholeRow
import Derived.Test.YtppiilbcnkphbaaGreatBzao
import Derived.Test.YtppiilbcnkphbaaGreatBzay
namespace Go.Proofs.YtppiilbcnkphbaaGreat
open Go.ChangeShapes Go.WideShapes Go.ChangeAt Go.RowKit
set_option linter.unusedVariables false
set_option maxRecDepth 100000
set_option linter.unusedSimpArgs false

theorem dgv_1 : dgv 1 = 2 := by decide
theorem dgv_2 : dgv 2 = 3 := by decide
set_option maxHeartbeats 2000000 in
theorem roundsFit_any (K D : Int) (M : Nat) (hD : Hid (dgv K = D)) (hM : (M : Int) = D + 1) (hM1 : M ≤ 10) (c : Option Addr) (n cap : Nat) (l : Nat → Nat) (f g : Nat → Nat → Int) (v : Int) (w : World) (h : Hid ((dEE n l f g).Rep w (.slice c n cap))) (hs : Hid ((dEE n l f g).small 1048576)) :
    Calls Tryz.prog 78 #[.int .i64 K, .slice c n cap, .int .i64 v] w fun e w' => e = .returned (.bool (rfB M v n l f g)) ∧ Chg nob w w' := by
  have hn : n ≤ 1048576 := hs.out.1
  have hDb : -1 ≤ D ∧ D ≤ 9 := by omega
  have HM := hik hM
  clear hM
  by_cases hv : (n : Int) = v
  · have HB := hik (show rfB M v n l f g = allN n (fun i => decide (l i = M) && okP (f i) (g i) (l i)) by unfold rfB; rw [decide_eq_true hv]; rfl)
    go_enter Tryz.func78, Tryz.ntmps78
    go_wp2_with fail
    refine (degX_any K _).mono ?_
    rintro e W0 ⟨he, k0⟩
    rw [hD.out] at he
    subst he
    have K0 := hik k0
    clear k0
    go_wp2
    go_loopw [22] (fun i W => ∃ k : Nat, k ≤ n ∧ i = .int .i64 (k : Int) ∧ Hid (∀ j, j < k → (decide (l j = M) && okP (f j) (g j) (l j)) = true) ∧ Hid (Chg nob w W)) (fun i _ => n - (intOf i).toNat)
    case atStart => exact ⟨0, Nat.zero_le _, rfl, hik (fun j hj => absurd hj (by omega)), K0⟩
    case round =>
      obtain ⟨k, hk, rfl, HL, HG⟩ := hrel
      rename World => wi
      by_cases hlt : k < n
      · have hk1 : (k : Int) < (n : Int) := by omega
        have hk0 : (0 : Int) ≤ (k : Int) := by omega
        obtain ⟨xb, xo, ec, hxb, hcc⟩ := (rep_list (h.out.keep HG.out)).2 k hlt
        obtain ⟨u, hc, hu⟩ := hcc 0 (by omega)
        obtain ⟨c1, p1, rfl, hP⟩ := hu
        subst ec
        rw [show xo + (k * 1 + 0) = xo + k by omega] at hc
        have PJ := hik hP
        have SK := hik (show l k ≤ 1048576 from hs.out.2 k 0 hlt (by omega))
        clear hP hcc
        by_cases e : (l k : Int) = D + 1
        · have HE := hik (show l k = M by have := HM.out; omega)
          cases ho : okP (f k) (g k) (l k)
          · have H1 := hik (show rfB M v n l f g = false by rw [HB.out]; exact allN_no hlt (by rw [ho]; simp))
            go_wp2_with (go_at_call 79; refine (extsOK_any c1 (l k) p1 (f k) (g k) _ PJ (by have := SK.out; omega)).mono ?_; rintro e W1 ⟨rfl, k1⟩; have G1 := hik (HG.out.trans k1); clear k1)
            go_ret
            exact ⟨ret_bool H1.out.symm, G1.out⟩
          · have H1 := hik (show (decide (l k = M) && okP (f k) (g k) (l k)) = true by rw [ho, decide_eq_true HE.out]; rfl)
            go_wp2_with (go_at_call 79; refine (extsOK_any c1 (l k) p1 (f k) (g k) _ PJ (by have := SK.out; omega)).mono ?_; rintro e W1 ⟨rfl, k1⟩; have G1 := hik (HG.out.trans k1); clear k1)
            go_roundw
            case rel => exact ⟨k + 1, by omega, by go_num, hik (fun j hj => by
              by_cases e : j = k
              · subst e; exact H1.out
              · exact HL.out j (by omega)), G1⟩
            case measure => simp [intOf]; omega
        · have H1 := hik (show rfB M v n l f g = false by rw [HB.out]; exact allN_no hlt (by rw [decide_eq_false (show ¬ l k = M by have := HM.out; omega)]; rfl))
          go_wp2
          go_ret
          exact ⟨ret_bool H1.out.symm, HG.out⟩
      · obtain ⟨m, hm⟩ : ∃ m, m = n := ⟨_, rfl⟩
        have hkm : k = m := by omega
        have hcc : ¬ (k : Int) < (n : Int) := by omega
        have H1 := hik (show rfB M v n l f g = true by rw [HB.out]; exact allN_yes (fun i hi => HL.out i (by omega)))
        clear hm hkm
        go_wp2
        go_ret
        exact ⟨ret_bool H1.out.symm, HG.out⟩
  · have HB := hik (show rfB M v n l f g = false by unfold rfB; rw [decide_eq_false hv]; rfl)
    go_enter Tryz.func78, Tryz.ntmps78
    go_wp2
    go_ret
    exact ⟨ret_bool HB.out.symm, Chg.refl _ _⟩

end Go.Proofs.YtppiilbcnkphbaaGreat

namespace Go.Proofs.YtppiilbcnkphbaaGreat
open Go.ChangeShapes Go.WideShapes Go.ChangeAt Go.RowKit
set_option linter.unusedVariables false
set_option maxRecDepth 100000
set_option linter.unusedSimpArgs false

set_option maxHeartbeats 1000000 in
theorem allHashes_any (c : Option Addr) (n cap : Nat) (L : Nat → ByteArray) (w : World) (h : Hid ((Dt.texts n L).Rep w (.slice c n cap))) (hs : Hid ((Dt.texts n L).small 1048576)) :
    Calls Tryz.prog 91 #[.slice c n cap] w fun e w' => e = .returned (.bool (hsB L n)) ∧ w' = w := by
  obtain ⟨_, _, e, hr⟩ := h.out
  cases e
  have HR := hik hr
  have hn : n ≤ 1048576 := hs.out.1
  clear hr h
  go_enter Tryz.func91, Tryz.ntmps91
  go_wp2
  go_loop [7] (fun i => ∃ k : Nat, k ≤ n ∧ i = .int .i64 (k : Int) ∧ Hid (∀ j, j < k → h32 (L j) = true)) (fun i => n - (intOf i).toNat)
  case atStart => exact ⟨0, Nat.zero_le _, rfl, hik (fun j hj => absurd hj (by omega))⟩
  case round =>
    obtain ⟨k, hk, rfl, HL⟩ := hrel
    by_cases hlt : k < n
    · obtain ⟨xb, xo, rfl, hxb, hcell⟩ := HR.out k hlt
      have hx : _ = some (Value.string (L k)) := hcell
      have hz := hs.out.2 k hlt
      clear hcell
      by_cases e : (L k).size = 32
      · have H1 := hik (show h32 (L k) = true from decide_eq_true e)
        go_wp2
        go_round
        case rel => exact ⟨k + 1, by omega, by go_num, hik (fun j hj => by
          by_cases e : j = k
          · subst e; exact H1.out
          · exact HL.out j (by omega))⟩
        case measure => simp [intOf]; omega
      · have H1 := hik (show hsB L n = false from allN_no hlt (decide_eq_false e))
        have e' : ¬ ((L k).size : Int) = 32 := by omega
        clear e
        go_wp2
        go_ret
        exact ⟨ret_bool H1.out.symm, rfl⟩
    · obtain rfl : n = k := by omega
      have H1 := hik (show hsB L n = true from allN_yes (fun i hi => HL.out i hi))
      go_wp2
      go_ret
      exact ⟨ret_bool H1.out.symm, rfl⟩

set_option maxHeartbeats 4000000 in
theorem queryRight_any (c : Option Addr) (cap : Nat) (c' : Option Addr) (cap' : Nat) (q : QD) (v r n g : Int) (w : World) (h : Hid (q.P.Rep w (.slice c q.np cap))) (h' : Hid (q.S.Rep w (.slice c' q.nq cap'))) (hs : Hid (q.P.small 1048576)) (hs' : Hid (q.S.small 1048576)) (v0 : 1 ≤ v) (v1 : v ≤ 6) (r0 : 1 ≤ r) (r1 : r ≤ 3) :
    Calls Tryz.prog 99 #[.agg #[.slice c q.np cap, .slice c' q.nq cap'], .int .i64 v, .agg #[.int .i64 r, .int .i64 n, .int .i64 g]] w fun e w' => e = .returned (.bool (qrB q v r)) ∧ Chg nob w w' := by
  have hnp : q.np ≤ 1048576 := hs.out
  have hnq : q.nq ≤ 1048576 := hs'.out.1
  obtain ⟨_, _, e, hp⟩ := h.out
  cases e
  have PP := hik hp
  clear hp h
  have K0 := hik (((Chg.refl nob w).alloc (.cells #[.slice c q.np cap, .slice c' q.nq cap'] 110)).alloc (.cells #[.int .i64 r, .int .i64 n, .int .i64 g] 45))
  have R0 := hik (rowIs_keep (row2_new w (.slice c q.np cap) (.slice c' q.nq cap') 110) ((Chg.refl nob _).alloc (.cells #[.int .i64 r, .int .i64 n, .int .i64 g] 45)))
  have R1 := hik (rowN_new (w.alloc (.cells #[.slice c q.np cap, .slice c' q.nq cap'] 110)) 3 #[.int .i64 r, .int .i64 n, .int .i64 g] 45 rfl)
  rw [asz] at R1
  by_cases e1 : (q.np : Int) = 2 * v
  · cases e2 : okP q.f q.g q.np
    · have HB := hik (show qrB q v r = false by unfold qrB; rw [e2]; simp)
      go_enter Tryz.func99, Tryz.ntmps99
      go_wp2_with (go_at_call 79; refine (extsOK_any c q.np cap q.f q.g _ (hik (PP.out.keep K0.out)) (by omega)).mono ?_; rintro e W1 ⟨rfl, k1⟩; have K1 := hik k1; clear k1)
      go_ret
      exact ⟨ret_bool HB.out.symm, K0.out.trans K1.out⟩
    · by_cases e3 : (q.nq : Int) = v
      · have HB := hik (show qrB q v r = allN q.nq (fun j => ptB v r (q.l j) (q.T j) j) by unfold qrB; rw [e2, decide_eq_true e1, decide_eq_true e3]; rfl)
        go_enter Tryz.func99, Tryz.ntmps99
        go_wp2_with fail
        generalize hW : (w.alloc (.cells #[.slice c q.np cap, .slice c' q.nq cap'] 110)).alloc (.cells #[.int .i64 r, .int .i64 n, .int .i64 g] 45) = W0 at K0 R0 R1 ⊢
        clear hW
        refine (extsOK_any c q.np cap q.f q.g _ (hik (PP.out.keep K0.out)) (by omega)).mono ?_
        rintro e W1 ⟨rfl, k1⟩
        have G1 := hik (K0.out.trans k1)
        replace R0 := hik (rowIs_keep R0.out k1)
        replace R1 := hik (rowIs_keep R1.out k1)
        clear k1
        have x1 := row2_c1 R0.out
        go_wp2
        clear x1
        go_loopw [31] (fun i W => ∃ k : Nat, k ≤ q.nq ∧ i = .int .i64 (k : Int) ∧ Hid (∀ j, j < k → ptB v r (q.l j) (q.T j) j = true) ∧ Hid (Chg nob W1 W)) (fun i _ => q.nq - (intOf i).toNat)
        case atStart => exact ⟨0, Nat.zero_le _, rfl, hik (fun j hj => absurd hj (by omega)), hik (Chg.refl _ _)⟩
        case round =>
          obtain ⟨k, hk, rfl, HL, HG⟩ := hrel
          rename World => wi
          by_cases hlt : k < q.nq
          · have hk1 : (k : Int) < (q.nq : Int) := by omega
            have hk0 : (0 : Int) ≤ (k : Int) := by omega
            have hk6 : (k : Int) ≤ 6 := by omega
            have GW := hik (G1.out.trans HG.out)
            obtain ⟨xb, xo, ec, hxb, hcc⟩ := (rep_list (h'.out.keep GW.out)).2 k hlt
            obtain ⟨u, hc, hu⟩ := hcc 0 (by omega)
            have hu0 := hu
            obtain ⟨c1, p1, rfl, hP⟩ := hu
            subst ec
            rw [show xo + (k * 1 + 0) = xo + k by omega] at hc
            have PJ := hik hu0
            have SK := hik (show (Dt.texts (q.l k) (q.T k)).small 1048576 from hs'.out.2 k 0 hlt (by omega))
            clear hP hcc hu0
            have s0 : wi.cell? ⟨w.heap.size + 1, 0, none⟩ = some (.int .i64 r) := HG.out.look (R1.out.cell (i := 0) (by omega))
            have s1 : wi.cell? ⟨w.heap.size + 1, 1, none⟩ = some (.int .i64 n) := HG.out.look (R1.out.cell (i := 1) (by omega))
            have s2 : wi.cell? ⟨w.heap.size + 1, 2, none⟩ = some (.int .i64 g) := HG.out.look (R1.out.cell (i := 2) (by omega))
            have hz1 := Nat.lt_of_lt_of_le R1.out.lt HG.out.size
            by_cases e : (q.l k : Int) = v + r - 1 - (k : Int)
            · cases ho : hsB (q.T k) (q.l k)
              · have H1 := hik (show qrB q v r = false by rw [HB.out]; exact allN_no hlt (by unfold ptB; rw [ho]; simp))
                go_wp2_with (first | (go_at_call 73; refine (pathLength_any _ _ _ _ _ _ (by omega) (by omega) (by omega) (by omega) (by omega) (by omega)).mono ?_; rintro e w2 ⟨rfl, rfl⟩) | (go_at_call 91; refine (allHashes_any c1 (q.l k) p1 (q.T k) _ (hik (PJ.out.keep ((Chg.refl nob _).alloc _))) SK).mono ?_; rintro e w3 ⟨rfl, hw⟩; have hw := hw.symm; subst hw))
                go_ret
                exact ⟨ret_bool H1.out.symm, (GW.out).alloc _⟩
              · have H1 := hik (show ptB v r (q.l k) (q.T k) k = true by unfold ptB; rw [ho, decide_eq_true e]; rfl)
                go_wp2_with (first | (go_at_call 73; refine (pathLength_any _ _ _ _ _ _ (by omega) (by omega) (by omega) (by omega) (by omega) (by omega)).mono ?_; rintro e w2 ⟨rfl, rfl⟩) | (go_at_call 91; refine (allHashes_any c1 (q.l k) p1 (q.T k) _ (hik (PJ.out.keep ((Chg.refl nob _).alloc _))) SK).mono ?_; rintro e w3 ⟨rfl, hw⟩; have hw := hw.symm; subst hw))
                go_roundw
                case rel => exact ⟨k + 1, by omega, by go_num, hik (fun j hj => by
                  by_cases e : j = k
                  · subst e; exact H1.out
                  · exact HL.out j (by omega)), hik (HG.out.alloc _)⟩
                case measure => simp [intOf]; omega
            · have H1 := hik (show qrB q v r = false by rw [HB.out]; exact allN_no hlt (by unfold ptB; rw [decide_eq_false e]; rfl))
              go_wp2_with (first | (go_at_call 73; refine (pathLength_any _ _ _ _ _ _ (by omega) (by omega) (by omega) (by omega) (by omega) (by omega)).mono ?_; rintro e w2 ⟨rfl, rfl⟩))
              go_ret
              exact ⟨ret_bool H1.out.symm, (GW.out).alloc _⟩
          · have hcc : ¬ (k : Int) < (q.nq : Int) := by omega
            have H1 := hik (show qrB q v r = true by rw [HB.out]; exact allN_yes (fun i hi => HL.out i (by omega)))
            go_wp2
            go_ret
            exact ⟨ret_bool H1.out.symm, G1.out.trans HG.out⟩
      · have HB := hik (show qrB q v r = false by unfold qrB; rw [decide_eq_false e3]; simp)
        go_enter Tryz.func99, Tryz.ntmps99
        go_wp2_with fail
        generalize hW : (w.alloc (.cells #[.slice c q.np cap, .slice c' q.nq cap'] 110)).alloc (.cells #[.int .i64 r, .int .i64 n, .int .i64 g] 45) = W0 at K0 R0 R1 ⊢
        clear hW
        refine (extsOK_any c q.np cap q.f q.g _ (hik (PP.out.keep K0.out)) (by omega)).mono ?_
        rintro e W1 ⟨rfl, k1⟩
        have G1 := hik (K0.out.trans k1)
        replace R0 := hik (rowIs_keep R0.out k1)
        clear k1
        have x1 := row2_c1 R0.out
        go_wp2
        go_ret
        exact ⟨ret_bool HB.out.symm, G1.out⟩
  · have HB := hik (show qrB q v r = false by unfold qrB; rw [decide_eq_false e1]; rfl)
    go_enter Tryz.func99, Tryz.ntmps99
    go_wp2
    go_ret
    exact ⟨ret_bool HB.out.symm, K0.out⟩

set_option maxHeartbeats 4000000 in
theorem queriesOK_any (o : OD) (cR : Option Addr) (pR : Nat) (cT : Option Addr) (pT : Nat) (cQ : Option Addr) (pQ : Nat) (v r n g : Int) (w : World) (h : Hid (o.Q.Rep w (.slice cQ o.nq pQ))) (hs : Hid (o.Q.small 1048576)) (v0 : 1 ≤ v) (v1 : v ≤ 6) (r0 : 1 ≤ r) (r1 : r ≤ 3) :
    Calls Tryz.prog 92 #[.agg #[.slice cR o.nr pR, .slice cT o.nt pT, .int .i64 o.la, .int .i64 o.lb, .int .i64 o.no, .slice cQ o.nq pQ], .int .i64 v, .agg #[.int .i64 r, .int .i64 n, .int .i64 g]] w fun e w' => e = .returned (.bool (qsB o v r n)) ∧ Chg nob w w' := by
  have hn : o.nq ≤ 1048576 := hs.out.1
  have K0 := hik (((Chg.refl nob w).alloc (.cells #[.slice cR o.nr pR, .slice cT o.nt pT, .int .i64 o.la, .int .i64 o.lb, .int .i64 o.no, .slice cQ o.nq pQ] 35)).alloc (.cells #[.int .i64 r, .int .i64 n, .int .i64 g] 45))
  have R1 := hik (rowN_new (w.alloc (.cells #[.slice cR o.nr pR, .slice cT o.nt pT, .int .i64 o.la, .int .i64 o.lb, .int .i64 o.no, .slice cQ o.nq pQ] 35)) 3 #[.int .i64 r, .int .i64 n, .int .i64 g] 45 rfl)
  rw [asz] at R1
  by_cases hv : (o.nq : Int) = n
  · have HB := hik (show qsB o v r n = allN o.nq (fun i => qrB (o.q i) v r) by unfold qsB; rw [decide_eq_true hv]; rfl)
    go_enter Tryz.func92, Tryz.ntmps92
    go_wp2
    generalize hW : (w.alloc (.cells #[.slice cR o.nr pR, .slice cT o.nt pT, .int .i64 o.la, .int .i64 o.lb, .int .i64 o.no, .slice cQ o.nq pQ] 35)).alloc (.cells #[.int .i64 r, .int .i64 n, .int .i64 g] 45) = W0 at K0 R1 ⊢
    clear hW
    go_loopw [18] (fun i W => ∃ k : Nat, k ≤ o.nq ∧ i = .int .i64 (k : Int) ∧ Hid (∀ j, j < k → qrB (o.q j) v r = true) ∧ Hid (Chg nob W0 W)) (fun i _ => o.nq - (intOf i).toNat)
    case atStart => exact ⟨0, Nat.zero_le _, rfl, hik (fun j hj => absurd hj (by omega)), hik (Chg.refl _ _)⟩
    case round =>
      obtain ⟨k, hk, rfl, HL, HG⟩ := hrel
      rename World => wi
      by_cases hlt : k < o.nq
      · have hk1 : (k : Int) < (o.nq : Int) := by omega
        have hk0 : (0 : Int) ≤ (k : Int) := by omega
        have GW := hik (K0.out.trans HG.out)
        obtain ⟨xb, xo, ca, pa, cb, pb, ec, hxb, hc0, hc1, hP, hS⟩ := dQs_at (h.out.keep GW.out) hlt
        subst ec
        have PJ := hik (hP.keep ((Chg.refl nob wi).alloc (.cells #[.slice ca (o.q k).np pa, .slice cb (o.q k).nq pb] 110)))
        have SJ := hik (hS.keep ((Chg.refl nob wi).alloc (.cells #[.slice ca (o.q k).np pa, .slice cb (o.q k).nq pb] 110)))
        have S0 := hik (show (o.q k).P.small 1048576 from hs.out.2 k 0 hlt (by omega))
        have S1 := hik (show (o.q k).S.small 1048576 from hs.out.2 k 1 hlt (by omega))
        have KA := hik ((Chg.refl nob wi).alloc (.cells #[.slice ca (o.q k).np pa, .slice cb (o.q k).nq pb] 110))
        clear hP hS
        have s0 : wi.cell? ⟨w.heap.size + 1, 0, none⟩ = some (.int .i64 r) := HG.out.look (R1.out.cell (i := 0) (by omega))
        have s1 : wi.cell? ⟨w.heap.size + 1, 1, none⟩ = some (.int .i64 n) := HG.out.look (R1.out.cell (i := 1) (by omega))
        have s2 : wi.cell? ⟨w.heap.size + 1, 2, none⟩ = some (.int .i64 g) := HG.out.look (R1.out.cell (i := 2) (by omega))
        have hz1 := Nat.lt_of_lt_of_le R1.out.lt HG.out.size
        cases hq : qrB (o.q k) v r
        · have H1 := hik (show qsB o v r n = false by rw [HB.out]; exact allN_no hlt hq)
          go_wp2_with (go_at_call 99; refine (queryRight_any ca pa cb pb (o.q k) v r n g _ PJ SJ S0 S1 v0 v1 r0 r1).mono ?_; rintro e W2 ⟨rfl, k2⟩; have G2 := hik ((GW.out.trans KA.out).trans k2); clear k2)
          go_ret
          exact ⟨ret_bool H1.out.symm, G2.out⟩
        · go_wp2_with (go_at_call 99; refine (queryRight_any ca pa cb pb (o.q k) v r n g _ PJ SJ S0 S1 v0 v1 r0 r1).mono ?_; rintro e W2 ⟨rfl, k2⟩; have G2 := hik ((HG.out.trans KA.out).trans k2); clear k2)
          have H1 := hik hq
          go_roundw
          case rel => exact ⟨k + 1, by omega, by go_num, hik (fun j hj => by
            by_cases e : j = k
            · subst e; exact H1.out
            · exact HL.out j (by omega)), G2⟩
          case measure => simp [intOf]; omega
      · have hcc : ¬ (k : Int) < (o.nq : Int) := by omega
        have H1 := hik (show qsB o v r n = true by rw [HB.out]; exact allN_yes (fun i hi => HL.out i (by omega)))
        go_wp2
        go_ret
        exact ⟨ret_bool H1.out.symm, K0.out.trans HG.out⟩
  · have HB := hik (show qsB o v r n = false by unfold qsB; rw [decide_eq_false hv]; rfl)
    go_enter Tryz.func92, Tryz.ntmps92
    go_wp2
    go_ret
    exact ⟨ret_bool HB.out.symm, K0.out⟩

set_option maxHeartbeats 8000000 in
theorem openingOK_any (o : OD) (cR : Option Addr) (pR : Nat) (cT : Option Addr) (pT : Nat) (cQ : Option Addr) (pQ : Nat) (v r n g : Int) (w : World) (h : Hid (OpV w o cR pR cT pT cQ pQ)) (hs : Hid o.small) :
    Calls Tryz.prog 81 #[.agg #[.slice cR o.nr pR, .slice cT o.nt pT, .int .i64 o.la, .int .i64 o.lb, .int .i64 o.no, .slice cQ o.nq pQ], .int .i64 v, .agg #[.int .i64 r, .int .i64 n, .int .i64 g]] w fun e w' => e = .returned (.bool (ook o v r n g)) ∧ Chg nob w w' := by
  have hn : o.nt ≤ 1048576 := hs.out.2.1.1
  have K0 := hik (((Chg.refl nob w).alloc (.cells #[.slice cR o.nr pR, .slice cT o.nt pT, .int .i64 o.la, .int .i64 o.lb, .int .i64 o.no, .slice cQ o.nq pQ] 35)).alloc (.cells #[.int .i64 r, .int .i64 n, .int .i64 g] 45))
  have R0 := hik (rowN_new w 6 #[.slice cR o.nr pR, .slice cT o.nt pT, .int .i64 o.la, .int .i64 o.lb, .int .i64 o.no, .slice cQ o.nq pQ] 35 rfl)
  cases b0 : stb r n g
  · have HB := hik (show ook o v r n g = false by unfold ook; simp [*])
    go_enter Tryz.func81, Tryz.ntmps81
    go_wp2_with (first | (go_at_call 42; refine (settingOK_any _ _ _ _).mono ?_; rintro e W1 ⟨rfl, k1⟩; have G1 := hik (K0.out.trans k1); have r0a := R0.out.cell (i := 0) (by omega); clear r0a; obtain ⟨hc, hf, hz⟩ := kcell k1 (w.heap.size + 2) (by simp); clear k1))
    go_ret
    exact ⟨ret_bool (by first | exact HB.out.symm | (rw [HB.out]; simp; omega)), G1.out⟩
  · have SP := hik (stb_parts b0)
    cases b1 : vrB v
    · have HB := hik (show ook o v r n g = false by unfold ook; simp [*])
      go_enter Tryz.func81, Tryz.ntmps81
      go_wp2_with (first | (go_at_call 42; refine (settingOK_any _ _ _ _).mono ?_; rintro e W1 ⟨rfl, k1⟩; have G1 := hik (K0.out.trans k1); have r0a := R0.out.cell (i := 0) (by omega); clear r0a; obtain ⟨hc, hf, hz⟩ := kcell k1 (w.heap.size + 2) (by simp); clear k1) | (go_at_call 72; refine (isOpenVars_any _ _).mono ?_; rintro e W2 ⟨rfl, hw⟩; have hw := hw.symm; subst hw))
      go_ret
      exact ⟨ret_bool (by first | exact HB.out.symm | (rw [HB.out]; simp; omega)), G1.out⟩
    · have VP := hik (vrB_parts b1)
      have vv0 : 0 ≤ v := by have := VP.out; omega
      have vv1 : v ≤ 6 := by have := VP.out; omega
      cases b2 : rnB o v
      · have HB := hik (show ook o v r n g = false by unfold ook; simp [*])
        have hv1 : v - 1 ≤ 9223372036854775807 := by have := VP.out; omega
        go_enter Tryz.func81, Tryz.ntmps81
        go_wp2_with (first | (go_at_call 42; refine (settingOK_any _ _ _ _).mono ?_; rintro e W1 ⟨rfl, k1⟩; have G1 := hik (K0.out.trans k1); have r0a := R0.out.cell (i := 0) (by omega); clear r0a; obtain ⟨hc, hf, hz⟩ := kcell k1 (w.heap.size + 2) (by simp); clear k1) | (go_at_call 72; refine (isOpenVars_any _ _).mono ?_; rintro e W2 ⟨rfl, hw⟩; have hw := hw.symm; subst hw) | (go_at_call 78; refine (roundsFit_any 1 2 3 (hik dgv_1) (by omega) (by omega) cR o.nr pR o.rl o.rf o.rg v _ (hik (h.out.1.keep G1.out)) (hik hs.out.1)).mono ?_; rintro e W3 ⟨he3, k3⟩; rw [rfB_3] at he3; subst he3; have G3 := hik (G1.out.trans k3); obtain ⟨hc3, hf3, hz3⟩ := kcell k3 (w.heap.size + 2) (by first | assumption | simp); clear k3))
        go_ret
        exact ⟨ret_bool (by first | exact HB.out.symm | (rw [HB.out]; simp; omega)), G3.out⟩
      · by_cases b3 : (o.nt : Int) = v - 1
        · cases b4 : hsB o.ts o.nt
          · have HB := hik (show ook o v r n g = false by unfold ook; simp [*])
            have hv1 : v - 1 ≤ 9223372036854775807 := by have := VP.out; omega
            go_enter Tryz.func81, Tryz.ntmps81
            go_wp2_with (first | (go_at_call 42; refine (settingOK_any _ _ _ _).mono ?_; rintro e W1 ⟨rfl, k1⟩; have G1 := hik (K0.out.trans k1); have r0a := R0.out.cell (i := 0) (by omega); clear r0a; obtain ⟨hc, hf, hz⟩ := kcell k1 (w.heap.size + 2) (by simp); clear k1) | (go_at_call 72; refine (isOpenVars_any _ _).mono ?_; rintro e W2 ⟨rfl, hw⟩; have hw := hw.symm; subst hw) | (go_at_call 78; refine (roundsFit_any 1 2 3 (hik dgv_1) (by omega) (by omega) cR o.nr pR o.rl o.rf o.rg v _ (hik (h.out.1.keep G1.out)) (hik hs.out.1)).mono ?_; rintro e W3 ⟨he3, k3⟩; rw [rfB_3] at he3; subst he3; have G3 := hik (G1.out.trans k3); obtain ⟨hc3, hf3, hz3⟩ := kcell k3 (w.heap.size + 2) (by first | assumption | simp); clear k3) | (go_at_call 91; refine (allHashes_any cT o.nt pT o.ts _ (hik (h.out.2.1.keep G3.out)) (hik hs.out.2.1)).mono ?_; rintro e W4 ⟨rfl, hw⟩; have hw := hw.symm; subst hw))
            go_ret
            exact ⟨ret_bool (by first | exact HB.out.symm | (rw [HB.out]; simp; omega)), G3.out⟩
          · cases b5 : eok o.la o.lb
            · have HB := hik (show ook o v r n g = false by unfold ook; simp [*])
              have hv1 : v - 1 ≤ 9223372036854775807 := by have := VP.out; omega
              go_enter Tryz.func81, Tryz.ntmps81
              go_wp2_with (first | (go_at_call 42; refine (settingOK_any _ _ _ _).mono ?_; rintro e W1 ⟨rfl, k1⟩; have G1 := hik (K0.out.trans k1); have r0a := R0.out.cell (i := 0) (by omega); clear r0a; obtain ⟨hc, hf, hz⟩ := kcell k1 (w.heap.size + 2) (by simp); clear k1) | (go_at_call 72; refine (isOpenVars_any _ _).mono ?_; rintro e W2 ⟨rfl, hw⟩; have hw := hw.symm; subst hw) | (go_at_call 78; refine (roundsFit_any 1 2 3 (hik dgv_1) (by omega) (by omega) cR o.nr pR o.rl o.rf o.rg v _ (hik (h.out.1.keep G1.out)) (hik hs.out.1)).mono ?_; rintro e W3 ⟨he3, k3⟩; rw [rfB_3] at he3; subst he3; have G3 := hik (G1.out.trans k3); obtain ⟨hc3, hf3, hz3⟩ := kcell k3 (w.heap.size + 2) (by first | assumption | simp); clear k3) | (go_at_call 91; refine (allHashes_any cT o.nt pT o.ts _ (hik (h.out.2.1.keep G3.out)) (hik hs.out.2.1)).mono ?_; rintro e W4 ⟨rfl, hw⟩; have hw := hw.symm; subst hw) | (go_at_call 80; refine (extOK_any o.la o.lb _).mono ?_; rintro e W5 ⟨rfl, k5⟩; have G5 := hik (G3.out.trans k5); obtain ⟨hc5, hf5, hz5⟩ := kcell k5 (w.heap.size + 2) (by first | assumption | simp); clear k5))
              go_ret
              exact ⟨ret_bool (by first | exact HB.out.symm | (rw [HB.out]; simp; omega)), G5.out⟩
            · by_cases b6 : 0 ≤ o.no
              · by_cases b7 : o.no < 65536
                · cases b8 : qsB o v r n
                  · have HB := hik (show ook o v r n g = false by unfold ook; simp [*])
                    have hv1 : v - 1 ≤ 9223372036854775807 := by have := VP.out; omega
                    go_enter Tryz.func81, Tryz.ntmps81
                    go_wp2_with (first | (go_at_call 42; refine (settingOK_any _ _ _ _).mono ?_; rintro e W1 ⟨rfl, k1⟩; have G1 := hik (K0.out.trans k1); have r0a := R0.out.cell (i := 0) (by omega); clear r0a; obtain ⟨hc, hf, hz⟩ := kcell k1 (w.heap.size + 2) (by simp); clear k1) | (go_at_call 72; refine (isOpenVars_any _ _).mono ?_; rintro e W2 ⟨rfl, hw⟩; have hw := hw.symm; subst hw) | (go_at_call 78; refine (roundsFit_any 1 2 3 (hik dgv_1) (by omega) (by omega) cR o.nr pR o.rl o.rf o.rg v _ (hik (h.out.1.keep G1.out)) (hik hs.out.1)).mono ?_; rintro e W3 ⟨he3, k3⟩; rw [rfB_3] at he3; subst he3; have G3 := hik (G1.out.trans k3); obtain ⟨hc3, hf3, hz3⟩ := kcell k3 (w.heap.size + 2) (by first | assumption | simp); clear k3) | (go_at_call 91; refine (allHashes_any cT o.nt pT o.ts _ (hik (h.out.2.1.keep G3.out)) (hik hs.out.2.1)).mono ?_; rintro e W4 ⟨rfl, hw⟩; have hw := hw.symm; subst hw) | (go_at_call 80; refine (extOK_any o.la o.lb _).mono ?_; rintro e W5 ⟨rfl, k5⟩; have G5 := hik (G3.out.trans k5); obtain ⟨hc5, hf5, hz5⟩ := kcell k5 (w.heap.size + 2) (by first | assumption | simp); clear k5) | (go_at_call 92; refine (queriesOK_any o cR pR cT pT cQ pQ v r n g _ (hik (h.out.2.2.keep G5.out)) (hik hs.out.2.2) VP.out.1 VP.out.2 SP.out.1.1 SP.out.1.2).mono ?_; rintro e W6 ⟨rfl, k6⟩; have G6 := hik (G5.out.trans k6); clear k6))
                    go_ret
                    exact ⟨ret_bool (by first | exact HB.out.symm | (rw [HB.out]; simp; omega)), G6.out⟩
                  · have HB := hik (show ook o v r n g = true by unfold ook; simp [*])
                    have hv1 : v - 1 ≤ 9223372036854775807 := by have := VP.out; omega
                    go_enter Tryz.func81, Tryz.ntmps81
                    go_wp2_with (first | (go_at_call 42; refine (settingOK_any _ _ _ _).mono ?_; rintro e W1 ⟨rfl, k1⟩; have G1 := hik (K0.out.trans k1); have r0a := R0.out.cell (i := 0) (by omega); clear r0a; obtain ⟨hc, hf, hz⟩ := kcell k1 (w.heap.size + 2) (by simp); clear k1) | (go_at_call 72; refine (isOpenVars_any _ _).mono ?_; rintro e W2 ⟨rfl, hw⟩; have hw := hw.symm; subst hw) | (go_at_call 78; refine (roundsFit_any 1 2 3 (hik dgv_1) (by omega) (by omega) cR o.nr pR o.rl o.rf o.rg v _ (hik (h.out.1.keep G1.out)) (hik hs.out.1)).mono ?_; rintro e W3 ⟨he3, k3⟩; rw [rfB_3] at he3; subst he3; have G3 := hik (G1.out.trans k3); obtain ⟨hc3, hf3, hz3⟩ := kcell k3 (w.heap.size + 2) (by first | assumption | simp); clear k3) | (go_at_call 91; refine (allHashes_any cT o.nt pT o.ts _ (hik (h.out.2.1.keep G3.out)) (hik hs.out.2.1)).mono ?_; rintro e W4 ⟨rfl, hw⟩; have hw := hw.symm; subst hw) | (go_at_call 80; refine (extOK_any o.la o.lb _).mono ?_; rintro e W5 ⟨rfl, k5⟩; have G5 := hik (G3.out.trans k5); obtain ⟨hc5, hf5, hz5⟩ := kcell k5 (w.heap.size + 2) (by first | assumption | simp); clear k5) | (go_at_call 92; refine (queriesOK_any o cR pR cT pT cQ pQ v r n g _ (hik (h.out.2.2.keep G5.out)) (hik hs.out.2.2) VP.out.1 VP.out.2 SP.out.1.1 SP.out.1.2).mono ?_; rintro e W6 ⟨rfl, k6⟩; have G6 := hik (G5.out.trans k6); clear k6))
                    go_ret
                    exact ⟨ret_bool (by first | exact HB.out.symm | (rw [HB.out]; simp; omega)), G6.out⟩
                · have HB := hik (show ook o v r n g = false by unfold ook; simp [*])
                  have hv1 : v - 1 ≤ 9223372036854775807 := by have := VP.out; omega
                  go_enter Tryz.func81, Tryz.ntmps81
                  go_wp2_with (first | (go_at_call 42; refine (settingOK_any _ _ _ _).mono ?_; rintro e W1 ⟨rfl, k1⟩; have G1 := hik (K0.out.trans k1); have r0a := R0.out.cell (i := 0) (by omega); clear r0a; obtain ⟨hc, hf, hz⟩ := kcell k1 (w.heap.size + 2) (by simp); clear k1) | (go_at_call 72; refine (isOpenVars_any _ _).mono ?_; rintro e W2 ⟨rfl, hw⟩; have hw := hw.symm; subst hw) | (go_at_call 78; refine (roundsFit_any 1 2 3 (hik dgv_1) (by omega) (by omega) cR o.nr pR o.rl o.rf o.rg v _ (hik (h.out.1.keep G1.out)) (hik hs.out.1)).mono ?_; rintro e W3 ⟨he3, k3⟩; rw [rfB_3] at he3; subst he3; have G3 := hik (G1.out.trans k3); obtain ⟨hc3, hf3, hz3⟩ := kcell k3 (w.heap.size + 2) (by first | assumption | simp); clear k3) | (go_at_call 91; refine (allHashes_any cT o.nt pT o.ts _ (hik (h.out.2.1.keep G3.out)) (hik hs.out.2.1)).mono ?_; rintro e W4 ⟨rfl, hw⟩; have hw := hw.symm; subst hw) | (go_at_call 80; refine (extOK_any o.la o.lb _).mono ?_; rintro e W5 ⟨rfl, k5⟩; have G5 := hik (G3.out.trans k5); obtain ⟨hc5, hf5, hz5⟩ := kcell k5 (w.heap.size + 2) (by first | assumption | simp); clear k5))
                  go_ret
                  exact ⟨ret_bool (by first | exact HB.out.symm | (rw [HB.out]; simp; omega)), G5.out⟩
              · have HB := hik (show ook o v r n g = false by unfold ook; simp [*])
                have hv1 : v - 1 ≤ 9223372036854775807 := by have := VP.out; omega
                go_enter Tryz.func81, Tryz.ntmps81
                go_wp2_with (first | (go_at_call 42; refine (settingOK_any _ _ _ _).mono ?_; rintro e W1 ⟨rfl, k1⟩; have G1 := hik (K0.out.trans k1); have r0a := R0.out.cell (i := 0) (by omega); clear r0a; obtain ⟨hc, hf, hz⟩ := kcell k1 (w.heap.size + 2) (by simp); clear k1) | (go_at_call 72; refine (isOpenVars_any _ _).mono ?_; rintro e W2 ⟨rfl, hw⟩; have hw := hw.symm; subst hw) | (go_at_call 78; refine (roundsFit_any 1 2 3 (hik dgv_1) (by omega) (by omega) cR o.nr pR o.rl o.rf o.rg v _ (hik (h.out.1.keep G1.out)) (hik hs.out.1)).mono ?_; rintro e W3 ⟨he3, k3⟩; rw [rfB_3] at he3; subst he3; have G3 := hik (G1.out.trans k3); obtain ⟨hc3, hf3, hz3⟩ := kcell k3 (w.heap.size + 2) (by first | assumption | simp); clear k3) | (go_at_call 91; refine (allHashes_any cT o.nt pT o.ts _ (hik (h.out.2.1.keep G3.out)) (hik hs.out.2.1)).mono ?_; rintro e W4 ⟨rfl, hw⟩; have hw := hw.symm; subst hw) | (go_at_call 80; refine (extOK_any o.la o.lb _).mono ?_; rintro e W5 ⟨rfl, k5⟩; have G5 := hik (G3.out.trans k5); obtain ⟨hc5, hf5, hz5⟩ := kcell k5 (w.heap.size + 2) (by first | assumption | simp); clear k5))
                go_ret
                exact ⟨ret_bool (by first | exact HB.out.symm | (rw [HB.out]; simp; omega)), G5.out⟩
        · have HB := hik (show ook o v r n g = false by unfold ook; simp [*])
          have hv1 : v - 1 ≤ 9223372036854775807 := by have := VP.out; omega
          go_enter Tryz.func81, Tryz.ntmps81
          go_wp2_with (first | (go_at_call 42; refine (settingOK_any _ _ _ _).mono ?_; rintro e W1 ⟨rfl, k1⟩; have G1 := hik (K0.out.trans k1); have r0a := R0.out.cell (i := 0) (by omega); clear r0a; obtain ⟨hc, hf, hz⟩ := kcell k1 (w.heap.size + 2) (by simp); clear k1) | (go_at_call 72; refine (isOpenVars_any _ _).mono ?_; rintro e W2 ⟨rfl, hw⟩; have hw := hw.symm; subst hw) | (go_at_call 78; refine (roundsFit_any 1 2 3 (hik dgv_1) (by omega) (by omega) cR o.nr pR o.rl o.rf o.rg v _ (hik (h.out.1.keep G1.out)) (hik hs.out.1)).mono ?_; rintro e W3 ⟨he3, k3⟩; rw [rfB_3] at he3; subst he3; have G3 := hik (G1.out.trans k3); obtain ⟨hc3, hf3, hz3⟩ := kcell k3 (w.heap.size + 2) (by first | assumption | simp); clear k3))
          go_ret
          exact ⟨ret_bool (by first | exact HB.out.symm | (rw [HB.out]; simp; omega)), G3.out⟩

end Go.Proofs.YtppiilbcnkphbaaGreat

namespace Go.Proofs.YtppiilbcnkphbaaGreat
open Go.RowKit

/-- n values in an array. -/
def rowA (n : Nat) (f : Nat → Value) : Array Value := ((List.range n).map f).toArray
theorem rowA_size (n : Nat) (f : Nat → Value) : (rowA n f).size = n := by simp [rowA]
theorem rowA_at (n : Nat) (f : Nat → Value) (i : Nat) (h : i < n) : (rowA n f)[i]? = some (f i) := by simp [rowA, h]
theorem rowA_of {w : World} {b : Nat} {t : TypeId} {n : Nat} {f : Nat → Value} (h : w.rowIs b t n f) : w.heap[b]? = some (.cells (rowA n f) t (0, 0)) := by
  obtain ⟨c, hb, hn, hc⟩ := h
  have e : c = rowA n f := by
    apply Array.ext_getElem?
    intro i
    by_cases hi : i < n
    · rw [hc i hi, rowA_at n f i hi]
    · rw [Array.getElem?_eq_none (by omega), Array.getElem?_eq_none (by rw [rowA_size]; omega)]
  rw [hb, e]
theorem rowIs_of {w : World} {b : Nat} {t : TypeId} {n : Nat} {f : Nat → Value} (h : w.heap[b]? = some (.cells (rowA n f) t (0, 0))) : w.rowIs b t n f :=
  ⟨_, h, rowA_size n f, fun i hi => rowA_at n f i hi⟩

section
variable {P : Program}
/-- A whole array into a row. -/
theorem wpList_store_all {ops : Array Oper} {rest : List Oper} {o : Oper} {a : Act} {w : World} {Q : Exit → Act → World → Prop} (ty : TypeId) (x y : Operand) (hgd : o.guard = none) (ho : o.op = .store ty x y)
    (g : Nat) (n : Nat) (f : Nat → Value) (hx : a.eval x = .pointer (some ⟨g, 0, none⟩)) (hy : a.eval y = .agg (rowA n f))
    (t : TypeId) (f0 : Nat → Value) (hr : w.rowIs g t n f0) (hi : (P.info? ty).map (·.size) = some n)
    (h1 : ∀ i, i < n → (f i).oneCell' = true)
    (h : ∀ w', w'.rowIs g t n f → Chg (fun b => b = g) w w' → wpList P ops Q rest (a.put o.dst undef) w') : wpList P ops Q (o :: rest) a w := by
  refine wpList_store_row hgd ty x y ho g (rowA n f) hx hy t (rowA n f0) (rowA_of hr) (by rw [rowA_size]; exact hi) (by rw [rowA_size, rowA_size]) ?_ (h _ ?_ ?_)
  · rw [Array.all_eq_true_iff_forall_mem]
    intro v hv
    simp only [rowA, List.mem_toArray, List.mem_map, List.mem_range] at hv
    obtain ⟨i, hi, rfl⟩ := hv
    exact h1 i hi
  · apply rowIs_of
    have := rowA_of hr
    simp [World.setRow, Array.getElem?_modify, this]
  · refine ⟨rfl, rfl, rfl, by simp [World.setRow], fun k hk hp => ?_⟩
    simp only [World.setRow, Array.getElem?_modify]
    rw [if_neg (fun e => hp e.symm)]
end

end Go.Proofs.YtppiilbcnkphbaaGreat

namespace Go.Proofs.YtppiilbcnkphbaaGreat
open Go.ChangeShapes Go.WideShapes Go.ChangeAt Go.RowKit
set_option linter.unusedVariables false
set_option maxRecDepth 100000
set_option linter.unusedSimpArgs false

set_option maxHeartbeats 8000000 in
theorem proofOK_any (p : PD) (a : PA) (s : Sy) (y : SyA) (r n g : Int) (w : World) (h : Hid (PrV w p a)) (hs : Hid p.small) (hv : Hid (SyV w s y)) (hsy : s.small) :
    Calls Tryz.prog 50 #[.agg #[.string p.rt, .slice a.cG p.ng a.pG, .int .i64 p.a0, .int .i64 p.a1, .int .i64 p.b0, .int .i64 p.b1, .int .i64 p.c0, .int .i64 p.c1, .slice a.cW p.nw a.pW, .int .i64 p.v0, .int .i64 p.v1, .slice a.cR p.op.nr a.pR, .slice a.cT p.op.nt a.pT, .int .i64 p.op.la, .int .i64 p.op.lb, .int .i64 p.op.no, .slice a.cQ p.op.nq a.pQ], .agg #[.int .i64 s.r, .int .i64 s.q, .int .i64 s.p, .slice y.cA s.nA y.pA, .slice y.cB s.nB y.pB, .slice y.cC s.nC y.pC], .agg #[.int .i64 r, .int .i64 n, .int .i64 g]] w fun e w' => e = .returned (.bool (pfb p s r n g)) ∧ Chg nob w w' := by
  have hrt : p.rt.size ≤ 1048576 := hs.out.1
  have hng : p.ng ≤ 1048576 := hs.out.2.1.1
  have hnw : p.nw ≤ 1048576 := hs.out.2.2.1.1
  have K0 := hik ((((Chg.refl nob w).alloc (.cells #[.string p.rt, .slice a.cG p.ng a.pG, .int .i64 p.a0, .int .i64 p.a1, .int .i64 p.b0, .int .i64 p.b1, .int .i64 p.c0, .int .i64 p.c1, .slice a.cW p.nw a.pW, .int .i64 p.v0, .int .i64 p.v1, .slice a.cR p.op.nr a.pR, .slice a.cT p.op.nt a.pT, .int .i64 p.op.la, .int .i64 p.op.lb, .int .i64 p.op.no, .slice a.cQ p.op.nq a.pQ] 37)).alloc (.cells #[.int .i64 s.r, .int .i64 s.q, .int .i64 s.p, .slice y.cA s.nA y.pA, .slice y.cB s.nB y.pB, .slice y.cC s.nC y.pC] 43)).alloc (.cells #[.int .i64 r, .int .i64 n, .int .i64 g] 45))
  have RP := hik (rowIs_keep (rowN_new w 17 #[.string p.rt, .slice a.cG p.ng a.pG, .int .i64 p.a0, .int .i64 p.a1, .int .i64 p.b0, .int .i64 p.b1, .int .i64 p.c0, .int .i64 p.c1, .slice a.cW p.nw a.pW, .int .i64 p.v0, .int .i64 p.v1, .slice a.cR p.op.nr a.pR, .slice a.cT p.op.nt a.pT, .int .i64 p.op.la, .int .i64 p.op.lb, .int .i64 p.op.no, .slice a.cQ p.op.nq a.pQ] 37 rfl) (((Chg.refl nob _).alloc (.cells #[.int .i64 s.r, .int .i64 s.q, .int .i64 s.p, .slice y.cA s.nA y.pA, .slice y.cB s.nB y.pB, .slice y.cC s.nC y.pC] 43)).alloc (.cells #[.int .i64 r, .int .i64 n, .int .i64 g] 45)))
  have RS := hik (rowIs_keep (rowN_new (w.alloc (.cells #[.string p.rt, .slice a.cG p.ng a.pG, .int .i64 p.a0, .int .i64 p.a1, .int .i64 p.b0, .int .i64 p.b1, .int .i64 p.c0, .int .i64 p.c1, .slice a.cW p.nw a.pW, .int .i64 p.v0, .int .i64 p.v1, .slice a.cR p.op.nr a.pR, .slice a.cT p.op.nt a.pT, .int .i64 p.op.la, .int .i64 p.op.lb, .int .i64 p.op.no, .slice a.cQ p.op.nq a.pQ] 37)) 6 #[.int .i64 s.r, .int .i64 s.q, .int .i64 s.p, .slice y.cA s.nA y.pA, .slice y.cB s.nB y.pB, .slice y.cC s.nC y.pC] 43 rfl) ((Chg.refl nob _).alloc (.cells #[.int .i64 r, .int .i64 n, .int .i64 g] 45)))
  have RT := hik (rowN_new ((w.alloc (.cells #[.string p.rt, .slice a.cG p.ng a.pG, .int .i64 p.a0, .int .i64 p.a1, .int .i64 p.b0, .int .i64 p.b1, .int .i64 p.c0, .int .i64 p.c1, .slice a.cW p.nw a.pW, .int .i64 p.v0, .int .i64 p.v1, .slice a.cR p.op.nr a.pR, .slice a.cT p.op.nt a.pT, .int .i64 p.op.la, .int .i64 p.op.lb, .int .i64 p.op.no, .slice a.cQ p.op.nq a.pQ] 37)).alloc (.cells #[.int .i64 s.r, .int .i64 s.q, .int .i64 s.p, .slice y.cA s.nA y.pA, .slice y.cB s.nB y.pB, .slice y.cC s.nC y.pC] 43)) 3 #[.int .i64 r, .int .i64 n, .int .i64 g] 45 rfl)
  rw [asz] at RS
  rw [asz, asz] at RT
  go_enter Tryz.func50, Tryz.ntmps50
  go_wp2_with fail
  generalize hW : ((w.alloc (.cells #[.string p.rt, .slice a.cG p.ng a.pG, .int .i64 p.a0, .int .i64 p.a1, .int .i64 p.b0, .int .i64 p.b1, .int .i64 p.c0, .int .i64 p.c1, .slice a.cW p.nw a.pW, .int .i64 p.v0, .int .i64 p.v1, .slice a.cR p.op.nr a.pR, .slice a.cT p.op.nt a.pT, .int .i64 p.op.la, .int .i64 p.op.lb, .int .i64 p.op.no, .slice a.cQ p.op.nq a.pQ] 37)).alloc (.cells #[.int .i64 s.r, .int .i64 s.q, .int .i64 s.p, .slice y.cA s.nA y.pA, .slice y.cB s.nB y.pB, .slice y.cC s.nC y.pC] 43)).alloc (.cells #[.int .i64 r, .int .i64 n, .int .i64 g] 45) = W0 at K0 RP RS RT ⊢
  clear hW
  refine (sysOK_any s y _ (hik (hv.out.keep K0.out)) hsy).mono ?_
  rintro e W1 ⟨rfl, kk⟩
  replace K0 := hik (K0.out.trans kk)
  replace RP := hik (rowIs_keep RP.out kk)
  replace RS := hik (rowIs_keep RS.out kk)
  replace RT := hik (rowIs_keep RT.out kk)
  clear kk
  cases b0 : sysb s
  · have HB := hik (show pfb p s r n g = false by unfold pfb; rw [b0]; rfl)
    go_wp2
    go_ret
    exact ⟨ret_bool HB.out.symm, K0.out⟩
  have SQ := sysb_q b0
  have xRP0 : W1.cell? ⟨w.heap.size, 0, none⟩ = some (.string p.rt) := RP.out.cell (i := 0) (by omega)
  have xRP1 : W1.cell? ⟨w.heap.size, 1, none⟩ = some (.slice a.cG p.ng a.pG) := RP.out.cell (i := 1) (by omega)
  have xRS0 : W1.cell? ⟨w.heap.size + 1, 0, none⟩ = some (.int .i64 s.r) := RS.out.cell (i := 0) (by omega)
  by_cases b1 : (p.rt.size : Int) = 32
  rotate_left 1
  · have HB := hik (show pfb p s r n g = false by unfold pfb; rw [b0, decide_eq_false (show ¬ p.rt.size = 32 by omega)]; rfl)
    go_wp2
    go_ret
    exact ⟨ret_bool HB.out.symm, K0.out⟩
  have b1' : p.rt.size = 32 := by omega
  go_wp2_with fail
  clear xRP0 xRP1 xRS0
  refine (roundsFit_any 2 3 4 (hik dgv_2) (by omega) (by omega) a.cG p.ng a.pG p.gl p.gf p.gg s.r _ (hik (h.out.1.keep K0.out)) (hik hs.out.2.1)).mono ?_
  rintro e W2 ⟨rfl, kk⟩
  replace K0 := hik (K0.out.trans kk)
  replace RP := hik (rowIs_keep RP.out kk)
  replace RS := hik (rowIs_keep RS.out kk)
  replace RT := hik (rowIs_keep RT.out kk)
  clear kk
  cases b2 : rfB 4 s.r p.ng p.gl p.gf p.gg
  · have HB := hik (show pfb p s r n g = false by unfold pfb; rw [b0, b2, decide_eq_true b1']; rfl)
    go_wp2
    go_ret
    exact ⟨ret_bool HB.out.symm, K0.out⟩
  have xRP2 : W2.cell? ⟨w.heap.size, 2, none⟩ = some (.int .i64 p.a0) := RP.out.cell (i := 2) (by omega)
  have xRP3 : W2.cell? ⟨w.heap.size, 3, none⟩ = some (.int .i64 p.a1) := RP.out.cell (i := 3) (by omega)
  have xRP4 : W2.cell? ⟨w.heap.size, 4, none⟩ = some (.int .i64 p.b0) := RP.out.cell (i := 4) (by omega)
  have xRP5 : W2.cell? ⟨w.heap.size, 5, none⟩ = some (.int .i64 p.b1) := RP.out.cell (i := 5) (by omega)
  have xRP6 : W2.cell? ⟨w.heap.size, 6, none⟩ = some (.int .i64 p.c0) := RP.out.cell (i := 6) (by omega)
  have xRP7 : W2.cell? ⟨w.heap.size, 7, none⟩ = some (.int .i64 p.c1) := RP.out.cell (i := 7) (by omega)
  go_wp2_with fail
  clear xRP2 xRP3 xRP4 xRP5 xRP6 xRP7
  have K1 := hik ((Chg.refl nob W2).alloc (.cells #[.int .i64 p.a0, .int .i64 p.a1, .int .i64 p.b0, .int .i64 p.b1, .int .i64 p.c0, .int .i64 p.c1] 31))
  have P3 := hik (pair3_new W2 p.a0 p.a1 p.b0 p.b1 p.c0 p.c1 31)
  replace K0 := hik (K0.out.trans K1.out)
  replace RP := hik (rowIs_keep RP.out K1.out)
  replace RS := hik (rowIs_keep RS.out K1.out)
  replace RT := hik (rowIs_keep RT.out K1.out)
  clear K1
  generalize hW : W2.alloc (.cells #[.int .i64 p.a0, .int .i64 p.a1, .int .i64 p.b0, .int .i64 p.b1, .int .i64 p.c0, .int .i64 p.c1] 31) = W3 at K0 RP RS RT P3 ⊢
  clear hW
  refine (extsOK_any _ 3 3 _ _ _ P3 (by omega)).mono ?_
  rintro e W4 ⟨he, kk⟩
  rw [okP3] at he
  subst he
  clear P3
  replace K0 := hik (K0.out.trans kk)
  replace RP := hik (rowIs_keep RP.out kk)
  replace RS := hik (rowIs_keep RS.out kk)
  replace RT := hik (rowIs_keep RT.out kk)
  clear kk
  cases b3 : (eok p.a0 p.a1 && (eok p.b0 p.b1 && eok p.c0 p.c1))
  · have HB := hik (show pfb p s r n g = false by unfold pfb; rw [b0, b2, decide_eq_true b1', b3]; rfl)
    go_wp2
    go_ret
    exact ⟨ret_bool HB.out.symm, K0.out⟩
  have xRP8 : W4.cell? ⟨w.heap.size, 8, none⟩ = some (.slice a.cW p.nw a.pW) := RP.out.cell (i := 8) (by omega)
  have xRS1 : W4.cell? ⟨w.heap.size + 1, 1, none⟩ = some (.int .i64 s.q) := RS.out.cell (i := 1) (by omega)
  go_wp2_with fail
  clear xRP8 xRS1
  refine (roundsFit_any 1 2 3 (hik dgv_1) (by omega) (by omega) a.cW p.nw a.pW p.wl p.wf p.wg s.q _ (hik (h.out.2.1.keep K0.out)) (hik hs.out.2.2.1)).mono ?_
  rintro e W5 ⟨rfl, kk⟩
  replace K0 := hik (K0.out.trans kk)
  replace RP := hik (rowIs_keep RP.out kk)
  replace RS := hik (rowIs_keep RS.out kk)
  replace RT := hik (rowIs_keep RT.out kk)
  clear kk
  cases b4 : rfB 3 s.q p.nw p.wl p.wf p.wg
  · have HB := hik (show pfb p s r n g = false by unfold pfb; rw [b0, b2, decide_eq_true b1', b3, b4]; rfl)
    go_wp2
    go_ret
    exact ⟨ret_bool HB.out.symm, K0.out⟩
  have xRP9 : W5.cell? ⟨w.heap.size, 9, none⟩ = some (.int .i64 p.v0) := RP.out.cell (i := 9) (by omega)
  have xRP10 : W5.cell? ⟨w.heap.size, 10, none⟩ = some (.int .i64 p.v1) := RP.out.cell (i := 10) (by omega)
  go_wp2_with fail
  clear xRP9 xRP10
  refine (extOK_any p.v0 p.v1 _).mono ?_
  rintro e W6 ⟨rfl, kk⟩
  replace K0 := hik (K0.out.trans kk)
  replace RP := hik (rowIs_keep RP.out kk)
  replace RS := hik (rowIs_keep RS.out kk)
  replace RT := hik (rowIs_keep RT.out kk)
  clear kk
  cases b5 : eok p.v0 p.v1
  · have HB := hik (show pfb p s r n g = false by unfold pfb; rw [b0, b2, decide_eq_true b1', b3, b4, b5]; rfl)
    go_wp2
    go_ret
    exact ⟨ret_bool HB.out.symm, K0.out⟩
  have xRP11 : W6.cell? ⟨w.heap.size, 11, none⟩ = some (.slice a.cR p.op.nr a.pR) := RP.out.cell (i := 11) (by omega)
  have xRP12 : W6.cell? ⟨w.heap.size, 12, none⟩ = some (.slice a.cT p.op.nt a.pT) := RP.out.cell (i := 12) (by omega)
  have xRP13 : W6.cell? ⟨w.heap.size, 13, none⟩ = some (.int .i64 p.op.la) := RP.out.cell (i := 13) (by omega)
  have xRP14 : W6.cell? ⟨w.heap.size, 14, none⟩ = some (.int .i64 p.op.lb) := RP.out.cell (i := 14) (by omega)
  have xRP15 : W6.cell? ⟨w.heap.size, 15, none⟩ = some (.int .i64 p.op.no) := RP.out.cell (i := 15) (by omega)
  have xRP16 : W6.cell? ⟨w.heap.size, 16, none⟩ = some (.slice a.cQ p.op.nq a.pQ) := RP.out.cell (i := 16) (by omega)
  have xRS1 : W6.cell? ⟨w.heap.size + 1, 1, none⟩ = some (.int .i64 s.q) := RS.out.cell (i := 1) (by omega)
  have xRT0 : W6.cell? ⟨w.heap.size + 1 + 1, 0, none⟩ = some (.int .i64 r) := RT.out.cell (i := 0) (by omega)
  have xRT1 : W6.cell? ⟨w.heap.size + 1 + 1, 1, none⟩ = some (.int .i64 n) := RT.out.cell (i := 1) (by omega)
  have xRT2 : W6.cell? ⟨w.heap.size + 1 + 1, 2, none⟩ = some (.int .i64 g) := RT.out.cell (i := 2) (by omega)
  go_wp2_with fail
  clear xRP11 xRP12 xRP13 xRP14 xRP15 xRP16 xRS1 xRT0 xRT1 xRT2
  refine (openingOK_any p.op a.cR a.pR a.cT a.pT a.cQ a.pQ (s.q - 1) r n g _ (hik (h.out.2.2.keep K0.out)) (hik hs.out.2.2.2)).mono ?_
  rintro e W7 ⟨rfl, kk⟩
  replace K0 := hik (K0.out.trans kk)
  replace RP := hik (rowIs_keep RP.out kk)
  replace RS := hik (rowIs_keep RS.out kk)
  replace RT := hik (rowIs_keep RT.out kk)
  clear kk
  have HB := hik (show pfb p s r n g = ook p.op (s.q - 1) r n g by unfold pfb; rw [b0, b2, decide_eq_true b1', b3, b4, b5]; rfl)
  go_wp2
  go_ret
  exact ⟨ret_bool HB.out.symm, K0.out⟩

end Go.Proofs.YtppiilbcnkphbaaGreat
