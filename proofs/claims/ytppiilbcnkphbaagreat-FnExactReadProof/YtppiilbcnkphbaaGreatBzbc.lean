/- Several texts in one: What the model's OpeningOK answers: a contract. Conditions: an opening that can be read, lengths of at most 2 to the 20. · What the model's ProofOK answers: a contract. Conditions: a proof and a system that can be read, lengths of at most 2 to the 20. -/
import Derived.Test.YtppiilbcnkphbaaGreatBzah
import Derived.Test.YtppiilbcnkphbaaGreatBzac
import Derived.Test.YtppiilbcnkphbaaGreatBzad
import Derived.Deep.QuietTactic
import Derived.BigQuiet
import Derived.Test.YtppiilbcnkphbaaGreatBzao
import Derived.Test.YtppiilbcnkphbaaGreatBzay
import Derived.Test.YtppiilbcnkphbaaGreatBzbb
namespace Go.Proofs.YtppiilbcnkphbaaGreat
open Go.ChangeShapes Go.WideShapes Go.ChangeAt Go.RowKit
set_option linter.unusedVariables false
set_option maxRecDepth 100000
set_option linter.unusedSimpArgs false

/-- What each round and the root behind it are asked for. -/
def lp1 (o : OD) (j : Nat) : Bool := r1B (o.rl j) (o.rf j) (o.rg j) && (decide (j = 0) || h32 (o.ts (j - 1)))
theorem ook_yes {o : OD} {v r n g : Int} (b0 : inW v 1 6 = true) (b1 : stb r n g = true) (b2 : (o.nr : Int) = v) (b3 : (o.nt : Int) = v - 1) (b4 : (o.nq : Int) = n) (b5 : eok o.la o.lb = true) (b6 : inW o.no 0 65535 = true) :
    ook o v r n g = (allN o.nr (lp1 o) && allN o.nq (fun i => qrB (o.q i) v r)) := by
  have e0 : vrB v = true := b0
  have e6 := of_decide_eq_true b6
  unfold ook rnB qsB
  rw [b1, e0, b5, decide_eq_true b2, decide_eq_true b3, decide_eq_true b4, decide_eq_true e6.1, decide_eq_true (show o.no < 65536 by omega)]
  simp only [Bool.true_and]
  cases hq : allN o.nq (fun i => qrB (o.q i) v r)
  · simp
  · simp only [Bool.and_true]
    rw [Bool.eq_iff_iff, Bool.and_eq_true]
    constructor
    · rintro ⟨h1, h2⟩
      refine allN_yes (fun i hi => ?_)
      unfold lp1
      rw [allN_at h1 hi]
      by_cases e : i = 0
      · simp [e]
      · have := allN_at h2 (i := i - 1) (by omega)
        simp [this]
    · intro h1
      refine ⟨allN_yes (fun i hi => ?_), allN_yes (fun i hi => ?_)⟩
      · have := allN_at h1 hi
        unfold lp1 at this
        rw [Bool.and_eq_true] at this
        exact this.1
      · have := allN_at h1 (i := i + 1) (by omega)
        unfold lp1 at this
        rw [Bool.and_eq_true, Bool.or_eq_true] at this
        rcases this.2 with q | q
        · simp at q
        · exact q

set_option maxHeartbeats 8000000 in
theorem sOpenLoops (o : OD) (cR : Option Addr) (pR : Nat) (cT : Option Addr) (pT : Nat) (cQ : Option Addr) (pQ : Nat) (v r n g : Int) (w : World) (h : Hid (OpV w o cR pR cT pT cQ pQ)) (hs : Hid o.small) (b0 : inW v 1 6 = true) (b1 : stb r n g = true) (b2 : (o.nr : Int) = v) (b3 : (o.nt : Int) = v - 1) (b4 : (o.nq : Int) = n) (b5 : eok o.la o.lb = true) (b6 : inW o.no 0 65535 = true) :
    Calls Tryz.prog 64 #[.agg #[.slice cR o.nr pR, .slice cT o.nt pT, .int .i64 o.la, .int .i64 o.lb, .int .i64 o.no, .slice cQ o.nq pQ], .int .i64 v, .agg #[.int .i64 r, .int .i64 n, .int .i64 g]] w fun e w' => e = .returned (.bool (ook o v r n g)) ∧ Chg nob w w' := by
  have HB := hik (ook_yes b0 b1 b2 b3 b4 b5 b6)
  have VP := hik (vrB_parts b0)
  have SP := hik (stb_parts b1)
  have vv0 : 1 ≤ v := VP.out.1
  have vv1 : v ≤ 6 := VP.out.2
  have rr0 : 1 ≤ r := SP.out.1.1
  have rr1 : r ≤ 3 := SP.out.1.2
  have hnr : o.nr ≤ 1048576 := hs.out.1.1
  have hnt : o.nt ≤ 1048576 := hs.out.2.1.1
  have hnq : o.nq ≤ 1048576 := hs.out.2.2.1
  obtain ⟨_, _, e, hTT⟩ := h.out.2.1
  cases e
  have HT := hik hTT
  clear hTT
  have K0 := hik (((Chg.refl nob w).alloc (.cells #[.slice cR o.nr pR, .slice cT o.nt pT, .int .i64 o.la, .int .i64 o.lb, .int .i64 o.no, .slice cQ o.nq pQ] 35)).alloc (.cells #[.int .i64 r, .int .i64 n, .int .i64 g] 45))
  have R0 := hik (rowIs_keep (rowN_new w 6 #[.slice cR o.nr pR, .slice cT o.nt pT, .int .i64 o.la, .int .i64 o.lb, .int .i64 o.no, .slice cQ o.nq pQ] 35 rfl) ((Chg.refl nob _).alloc (.cells #[.int .i64 r, .int .i64 n, .int .i64 g] 45)))
  have R1 := hik (rowN_new (w.alloc (.cells #[.slice cR o.nr pR, .slice cT o.nt pT, .int .i64 o.la, .int .i64 o.lb, .int .i64 o.no, .slice cQ o.nq pQ] 35)) 3 #[.int .i64 r, .int .i64 n, .int .i64 g] 45 rfl)
  rw [asz] at R1
  go_enter Tryz.func64, Tryz.ntmps64
  go_wp2_with (first | (go_at_call_of 33 (Value.int IntKind.i64 v); refine (l01In_any _ _ _ _).mono ?_; rintro e W1 ⟨rfl, hw⟩; have hw := hw.symm; subst hw) | (go_at_call 19; refine (sSettingOK_any _ _ _ _).mono ?_; rintro e W2 ⟨rfl, k2⟩; have G2 := hik (K0.out.trans k2); have K2 := hik k2; obtain ⟨hc, hf, hz⟩ := kcell k2 (w.heap.size + 2) (by simp); clear k2) | (go_at_call 86; refine (sExtOK_any o.la o.lb _).mono ?_; rintro e W3 ⟨rfl, k3⟩; have G3 := hik (G2.out.trans k3); have K3 := hik k3; obtain ⟨hc3, hf3, hz3⟩ := kcell k3 (w.heap.size + 2) (by first | assumption | simp); clear k3) | (go_at_call_of 33 (Value.int IntKind.i64 o.no); refine (l01In_any _ _ _ _).mono ?_; rintro e W4 ⟨rfl, hw⟩; have hw := hw.symm; subst hw))
  have R0' : Hid (W3.rowIs w.heap.size 35 6 (fun i => (#[.slice cR o.nr pR, .slice cT o.nt pT, .int .i64 o.la, .int .i64 o.lb, .int .i64 o.no, .slice cQ o.nq pQ] : Array Value).getD i undef)) := hik (rowIs_keep (rowIs_keep R0.out K2.out) K3.out)
  have R1' : Hid (W3.rowIs (w.heap.size + 1) 45 3 (fun i => (#[.int .i64 r, .int .i64 n, .int .i64 g] : Array Value).getD i undef)) := hik (rowIs_keep (rowIs_keep R1.out K2.out) K3.out)
  clear hc hf hz hc3 hf3 hz3 R0 R1 K2 K3
  go_loopw [7] (fun i W => ∃ k : Nat, k ≤ o.nr ∧ i = .int .i64 (k : Int) ∧ Hid (∀ j, j < k → lp1 o j = true) ∧ Hid (Chg nob W3 W)) (fun i _ => o.nr - (intOf i).toNat)
  case atStart => exact ⟨0, Nat.zero_le _, rfl, hik (fun j hj => absurd hj (by omega)), hik (Chg.refl _ _)⟩
  case round =>
    obtain ⟨k, hk, rfl, HL, HG⟩ := hrel
    rename World => wi
    have GW := hik (G3.out.trans HG.out)
    have x0 : wi.cell? ⟨w.heap.size, 0, none⟩ = some (.slice cR o.nr pR) := HG.out.look (R0'.out.cell (i := 0) (by omega))
    have x1 : wi.cell? ⟨w.heap.size, 1, none⟩ = some (.slice cT o.nt pT) := HG.out.look (R0'.out.cell (i := 1) (by omega))
    have x5 : wi.cell? ⟨w.heap.size, 5, none⟩ = some (.slice cQ o.nq pQ) := HG.out.look (R0'.out.cell (i := 5) (by omega))
    have hz0 := Nat.lt_of_lt_of_le R0'.out.lt HG.out.size
    by_cases hlt : k < o.nr
    · have hk1 : (k : Int) < v := by omega
      have hk2 : (k : Int) < (o.nr : Int) := by omega
      have hk0 : (0 : Int) ≤ (k : Int) := by omega
      obtain ⟨xb, xo, ec, hxb, hcc⟩ := (rep_list (h.out.1.keep GW.out)).2 k hlt
      obtain ⟨u, hc, hu⟩ := hcc 0 (by omega)
      obtain ⟨c1, p1, rfl, hP⟩ := hu
      subst ec
      rw [show xo + (k * 1 + 0) = xo + k by omega] at hc
      have PJ := hik hP
      have SK := hik (show o.rl k ≤ 1048576 from hs.out.1.2 k 0 hlt (by omega))
      clear hP hcc
      by_cases e : (o.rl k : Int) = 3
      · cases ho : okP (o.rf k) (o.rg k) (o.rl k)
        · have H1 := hik (show ook o v r n g = false by rw [HB.out, allN_no hlt (show lp1 o k = false by unfold lp1 r1B; rw [ho]; simp)]; rfl)
          go_wp2_with (go_at_call 63; refine (l02List_any c1 _ p1 _ _ _ PJ (by have := SK.out; omega)).mono ?_; rintro e W5 ⟨rfl, k5⟩; have G5 := hik (GW.out.trans k5); have G5' := hik (HG.out.trans k5); obtain ⟨hc5, hf5, hz5⟩ := kcell k5 (w.heap.size + 2) (by first | assumption | (have := R1'.out.lt; have := HG.out.size; omega)); clear k5)
          go_ret
          exact ⟨ret_bool H1.out.symm, G5.out⟩
        · by_cases hkz : k = 0
          · have hk3 : ¬ (0 : Int) < (k : Int) := by omega
            have H1 := hik (show lp1 o k = true by unfold lp1 r1B; rw [ho, decide_eq_true (show o.rl k = 3 by omega), decide_eq_true hkz]; rfl)
            clear hkz
            go_wp2_with (go_at_call 63; refine (l02List_any c1 _ p1 _ _ _ PJ (by have := SK.out; omega)).mono ?_; rintro e W5 ⟨rfl, k5⟩; have G5 := hik (GW.out.trans k5); have G5' := hik (HG.out.trans k5); obtain ⟨hc5, hf5, hz5⟩ := kcell k5 (w.heap.size + 2) (by first | assumption | (have := R1'.out.lt; have := HG.out.size; omega)); clear k5)
            go_roundw
            case rel => exact ⟨k + 1, by omega, by go_num, hik (fun j hj => by
              by_cases e : j = k
              · subst e; exact H1.out
              · exact HL.out j (by omega)), G5'⟩
            case measure => simp [intOf]; omega
          · have hk3 : (0 : Int) < (k : Int) := by omega
            obtain ⟨yb, yo, eT, hyb, hT⟩ := (HT.out.keep GW.out) (k - 1) (by omega)
            have hT' : wi.cell? ⟨yb, yo + (k - 1), none⟩ = some (Value.string (o.ts (k - 1))) := hT
            have hsz : (o.ts (k - 1)).size ≤ 1048576 := hs.out.2.1.2 (k - 1) (by omega)
            have hk5 : (k : Int) - 1 < (o.nt : Int) := by omega
            have hk6 : (0 : Int) ≤ (k : Int) - 1 := by omega
            have hk7 : ((k : Int) - 1).toNat = k - 1 := by omega
            clear hT
            subst eT
            by_cases h3 : ((o.ts (k - 1)).size : Int) = 32
            · have H1 := hik (show lp1 o k = true by unfold lp1 r1B; rw [ho, decide_eq_true (show o.rl k = 3 by omega), show h32 (o.ts (k - 1)) = true from decide_eq_true (by omega)]; simp)
              go_wp2_with (go_at_call 63; refine (l02List_any c1 _ p1 _ _ _ PJ (by have := SK.out; omega)).mono ?_; rintro e W5 ⟨rfl, k5⟩; have G5 := hik (GW.out.trans k5); have G5' := hik (HG.out.trans k5); have hT5 := k5.look hT'; obtain ⟨hc5, hf5, hz5⟩ := kcell k5 (w.heap.size + 2) (by first | assumption | (have := R1'.out.lt; have := HG.out.size; omega)); clear k5)
              go_roundw
              case rel => exact ⟨k + 1, by omega, by go_num, hik (fun j hj => by
                by_cases e : j = k
                · subst e; exact H1.out
                · exact HL.out j (by omega)), G5'⟩
              case measure => simp [intOf]; omega
            · have H1 := hik (show ook o v r n g = false by rw [HB.out, allN_no hlt (show lp1 o k = false by unfold lp1; rw [show h32 (o.ts (k - 1)) = false from decide_eq_false (by omega), decide_eq_false hkz]; simp)]; rfl)
              go_wp2_with (go_at_call 63; refine (l02List_any c1 _ p1 _ _ _ PJ (by have := SK.out; omega)).mono ?_; rintro e W5 ⟨rfl, k5⟩; have G5 := hik (GW.out.trans k5); have G5' := hik (HG.out.trans k5); have hT5 := k5.look hT'; obtain ⟨hc5, hf5, hz5⟩ := kcell k5 (w.heap.size + 2) (by first | assumption | (have := R1'.out.lt; have := HG.out.size; omega)); clear k5)
              go_ret
              exact ⟨ret_bool H1.out.symm, G5.out⟩
      · have H1 := hik (show ook o v r n g = false by rw [HB.out, allN_no hlt (show lp1 o k = false by unfold lp1 r1B; rw [decide_eq_false (show ¬ o.rl k = 3 by omega)]; rfl)]; rfl)
        go_wp2
        go_ret
        exact ⟨ret_bool H1.out.symm, GW.out⟩
    · have hk1 : ¬ (k : Int) < v := by omega
      have HB2 := hik (show ook o v r n g = allN o.nq (fun i => qrB (o.q i) v r) by rw [HB.out, allN_yes (fun i hi => HL.out i (by omega))]; rfl)
      clear HB HL
      go_wp2
      clear x0 x1 x5 hz0
      go_loopw [8] (fun i W => ∃ k : Nat, k ≤ o.nq ∧ i = .int .i64 (k : Int) ∧ Hid (∀ j, j < k → qrB (o.q j) v r = true) ∧ Hid (Chg nob W3 W)) (fun i _ => o.nq - (intOf i).toNat)
      case atStart => exact ⟨0, Nat.zero_le _, rfl, hik (fun j hj => absurd hj (by omega)), HG⟩
      case round =>
        clear HG GW hk hk1
        obtain ⟨k, hk, rfl, HL, HG⟩ := hrel
        rename World => wj
        have GW := hik (G3.out.trans HG.out)
        have x5 : wj.cell? ⟨w.heap.size, 5, none⟩ = some (.slice cQ o.nq pQ) := HG.out.look (R0'.out.cell (i := 5) (by omega))
        have hz0 := Nat.lt_of_lt_of_le R0'.out.lt HG.out.size
        by_cases hlt : k < o.nq
        · have hk1 : (k : Int) < (o.nq : Int) := by omega
          have hk0 : (0 : Int) ≤ (k : Int) := by omega
          obtain ⟨xb, xo, ca, pa, cb, pb, ec, hxb, hc0, hc1, hP, hS⟩ := dQs_at (h.out.2.2.keep GW.out) hlt
          subst ec
          have KA := hik ((Chg.refl nob wj).alloc (.cells #[.slice ca (o.q k).np pa, .slice cb (o.q k).nq pb] 110))
          have RQ := hik (row2_new wj (.slice ca (o.q k).np pa) (.slice cb (o.q k).nq pb) 110)
          have hP2 := hP
          obtain ⟨_, _, eP, hPP⟩ := hP2
          cases eP
          have PJ := hik (PairV.keep hPP KA.out)
          have SJ := hik (hS.keep KA.out)
          have S0 : (o.q k).np ≤ 1048576 := hs.out.2.2.2 k 0 hlt (by omega)
          have S1 := hik (show (o.q k).S.small 1048576 from hs.out.2.2.2 k 1 hlt (by omega))
          have S1n : (o.q k).nq ≤ 1048576 := S1.out.1
          clear hP hS hPP
          by_cases e1 : ((o.q k).np : Int) = 2 * v
          · cases e2 : okP (o.q k).f (o.q k).g (o.q k).np
            · have H1 := hik (show ook o v r n g = false by rw [HB2.out]; exact allN_no hlt (by unfold qrB; rw [e2]; simp))
              go_wp2_with (go_at_call 63; refine (l02List_any ca (o.q k).np pa (o.q k).f (o.q k).g _ PJ (by omega)).mono ?_; rintro e W5 ⟨rfl, k5⟩; have G5 := hik ((GW.out.trans KA.out).trans k5); clear k5)
              go_ret
              exact ⟨ret_bool H1.out.symm, G5.out⟩
            · by_cases e3 : ((o.q k).nq : Int) = v
              · have HQ := hik (show qrB (o.q k) v r = allN (o.q k).nq (fun j => ptB v r ((o.q k).l j) ((o.q k).T j) j) by unfold qrB; rw [e2, decide_eq_true e1, decide_eq_true e3]; rfl)
                go_wp2_with fail
                generalize hW : wj.alloc (.cells #[.slice ca (o.q k).np pa, .slice cb (o.q k).nq pb] 110) = W4 at KA RQ PJ SJ ⊢
                clear hW
                refine (l02List_any ca (o.q k).np pa (o.q k).f (o.q k).g _ PJ (by omega)).mono ?_
                rintro e W5 ⟨rfl, k5⟩
                have GB := hik ((HG.out.trans KA.out).trans k5)
                replace RQ := hik (rowIs_keep RQ.out k5)
                replace SJ := hik (SJ.out.keep k5)
                have bq1 := row2_c1 RQ.out
                have bqz := RQ.out.lt
                clear k5 PJ KA hc0 hc1 x5
                go_wp2
                clear bq1 bqz
                go_loopw [10] (fun i W => ∃ j : Nat, j ≤ (o.q k).nq ∧ i = .int .i64 (j : Int) ∧ Hid (∀ l, l < j → ptB v r ((o.q k).l l) ((o.q k).T l) l = true) ∧ Hid (Chg nob W5 W)) (fun i _ => (o.q k).nq - (intOf i).toNat)
                case atStart => exact ⟨0, Nat.zero_le _, rfl, hik (fun j hj => absurd hj (by omega)), hik (Chg.refl _ _)⟩
                case round =>
                  obtain ⟨j, hj, rfl, HJ, HGJ⟩ := hrel
                  rename World => wk
                  have GK := hik (GB.out.trans HGJ.out)
                  have q1 := HGJ.out.look (row2_c1 RQ.out)
                  have hzq := Nat.lt_of_lt_of_le RQ.out.lt HGJ.out.size
                  have t0 : wk.cell? ⟨w.heap.size + 1, 0, none⟩ = some (.int .i64 r) := GK.out.look (R1'.out.cell (i := 0) (by omega))
                  have hzt := Nat.lt_of_lt_of_le R1'.out.lt GK.out.size
                  by_cases hjl : j < (o.q k).nq
                  · have hj1 : (j : Int) < v := by omega
                    have hj2 : (j : Int) < ((o.q k).nq : Int) := by omega
                    have hj0 : (0 : Int) ≤ (j : Int) := by omega
                    obtain ⟨yb, yo, ey, hyb, hcc⟩ := (rep_list (SJ.out.keep HGJ.out)).2 j hjl
                    obtain ⟨u, hc, hu⟩ := hcc 0 (by omega)
                    obtain ⟨c1, p1, rfl, hPT⟩ := hu
                    subst ey
                    rw [show yo + (j * 1 + 0) = yo + j by omega] at hc
                    have PT := hik hPT
                    have SK := hik (show (Dt.texts ((o.q k).l j) ((o.q k).T j)).small 1048576 from S1.out.2 j 0 hjl (by omega))
                    have SKn : (o.q k).l j ≤ 1048576 := SK.out.1
                    clear hPT hcc
                    by_cases e : ((o.q k).l j : Int) = v + r - 1 - (j : Int)
                    · have HP := hik (show ptB v r ((o.q k).l j) ((o.q k).T j) j = hsB ((o.q k).T j) ((o.q k).l j) by unfold ptB; rw [decide_eq_true e]; rfl)
                      go_wp2
                      go_quiet (fail)
                      go_wp2
                      go_loop [11] (fun i => ∃ m : Nat, m ≤ (o.q k).l j ∧ i = .int .i64 (m : Int) ∧ Hid (∀ x, x < m → h32 ((o.q k).T j x) = true)) (fun i => (o.q k).l j - (intOf i).toNat)
                      case atStart => exact ⟨0, Nat.zero_le _, rfl, hik (fun j hj => absurd hj (by omega))⟩
                      case round =>
                        obtain ⟨m, hm, rfl, HM⟩ := hrel
                        by_cases hml : m < (o.q k).l j
                        · have hm1 : (m : Int) < ((o.q k).l j : Int) := by omega
                          have hm0 : (0 : Int) ≤ (m : Int) := by omega
                          obtain ⟨zb, zo, ez, hzb, hzc⟩ := PT.out m hml
                          have hz' : wk.cell? ⟨zb, zo + m, none⟩ = some (Value.string ((o.q k).T j m)) := hzc
                          have hsz : ((o.q k).T j m).size ≤ 1048576 := SK.out.2 m hml
                          subst ez
                          clear hzc
                          by_cases h3 : (((o.q k).T j m).size : Int) = 32
                          · have H1 := hik (show h32 ((o.q k).T j m) = true from decide_eq_true (by omega))
                            go_wp2
                            go_round
                            case rel => exact ⟨m + 1, by omega, by go_num, hik (fun j hj => by
                              by_cases e : j = m
                              · subst e; exact H1.out
                              · exact HM.out j (by omega))⟩
                            case measure => simp [intOf]; omega
                          · have H1 := hik (show ook o v r n g = false by rw [HB2.out]; exact allN_no hlt (by show qrB (o.q k) v r = false; rw [HQ.out]; exact allN_no hjl (by show ptB v r ((o.q k).l j) ((o.q k).T j) j = false; rw [HP.out]; exact allN_no hml (decide_eq_false (by omega)))))
                            go_wp2
                            go_ret
                            exact ⟨ret_bool H1.out.symm, ((G3.out.trans GK.out).drewN nq)⟩
                        · have hmm : ¬ (m : Int) < ((o.q k).l j : Int) := by omega
                          have H1 := hik (show ptB v r ((o.q k).l j) ((o.q k).T j) j = true by rw [HP.out]; exact allN_yes (fun i hi => HM.out i (by omega)))
                          go_wp2
                          go_roundw
                          case rel => exact ⟨j + 1, by omega, by go_num, hik (fun l hl => by
                            by_cases e : l = j
                            · subst e; exact H1.out
                            · exact HJ.out l (by omega)), hik (HGJ.out.drewN nq)⟩
                          case measure => simp [intOf]; omega
                    · have H1 := hik (show ook o v r n g = false by rw [HB2.out]; exact allN_no hlt (by show qrB (o.q k) v r = false; rw [HQ.out]; exact allN_no hjl (by unfold ptB; rw [decide_eq_false e]; rfl)))
                      go_wp2
                      go_quiet (fail)
                      go_wp2
                      go_ret
                      exact ⟨ret_bool H1.out.symm, ((G3.out.trans GK.out).drewN nq)⟩
                  · have hcc : ¬ (j : Int) < v := by omega
                    have H1 := hik (show qrB (o.q k) v r = true by rw [HQ.out]; exact allN_yes (fun i hi => HJ.out i (by omega)))
                    go_wp2
                    go_roundw
                    case rel => exact ⟨k + 1, by omega, by go_num, hik (fun j hj => by
                      by_cases e : j = k
                      · subst e; exact H1.out
                      · exact HL.out j (by omega)), GK⟩
                    case measure => simp [intOf]; omega
              · have H1 := hik (show ook o v r n g = false by rw [HB2.out]; exact allN_no hlt (by unfold qrB; rw [decide_eq_false e3]; simp))
                go_wp2_with (go_at_call 63; refine (l02List_any ca (o.q k).np pa (o.q k).f (o.q k).g _ PJ (by omega)).mono ?_; rintro e W5 ⟨rfl, k5⟩; have G5 := hik ((GW.out.trans KA.out).trans k5); have bq1 := k5.look (row2_c1 RQ.out); have bqz := Nat.lt_of_lt_of_le RQ.out.lt k5.size; clear k5)
                go_ret
                exact ⟨ret_bool H1.out.symm, G5.out⟩
          · have H1 := hik (show ook o v r n g = false by rw [HB2.out]; exact allN_no hlt (by unfold qrB; rw [decide_eq_false e1]; rfl))
            go_wp2
            go_ret
            exact ⟨ret_bool H1.out.symm, GW.out.trans KA.out⟩
        · have hcc : ¬ (k : Int) < (o.nq : Int) := by omega
          have H1 := hik (show ook o v r n g = true by rw [HB2.out]; exact allN_yes (fun i hi => HL.out i (by omega)))
          go_wp2
          go_ret
          exact ⟨ret_bool H1.out.symm, GW.out⟩

set_option maxHeartbeats 8000000 in
theorem sOpeningOK_any (o : OD) (cR : Option Addr) (pR : Nat) (cT : Option Addr) (pT : Nat) (cQ : Option Addr) (pQ : Nat) (v r n g : Int) (w : World) (h : Hid (OpV w o cR pR cT pT cQ pQ)) (hs : Hid o.small) :
    Calls Tryz.prog 64 #[.agg #[.slice cR o.nr pR, .slice cT o.nt pT, .int .i64 o.la, .int .i64 o.lb, .int .i64 o.no, .slice cQ o.nq pQ], .int .i64 v, .agg #[.int .i64 r, .int .i64 n, .int .i64 g]] w fun e w' => e = .returned (.bool (ook o v r n g)) ∧ Chg nob w w' := by
  have hnr : o.nr ≤ 1048576 := hs.out.1.1
  have hnt : o.nt ≤ 1048576 := hs.out.2.1.1
  have hnq : o.nq ≤ 1048576 := hs.out.2.2.1
  have K0 := hik (((Chg.refl nob w).alloc (.cells #[.slice cR o.nr pR, .slice cT o.nt pT, .int .i64 o.la, .int .i64 o.lb, .int .i64 o.no, .slice cQ o.nq pQ] 35)).alloc (.cells #[.int .i64 r, .int .i64 n, .int .i64 g] 45))
  cases b0 : inW v 1 6
  · have HB := hik (show ook o v r n g = false by have e : vrB v = false := b0; unfold ook; simp [e])
    go_enter Tryz.func64, Tryz.ntmps64
    go_wp2_with (first | (go_at_call_of 33 (Value.int IntKind.i64 v); refine (l01In_any _ _ _ _).mono ?_; rintro e W1 ⟨rfl, hw⟩; have hw := hw.symm; subst hw))
    go_ret
    exact ⟨ret_bool HB.out.symm, K0.out⟩
  · have VP := hik (vrB_parts b0)
    have vv0 : 0 ≤ v := by have := VP.out; omega
    have vv1 : v ≤ 6 := by have := VP.out; omega
    cases b1 : stb r n g
    · have HB := hik (show ook o v r n g = false by unfold ook; simp [b1])
      go_enter Tryz.func64, Tryz.ntmps64
      go_wp2_with (first | (go_at_call_of 33 (Value.int IntKind.i64 v); refine (l01In_any _ _ _ _).mono ?_; rintro e W1 ⟨rfl, hw⟩; have hw := hw.symm; subst hw) | (go_at_call 19; refine (sSettingOK_any _ _ _ _).mono ?_; rintro e W2 ⟨rfl, k2⟩; have G2 := hik (K0.out.trans k2); obtain ⟨hc, hf, hz⟩ := kcell k2 (w.heap.size + 2) (by simp); clear k2))
      go_ret
      exact ⟨ret_bool HB.out.symm, G2.out⟩
    · have SP := hik (stb_parts b1)
      by_cases b2 : (o.nr : Int) = v
      · by_cases b3 : (o.nt : Int) = v - 1
        · by_cases b4 : (o.nq : Int) = n
          · cases b5 : eok o.la o.lb
            · have HB := hik (show ook o v r n g = false by unfold ook; simp [b5])
              go_enter Tryz.func64, Tryz.ntmps64
              go_wp2_with (first | (go_at_call_of 33 (Value.int IntKind.i64 v); refine (l01In_any _ _ _ _).mono ?_; rintro e W1 ⟨rfl, hw⟩; have hw := hw.symm; subst hw) | (go_at_call 19; refine (sSettingOK_any _ _ _ _).mono ?_; rintro e W2 ⟨rfl, k2⟩; have G2 := hik (K0.out.trans k2); obtain ⟨hc, hf, hz⟩ := kcell k2 (w.heap.size + 2) (by simp); clear k2) | (go_at_call 86; refine (sExtOK_any o.la o.lb _).mono ?_; rintro e W3 ⟨rfl, k3⟩; have G3 := hik (G2.out.trans k3); obtain ⟨hc3, hf3, hz3⟩ := kcell k3 (w.heap.size + 2) (by first | assumption | simp); clear k3))
              go_ret
              exact ⟨ret_bool HB.out.symm, G3.out⟩
            · cases b6 : inW o.no 0 65535
              · have HB := hik (show ook o v r n g = false by have e := of_decide_eq_false b6; have e2 : ¬ (0 ≤ o.no ∧ o.no < 65536) := (fun x => e ⟨x.1, by omega⟩); unfold ook; by_cases e3 : 0 ≤ o.no <;> by_cases e4 : o.no < 65536 <;> simp [e3, e4] <;> omega)
                go_enter Tryz.func64, Tryz.ntmps64
                go_wp2_with (first | (go_at_call_of 33 (Value.int IntKind.i64 v); refine (l01In_any _ _ _ _).mono ?_; rintro e W1 ⟨rfl, hw⟩; have hw := hw.symm; subst hw) | (go_at_call 19; refine (sSettingOK_any _ _ _ _).mono ?_; rintro e W2 ⟨rfl, k2⟩; have G2 := hik (K0.out.trans k2); obtain ⟨hc, hf, hz⟩ := kcell k2 (w.heap.size + 2) (by simp); clear k2) | (go_at_call 86; refine (sExtOK_any o.la o.lb _).mono ?_; rintro e W3 ⟨rfl, k3⟩; have G3 := hik (G2.out.trans k3); obtain ⟨hc3, hf3, hz3⟩ := kcell k3 (w.heap.size + 2) (by first | assumption | simp); clear k3) | (go_at_call_of 33 (Value.int IntKind.i64 o.no); refine (l01In_any _ _ _ _).mono ?_; rintro e W4 ⟨rfl, hw⟩; have hw := hw.symm; subst hw))
                go_ret
                exact ⟨ret_bool HB.out.symm, G3.out⟩
              · exact sOpenLoops o cR pR cT pT cQ pQ v r n g w h hs b0 b1 b2 b3 b4 b5 b6
          · have HB := hik (show ook o v r n g = false by have e : qsB o v r n = false := (by unfold qsB; rw [decide_eq_false b4]; rfl); unfold ook; simp [e])
            go_enter Tryz.func64, Tryz.ntmps64
            go_wp2_with (first | (go_at_call_of 33 (Value.int IntKind.i64 v); refine (l01In_any _ _ _ _).mono ?_; rintro e W1 ⟨rfl, hw⟩; have hw := hw.symm; subst hw) | (go_at_call 19; refine (sSettingOK_any _ _ _ _).mono ?_; rintro e W2 ⟨rfl, k2⟩; have G2 := hik (K0.out.trans k2); obtain ⟨hc, hf, hz⟩ := kcell k2 (w.heap.size + 2) (by simp); clear k2))
            go_ret
            exact ⟨ret_bool HB.out.symm, G2.out⟩
        · have HB := hik (show ook o v r n g = false by unfold ook; simp [b3])
          go_enter Tryz.func64, Tryz.ntmps64
          go_wp2_with (first | (go_at_call_of 33 (Value.int IntKind.i64 v); refine (l01In_any _ _ _ _).mono ?_; rintro e W1 ⟨rfl, hw⟩; have hw := hw.symm; subst hw) | (go_at_call 19; refine (sSettingOK_any _ _ _ _).mono ?_; rintro e W2 ⟨rfl, k2⟩; have G2 := hik (K0.out.trans k2); obtain ⟨hc, hf, hz⟩ := kcell k2 (w.heap.size + 2) (by simp); clear k2))
          go_ret
          exact ⟨ret_bool HB.out.symm, G2.out⟩
      · have HB := hik (show ook o v r n g = false by have e : rnB o v = false := (by unfold rnB; rw [decide_eq_false b2]; rfl); unfold ook; simp [e])
        go_enter Tryz.func64, Tryz.ntmps64
        go_wp2_with (first | (go_at_call_of 33 (Value.int IntKind.i64 v); refine (l01In_any _ _ _ _).mono ?_; rintro e W1 ⟨rfl, hw⟩; have hw := hw.symm; subst hw) | (go_at_call 19; refine (sSettingOK_any _ _ _ _).mono ?_; rintro e W2 ⟨rfl, k2⟩; have G2 := hik (K0.out.trans k2); obtain ⟨hc, hf, hz⟩ := kcell k2 (w.heap.size + 2) (by simp); clear k2))
        go_ret
        exact ⟨ret_bool HB.out.symm, G2.out⟩

end Go.Proofs.YtppiilbcnkphbaaGreat

namespace Go.Proofs.YtppiilbcnkphbaaGreat
open Go.ChangeShapes Go.WideShapes Go.ChangeAt Go.RowKit
set_option linter.unusedVariables false
set_option maxRecDepth 100000
set_option linter.unusedSimpArgs false

theorem ook_no {o : OD} {v r n g : Int} (h : stb r n g = false) : ook o v r n g = false := by unfold ook; rw [h]; rfl
set_option maxHeartbeats 8000000 in
theorem sProofOK_any (p : PD) (a : PA) (s : Sy) (y : SyA) (r n g : Int) (w : World) (h : Hid (PrV w p a)) (hs : Hid p.small) (hv : Hid (SyV w s y)) (hsy : s.small) :
    Calls Tryz.prog 39 #[.agg #[.string p.rt, .slice a.cG p.ng a.pG, .int .i64 p.a0, .int .i64 p.a1, .int .i64 p.b0, .int .i64 p.b1, .int .i64 p.c0, .int .i64 p.c1, .slice a.cW p.nw a.pW, .int .i64 p.v0, .int .i64 p.v1, .slice a.cR p.op.nr a.pR, .slice a.cT p.op.nt a.pT, .int .i64 p.op.la, .int .i64 p.op.lb, .int .i64 p.op.no, .slice a.cQ p.op.nq a.pQ], .agg #[.int .i64 s.r, .int .i64 s.q, .int .i64 s.p, .slice y.cA s.nA y.pA, .slice y.cB s.nB y.pB, .slice y.cC s.nC y.pC], .agg #[.int .i64 r, .int .i64 n, .int .i64 g]] w fun e w' => e = .returned (.bool (pfb p s r n g)) ∧ Chg nob w w' := by
  have hrt : p.rt.size ≤ 1048576 := hs.out.1
  have hng : p.ng ≤ 1048576 := hs.out.2.1.1
  have hnw : p.nw ≤ 1048576 := hs.out.2.2.1.1
  have K0 := hik ((((Chg.refl nob w).alloc (.cells #[.string p.rt, .slice a.cG p.ng a.pG, .int .i64 p.a0, .int .i64 p.a1, .int .i64 p.b0, .int .i64 p.b1, .int .i64 p.c0, .int .i64 p.c1, .slice a.cW p.nw a.pW, .int .i64 p.v0, .int .i64 p.v1, .slice a.cR p.op.nr a.pR, .slice a.cT p.op.nt a.pT, .int .i64 p.op.la, .int .i64 p.op.lb, .int .i64 p.op.no, .slice a.cQ p.op.nq a.pQ] 37)).alloc (.cells #[.int .i64 s.r, .int .i64 s.q, .int .i64 s.p, .slice y.cA s.nA y.pA, .slice y.cB s.nB y.pB, .slice y.cC s.nC y.pC] 43)).alloc (.cells #[.int .i64 r, .int .i64 n, .int .i64 g] 45))
  have RP := hik (rowIs_keep (rowN_new w 17 #[.string p.rt, .slice a.cG p.ng a.pG, .int .i64 p.a0, .int .i64 p.a1, .int .i64 p.b0, .int .i64 p.b1, .int .i64 p.c0, .int .i64 p.c1, .slice a.cW p.nw a.pW, .int .i64 p.v0, .int .i64 p.v1, .slice a.cR p.op.nr a.pR, .slice a.cT p.op.nt a.pT, .int .i64 p.op.la, .int .i64 p.op.lb, .int .i64 p.op.no, .slice a.cQ p.op.nq a.pQ] 37 rfl) (((Chg.refl nob _).alloc (.cells #[.int .i64 s.r, .int .i64 s.q, .int .i64 s.p, .slice y.cA s.nA y.pA, .slice y.cB s.nB y.pB, .slice y.cC s.nC y.pC] 43)).alloc (.cells #[.int .i64 r, .int .i64 n, .int .i64 g] 45)))
  have RS := hik (rowIs_keep (rowN_new (w.alloc (.cells #[.string p.rt, .slice a.cG p.ng a.pG, .int .i64 p.a0, .int .i64 p.a1, .int .i64 p.b0, .int .i64 p.b1, .int .i64 p.c0, .int .i64 p.c1, .slice a.cW p.nw a.pW, .int .i64 p.v0, .int .i64 p.v1, .slice a.cR p.op.nr a.pR, .slice a.cT p.op.nt a.pT, .int .i64 p.op.la, .int .i64 p.op.lb, .int .i64 p.op.no, .slice a.cQ p.op.nq a.pQ] 37)) 6 #[.int .i64 s.r, .int .i64 s.q, .int .i64 s.p, .slice y.cA s.nA y.pA, .slice y.cB s.nB y.pB, .slice y.cC s.nC y.pC] 43 rfl) ((Chg.refl nob _).alloc (.cells #[.int .i64 r, .int .i64 n, .int .i64 g] 45)))
  have RT := hik (rowN_new ((w.alloc (.cells #[.string p.rt, .slice a.cG p.ng a.pG, .int .i64 p.a0, .int .i64 p.a1, .int .i64 p.b0, .int .i64 p.b1, .int .i64 p.c0, .int .i64 p.c1, .slice a.cW p.nw a.pW, .int .i64 p.v0, .int .i64 p.v1, .slice a.cR p.op.nr a.pR, .slice a.cT p.op.nt a.pT, .int .i64 p.op.la, .int .i64 p.op.lb, .int .i64 p.op.no, .slice a.cQ p.op.nq a.pQ] 37)).alloc (.cells #[.int .i64 s.r, .int .i64 s.q, .int .i64 s.p, .slice y.cA s.nA y.pA, .slice y.cB s.nB y.pB, .slice y.cC s.nC y.pC] 43)) 3 #[.int .i64 r, .int .i64 n, .int .i64 g] 45 rfl)
  rw [asz] at RS
  rw [asz, asz] at RT
  go_enter Tryz.func39, Tryz.ntmps39
  go_wp2_with fail
  generalize hW : ((w.alloc (.cells #[.string p.rt, .slice a.cG p.ng a.pG, .int .i64 p.a0, .int .i64 p.a1, .int .i64 p.b0, .int .i64 p.b1, .int .i64 p.c0, .int .i64 p.c1, .slice a.cW p.nw a.pW, .int .i64 p.v0, .int .i64 p.v1, .slice a.cR p.op.nr a.pR, .slice a.cT p.op.nt a.pT, .int .i64 p.op.la, .int .i64 p.op.lb, .int .i64 p.op.no, .slice a.cQ p.op.nq a.pQ] 37)).alloc (.cells #[.int .i64 s.r, .int .i64 s.q, .int .i64 s.p, .slice y.cA s.nA y.pA, .slice y.cB s.nB y.pB, .slice y.cC s.nC y.pC] 43)).alloc (.cells #[.int .i64 r, .int .i64 n, .int .i64 g] 45) = W0 at K0 RP RS RT ⊢
  clear hW
  refine (sSysOK_any s y _ (hik (hv.out.keep K0.out)) hsy).mono ?_
  rintro e W1 ⟨rfl, kk⟩
  replace K0 := hik (K0.out.trans kk)
  replace RP := hik (rowIs_keep RP.out kk)
  replace RS := hik (rowIs_keep RS.out kk)
  replace RT := hik (rowIs_keep RT.out kk)
  clear kk
  cases b0 : sysb s
  · have HB := hik (show pfb p s r n g = false by unfold pfb; rw [b0]; rfl)
    go_wp2
    go_ret
    exact ⟨ret_bool HB.out.symm, K0.out⟩
  have SQ := sysb_q b0
  have xRT0 : W1.cell? ⟨w.heap.size + 1 + 1, 0, none⟩ = some (.int .i64 r) := RT.out.cell (i := 0) (by omega)
  have xRT1 : W1.cell? ⟨w.heap.size + 1 + 1, 1, none⟩ = some (.int .i64 n) := RT.out.cell (i := 1) (by omega)
  have xRT2 : W1.cell? ⟨w.heap.size + 1 + 1, 2, none⟩ = some (.int .i64 g) := RT.out.cell (i := 2) (by omega)
  go_wp2_with fail
  clear xRT0 xRT1 xRT2
  refine (sSettingOK_any r n g _).mono ?_
  rintro e W2 ⟨rfl, kk⟩
  replace K0 := hik (K0.out.trans kk)
  replace RP := hik (rowIs_keep RP.out kk)
  replace RS := hik (rowIs_keep RS.out kk)
  replace RT := hik (rowIs_keep RT.out kk)
  clear kk
  cases b1 : stb r n g
  · have HB := hik (show pfb p s r n g = false by unfold pfb; rw [ook_no b1]; simp)
    go_wp2
    go_ret
    exact ⟨ret_bool HB.out.symm, K0.out⟩
  have xRP0 : W2.cell? ⟨w.heap.size, 0, none⟩ = some (.string p.rt) := RP.out.cell (i := 0) (by omega)
  have xRP1 : W2.cell? ⟨w.heap.size, 1, none⟩ = some (.slice a.cG p.ng a.pG) := RP.out.cell (i := 1) (by omega)
  have xRS0 : W2.cell? ⟨w.heap.size + 1, 0, none⟩ = some (.int .i64 s.r) := RS.out.cell (i := 0) (by omega)
  have xRP8 : W2.cell? ⟨w.heap.size, 8, none⟩ = some (.slice a.cW p.nw a.pW) := RP.out.cell (i := 8) (by omega)
  have xRS1 : W2.cell? ⟨w.heap.size + 1, 1, none⟩ = some (.int .i64 s.q) := RS.out.cell (i := 1) (by omega)
  have xRP2 : W2.cell? ⟨w.heap.size, 2, none⟩ = some (.int .i64 p.a0) := RP.out.cell (i := 2) (by omega)
  have xRP3 : W2.cell? ⟨w.heap.size, 3, none⟩ = some (.int .i64 p.a1) := RP.out.cell (i := 3) (by omega)
  have xRP4 : W2.cell? ⟨w.heap.size, 4, none⟩ = some (.int .i64 p.b0) := RP.out.cell (i := 4) (by omega)
  have xRP5 : W2.cell? ⟨w.heap.size, 5, none⟩ = some (.int .i64 p.b1) := RP.out.cell (i := 5) (by omega)
  have xRP6 : W2.cell? ⟨w.heap.size, 6, none⟩ = some (.int .i64 p.c0) := RP.out.cell (i := 6) (by omega)
  have xRP7 : W2.cell? ⟨w.heap.size, 7, none⟩ = some (.int .i64 p.c1) := RP.out.cell (i := 7) (by omega)
  have xRP9 : W2.cell? ⟨w.heap.size, 9, none⟩ = some (.int .i64 p.v0) := RP.out.cell (i := 9) (by omega)
  have xRP10 : W2.cell? ⟨w.heap.size, 10, none⟩ = some (.int .i64 p.v1) := RP.out.cell (i := 10) (by omega)
  by_cases b2 : (p.rt.size : Int) = 32
  rotate_left 1
  · have HB := hik (show pfb p s r n g = false by unfold pfb; rw [decide_eq_false (show ¬ p.rt.size = 32 by omega)]; simp)
    go_wp2
    go_ret
    exact ⟨ret_bool HB.out.symm, K0.out⟩
  by_cases b3 : (p.ng : Int) = s.r
  rotate_left 1
  · have HB := hik (show pfb p s r n g = false by unfold pfb; rw [show rfB 4 s.r p.ng p.gl p.gf p.gg = false by unfold rfB; rw [decide_eq_false b3]; rfl]; simp)
    go_wp2
    go_ret
    exact ⟨ret_bool HB.out.symm, K0.out⟩
  by_cases b4 : (p.nw : Int) = s.q
  rotate_left 1
  · have HB := hik (show pfb p s r n g = false by unfold pfb; rw [show rfB 3 s.q p.nw p.wl p.wf p.wg = false by unfold rfB; rw [decide_eq_false b4]; rfl]; simp)
    go_wp2
    go_ret
    exact ⟨ret_bool HB.out.symm, K0.out⟩
  have b2' : p.rt.size = 32 := by omega
  have B3 := hik b3
  have B4 := hik b4
  go_wp2_with fail
  clear xRP0 xRP1 xRS0 xRP8 xRS1 xRP2 xRP3 xRP4 xRP5 xRP6 xRP7 xRP9 xRP10
  have K1 := hik ((Chg.refl nob W2).alloc (.cells #[.int .i64 p.a0, .int .i64 p.a1, .int .i64 p.b0, .int .i64 p.b1, .int .i64 p.c0, .int .i64 p.c1, .int .i64 p.v0, .int .i64 p.v1] 31))
  have P3 := hik (pair4_new W2 p.a0 p.a1 p.b0 p.b1 p.c0 p.c1 p.v0 p.v1 31)
  replace K0 := hik (K0.out.trans K1.out)
  replace RP := hik (rowIs_keep RP.out K1.out)
  replace RS := hik (rowIs_keep RS.out K1.out)
  replace RT := hik (rowIs_keep RT.out K1.out)
  clear K1
  generalize hW : W2.alloc (.cells #[.int .i64 p.a0, .int .i64 p.a1, .int .i64 p.b0, .int .i64 p.b1, .int .i64 p.c0, .int .i64 p.c1, .int .i64 p.v0, .int .i64 p.v1] 31) = W3 at K0 RP RS RT P3 ⊢
  clear hW
  refine (l02List_any _ 4 4 _ _ _ P3 (by omega)).mono ?_
  rintro e W4 ⟨he, kk⟩
  rw [okP4] at he
  subst he
  clear P3
  replace K0 := hik (K0.out.trans kk)
  replace RP := hik (rowIs_keep RP.out kk)
  replace RS := hik (rowIs_keep RS.out kk)
  replace RT := hik (rowIs_keep RT.out kk)
  clear kk
  cases b5 : ((eok p.a0 p.a1 && (eok p.b0 p.b1 && eok p.c0 p.c1)) && eok p.v0 p.v1)
  · have HB := hik (show pfb p s r n g = false by unfold pfb; revert b5; cases (eok p.a0 p.a1 && (eok p.b0 p.b1 && eok p.c0 p.c1)) <;> cases eok p.v0 p.v1 <;> simp)
    go_wp2
    go_ret
    exact ⟨ret_bool HB.out.symm, K0.out⟩
  obtain ⟨b6, b7⟩ := Bool.and_eq_true_iff.1 b5
  clear b5 b3 b4
  have HB := hik (show pfb p s r n g = (allN p.ng (fun i => decide (p.gl i = 4) && okP (p.gf i) (p.gg i) (p.gl i)) && (allN p.nw (fun i => decide (p.wl i = 3) && okP (p.wf i) (p.wg i) (p.wl i)) && ook p.op (s.q - 1) r n g)) by
    unfold pfb rfB
    rw [b0, b6, b7, decide_eq_true b2', decide_eq_true B3.out, decide_eq_true B4.out]
    simp)
  clear b0 b1 b2 b2' b6 b7
  go_wp2
  go_loopw [7] (fun i W => ∃ k : Nat, k ≤ p.ng ∧ i = .int .i64 (k : Int) ∧ Hid (∀ j, j < k → (decide (p.gl j = 4) && okP (p.gf j) (p.gg j) (p.gl j)) = true) ∧ Hid (Chg nob W4 W)) (fun i _ => p.ng - (intOf i).toNat)
  case atStart => exact ⟨0, Nat.zero_le _, rfl, hik (fun j hj => absurd hj (by omega)), hik (Chg.refl _ _)⟩
  case round =>
    obtain ⟨k, hk, rfl, HL, HG⟩ := hrel
    rename World => wi
    have xG : wi.cell? ⟨w.heap.size, 1, none⟩ = some (.slice a.cG p.ng a.pG) := HG.out.look (RP.out.cell (i := 1) (by omega))
    by_cases hlt : k < p.ng
    · have hk1 : (k : Int) < (p.ng : Int) := by omega
      have hk0 : (0 : Int) ≤ (k : Int) := by omega
      have GW := hik (K0.out.trans HG.out)
      obtain ⟨xb, xo, ec, hxb, hcc⟩ := (rep_list (h.out.1.keep GW.out)).2 k hlt
      obtain ⟨u, hc, hu⟩ := hcc 0 (by omega)
      obtain ⟨c1, p1, rfl, hP⟩ := hu
      rw [ec] at xG
      clear ec
      rw [show xo + (k * 1 + 0) = xo + k by omega] at hc
      have PJ := hik hP
      have SK := hik (show p.gl k ≤ 1048576 from hs.out.2.1.2 k 0 hlt (by omega))
      clear hP hcc
      by_cases e : (p.gl k : Int) = 4
      · have HE := hik (show p.gl k = 4 by omega)
        cases ho : okP (p.gf k) (p.gg k) (p.gl k)
        · have H1 := hik (show pfb p s r n g = false by rw [HB.out]; rw [show allN p.ng (fun i => decide (p.gl i = 4) && okP (p.gf i) (p.gg i) (p.gl i)) = false from allN_no hlt (by rw [ho]; simp)]; rfl)
          go_wp2_with (go_at_call 63; refine (l02List_any c1 (p.gl k) p1 (p.gf k) (p.gg k) _ PJ (by have := SK.out; omega)).mono ?_; rintro e W9 ⟨he, k1⟩; rw [ho] at he; subst he; have G1 := hik (GW.out.trans k1); clear k1)
          go_ret
          exact ⟨ret_bool H1.out.symm, G1.out⟩
        · have H1 := hik (show (decide (p.gl k = 4) && okP (p.gf k) (p.gg k) (p.gl k)) = true by rw [ho, decide_eq_true HE.out]; rfl)
          go_wp2_with (go_at_call 63; refine (l02List_any c1 (p.gl k) p1 (p.gf k) (p.gg k) _ PJ (by have := SK.out; omega)).mono ?_; rintro e W9 ⟨he, k1⟩; rw [ho] at he; subst he; have G1 := hik (HG.out.trans k1); clear k1)
          go_roundw
          case rel => exact ⟨k + 1, by omega, by go_num, hik (fun j hj => by
            by_cases e : j = k
            · subst e; exact H1.out
            · exact HL.out j (by omega)), G1⟩
          case measure => simp [intOf]; omega
      · have H1 := hik (show pfb p s r n g = false by rw [HB.out]; rw [show allN p.ng (fun i => decide (p.gl i = 4) && okP (p.gf i) (p.gg i) (p.gl i)) = false from allN_no hlt (by rw [decide_eq_false (show ¬ p.gl k = 4 by omega)]; rfl)]; rfl)
        go_wp2
        go_ret
        exact ⟨ret_bool H1.out.symm, GW.out⟩
    · have hcc : ¬ (k : Int) < (p.ng : Int) := by omega
      have HA := hik (show allN p.ng (fun i => decide (p.gl i = 4) && okP (p.gf i) (p.gg i) (p.gl i)) = true from allN_yes (fun i hi => HL.out i (by omega)))
      have GW := hik (K0.out.trans HG.out)
      replace RP := hik (rowIs_keep RP.out HG.out)
      replace RS := hik (rowIs_keep RS.out HG.out)
      replace RT := hik (rowIs_keep RT.out HG.out)
      replace HB := hik (show pfb p s r n g = (allN p.nw (fun i => decide (p.wl i = 3) && okP (p.wf i) (p.wg i) (p.wl i)) && ook p.op (s.q - 1) r n g) by rw [HB.out, HA.out]; rfl)
      replace K0 := GW
      clear GW HA HL HG
      go_wp2
      clear hcc hlt xG
      go_loopw [8] (fun i W => ∃ k : Nat, k ≤ p.nw ∧ i = .int .i64 (k : Int) ∧ Hid (∀ j, j < k → (decide (p.wl j = 3) && okP (p.wf j) (p.wg j) (p.wl j)) = true) ∧ Hid (Chg nob wi W)) (fun i _ => p.nw - (intOf i).toNat)
      case atStart => exact ⟨0, Nat.zero_le _, rfl, hik (fun j hj => absurd hj (by omega)), hik (Chg.refl _ _)⟩
      case round =>
        obtain ⟨k, hk, rfl, HL, HG⟩ := hrel
        rename World => wj
        have xG : wj.cell? ⟨w.heap.size, 8, none⟩ = some (.slice a.cW p.nw a.pW) := HG.out.look (RP.out.cell (i := 8) (by omega))
        by_cases hlt : k < p.nw
        · have hk1 : (k : Int) < (p.nw : Int) := by omega
          have hk0 : (0 : Int) ≤ (k : Int) := by omega
          have GW := hik (K0.out.trans HG.out)
          obtain ⟨xb, xo, ec, hxb, hcc⟩ := (rep_list (h.out.2.1.keep GW.out)).2 k hlt
          obtain ⟨u, hc, hu⟩ := hcc 0 (by omega)
          obtain ⟨c1, p1, rfl, hP⟩ := hu
          rw [ec] at xG
          clear ec
          rw [show xo + (k * 1 + 0) = xo + k by omega] at hc
          have PJ := hik hP
          have SK := hik (show p.wl k ≤ 1048576 from hs.out.2.2.1.2 k 0 hlt (by omega))
          clear hP hcc
          by_cases e : (p.wl k : Int) = 3
          · have HE := hik (show p.wl k = 3 by omega)
            cases ho : okP (p.wf k) (p.wg k) (p.wl k)
            · have H1 := hik (show pfb p s r n g = false by rw [HB.out]; rw [show allN p.nw (fun i => decide (p.wl i = 3) && okP (p.wf i) (p.wg i) (p.wl i)) = false from allN_no hlt (by rw [ho]; simp)]; rfl)
              go_wp2_with (go_at_call 63; refine (l02List_any c1 (p.wl k) p1 (p.wf k) (p.wg k) _ PJ (by have := SK.out; omega)).mono ?_; rintro e W9 ⟨he, k1⟩; rw [ho] at he; subst he; have G1 := hik (GW.out.trans k1); clear k1)
              go_ret
              exact ⟨ret_bool H1.out.symm, G1.out⟩
            · have H1 := hik (show (decide (p.wl k = 3) && okP (p.wf k) (p.wg k) (p.wl k)) = true by rw [ho, decide_eq_true HE.out]; rfl)
              go_wp2_with (go_at_call 63; refine (l02List_any c1 (p.wl k) p1 (p.wf k) (p.wg k) _ PJ (by have := SK.out; omega)).mono ?_; rintro e W9 ⟨he, k1⟩; rw [ho] at he; subst he; have G1 := hik (HG.out.trans k1); clear k1)
              go_roundw
              case rel => exact ⟨k + 1, by omega, by go_num, hik (fun j hj => by
                by_cases e : j = k
                · subst e; exact H1.out
                · exact HL.out j (by omega)), G1⟩
              case measure => simp [intOf]; omega
          · have H1 := hik (show pfb p s r n g = false by rw [HB.out]; rw [show allN p.nw (fun i => decide (p.wl i = 3) && okP (p.wf i) (p.wg i) (p.wl i)) = false from allN_no hlt (by rw [decide_eq_false (show ¬ p.wl k = 3 by omega)]; rfl)]; rfl)
            go_wp2
            go_ret
            exact ⟨ret_bool H1.out.symm, GW.out⟩
        · have hcc : ¬ (k : Int) < (p.nw : Int) := by omega
          have HA := hik (show allN p.nw (fun i => decide (p.wl i = 3) && okP (p.wf i) (p.wg i) (p.wl i)) = true from allN_yes (fun i hi => HL.out i (by omega)))
          have GW := hik (K0.out.trans HG.out)
          replace RP := hik (rowIs_keep RP.out HG.out)
          replace RS := hik (rowIs_keep RS.out HG.out)
          replace RT := hik (rowIs_keep RT.out HG.out)
          replace HB := hik (show pfb p s r n g = ook p.op (s.q - 1) r n g by rw [HB.out, HA.out]; rfl)
          replace K0 := GW
          clear GW HA HL HG
          have xRP11 : wj.cell? ⟨w.heap.size, 11, none⟩ = some (.slice a.cR p.op.nr a.pR) := RP.out.cell (i := 11) (by omega)
          have xRP12 : wj.cell? ⟨w.heap.size, 12, none⟩ = some (.slice a.cT p.op.nt a.pT) := RP.out.cell (i := 12) (by omega)
          have xRP13 : wj.cell? ⟨w.heap.size, 13, none⟩ = some (.int .i64 p.op.la) := RP.out.cell (i := 13) (by omega)
          have xRP14 : wj.cell? ⟨w.heap.size, 14, none⟩ = some (.int .i64 p.op.lb) := RP.out.cell (i := 14) (by omega)
          have xRP15 : wj.cell? ⟨w.heap.size, 15, none⟩ = some (.int .i64 p.op.no) := RP.out.cell (i := 15) (by omega)
          have xRP16 : wj.cell? ⟨w.heap.size, 16, none⟩ = some (.slice a.cQ p.op.nq a.pQ) := RP.out.cell (i := 16) (by omega)
          have xRS1 : wj.cell? ⟨w.heap.size + 1, 1, none⟩ = some (.int .i64 s.q) := RS.out.cell (i := 1) (by omega)
          have xRT0 : wj.cell? ⟨w.heap.size + 1 + 1, 0, none⟩ = some (.int .i64 r) := RT.out.cell (i := 0) (by omega)
          have xRT1 : wj.cell? ⟨w.heap.size + 1 + 1, 1, none⟩ = some (.int .i64 n) := RT.out.cell (i := 1) (by omega)
          have xRT2 : wj.cell? ⟨w.heap.size + 1 + 1, 2, none⟩ = some (.int .i64 g) := RT.out.cell (i := 2) (by omega)
          go_wp2_with fail
          clear xRP11 xRP12 xRP13 xRP14 xRP15 xRP16 xRS1 xRT0 xRT1 xRT2
          refine (sOpeningOK_any p.op a.cR a.pR a.cT a.pT a.cQ a.pQ (s.q - 1) r n g _ (hik (h.out.2.2.keep K0.out)) (hik hs.out.2.2.2)).mono ?_
          rintro e W7 ⟨rfl, kk⟩
          replace K0 := hik (K0.out.trans kk)
          clear kk
          go_wp2
          go_ret
          exact ⟨ret_bool HB.out.symm, K0.out⟩

end Go.Proofs.YtppiilbcnkphbaaGreat
