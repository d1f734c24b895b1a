/- Several texts in one: What the program's SumProve answers: a contract. Conditions: lists that can be read. · What the program's roundsOK and sumClaimCode answer: contracts. Conditions: lists of lists that can be read, of at most 2 to the 40. -/
import Derived.Test.YtgiefpipflcbgadGreatDoorPrvX
import Derived.Test.YtgiefpipflcbgadGreatDoorBzar
import Derived.Test.YtgiefpipflcbgadGreatDoorSumG
import Derived.Test.YtgiefpipflcbgadGreatDoorBzag
namespace Go.Proofs.YtgiefpipflcbgadGreatDoor
open Go.ChangeShapes Go.WideShapes Go.ChangeAt Go.RowKit
set_option linter.unusedVariables false
set_option maxRecDepth 100000
set_option linter.unusedSimpArgs false

theorem PIAns.zero {w w' : World} {q q' : Int} {nR m nV nS : Nat} {G : Nat → Nat → El} {R V : Nat → El} {fs gs : Nat → Int} {a : Int} {s : ByteArray} {c : Int} {e : Ending} (hq : q = q') (h0 : ¬ q' = 0) (he : e = .returned (.tuple #[.slice none 0 0, .slice none 0 0, .slice none 0 0, .agg #[.slice none 0 0, .int .i64 0, .string ⟨#[]⟩, .int .i64 0], .int .i64 q'])) (k : Chg nob w w') :
    PIAns w q (scn q nR) (scn q m) (scn q nV) (scn q nS) G R V fs gs (scI q a) (scS q s) (scI q c) e w' := by
  subst hq
  have e1 : ∀ n, scn q n = 0 := fun n => if_neg h0
  have e2 : ∀ a, scI q a = 0 := fun a => if_neg h0
  have e3 : ∀ s, scS q s = ⟨#[]⟩ := fun s => if_neg h0
  rw [e1, e1, e1, e1, e2, e2, e3]
  refine ⟨none, 0, fun _ => 0, fun _ => 0, none, 0, none, 0, none, 0, he, OwnSS.nil _ _ _ _ _ _ _ _, .inl rfl, .inl rfl, .inl rfl, ⟨fun b hb => ⟨fun ⟨o, e⟩ => (by cases e), fun ⟨o, e⟩ => (by cases e), fun ⟨o, e⟩ => (by cases e)⟩, fun b hb => ⟨fun ⟨o, e⟩ => (by cases e), fun ⟨o, e⟩ => (by cases e)⟩, fun b hb ⟨o, e⟩ => (by cases e)⟩, k⟩
theorem PIAns.full {w w' : World} {q : Int} {nR m nV nS : Nat} {G : Nat → Nat → El} {R V : Nat → El} {fs gs : Nat → Int} {a : Int} {s : ByteArray} {c : Int} {e : Ending} (hq : q = 0) (h : PIAns w 0 nR m nV nS G R V fs gs a s c e w') : PIAns w q (scn q nR) (scn q m) (scn q nV) (scn q nS) G R V fs gs (scI q a) (scS q s) (scI q c) e w' := by
  subst hq
  exact h

end Go.Proofs.YtgiefpipflcbgadGreatDoor

namespace Go.Proofs.YtgiefpipflcbgadGreatDoor
open Go.ChangeShapes Go.WideShapes Go.ChangeAt Go.RowKit
set_option linter.unusedVariables false
set_option maxRecDepth 100000
set_option linter.unusedSimpArgs false

set_option maxHeartbeats 2000000 in
theorem rnds_any (c : Option Addr) (n cap : Nat) (A : Nat → Option Addr) (L C : Nat → Nat) (f g : Nat → Nat → Int) (w : World) (h : Hid (RowsV w c n A L C f g)) (hL : Hid (∀ i, i < n → L i ≤ 1099511627776)) (hn : n ≤ 1099511627776) :
    Calls Tryz.prog 76 #[.slice c n cap] w fun e w' => e = .returned (.bool (rkb L f g 0 n)) ∧ Chg nob w w' := by
  obtain ⟨q, hq⟩ : ∃ q, q = rkb L f g 0 n := ⟨_, rfl⟩
  have HQ := hik hq
  rw [← hq]
  clear hq
  go_enter Tryz.func76, Tryz.ntmps76
  go_wp2
  go_loopw [7] (fun i W => ∃ j m : Nat, j + m = n ∧ i = .int .i64 (j : Int) ∧ Hid (rkb L f g 0 n = rkb L f g j m) ∧ Hid (Chg nob w W)) (fun i _ => n - (intOf i).toNat)
  case atStart => exact ⟨0, n, by omega, rfl, hik rfl, hik (Chg.refl _ _)⟩
  case round =>
    obtain ⟨j, m, hjm, rfl, HT, HG⟩ := hrel
    rename World => wi
    by_cases hlt : j < n
    · obtain ⟨m', rfl⟩ : ∃ m', m = m' + 1 := ⟨m - 1, by omega⟩
      have hj1 : (j : Int) < (n : Int) := by omega
      have hj0 : (0 : Int) ≤ (j : Int) := by omega
      obtain ⟨xb, xo, ec, hxb, hc, hP⟩ := (RowsV.keep h.out HG.out) j hlt
      subst ec
      have PJ := hik hP
      clear hP
      by_cases h8 : 8 < L j
      · have h8' : 8 < (L j : Int) := by omega
        have h8d : decide (8 < (L j : Int)) = true := decide_eq_true h8'
        have HV := hik (show q = false by rw [HQ.out, HT.out, rkb, decide_eq_false (show ¬ L j ≤ 8 by omega)]; rfl)
        go_wp2
        go_ret
        exact ⟨by rw [HV.out]; rfl, HG.out⟩
      · have h8' : ¬ 8 < (L j : Int) := by omega
        have h8d : decide (8 < (L j : Int)) = false := decide_eq_false h8'
        cases ho : okP (f j) (g j) (L j)
        · have HV := hik (show q = false by rw [HQ.out, HT.out, rkb, ho, Bool.and_false]; rfl)
          go_wp2_with fail
          refine (extsOK_any (A j) (L j) (C j) (f j) (g j) _ PJ (hL.out j hlt)).mono ?_
          rintro e W2 ⟨he, k2⟩
          rw [ho] at he
          subst he
          have G2 := hik (HG.out.trans k2)
          clear k2
          go_wp2
          go_ret
          exact ⟨by rw [HV.out]; rfl, G2.out⟩
        · have HN := hik (show rkb L f g 0 n = rkb L f g (j + 1) m' by rw [HT.out, rkb, ho, decide_eq_true (show L j ≤ 8 by omega)]; rfl)
          go_wp2_with fail
          refine (extsOK_any (A j) (L j) (C j) (f j) (g j) _ PJ (hL.out j hlt)).mono ?_
          rintro e W2 ⟨he, k2⟩
          rw [ho] at he
          subst he
          have G2 := hik (HG.out.trans k2)
          clear k2
          go_wp2
          go_roundw
          case rel => exact ⟨j + 1, m', by omega, by go_num, HN, G2⟩
          case measure => simp [intOf]; omega
    · obtain rfl : m = 0 := by omega
      obtain rfl : j = n := by omega
      have hcc : ¬ (j : Int) < (j : Int) := by omega
      have HV := hik (show q = true by rw [HQ.out, HT.out]; rfl)
      go_wp2
      go_ret
      exact ⟨by rw [HV.out]; rfl, HG.out⟩

/-- The code of a claim's parts. -/
def vcc (K x1 x2 : Int) (m : Nat) (L : Nat → Nat) (f g : Nat → Nat → Int) (vars : Int) (fs gs : Nat → Int) (len : Nat) (at' : Int) (st : ByteArray) (ct : Int) : Int :=
  if 4096 < m then 2 else if eok x1 x2 = true then (if rkb L f g 0 m = true then (if sokb fs gs len at' st ct = true then (if kdb K = true then (if vars < 0 then 4 else if 6 < vars then 4 else if spb at' ct 6 = true then 6 else if (m : Int) = vars then 0 else 18) else 4) else 1) else 1) else 1
theorem vcc_svc (K x1 x2 : Int) (m : Nat) (L : Nat → Nat) (f g : Nat → Nat → Int) (vars : Int) (fs gs : Nat → Int) (len : Nat) (at' : Int) (st : ByteArray) (ct : Int) :
    svc8 K x1 x2 m L f g vars fs gs len at' st ct = if vcc K x1 x2 m L f g vars fs gs len at' st ct = 0 then vcd fs gs len (K.toNat + 2) L (fun i => elF (f i) (g i)) ⟨elP x1 x2, at', st, ct⟩ 0 m else vcc K x1 x2 m L f g vars fs gs len at' st ct := by
  unfold svc8 vcc rkc inW
  by_cases h1 : 4096 < m
  · simp [h1]
  by_cases h2 : rkb L f g 0 m = true
  · by_cases h3 : eok x1 x2 = true
    · by_cases h4 : sokb fs gs len at' st ct = true
      · by_cases h5 : kdb K = true
        · by_cases h6 : vars < 0
          · simp [h1, h2, h3, h4, h5, h6, show ¬ 0 ≤ vars by omega]
          · by_cases h7 : 6 < vars
            · simp [h1, h2, h3, h4, h5, h6, h7, show ¬ vars ≤ 6 by omega]
            · by_cases h8 : spb at' ct 6 = true
              · simp [h1, h2, h3, h4, h5, h6, h7, h8, show vars ≤ 6 by omega, show 0 ≤ vars by omega]
              · by_cases h9 : (m : Int) = vars
                · simp [h1, h2, h3, h4, h5, h6, h7, h8, h9, show vars ≤ 6 by omega, show 0 ≤ vars by omega]
                · simp [h1, h2, h3, h4, h5, h6, h7, h8, h9, show vars ≤ 6 by omega, show 0 ≤ vars by omega]
        · simp [h1, h2, h3, h4, h5]
      · simp [h1, h2, h3, h4]
    · simp [h1, h2, h3]
  · by_cases h3 : eok x1 x2 = true
    · simp [h1, h2, h3]
    · simp [h1, h2, h3]
theorem vcc_ok {K x1 x2 : Int} {m : Nat} {L : Nat → Nat} {f g : Nat → Nat → Int} {vars : Int} {fs gs : Nat → Int} {len : Nat} {at' : Int} {st : ByteArray} {ct : Int} (h : vcc K x1 x2 m L f g vars fs gs len at' st ct = 0) : eok x1 x2 = true ∧ rkb L f g 0 m = true ∧ sokb fs gs len at' st ct = true ∧ kdb K = true ∧ m ≤ 6 ∧ spb at' ct 6 = false ∧ (m : Int) = vars := by
  unfold vcc at h
  by_cases h1 : 4096 < m
  · rw [if_pos h1] at h; omega
  rw [if_neg h1] at h
  by_cases h2 : eok x1 x2 = true
  · rw [if_pos h2] at h
    by_cases h3 : rkb L f g 0 m = true
    · rw [if_pos h3] at h
      by_cases h4 : sokb fs gs len at' st ct = true
      · rw [if_pos h4] at h
        by_cases h5 : kdb K = true
        · rw [if_pos h5] at h
          by_cases h6 : vars < 0
          · rw [if_pos h6] at h; omega
          rw [if_neg h6] at h
          by_cases h7 : 6 < vars
          · rw [if_pos h7] at h; omega
          rw [if_neg h7] at h
          by_cases h8 : spb at' ct 6 = true
          · rw [if_pos h8] at h; omega
          rw [if_neg h8] at h
          by_cases h9 : (m : Int) = vars
          · exact ⟨h2, h3, h4, h5, by omega, by simpa using h8, h9⟩
          · rw [if_neg h9] at h; omega
        · rw [if_neg h5] at h; omega
      · rw [if_neg h4] at h; omega
    · rw [if_neg h3] at h; omega
  · rw [if_neg h2] at h; omega

set_option maxHeartbeats 4000000 in
theorem vcc_any (K x1 x2 : Int) (c : Option Addr) (m cap : Nat) (A : Nat → Option Addr) (L C : Nat → Nat) (f g : Nat → Nat → Int) (vars : Int) (cs : Option Addr) (len caps : Nat) (fs gs : Nat → Int) (at' : Int) (st : ByteArray) (ct : Int) (w : World) (h : Hid (RowsV w c m A L C f g)) (hL : Hid (∀ i, i < m → L i ≤ 1099511627776)) (hn : m ≤ 1099511627776) (hs : Hid (PairV w cs len fs gs)) (hl : (len : Int) ≤ 9223372036854775807) (hst : (st.size : Int) ≤ 9223372036854775807) :
    Calls Tryz.prog 39 #[.int .i64 K, .agg #[.int .i64 x1, .int .i64 x2], .slice c m cap, .int .i64 vars, .agg #[.slice cs len caps, .int .i64 at', .string st, .int .i64 ct]] w fun e w' => e = .returned (.int .i64 (vcc K x1 x2 m L f g vars fs gs len at' st ct)) ∧ Chg nob w w' := by
  obtain ⟨q, hq⟩ : ∃ q, q = (vcc K x1 x2 m L f g vars fs gs len at' st ct) := ⟨_, rfl⟩
  have HQ := hik hq
  rw [← hq]
  clear hq
  have E0 := hik (World.rowIs.alloc (row2_new w (.int .i64 x1) (.int .i64 x2) 31) (.cells #[.slice cs len caps, .int .i64 at', .string st, .int .i64 ct] 28))
  have A0 : Hid (((w.alloc (.cells #[.int .i64 x1, .int .i64 x2] 31)).alloc (.cells #[.slice cs len caps, .int .i64 at', .string st, .int .i64 ct] 28)).rowIs (w.heap.size + 1) 28 4 (pv4 (.slice cs len caps) (.int .i64 at') (.string st) (.int .i64 ct))) := hik (by simpa using row4_new (w.alloc (.cells #[.int .i64 x1, .int .i64 x2] 31)) (.slice cs len caps) (.int .i64 at') (.string st) (.int .i64 ct) 28)
  have G0 := hik (((Chg.refl nob w).alloc (.cells #[.int .i64 x1, .int .i64 x2] 31)).alloc (.cells #[.slice cs len caps, .int .i64 at', .string st, .int .i64 ct] 28))
  by_cases h1 : 4096 < m
  · have h1' : 4096 < (m : Int) := by omega
    have HC := hik (show q = 2 by rw [HQ.out]; unfold vcc; rw [if_pos h1])
    go_enter Tryz.func39, Tryz.ntmps39
    go_wp2
    go_ret
    exact ⟨by rw [HC.out]; rfl, G0.out⟩
  have h1' : ¬ 4096 < (m : Int) := by omega
  go_enter Tryz.func39, Tryz.ntmps39
  go_wp2_with fail
  generalize hE : (w.alloc (.cells #[.int .i64 x1, .int .i64 x2] 31)).alloc (.cells #[.slice cs len caps, .int .i64 at', .string st, .int .i64 ct] 28) = W0 at E0 A0 G0 ⊢
  clear hE
  refine (extOK_any x1 x2 _).mono ?_
  rintro e W1 ⟨he, k1⟩
  have A1 := hik (rowIs_keep A0.out k1)
  have G1 := hik (G0.out.trans k1)
  clear k1 E0 A0 G0
  cases h2 : eok x1 x2
  · rw [h2] at he
    subst he
    have HC := hik (show q = 1 by rw [HQ.out]; unfold vcc; rw [if_neg h1, h2]; rfl)
    go_wp2
    go_ret
    exact ⟨by rw [HC.out]; rfl, G1.out⟩
  rw [h2] at he
  subst he
  go_wp2_with fail
  refine (rnds_any c m cap A L C f g _ (hik (RowsV.keep h.out G1.out)) hL hn).mono ?_
  rintro e W2 ⟨he, k2⟩
  have A2 := hik (rowIs_keep A1.out k2)
  have G2 := hik (G1.out.trans k2)
  clear k2 A1 G1
  cases h3 : rkb L f g 0 m
  · rw [h3] at he
    subst he
    have HC := hik (show q = 1 by rw [HQ.out]; unfold vcc; rw [if_neg h1, h2, if_pos rfl, h3]; rfl)
    go_wp2
    go_ret
    exact ⟨by rw [HC.out]; rfl, G2.out⟩
  rw [h3] at he
  subst he
  have xs0 : (W2).cell? ⟨w.heap.size + 1, 0, none⟩ = some (.slice cs len caps) := A2.out.cell (by omega)
  have xs1 : (W2).cell? ⟨w.heap.size + 1, 1, none⟩ = some (.int .i64 at') := A2.out.cell (by omega)
  have xs2 : (W2).cell? ⟨w.heap.size + 1, 2, none⟩ = some (.string st) := A2.out.cell (by omega)
  have xs3 : (W2).cell? ⟨w.heap.size + 1, 3, none⟩ = some (.int .i64 ct) := A2.out.cell (by omega)
  go_wp2_with fail
  refine (sourceOK_any cs len caps at' st ct fs gs _ (hik (PairV.keep hs.out G2.out)) hl hst).mono ?_
  rintro e W3 ⟨he, k3⟩
  have A3 := hik (rowIs_keep A2.out k3)
  have G3 := hik (G2.out.trans k3)
  clear k3 A2 G2 xs0 xs1 xs2 xs3
  cases h4 : sokb fs gs len at' st ct
  · rw [h4] at he
    subst he
    have HC := hik (show q = 1 by rw [HQ.out]; unfold vcc; rw [if_neg h1, h2, if_pos rfl, h3, if_pos rfl, h4]; rfl)
    go_wp2
    go_ret
    exact ⟨by rw [HC.out]; rfl, G3.out⟩
  rw [h4] at he
  subst he
  obtain ⟨p1, p2, p3, p4, p5⟩ := sokb_parts h4
  cases h5 : kdb K
  · have HC := hik (show q = 4 by rw [HQ.out]; unfold vcc; rw [if_neg h1, h2, if_pos rfl, h3, if_pos rfl, h4, if_pos rfl, h5]; rfl)
    go_wp2_with fail
    refine (co_no K h5 _).mono ?_
    rintro e W4 ⟨rfl, k4⟩
    have G4 := hik ((G3.out.trans k4).alloc (.cells #[.int .i64 0, .int .i64 0, .nilFunc] 55))
    clear k4
    go_wp2
    go_ret
    exact ⟨by rw [HC.out]; rfl, G4.out⟩
  obtain ⟨k, hKk, hk12⟩ := kdb_nat h5
  subst hKk
  obtain ⟨t, d, ff, hKD, ht, hd⟩ := KD.ex hk12
  have HKD := hik hKD
  have HQ2 := hik (show q = if vars < 0 then 4 else if 6 < vars then 4 else if spb at' ct 6 = true then 6 else if (m : Int) = vars then 0 else 18 by rw [HQ.out]; unfold vcc; rw [if_neg h1, h2, if_pos rfl, h3, if_pos rfl, h4, if_pos rfl, h5, if_pos rfl])
  clear ht hd hKD hk12 h5 HQ h1 h2 h3 p1 p2 p4
  go_wp2_with fail
  refine (co_ok HKD.out _).mono ?_
  rintro e W4 ⟨rfl, k4⟩
  have A5 := hik (rowIs_keep A3.out (k4.alloc (.cells #[.int .i64 t, .int .i64 d, .func (.func ff) #[] #[]] 55)))
  have G5 := hik (G3.out.trans (k4.alloc (.cells #[.int .i64 t, .int .i64 d, .func (.func ff) #[] #[]] 55)))
  clear k4 A3 G3
  go_upto_region 6 with fail
  generalize hE : W4.alloc (.cells #[.int .i64 t, .int .i64 d, .func (.func ff) #[] #[]] 55) = W5 at A5 G5 ⊢
  clear hE
  by_cases h6 : vars < 0
  · have HC := hik (show q = 4 by rw [HQ2.out, if_pos h6])
    have h6d : decide (vars < 0) = true := decide_eq_true h6
    go_wp2
    go_ret
    exact ⟨by rw [HC.out]; rfl, G5.out⟩
  have h6d : decide (vars < 0) = false := decide_eq_false h6
  by_cases h7 : 6 < vars
  · have HC := hik (show q = 4 by rw [HQ2.out, if_neg h6, if_pos h7])
    have h7d : decide (6 < vars) = true := decide_eq_true h7
    go_wp2
    go_ret
    exact ⟨by rw [HC.out]; rfl, G5.out⟩
  have h7d : decide (6 < vars) = false := decide_eq_false h7
  have xs0 : (W5).cell? ⟨w.heap.size + 1, 0, none⟩ = some (.slice cs len caps) := A5.out.cell (by omega)
  have xs1 : (W5).cell? ⟨w.heap.size + 1, 1, none⟩ = some (.int .i64 at') := A5.out.cell (by omega)
  have xs2 : (W5).cell? ⟨w.heap.size + 1, 2, none⟩ = some (.string st) := A5.out.cell (by omega)
  have xs3 : (W5).cell? ⟨w.heap.size + 1, 3, none⟩ = some (.int .i64 ct) := A5.out.cell (by omega)
  go_wp2_with fail
  refine (left_any cs len caps at' st ct _ p3.1 p3.2 p5.1 p5.2).mono ?_
  rintro e W6 ⟨lf, rfl, hlf, k6⟩
  have G6 := hik (G5.out.trans k6)
  have hl6 := hlf 6
  clear k6 hlf A5 G5 xs0 xs1 xs2 xs3
  cases h8 : spb at' ct 6
  · have hl6' : ¬ lf < 6 := fun l => by have z := hl6.1 l; rw [h8] at z; cases z
    clear hl6
    by_cases h9 : (m : Int) = vars
    · have HC := hik (show q = 0 by rw [HQ2.out, if_neg (show ¬ vars < 0 by omega), if_neg (show ¬ 6 < vars by omega), h8, if_pos h9]; rfl)
      have hb : ((m : Int) != vars) = false := by rw [h9]; simp
      have H9 := hik h9
      clear h9
      go_wp2
      go_ret
      exact ⟨by rw [HC.out]; rfl, G6.out⟩
    · have HC := hik (show q = 18 by rw [HQ2.out, if_neg (show ¬ vars < 0 by omega), if_neg (show ¬ 6 < vars by omega), h8, if_neg h9]; rfl)
      have hb : ((m : Int) != vars) = true := by simpa using h9
      have H9 := hik h9
      clear h9
      go_wp2
      go_ret
      exact ⟨by rw [HC.out]; rfl, G6.out⟩
  · have HC := hik (show q = 6 by rw [HQ2.out, if_neg (show ¬ vars < 0 by omega), if_neg (show ¬ 6 < vars by omega), h8]; rfl)
    have hl6' : lf < 6 := hl6.2 h8
    clear hl6
    go_wp2
    go_ret
    exact ⟨by rw [HC.out]; rfl, G6.out⟩

end Go.Proofs.YtgiefpipflcbgadGreatDoor
