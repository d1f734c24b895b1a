/- ReadGate, the program's side: a contract. Conditions: the table of shapes and what the library's variables hold as the program's text lays them. -/
import Derived.Test.YtpndbkgjdnkmcaaDoorBzak
namespace Go.Proofs.YtpndbkgjdnkmcaaDoor
open Go.ChangeShapes Go.WideShapes Go.ChangeAt Go.RowKit
set_option linter.unusedVariables false
set_option maxRecDepth 100000
set_option linter.unusedSimpArgs false

theorem results_row_tmp9 {P : Program} {fn : Func} {p u : Tmp} {ty : TypeId} (h : fn.results = #[.cell p ty, .tmp u]) (tmps : Array Value) (w : World) (g : Nat) (t : TypeId) (cs : Array Value) (fr : Nat × Nat) (d : TypeDesc)
    (hp : tmps.getD p undef = .pointer (some ⟨g, 0, none⟩)) (hg : w.heap[g]? = some (.cells cs t fr))
    (hu : P.underlying ty = some d) (hd : (match d with | .struct _ | .array _ _ => true | _ => false) = true) (hi : (P.info? ty).map (·.size) = some cs.size) :
    (results fn tmps).run P w = .ok (.tuple #[.agg cs, tmps.getD u undef]) w := by
  have hp' : tmps[p]?.getD undef = .pointer (some ⟨g, 0, none⟩) := by simpa using hp
  simp [results, h, hp', asAddr, run_loadVar_row w g t ty cs fr d hg hu hd hi]
theorem RowV.tail9 {w : World} {b o : Nat} {w0 : List UInt8} {rest : List (List UInt8)} (h : RowV w (some ⟨b, o, none⟩) (w0 :: rest).length (tvs (w0 :: rest))) : RowV w (some ⟨b, o + 1, none⟩) rest.length (tvs rest) := fun i hi => by
  obtain ⟨yb, yo, e, l, q⟩ := h (i + 1) (by simp; omega)
  cases e
  refine ⟨_, _, rfl, l, ?_⟩
  rw [show o + 1 + i = o + (i + 1) by omega, q]
  rfl
theorem gnn_size (i : Nat) (hi : i < 8) : (if shn i = true then (1 : Int) else shp i) = ((gnn ((i : Int) + 1) : Nat) : Int) := by
  rcases (show i = 0 ∨ i = 1 ∨ i = 2 ∨ i = 3 ∨ i = 4 ∨ i = 5 ∨ i = 6 ∨ i = 7 by omega) with rfl | rfl | rfl | rfl | rfl | rfl | rfl | rfl <;> rfl
set_option maxHeartbeats 8000000 in
theorem readGate_any (s : ByteArray) (hs : s.size ≤ 1000000000) (w : World) (h : Hid (Shp w)) (hp : Hid (Pw10 w)) (he : Hid (Erg w)) (hy : Hid (Ers w)) (hm : Hid (Mxl w)) :
    Calls Tryd.prog 6 #[.string s] w fun e w' => e = .returned (.tuple #[.agg #[.int .i64 (rgv s.data.toList).1, .int .i64 (rgv s.data.toList).2.1, .int .i64 (rgv s.data.toList).2.2.1, .int .i64 (rgv s.data.toList).2.2.2], .int .i64 (rgc s.data.toList)]) ∧ Chg nob w w' := by
  have hln : s.data.toList.length = s.size := Array.length_toList
  have K0 := hik ((Chg.refl nob w).alloc (.cells #[.int .i64 0, .int .i64 0, .int .i64 0, .int .i64 0] 23))
  have RB := hik (rowN_new w 4 #[.int .i64 0, .int .i64 0, .int .i64 0, .int .i64 0] 23 rfl)
  by_cases hl : 65536 < s.size
  · have HC := hik (show rgc s.data.toList = 2 by unfold rgc; rw [if_pos (by omega)])
    have HV := hik (show rgv s.data.toList = (0, 0, 0, 0) by unfold rgv; rw [if_neg (by rw [HC.out]; decide)])
    have hl' : (65536 : Int) < (s.size : Int) := by omega
    go_enter Tryd.func6, Tryd.ntmps6
    go_upto_region 1 with fail
    generalize hW : w.alloc (.cells #[.int .i64 0, .int .i64 0, .int .i64 0, .int .i64 0] 23) = W0 at K0 RB ⊢
    clear hW
    have c0 : W0.cell? ⟨w.heap.size, 0, none⟩ = some (.int .i64 0) := RB.out.cell (i := 0) (by omega)
    have c1 : W0.cell? ⟨w.heap.size, 1, none⟩ = some (.int .i64 0) := RB.out.cell (i := 1) (by omega)
    have c2 : W0.cell? ⟨w.heap.size, 2, none⟩ = some (.int .i64 0) := RB.out.cell (i := 2) (by omega)
    have c3 : W0.cell? ⟨w.heap.size, 3, none⟩ = some (.int .i64 0) := RB.out.cell (i := 3) (by omega)
    have f0 := RB.out.frozen 0
    have f1 := RB.out.frozen 1
    have f2 := RB.out.frozen 2
    have f3 := RB.out.frozen 3
    have lw := RB.out.lt
    go_wp2
    have RE := (((((RB.out.set 0 (.int .i64 0)).set 1 (.int .i64 0)).set 2 (.int .i64 0)).set 3 (.int .i64 0)).congr (g := fun i => (#[.int .i64 0, .int .i64 0, .int .i64 0, .int .i64 0] : Array Value).getD i undef) (fun i hi => by rcases (show i = 0 ∨ i = 1 ∨ i = 2 ∨ i = 3 by omega) with rfl | rfl | rfl | rfl <;> rfl))
    have KF := ((((K0.out.setCell (p := ⟨w.heap.size, 0, none⟩) (fun l => absurd (show w.heap.size < w.heap.size from l) (by omega)) (.int .i64 0)).setCell (p := ⟨w.heap.size, 1, none⟩) (fun l => absurd (show w.heap.size < w.heap.size from l) (by omega)) (.int .i64 0)).setCell (p := ⟨w.heap.size, 2, none⟩) (fun l => absurd (show w.heap.size < w.heap.size from l) (by omega)) (.int .i64 0)).setCell (p := ⟨w.heap.size, 3, none⟩) (fun l => absurd (show w.heap.size < w.heap.size from l) (by omega)) (.int .i64 0))
    refine bodyPost_ret (results_row_tmp9 Tryd.results6 _ _ w.heap.size 23 #[.int .i64 0, .int .i64 0, .int .i64 0, .int .i64 0] (0, 0) _ rfl (rowA_of RE) Tryd.underlying23 rfl (by kernel_rfl)) rfl ?_
    rw [HC.out, HV.out]
    exact ⟨rfl, KF⟩
  have hl' : ¬ (65536 : Int) < (s.size : Int) := by omega
  have hwd := wordsOf_any s (by omega) (w.alloc (.cells #[.int .i64 0, .int .i64 0, .int .i64 0, .int .i64 0] 23)) (hik (hm.out.keep K0.out))
  have HNO := hik (show rgb (wds s.data.toList) = false → rgv s.data.toList = (0, 0, 0, 0) ∧ rgc s.data.toList = 3 from fun u => by
    have a : rgc s.data.toList = 3 := by unfold rgc; rw [if_neg (by omega), u, if_neg (by decide)]
    exact ⟨by unfold rgv; rw [if_neg (by rw [a]; decide)], a⟩)
  have HYE := hik (show rgb (wds s.data.toList) = true → rgv s.data.toList = rgg (wds s.data.toList) ∧ rgc s.data.toList = 0 from fun u => by
    have a : rgc s.data.toList = 0 := by unfold rgc; rw [if_neg (by omega), u, if_pos rfl]
    exact ⟨by unfold rgv; rw [if_pos a], a⟩)
  have HWN := hik (show ∀ x ∈ wds s.data.toList, x ≠ [] ∧ x.length ≤ 1000000 from fun x hx => ⟨wdG_ne _ _ x hx, by have := wdG_size s.data.toList [] x hx; simp at this; omega⟩)
  have HLN := hik (show (wds s.data.toList).length ≤ 65537 from by have := wdG_len s.data.toList []; have e : (wds s.data.toList).length = (wdG [] s.data.toList).length := rfl; omega)
  generalize rgv s.data.toList = V at HNO HYE ⊢
  generalize rgc s.data.toList = cd at HNO HYE ⊢
  generalize wds s.data.toList = ws at hwd HNO HYE HWN HLN
  clear hln hl
  go_enter Tryd.func6, Tryd.ntmps6
  go_wp2_with fail
  refine hwd.mono ?_
  rintro e W1 ⟨v, rfl, sg, k1⟩
  obtain ⟨cw, pw, ew, hcp, hrw⟩ := sg.row2
  subst ew
  have K1 := hik (K0.out.trans k1)
  have RB1 := hik (rowIs_keep RB.out k1)
  have HRW := hik hrw
  clear sg k1 hrw hwd K0 RB
  have HCP := hik hcp
  clear hcp
  cases ws with
  | nil =>
    have HB := hik (HNO.out rfl)
    have c0 : W1.cell? ⟨w.heap.size, 0, none⟩ = some (.int .i64 0) := RB1.out.cell (i := 0) (by omega)
    have c1 : W1.cell? ⟨w.heap.size, 1, none⟩ = some (.int .i64 0) := RB1.out.cell (i := 1) (by omega)
    have c2 : W1.cell? ⟨w.heap.size, 2, none⟩ = some (.int .i64 0) := RB1.out.cell (i := 2) (by omega)
    have c3 : W1.cell? ⟨w.heap.size, 3, none⟩ = some (.int .i64 0) := RB1.out.cell (i := 3) (by omega)
    have f0 := RB1.out.frozen 0
    have f1 := RB1.out.frozen 1
    have f2 := RB1.out.frozen 2
    have f3 := RB1.out.frozen 3
    have lw := RB1.out.lt
    go_wp2
    have RE := (((((RB1.out.set 0 (.int .i64 0)).set 1 (.int .i64 0)).set 2 (.int .i64 0)).set 3 (.int .i64 0)).congr (g := fun i => (#[.int .i64 0, .int .i64 0, .int .i64 0, .int .i64 0] : Array Value).getD i undef) (fun i hi => by rcases (show i = 0 ∨ i = 1 ∨ i = 2 ∨ i = 3 by omega) with rfl | rfl | rfl | rfl <;> rfl))
    have KF := ((((K1.out.setCell (p := ⟨w.heap.size, 0, none⟩) (fun l => absurd (show w.heap.size < w.heap.size from l) (by omega)) (.int .i64 0)).setCell (p := ⟨w.heap.size, 1, none⟩) (fun l => absurd (show w.heap.size < w.heap.size from l) (by omega)) (.int .i64 0)).setCell (p := ⟨w.heap.size, 2, none⟩) (fun l => absurd (show w.heap.size < w.heap.size from l) (by omega)) (.int .i64 0)).setCell (p := ⟨w.heap.size, 3, none⟩) (fun l => absurd (show w.heap.size < w.heap.size from l) (by omega)) (.int .i64 0))
    refine bodyPost_ret (results_row_tmp9 Tryd.results6 _ _ w.heap.size 23 #[.int .i64 0, .int .i64 0, .int .i64 0, .int .i64 0] (0, 0) _ rfl (rowA_of RE) Tryd.underlying23 rfl (by kernel_rfl)) rfl ?_
    rw [HB.out.1, HB.out.2]
    exact ⟨rfl, KF⟩
  | cons w0 rest =>
    obtain ⟨yb, yo, rfl, hyb, d0⟩ := HRW.out 0 (by simp)
    have D0 := hik (show W1.cell? ⟨yb, yo, none⟩ = some (.string ⟨w0.toArray⟩) from d0)
    have HT := hik (RowV.tail9 HRW.out)
    have HOW := hik (fun W (k : Chg nob w W) => opOf_any w0 W (hik (h.out.keep k)))
    have HWR := hik (fun x (hx : x ∈ rest) => HWN.out x (List.mem_cons_of_mem w0 hx))
    have HLR := hik (show rest.length ≤ 65537 from by have := HLN.out; simp at this; omega)
    have hlr9 := HLR.out
    have hcp9 : rest.length + 1 ≤ pw := HCP.out
    have HLR2 := hik (show rest.length ≤ 100000 by omega)
    have HRG := hik (show rgb (w0 :: rest) = (decide (opw w0 ≠ 0) && (rest.all nmb && decide (rest.length = gnn (opw w0))) && gtb 15 (gof (opw w0) (nzv rest))) from rfl)
    have HRV := hik (show rgb (w0 :: rest) = true → rgg (w0 :: rest) = gof (opw w0) (nzv rest) from fun u => by show (if rgb (w0 :: rest) = true then _ else _) = _; rw [if_pos u])
    generalize rgb (w0 :: rest) = RGB at HNO HYE HRG HRV
    generalize rgg (w0 :: rest) = RGG at HYE HRV
    have hop := opw_le w0
    generalize opw w0 = o at HOW HRG HRV hop
    rw [show (w0 :: rest).length = rest.length + 1 from rfl] at HRW ⊢
    generalize (⟨w0.toArray⟩ : ByteArray) = T0 at D0 HOW
    clear d0 HRW HWN HLN hyb
    have hl0 : ¬ ((rest.length : Int) + 1) = 0 := by omega
    have d1 := D0.out
    by_cases o0 : o = 0
    · have HB := hik (HNO.out (by rw [HRG.out, o0]; rfl))
      rw [o0] at HOW
      go_wp2_with fail
      refine (HOW.out _ K1.out).mono ?_
      rintro e W2 ⟨rfl, kk⟩
      replace K1 := hik (K1.out.trans kk)
      replace RB1 := hik (rowIs_keep RB1.out kk)
      clear d1 kk
      have c0 : W2.cell? ⟨w.heap.size, 0, none⟩ = some (.int .i64 0) := RB1.out.cell (i := 0) (by omega)
      have c1 : W2.cell? ⟨w.heap.size, 1, none⟩ = some (.int .i64 0) := RB1.out.cell (i := 1) (by omega)
      have c2 : W2.cell? ⟨w.heap.size, 2, none⟩ = some (.int .i64 0) := RB1.out.cell (i := 2) (by omega)
      have c3 : W2.cell? ⟨w.heap.size, 3, none⟩ = some (.int .i64 0) := RB1.out.cell (i := 3) (by omega)
      have f0 := RB1.out.frozen 0
      have f1 := RB1.out.frozen 1
      have f2 := RB1.out.frozen 2
      have f3 := RB1.out.frozen 3
      have lw := RB1.out.lt
      go_wp2
      have RE := (((((RB1.out.set 0 (.int .i64 0)).set 1 (.int .i64 0)).set 2 (.int .i64 0)).set 3 (.int .i64 0)).congr (g := fun i => (#[.int .i64 0, .int .i64 0, .int .i64 0, .int .i64 0] : Array Value).getD i undef) (fun i hi => by rcases (show i = 0 ∨ i = 1 ∨ i = 2 ∨ i = 3 by omega) with rfl | rfl | rfl | rfl <;> rfl))
      have KF := ((((K1.out.setCell (p := ⟨w.heap.size, 0, none⟩) (fun l => absurd (show w.heap.size < w.heap.size from l) (by omega)) (.int .i64 0)).setCell (p := ⟨w.heap.size, 1, none⟩) (fun l => absurd (show w.heap.size < w.heap.size from l) (by omega)) (.int .i64 0)).setCell (p := ⟨w.heap.size, 2, none⟩) (fun l => absurd (show w.heap.size < w.heap.size from l) (by omega)) (.int .i64 0)).setCell (p := ⟨w.heap.size, 3, none⟩) (fun l => absurd (show w.heap.size < w.heap.size from l) (by omega)) (.int .i64 0))
      refine bodyPost_ret (results_row_tmp9 Tryd.results6 _ _ w.heap.size 23 #[.int .i64 0, .int .i64 0, .int .i64 0, .int .i64 0] (0, 0) _ rfl (rowA_of RE) Tryd.underlying23 rfl (by kernel_rfl)) rfl ?_
      rw [HB.out.1, HB.out.2]
      exact ⟨rfl, KF⟩
    · obtain ⟨i, hi, rfl⟩ : ∃ i : Nat, i < 8 ∧ o = i + 1 := ⟨o - 1, by omega, by omega⟩
      replace HOW := hik (fun W (k : Chg nob w W) => (show Calls Tryd.prog 13 #[.string T0] W fun e w' => e = .returned (.int .i64 ((i : Int) + 1)) ∧ Chg nob W w' from by
        have a := HOW.out W k
        rw [show (((i + 1 : Nat)) : Int) = (i : Int) + 1 by omega] at a
        exact a))
      have hi9 : ¬ ((i : Int) + 1) = 0 := by omega
      have hi10 : (((i : Int) + 1) == 0) = false := beq_eq_false_iff_ne.2 hi9
      go_wp2_with fail
      refine (HOW.out _ K1.out).mono ?_
      rintro e W2 ⟨rfl, kk⟩
      replace K1 := hik (K1.out.trans kk)
      replace RB1 := hik (rowIs_keep RB1.out kk)
      replace D0 := hik (kk.see D0.out)
      replace HT := hik (HT.out.keep kk)
      clear kk d1
      have d1 := D0.out
      go_wp2_with fail
      refine (HOW.out _ K1.out).mono ?_
      rintro e W3 ⟨rfl, kk⟩
      replace K1 := hik (K1.out.trans kk)
      replace RB1 := hik (rowIs_keep RB1.out kk)
      replace HT := hik (HT.out.keep kk)
      clear kk d1 D0 HOW
      have HNF := hik (fun (cT : Option Addr) (capT : Nat) (hT : RowV W3 cT rest.length (tvs rest)) => numbersFromG_any rest cT capT W3 (hik hT) HWR HLR2.out (hik (hp.out.keep K1.out)) (hik (he.out.keep K1.out)) (hik (hy.out.keep K1.out)))
      by_cases hp1 : pw = 1
      · subst hp1
        have HT0 := hik (show RowV W3 (some ⟨yb, yo, none⟩) rest.length (tvs rest) from fun i hi => absurd hi (by omega))
        clear hcp9
        go_wp2_with fail
        refine (HNF.out (some ⟨yb, yo, none⟩) _ HT0.out).mono ?_
        clear HT0 HNF
        rintro e W4 ⟨v, rfl, ig, kk⟩
        have IG := hik ig
        replace K1 := hik (K1.out.trans kk)
        replace RB1 := hik (rowIs_keep RB1.out kk)
        clear kk ig HT
        cases hb : rest.all nmb
        · have HB := hik (HNO.out (by rw [HRG.out, hb]; simp))
          have c0 : W4.cell? ⟨w.heap.size, 0, none⟩ = some (.int .i64 0) := RB1.out.cell (i := 0) (by omega)
          have c1 : W4.cell? ⟨w.heap.size, 1, none⟩ = some (.int .i64 0) := RB1.out.cell (i := 1) (by omega)
          have c2 : W4.cell? ⟨w.heap.size, 2, none⟩ = some (.int .i64 0) := RB1.out.cell (i := 2) (by omega)
          have c3 : W4.cell? ⟨w.heap.size, 3, none⟩ = some (.int .i64 0) := RB1.out.cell (i := 3) (by omega)
          have f0 := RB1.out.frozen 0
          have f1 := RB1.out.frozen 1
          have f2 := RB1.out.frozen 2
          have f3 := RB1.out.frozen 3
          have lw := RB1.out.lt
          go_wp2
          have RE := (((((RB1.out.set 0 (.int .i64 0)).set 1 (.int .i64 0)).set 2 (.int .i64 0)).set 3 (.int .i64 0)).congr (g := fun i => (#[.int .i64 0, .int .i64 0, .int .i64 0, .int .i64 0] : Array Value).getD i undef) (fun i hi => by rcases (show i = 0 ∨ i = 1 ∨ i = 2 ∨ i = 3 by omega) with rfl | rfl | rfl | rfl <;> rfl))
          have KF := ((((K1.out.setCell (p := ⟨w.heap.size, 0, none⟩) (fun l => absurd (show w.heap.size < w.heap.size from l) (by omega)) (.int .i64 0)).setCell (p := ⟨w.heap.size, 1, none⟩) (fun l => absurd (show w.heap.size < w.heap.size from l) (by omega)) (.int .i64 0)).setCell (p := ⟨w.heap.size, 2, none⟩) (fun l => absurd (show w.heap.size < w.heap.size from l) (by omega)) (.int .i64 0)).setCell (p := ⟨w.heap.size, 3, none⟩) (fun l => absurd (show w.heap.size < w.heap.size from l) (by omega)) (.int .i64 0))
          refine bodyPost_ret (results_row_tmp9 Tryd.results6 _ _ w.heap.size 23 #[.int .i64 0, .int .i64 0, .int .i64 0, .int .i64 0] (0, 0) _ rfl (rowA_of RE) Tryd.underlying23 rfl (by kernel_rfl)) rfl ?_
          rw [HB.out.1, HB.out.2]
          exact ⟨rfl, KF⟩
        · rw [hb, if_pos rfl] at IG
          obtain ⟨cv, pv, ev, hpv, _, hrv⟩ := IG.out.row
          subst ev
          have HRN := hik hrv
          rw [hb, Bool.true_and] at HRG
          have HSH := hik (fun W (k : Chg nob w W) => shapeOf_any i hi W (hik (h.out.keep k)))
          have HSZ := hik (fun W => (show Calls Tryd.prog 16 #[.agg #[.string (shw i), .int .i64 (shp i), .bool (shn i)]] W fun e w' => e = .returned (.int .i64 ((gnn ((i : Int) + 1) : Nat) : Int)) ∧ Chg nob W w' from by
            have a := shapeSize_any (shw i) (shp i) (shn i) W
            rw [gnn_size i hi] at a
            exact a))
          have HGO := hik (fun (hn : rest.length = gnn ((i : Int) + 1)) W (k : Chg nob W4 W) (k2 : Chg nob w W) => gateOf_any i hi cv rest.length pv (nzv rest) W (hik (h.out.keep k2)) hn (hik (hrv.keep k)))
          rw [show (((i + 1 : Nat)) : Int) = (i : Int) + 1 by omega] at HRG
          generalize shw i = X at HSH HSZ
          generalize shp i = S at HSH HSZ
          generalize shn i = N at HSH HSZ
          generalize gof (i + 1) (nzv rest) = G at HRG HRV HGO
          generalize gnn ((i : Int) + 1) = q at HRG HSZ HGO
          have HSUC := hik (show decide (i + 1 ≠ 0) = true from decide_eq_true (by omega))
          clear hpv hrv hb IG
          go_wp2_with fail
          refine (HSH.out _ K1.out).mono ?_
          rintro e W5 ⟨rfl, kk⟩
          have K5 := hik kk
          replace K1 := hik (K1.out.trans kk)
          replace RB1 := hik (rowIs_keep RB1.out kk)
          clear kk
          go_wp2_with fail
          refine (HSZ.out _).mono ?_
          rintro e W6 ⟨rfl, kk⟩
          replace K5 := hik (K5.out.trans kk)
          replace K1 := hik (K1.out.trans kk)
          replace RB1 := hik (rowIs_keep RB1.out kk)
          clear kk HSH HSZ
          by_cases hq : rest.length = q
          rotate_left 1
          · have HB := hik (HNO.out (by rw [HRG.out, decide_eq_false hq]; simp))
            have hq' : ¬ (rest.length : Int) = (q : Int) := by omega
            clear hq
            have c0 : W6.cell? ⟨w.heap.size, 0, none⟩ = some (.int .i64 0) := RB1.out.cell (i := 0) (by omega)
            have c1 : W6.cell? ⟨w.heap.size, 1, none⟩ = some (.int .i64 0) := RB1.out.cell (i := 1) (by omega)
            have c2 : W6.cell? ⟨w.heap.size, 2, none⟩ = some (.int .i64 0) := RB1.out.cell (i := 2) (by omega)
            have c3 : W6.cell? ⟨w.heap.size, 3, none⟩ = some (.int .i64 0) := RB1.out.cell (i := 3) (by omega)
            have f0 := RB1.out.frozen 0
            have f1 := RB1.out.frozen 1
            have f2 := RB1.out.frozen 2
            have f3 := RB1.out.frozen 3
            have lw := RB1.out.lt
            go_wp2
            have RE := (((((RB1.out.set 0 (.int .i64 0)).set 1 (.int .i64 0)).set 2 (.int .i64 0)).set 3 (.int .i64 0)).congr (g := fun i => (#[.int .i64 0, .int .i64 0, .int .i64 0, .int .i64 0] : Array Value).getD i undef) (fun i hi => by rcases (show i = 0 ∨ i = 1 ∨ i = 2 ∨ i = 3 by omega) with rfl | rfl | rfl | rfl <;> rfl))
            have KF := ((((K1.out.setCell (p := ⟨w.heap.size, 0, none⟩) (fun l => absurd (show w.heap.size < w.heap.size from l) (by omega)) (.int .i64 0)).setCell (p := ⟨w.heap.size, 1, none⟩) (fun l => absurd (show w.heap.size < w.heap.size from l) (by omega)) (.int .i64 0)).setCell (p := ⟨w.heap.size, 2, none⟩) (fun l => absurd (show w.heap.size < w.heap.size from l) (by omega)) (.int .i64 0)).setCell (p := ⟨w.heap.size, 3, none⟩) (fun l => absurd (show w.heap.size < w.heap.size from l) (by omega)) (.int .i64 0))
            refine bodyPost_ret (results_row_tmp9 Tryd.results6 _ _ w.heap.size 23 #[.int .i64 0, .int .i64 0, .int .i64 0, .int .i64 0] (0, 0) _ rfl (rowA_of RE) Tryd.underlying23 rfl (by kernel_rfl)) rfl ?_
            rw [HB.out.1, HB.out.2]
            exact ⟨rfl, KF⟩
          · have HEQ := hik hq
            subst hq
            go_wp2_with fail
            refine (HGO.out (by first | rfl | trivial) _ K5.out K1.out).mono ?_
            rintro e W7 ⟨rfl, kk⟩
            replace K1 := hik (K1.out.trans kk)
            replace RB1 := hik (rowIs_keep RB1.out kk)
            have ka := (Chg.refl nob W7).alloc (.cells #[.int .i64 G.1, .int .i64 G.2.1, .int .i64 G.2.2.1, .int .i64 G.2.2.2] 23)
            have R8 := hik (rowN_new W7 4 #[.int .i64 G.1, .int .i64 G.2.1, .int .i64 G.2.2.1, .int .i64 G.2.2.2] 23 rfl)
            replace K1 := hik (K1.out.trans ka)
            replace RB1 := hik (rowIs_keep RB1.out ka)
            have hri := right_any G 15 (W7.alloc (.cells #[.int .i64 G.1, .int .i64 G.2.1, .int .i64 G.2.2.1, .int .i64 G.2.2.2] 23)) (hik (h.out.keep K1.out))
            have HGT := hik (show RGB = gtb 15 G by rw [HRG.out, HSUC.out]; simp)
            clear ka kk HGO HRG
            have y0 : (W7.alloc (.cells #[.int .i64 G.1, .int .i64 G.2.1, .int .i64 G.2.2.1, .int .i64 G.2.2.2] 23)).cell? ⟨W7.heap.size, 0, none⟩ = some (.int .i64 G.1) := R8.out.cell (i := 0) (by omega)
            have y1 : (W7.alloc (.cells #[.int .i64 G.1, .int .i64 G.2.1, .int .i64 G.2.2.1, .int .i64 G.2.2.2] 23)).cell? ⟨W7.heap.size, 1, none⟩ = some (.int .i64 G.2.1) := R8.out.cell (i := 1) (by omega)
            have y2 : (W7.alloc (.cells #[.int .i64 G.1, .int .i64 G.2.1, .int .i64 G.2.2.1, .int .i64 G.2.2.2] 23)).cell? ⟨W7.heap.size, 2, none⟩ = some (.int .i64 G.2.2.1) := R8.out.cell (i := 2) (by omega)
            have y3 : (W7.alloc (.cells #[.int .i64 G.1, .int .i64 G.2.1, .int .i64 G.2.2.1, .int .i64 G.2.2.2] 23)).cell? ⟨W7.heap.size, 3, none⟩ = some (.int .i64 G.2.2.2) := R8.out.cell (i := 3) (by omega)
            go_wp2_with fail
            refine hri.mono ?_
            rintro e W8 ⟨rfl, kk⟩
            replace K1 := hik (K1.out.trans kk)
            replace RB1 := hik (rowIs_keep RB1.out kk)
            replace R8 := hik (rowIs_keep R8.out kk)
            clear kk y0 y1 y2 y3 hri
            cases hg : gtb 15 G
            · have HB := hik (HNO.out (by rw [HGT.out, hg]))
              have c0 : W8.cell? ⟨w.heap.size, 0, none⟩ = some (.int .i64 0) := RB1.out.cell (i := 0) (by omega)
              have c1 : W8.cell? ⟨w.heap.size, 1, none⟩ = some (.int .i64 0) := RB1.out.cell (i := 1) (by omega)
              have c2 : W8.cell? ⟨w.heap.size, 2, none⟩ = some (.int .i64 0) := RB1.out.cell (i := 2) (by omega)
              have c3 : W8.cell? ⟨w.heap.size, 3, none⟩ = some (.int .i64 0) := RB1.out.cell (i := 3) (by omega)
              have f0 := RB1.out.frozen 0
              have f1 := RB1.out.frozen 1
              have f2 := RB1.out.frozen 2
              have f3 := RB1.out.frozen 3
              have lw := RB1.out.lt
              go_wp2
              have RE := (((((RB1.out.set 0 (.int .i64 0)).set 1 (.int .i64 0)).set 2 (.int .i64 0)).set 3 (.int .i64 0)).congr (g := fun i => (#[.int .i64 0, .int .i64 0, .int .i64 0, .int .i64 0] : Array Value).getD i undef) (fun i hi => by rcases (show i = 0 ∨ i = 1 ∨ i = 2 ∨ i = 3 by omega) with rfl | rfl | rfl | rfl <;> rfl))
              have KF := ((((K1.out.setCell (p := ⟨w.heap.size, 0, none⟩) (fun l => absurd (show w.heap.size < w.heap.size from l) (by omega)) (.int .i64 0)).setCell (p := ⟨w.heap.size, 1, none⟩) (fun l => absurd (show w.heap.size < w.heap.size from l) (by omega)) (.int .i64 0)).setCell (p := ⟨w.heap.size, 2, none⟩) (fun l => absurd (show w.heap.size < w.heap.size from l) (by omega)) (.int .i64 0)).setCell (p := ⟨w.heap.size, 3, none⟩) (fun l => absurd (show w.heap.size < w.heap.size from l) (by omega)) (.int .i64 0))
              refine bodyPost_ret (results_row_tmp9 Tryd.results6 _ _ w.heap.size 23 #[.int .i64 0, .int .i64 0, .int .i64 0, .int .i64 0] (0, 0) _ rfl (rowA_of RE) Tryd.underlying23 rfl (by kernel_rfl)) rfl ?_
              rw [HB.out.1, HB.out.2]
              exact ⟨rfl, KF⟩
            · have HB := hik (HYE.out (by rw [HGT.out, hg]))
              have HGG := hik (HRV.out (by rw [HGT.out, hg]))
              have z0 : W8.cell? ⟨W7.heap.size, 0, none⟩ = some (.int .i64 G.1) := R8.out.cell (i := 0) (by omega)
              have z1 : W8.cell? ⟨W7.heap.size, 1, none⟩ = some (.int .i64 G.2.1) := R8.out.cell (i := 1) (by omega)
              have z2 : W8.cell? ⟨W7.heap.size, 2, none⟩ = some (.int .i64 G.2.2.1) := R8.out.cell (i := 2) (by omega)
              have z3 : W8.cell? ⟨W7.heap.size, 3, none⟩ = some (.int .i64 G.2.2.2) := R8.out.cell (i := 3) (by omega)
              have c0 : W8.cell? ⟨w.heap.size, 0, none⟩ = some (.int .i64 0) := RB1.out.cell (i := 0) (by omega)
              have c1 : W8.cell? ⟨w.heap.size, 1, none⟩ = some (.int .i64 0) := RB1.out.cell (i := 1) (by omega)
              have c2 : W8.cell? ⟨w.heap.size, 2, none⟩ = some (.int .i64 0) := RB1.out.cell (i := 2) (by omega)
              have c3 : W8.cell? ⟨w.heap.size, 3, none⟩ = some (.int .i64 0) := RB1.out.cell (i := 3) (by omega)
              have f0 := RB1.out.frozen 0
              have f1 := RB1.out.frozen 1
              have f2 := RB1.out.frozen 2
              have f3 := RB1.out.frozen 3
              have lw := RB1.out.lt
              go_wp2
              have RE := (((((RB1.out.set 0 (.int .i64 G.1)).set 1 (.int .i64 G.2.1)).set 2 (.int .i64 G.2.2.1)).set 3 (.int .i64 G.2.2.2)).congr (g := fun i => (#[.int .i64 G.1, .int .i64 G.2.1, .int .i64 G.2.2.1, .int .i64 G.2.2.2] : Array Value).getD i undef) (fun i hi => by rcases (show i = 0 ∨ i = 1 ∨ i = 2 ∨ i = 3 by omega) with rfl | rfl | rfl | rfl <;> rfl))
              have KF := ((((K1.out.setCell (p := ⟨w.heap.size, 0, none⟩) (fun l => absurd (show w.heap.size < w.heap.size from l) (by omega)) (.int .i64 G.1)).setCell (p := ⟨w.heap.size, 1, none⟩) (fun l => absurd (show w.heap.size < w.heap.size from l) (by omega)) (.int .i64 G.2.1)).setCell (p := ⟨w.heap.size, 2, none⟩) (fun l => absurd (show w.heap.size < w.heap.size from l) (by omega)) (.int .i64 G.2.2.1)).setCell (p := ⟨w.heap.size, 3, none⟩) (fun l => absurd (show w.heap.size < w.heap.size from l) (by omega)) (.int .i64 G.2.2.2))
              refine bodyPost_ret (results_row_tmp9 Tryd.results6 _ _ w.heap.size 23 #[.int .i64 G.1, .int .i64 G.2.1, .int .i64 G.2.2.1, .int .i64 G.2.2.2] (0, 0) _ rfl (rowA_of RE) Tryd.underlying23 rfl (by kernel_rfl)) rfl ?_
              rw [HB.out.1, HB.out.2, HGG.out]
              exact ⟨rfl, KF⟩
      · have hp2 : ¬ pw - 1 = 0 := by omega
        have hp3 : 1 < pw := by omega
        go_wp2_with fail
        refine (HNF.out (some ⟨yb, yo + 1, none⟩) _ HT.out).mono ?_
        clear HNF
        rintro e W4 ⟨v, rfl, ig, kk⟩
        have IG := hik ig
        replace K1 := hik (K1.out.trans kk)
        replace RB1 := hik (rowIs_keep RB1.out kk)
        clear kk ig HT
        cases hb : rest.all nmb
        · have HB := hik (HNO.out (by rw [HRG.out, hb]; simp))
          have c0 : W4.cell? ⟨w.heap.size, 0, none⟩ = some (.int .i64 0) := RB1.out.cell (i := 0) (by omega)
          have c1 : W4.cell? ⟨w.heap.size, 1, none⟩ = some (.int .i64 0) := RB1.out.cell (i := 1) (by omega)
          have c2 : W4.cell? ⟨w.heap.size, 2, none⟩ = some (.int .i64 0) := RB1.out.cell (i := 2) (by omega)
          have c3 : W4.cell? ⟨w.heap.size, 3, none⟩ = some (.int .i64 0) := RB1.out.cell (i := 3) (by omega)
          have f0 := RB1.out.frozen 0
          have f1 := RB1.out.frozen 1
          have f2 := RB1.out.frozen 2
          have f3 := RB1.out.frozen 3
          have lw := RB1.out.lt
          go_wp2
          have RE := (((((RB1.out.set 0 (.int .i64 0)).set 1 (.int .i64 0)).set 2 (.int .i64 0)).set 3 (.int .i64 0)).congr (g := fun i => (#[.int .i64 0, .int .i64 0, .int .i64 0, .int .i64 0] : Array Value).getD i undef) (fun i hi => by rcases (show i = 0 ∨ i = 1 ∨ i = 2 ∨ i = 3 by omega) with rfl | rfl | rfl | rfl <;> rfl))
          have KF := ((((K1.out.setCell (p := ⟨w.heap.size, 0, none⟩) (fun l => absurd (show w.heap.size < w.heap.size from l) (by omega)) (.int .i64 0)).setCell (p := ⟨w.heap.size, 1, none⟩) (fun l => absurd (show w.heap.size < w.heap.size from l) (by omega)) (.int .i64 0)).setCell (p := ⟨w.heap.size, 2, none⟩) (fun l => absurd (show w.heap.size < w.heap.size from l) (by omega)) (.int .i64 0)).setCell (p := ⟨w.heap.size, 3, none⟩) (fun l => absurd (show w.heap.size < w.heap.size from l) (by omega)) (.int .i64 0))
          refine bodyPost_ret (results_row_tmp9 Tryd.results6 _ _ w.heap.size 23 #[.int .i64 0, .int .i64 0, .int .i64 0, .int .i64 0] (0, 0) _ rfl (rowA_of RE) Tryd.underlying23 rfl (by kernel_rfl)) rfl ?_
          rw [HB.out.1, HB.out.2]
          exact ⟨rfl, KF⟩
        · rw [hb, if_pos rfl] at IG
          obtain ⟨cv, pv, ev, hpv, _, hrv⟩ := IG.out.row
          subst ev
          have HRN := hik hrv
          rw [hb, Bool.true_and] at HRG
          have HSH := hik (fun W (k : Chg nob w W) => shapeOf_any i hi W (hik (h.out.keep k)))
          have HSZ := hik (fun W => (show Calls Tryd.prog 16 #[.agg #[.string (shw i), .int .i64 (shp i), .bool (shn i)]] W fun e w' => e = .returned (.int .i64 ((gnn ((i : Int) + 1) : Nat) : Int)) ∧ Chg nob W w' from by
            have a := shapeSize_any (shw i) (shp i) (shn i) W
            rw [gnn_size i hi] at a
            exact a))
          have HGO := hik (fun (hn : rest.length = gnn ((i : Int) + 1)) W (k : Chg nob W4 W) (k2 : Chg nob w W) => gateOf_any i hi cv rest.length pv (nzv rest) W (hik (h.out.keep k2)) hn (hik (hrv.keep k)))
          rw [show (((i + 1 : Nat)) : Int) = (i : Int) + 1 by omega] at HRG
          generalize shw i = X at HSH HSZ
          generalize shp i = S at HSH HSZ
          generalize shn i = N at HSH HSZ
          generalize gof (i + 1) (nzv rest) = G at HRG HRV HGO
          generalize gnn ((i : Int) + 1) = q at HRG HSZ HGO
          have HSUC := hik (show decide (i + 1 ≠ 0) = true from decide_eq_true (by omega))
          clear hpv hrv hb IG
          go_wp2_with fail
          refine (HSH.out _ K1.out).mono ?_
          rintro e W5 ⟨rfl, kk⟩
          have K5 := hik kk
          replace K1 := hik (K1.out.trans kk)
          replace RB1 := hik (rowIs_keep RB1.out kk)
          clear kk
          go_wp2_with fail
          refine (HSZ.out _).mono ?_
          rintro e W6 ⟨rfl, kk⟩
          replace K5 := hik (K5.out.trans kk)
          replace K1 := hik (K1.out.trans kk)
          replace RB1 := hik (rowIs_keep RB1.out kk)
          clear kk HSH HSZ
          by_cases hq : rest.length = q
          rotate_left 1
          · have HB := hik (HNO.out (by rw [HRG.out, decide_eq_false hq]; simp))
            have hq' : ¬ (rest.length : Int) = (q : Int) := by omega
            clear hq
            have c0 : W6.cell? ⟨w.heap.size, 0, none⟩ = some (.int .i64 0) := RB1.out.cell (i := 0) (by omega)
            have c1 : W6.cell? ⟨w.heap.size, 1, none⟩ = some (.int .i64 0) := RB1.out.cell (i := 1) (by omega)
            have c2 : W6.cell? ⟨w.heap.size, 2, none⟩ = some (.int .i64 0) := RB1.out.cell (i := 2) (by omega)
            have c3 : W6.cell? ⟨w.heap.size, 3, none⟩ = some (.int .i64 0) := RB1.out.cell (i := 3) (by omega)
            have f0 := RB1.out.frozen 0
            have f1 := RB1.out.frozen 1
            have f2 := RB1.out.frozen 2
            have f3 := RB1.out.frozen 3
            have lw := RB1.out.lt
            go_wp2
            have RE := (((((RB1.out.set 0 (.int .i64 0)).set 1 (.int .i64 0)).set 2 (.int .i64 0)).set 3 (.int .i64 0)).congr (g := fun i => (#[.int .i64 0, .int .i64 0, .int .i64 0, .int .i64 0] : Array Value).getD i undef) (fun i hi => by rcases (show i = 0 ∨ i = 1 ∨ i = 2 ∨ i = 3 by omega) with rfl | rfl | rfl | rfl <;> rfl))
            have KF := ((((K1.out.setCell (p := ⟨w.heap.size, 0, none⟩) (fun l => absurd (show w.heap.size < w.heap.size from l) (by omega)) (.int .i64 0)).setCell (p := ⟨w.heap.size, 1, none⟩) (fun l => absurd (show w.heap.size < w.heap.size from l) (by omega)) (.int .i64 0)).setCell (p := ⟨w.heap.size, 2, none⟩) (fun l => absurd (show w.heap.size < w.heap.size from l) (by omega)) (.int .i64 0)).setCell (p := ⟨w.heap.size, 3, none⟩) (fun l => absurd (show w.heap.size < w.heap.size from l) (by omega)) (.int .i64 0))
            refine bodyPost_ret (results_row_tmp9 Tryd.results6 _ _ w.heap.size 23 #[.int .i64 0, .int .i64 0, .int .i64 0, .int .i64 0] (0, 0) _ rfl (rowA_of RE) Tryd.underlying23 rfl (by kernel_rfl)) rfl ?_
            rw [HB.out.1, HB.out.2]
            exact ⟨rfl, KF⟩
          · have HEQ := hik hq
            subst hq
            go_wp2_with fail
            refine (HGO.out (by first | rfl | trivial) _ K5.out K1.out).mono ?_
            rintro e W7 ⟨rfl, kk⟩
            replace K1 := hik (K1.out.trans kk)
            replace RB1 := hik (rowIs_keep RB1.out kk)
            have ka := (Chg.refl nob W7).alloc (.cells #[.int .i64 G.1, .int .i64 G.2.1, .int .i64 G.2.2.1, .int .i64 G.2.2.2] 23)
            have R8 := hik (rowN_new W7 4 #[.int .i64 G.1, .int .i64 G.2.1, .int .i64 G.2.2.1, .int .i64 G.2.2.2] 23 rfl)
            replace K1 := hik (K1.out.trans ka)
            replace RB1 := hik (rowIs_keep RB1.out ka)
            have hri := right_any G 15 (W7.alloc (.cells #[.int .i64 G.1, .int .i64 G.2.1, .int .i64 G.2.2.1, .int .i64 G.2.2.2] 23)) (hik (h.out.keep K1.out))
            have HGT := hik (show RGB = gtb 15 G by rw [HRG.out, HSUC.out]; simp)
            clear ka kk HGO HRG
            have y0 : (W7.alloc (.cells #[.int .i64 G.1, .int .i64 G.2.1, .int .i64 G.2.2.1, .int .i64 G.2.2.2] 23)).cell? ⟨W7.heap.size, 0, none⟩ = some (.int .i64 G.1) := R8.out.cell (i := 0) (by omega)
            have y1 : (W7.alloc (.cells #[.int .i64 G.1, .int .i64 G.2.1, .int .i64 G.2.2.1, .int .i64 G.2.2.2] 23)).cell? ⟨W7.heap.size, 1, none⟩ = some (.int .i64 G.2.1) := R8.out.cell (i := 1) (by omega)
            have y2 : (W7.alloc (.cells #[.int .i64 G.1, .int .i64 G.2.1, .int .i64 G.2.2.1, .int .i64 G.2.2.2] 23)).cell? ⟨W7.heap.size, 2, none⟩ = some (.int .i64 G.2.2.1) := R8.out.cell (i := 2) (by omega)
            have y3 : (W7.alloc (.cells #[.int .i64 G.1, .int .i64 G.2.1, .int .i64 G.2.2.1, .int .i64 G.2.2.2] 23)).cell? ⟨W7.heap.size, 3, none⟩ = some (.int .i64 G.2.2.2) := R8.out.cell (i := 3) (by omega)
            go_wp2_with fail
            refine hri.mono ?_
            rintro e W8 ⟨rfl, kk⟩
            replace K1 := hik (K1.out.trans kk)
            replace RB1 := hik (rowIs_keep RB1.out kk)
            replace R8 := hik (rowIs_keep R8.out kk)
            clear kk y0 y1 y2 y3 hri
            cases hg : gtb 15 G
            · have HB := hik (HNO.out (by rw [HGT.out, hg]))
              have c0 : W8.cell? ⟨w.heap.size, 0, none⟩ = some (.int .i64 0) := RB1.out.cell (i := 0) (by omega)
              have c1 : W8.cell? ⟨w.heap.size, 1, none⟩ = some (.int .i64 0) := RB1.out.cell (i := 1) (by omega)
              have c2 : W8.cell? ⟨w.heap.size, 2, none⟩ = some (.int .i64 0) := RB1.out.cell (i := 2) (by omega)
              have c3 : W8.cell? ⟨w.heap.size, 3, none⟩ = some (.int .i64 0) := RB1.out.cell (i := 3) (by omega)
              have f0 := RB1.out.frozen 0
              have f1 := RB1.out.frozen 1
              have f2 := RB1.out.frozen 2
              have f3 := RB1.out.frozen 3
              have lw := RB1.out.lt
              go_wp2
              have RE := (((((RB1.out.set 0 (.int .i64 0)).set 1 (.int .i64 0)).set 2 (.int .i64 0)).set 3 (.int .i64 0)).congr (g := fun i => (#[.int .i64 0, .int .i64 0, .int .i64 0, .int .i64 0] : Array Value).getD i undef) (fun i hi => by rcases (show i = 0 ∨ i = 1 ∨ i = 2 ∨ i = 3 by omega) with rfl | rfl | rfl | rfl <;> rfl))
              have KF := ((((K1.out.setCell (p := ⟨w.heap.size, 0, none⟩) (fun l => absurd (show w.heap.size < w.heap.size from l) (by omega)) (.int .i64 0)).setCell (p := ⟨w.heap.size, 1, none⟩) (fun l => absurd (show w.heap.size < w.heap.size from l) (by omega)) (.int .i64 0)).setCell (p := ⟨w.heap.size, 2, none⟩) (fun l => absurd (show w.heap.size < w.heap.size from l) (by omega)) (.int .i64 0)).setCell (p := ⟨w.heap.size, 3, none⟩) (fun l => absurd (show w.heap.size < w.heap.size from l) (by omega)) (.int .i64 0))
              refine bodyPost_ret (results_row_tmp9 Tryd.results6 _ _ w.heap.size 23 #[.int .i64 0, .int .i64 0, .int .i64 0, .int .i64 0] (0, 0) _ rfl (rowA_of RE) Tryd.underlying23 rfl (by kernel_rfl)) rfl ?_
              rw [HB.out.1, HB.out.2]
              exact ⟨rfl, KF⟩
            · have HB := hik (HYE.out (by rw [HGT.out, hg]))
              have HGG := hik (HRV.out (by rw [HGT.out, hg]))
              have z0 : W8.cell? ⟨W7.heap.size, 0, none⟩ = some (.int .i64 G.1) := R8.out.cell (i := 0) (by omega)
              have z1 : W8.cell? ⟨W7.heap.size, 1, none⟩ = some (.int .i64 G.2.1) := R8.out.cell (i := 1) (by omega)
              have z2 : W8.cell? ⟨W7.heap.size, 2, none⟩ = some (.int .i64 G.2.2.1) := R8.out.cell (i := 2) (by omega)
              have z3 : W8.cell? ⟨W7.heap.size, 3, none⟩ = some (.int .i64 G.2.2.2) := R8.out.cell (i := 3) (by omega)
              have c0 : W8.cell? ⟨w.heap.size, 0, none⟩ = some (.int .i64 0) := RB1.out.cell (i := 0) (by omega)
              have c1 : W8.cell? ⟨w.heap.size, 1, none⟩ = some (.int .i64 0) := RB1.out.cell (i := 1) (by omega)
              have c2 : W8.cell? ⟨w.heap.size, 2, none⟩ = some (.int .i64 0) := RB1.out.cell (i := 2) (by omega)
              have c3 : W8.cell? ⟨w.heap.size, 3, none⟩ = some (.int .i64 0) := RB1.out.cell (i := 3) (by omega)
              have f0 := RB1.out.frozen 0
              have f1 := RB1.out.frozen 1
              have f2 := RB1.out.frozen 2
              have f3 := RB1.out.frozen 3
              have lw := RB1.out.lt
              go_wp2
              have RE := (((((RB1.out.set 0 (.int .i64 G.1)).set 1 (.int .i64 G.2.1)).set 2 (.int .i64 G.2.2.1)).set 3 (.int .i64 G.2.2.2)).congr (g := fun i => (#[.int .i64 G.1, .int .i64 G.2.1, .int .i64 G.2.2.1, .int .i64 G.2.2.2] : Array Value).getD i undef) (fun i hi => by rcases (show i = 0 ∨ i = 1 ∨ i = 2 ∨ i = 3 by omega) with rfl | rfl | rfl | rfl <;> rfl))
              have KF := ((((K1.out.setCell (p := ⟨w.heap.size, 0, none⟩) (fun l => absurd (show w.heap.size < w.heap.size from l) (by omega)) (.int .i64 G.1)).setCell (p := ⟨w.heap.size, 1, none⟩) (fun l => absurd (show w.heap.size < w.heap.size from l) (by omega)) (.int .i64 G.2.1)).setCell (p := ⟨w.heap.size, 2, none⟩) (fun l => absurd (show w.heap.size < w.heap.size from l) (by omega)) (.int .i64 G.2.2.1)).setCell (p := ⟨w.heap.size, 3, none⟩) (fun l => absurd (show w.heap.size < w.heap.size from l) (by omega)) (.int .i64 G.2.2.2))
              refine bodyPost_ret (results_row_tmp9 Tryd.results6 _ _ w.heap.size 23 #[.int .i64 G.1, .int .i64 G.2.1, .int .i64 G.2.2.1, .int .i64 G.2.2.2] (0, 0) _ rfl (rowA_of RE) Tryd.underlying23 rfl (by kernel_rfl)) rfl ?_
              rw [HB.out.1, HB.out.2, HGG.out]
              exact ⟨rfl, KF⟩

end Go.Proofs.YtpndbkgjdnkmcaaDoor
