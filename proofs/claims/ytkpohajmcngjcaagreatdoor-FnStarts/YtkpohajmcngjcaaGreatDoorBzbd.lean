/- Several texts in one: What the program's digest of a system is: contracts. Conditions: rows that can be read, lengths of at most 2 to the 40; the tables hold the shifts and the rounds' constants. · What the laws' copy of an opening is: a contract. Conditions: an opening that can be read, lengths of at most 2 to the 20. · What the program begins a proof with: contracts. Conditions: a system, public numbers and a source that can be read; the two tables lie. · What the model begins a proof with: contracts. Conditions: a system, public numbers and a source that can be read. -/
import Derived.Test.YtkpohajmcngjcaaGreatDoorBzbc
import Derived.Test.YtkpohajmcngjcaaGreatDoorBzau
import Derived.Test.YtkpohajmcngjcaaGreatDoorBzaz
import Derived.Test.YtkpohajmcngjcaaGreatDoorBzbl
import Derived.Test.YtkpohajmcngjcaaGreatDoorBzae
import Derived.Test.YtkpohajmcngjcaaGreatDoorBzba
import Derived.Test.YtkpohajmcngjcaaGreatDoorBzao
import Derived.Test.YtkpohajmcngjcaaGreatDoorBzbf
import Derived.Test.YtkpohajmcngjcaaGreatDoorBzbe
import Derived.Test.YtkpohajmcngjcaaGreatDoorBzan
import Derived.Test.YtkpohajmcngjcaaGreatDoorBzbg
import Derived.Test.YtkpohajmcngjcaaGreatDoorBzap
import Derived.Test.YtkpohajmcngjcaaGreatDoorBzbb
import Derived.Test.YtkpohajmcngjcaaGreatDoorBzaf
import Derived.Deep.DeepCutAuto
namespace Go.Proofs.YtkpohajmcngjcaaGreatDoor
open Go.ChangeShapes Go.WideShapes Go.ChangeAt Go.RowKit
set_option linter.unusedVariables false
set_option maxRecDepth 100000
set_option linter.unusedSimpArgs false

set_option maxHeartbeats 4000000 in
theorem digest_any (s : Sy) (a : SyA) (w : World) (hv : Hid (SyV w s a)) (hs : s.small) (ht : Hid (Tabs w)) :
    Calls Tryz.prog 107 #[.agg #[.int .i64 s.r, .int .i64 s.q, .int .i64 s.p, .slice a.cA s.nA a.pA, .slice a.cB s.nB a.pB, .slice a.cC s.nC a.pC]] w fun e w' => e = .returned (.tuple #[.string (sdv s), .int .i64 (sdc s)]) ∧ Chg nob w w' := by
  have KB := hik ((Chg.refl nob w).alloc (.cells #[.int .i64 s.r, .int .i64 s.q, .int .i64 s.p, .slice a.cA s.nA a.pA, .slice a.cB s.nB a.pB, .slice a.cC s.nC a.pC] 40))
  have BX := hik (cel6 (w := w.alloc (.cells #[.int .i64 s.r, .int .i64 s.q, .int .i64 s.p, .slice a.cA s.nA a.pA, .slice a.cB s.nB a.pB, .slice a.cC s.nC a.pC] 40)) (g := w.heap.size) (v0 := .int .i64 s.r) (v1 := .int .i64 s.q) (v2 := .int .i64 s.p) (v3 := .slice a.cA s.nA a.pA) (v4 := .slice a.cB s.nB a.pB) (v5 := .slice a.cC s.nC a.pC) (by go_simp) (by go_simp) (by go_simp) (by go_simp) (by go_simp) (by go_simp))
  cases h1 : sysb s with
  | false =>
    have HC := hik (show sdc s = 1 by unfold sdc; rw [h1]; rfl)
    have HV := hik (show sdv s = ⟨#[]⟩ by unfold sdv; rw [h1]; rfl)
    rw [HC.out, HV.out]
    have H1 := hik h1
    clear h1
    go_enter Tryz.func107, Tryz.ntmps107
    go_upto_region 1 with fail
    generalize w.alloc (.cells #[.int .i64 s.r, .int .i64 s.q, .int .i64 s.p, .slice a.cA s.nA a.pA, .slice a.cB s.nB a.pB, .slice a.cC s.nC a.pC] 40) = B at KB BX ⊢
    obtain ⟨x0, x1, x2, x3, x4, x5⟩ := BX.out.six
    go_wp2_with fail
    refine (sysOK_any s a _ (hik (hv.out.keep KB.out)) hs).mono ?_
    rw [H1.out]
    rintro e W1 ⟨rfl, k1⟩
    have K1 := hik (KB.out.trans k1)
    clear k1
    go_wp2
    go_ret2
    exact ⟨rfl, K1.out⟩
  | true =>
  have HC := hik (show sdc s = 0 by unfold sdc; rw [h1]; rfl)
  have HV := hik (show sdv s = hsh (sdK s 3) by unfold sdv; rw [h1]; rfl)
  rw [HC.out, HV.out]
  obtain ⟨⟨nA2, nB2, nC2⟩, _, _⟩ := sysb_ent h1
  have H1 := hik h1
  have HSZ := hik (sdK_size nA2 nB2 nC2 3)
  clear h1
  go_enter Tryz.func107, Tryz.ntmps107
  go_upto_region 1 with fail
  generalize w.alloc (.cells #[.int .i64 s.r, .int .i64 s.q, .int .i64 s.p, .slice a.cA s.nA a.pA, .slice a.cB s.nB a.pB, .slice a.cC s.nC a.pC] 40) = B at KB BX ⊢
  obtain ⟨x0, x1, x2, x3, x4, x5⟩ := BX.out.six
  go_wp2_with fail
  refine (sysOK_any s a _ (hik (hv.out.keep KB.out)) hs).mono ?_
  rw [H1.out]
  rintro e W1 ⟨rfl, k1⟩
  have K1 := hik (KB.out.trans k1)
  replace BX := hik (BX.out.keep k1)
  clear k1 x0 x1 x2 x3 x4 x5 KB
  obtain ⟨x0, x1, x2, x3, x4, x5⟩ := BX.out.six
  go_wp2_with fail
  refine (digestText_any s a _ (hik (hv.out.keep K1.out)) H1).mono ?_
  rintro e W2 ⟨B2, g2, n2, cap2, rfl, o2, k2, l2⟩
  have HO := hik o2
  have K2 := hik (K1.out.trans k2)
  have hcm : (cap2 : Int) ≤ 9223372036854775807 := by have := o2.m; unfold maxLen at this; omega
  have hn2 : n2 ≤ 5000 := by have := o2.e; have := HSZ.out; omega
  have HKH := hik (show kh (zs (sdK s 3)) n2 = hsh (sdK s 3) by rw [o2.e]; exact kh_text _ (by have := HSZ.out; omega))
  clear o2 k2 l2 x0 x1 x2 x3 x4 x5
  go_wp2_with fail
  refine (keccak256_any (some ⟨g2, 0, none⟩) n2 cap2 (zs (sdK s 3)) _ (hik HO.out.r.row) (hik (zs_B _)) (hik (ht.out.keep K2.out)) (by omega) HO.out.r.le hcm).mono ?_
  rintro e W9 ⟨rfl, k9⟩
  have K9 := hik (K2.out.trans k9)
  clear k9
  go_wp2
  go_ret2
  exact ⟨by rw [HKH.out]; rfl, K9.out⟩

end Go.Proofs.YtkpohajmcngjcaaGreatDoor

namespace Go.Proofs.YtkpohajmcngjcaaGreatDoor
open Go.ChangeShapes Go.WideShapes Go.ChangeAt Go.RowKit
set_option linter.unusedVariables false
set_option maxRecDepth 100000
set_option linter.unusedSimpArgs false

/-- An opening that can be read. -/
def OpV (w : World) (o : OD) (cR : Option Addr) (pR : Nat) (cT : Option Addr) (pT : Nat) (cQ : Option Addr) (pQ : Nat) : Prop :=
  o.R.Rep w (.slice cR o.nr pR) ∧ o.S.Rep w (.slice cT o.nt pT) ∧ o.Q.Rep w (.slice cQ o.nq pQ)
theorem OpV.keep {w w' : World} {o : OD} {cR : Option Addr} {pR : Nat} {cT : Option Addr} {pT : Nat} {cQ : Option Addr} {pQ : Nat} (h : OpV w o cR pR cT pT cQ pQ) (k : Chg nob w w') : OpV w' o cR pR cT pT cQ pQ := ⟨h.1.keep k, h.2.1.keep k, h.2.2.keep k⟩
/-- Lengths of at most 2 to the 20. -/
def OD.small (o : OD) : Prop := o.R.small 1048576 ∧ o.S.small 1048576 ∧ o.Q.small 1048576


end Go.Proofs.YtkpohajmcngjcaaGreatDoor

namespace Go.Proofs.YtkpohajmcngjcaaGreatDoor
open Go.ChangeShapes Go.WideShapes Go.ChangeAt Go.RowKit
set_option linter.unusedVariables false
set_option maxRecDepth 100000
set_option linter.unusedSimpArgs false

set_option maxHeartbeats 8000000 in
theorem startCode_any (s : Sy) (a : SyA) (r n g : Int) (c : Option Addr) (P cap : Nat) (f : Nat → Int) (cs : Option Addr) (ls ps : Nat) (at' : Int) (st : ByteArray) (ct : Int) (fs gs : Nat → Int) (w : World) (hv : Hid (SyV w s a)) (hs : s.small) (hf : Hid (RowV w c P (iv f))) (hP : P ≤ 1099511627776) (hsr : Hid (PairV w cs ls fs gs)) (hls : (ls : Int) ≤ 9223372036854775807) (hst : (st.size : Int) ≤ 9223372036854775807) :
    Calls Tryz.prog 37 #[.agg #[.int .i64 s.r, .int .i64 s.q, .int .i64 s.p, .slice a.cA s.nA a.pA, .slice a.cB s.nB a.pB, .slice a.cC s.nC a.pC, .int .i64 r, .int .i64 n, .int .i64 g, .slice c P cap], .agg #[.slice cs ls ps, .int .i64 at', .string st, .int .i64 ct]] w fun e w' => e = .returned (.int .i64 (stk s r n g P f (sokb fs gs ls at' st ct) at' ct)) ∧ Chg nob w w' := by
  have K0 := hik (((Chg.refl nob w).alloc (.cells #[.int .i64 s.r, .int .i64 s.q, .int .i64 s.p, .slice a.cA s.nA a.pA, .slice a.cB s.nB a.pB, .slice a.cC s.nC a.pC, .int .i64 r, .int .i64 n, .int .i64 g, .slice c P cap] 75)).alloc (.cells #[.slice cs ls ps, .int .i64 at', .string st, .int .i64 ct] 35))
  have RM := hik (rowIs_keep (rowN_new w 10 #[.int .i64 s.r, .int .i64 s.q, .int .i64 s.p, .slice a.cA s.nA a.pA, .slice a.cB s.nB a.pB, .slice a.cC s.nC a.pC, .int .i64 r, .int .i64 n, .int .i64 g, .slice c P cap] 75 rfl) ((Chg.refl nob _).alloc (.cells #[.slice cs ls ps, .int .i64 at', .string st, .int .i64 ct] 35)))
  have RS := hik (rowN_new (w.alloc (.cells #[.int .i64 s.r, .int .i64 s.q, .int .i64 s.p, .slice a.cA s.nA a.pA, .slice a.cB s.nB a.pB, .slice a.cC s.nC a.pC, .int .i64 r, .int .i64 n, .int .i64 g, .slice c P cap] 75)) 4 #[.slice cs ls ps, .int .i64 at', .string st, .int .i64 ct] 35 rfl)
  rw [asz] at RS
  go_enter Tryz.func37, Tryz.ntmps37
  go_wp2_with fail
  generalize hW : (w.alloc (.cells #[.int .i64 s.r, .int .i64 s.q, .int .i64 s.p, .slice a.cA s.nA a.pA, .slice a.cB s.nB a.pB, .slice a.cC s.nC a.pC, .int .i64 r, .int .i64 n, .int .i64 g, .slice c P cap] 75)).alloc (.cells #[.slice cs ls ps, .int .i64 at', .string st, .int .i64 ct] 35) = W0 at K0 RM RS ⊢
  clear hW
  refine (sysOK_any s a _ (hik (hv.out.keep K0.out)) hs).mono ?_
  rintro e W1 ⟨rfl, kk⟩
  replace K0 := hik (K0.out.trans kk)
  replace RM := hik (rowIs_keep RM.out kk)
  replace RS := hik (rowIs_keep RS.out kk)
  clear kk
  cases b0 : sysb s
  · have HB := hik (show stk s r n g P f (sokb fs gs ls at' st ct) at' ct = 1 by unfold stk; rw [if_pos (.inl b0)])
    go_wp2
    go_ret
    exact ⟨(by rw [HB.out] <;> rfl), K0.out⟩
  have x6 : W1.cell? ⟨w.heap.size, 6, none⟩ = some (.int .i64 r) := RM.out.cell (i := 6) (by omega)
  have x7 : W1.cell? ⟨w.heap.size, 7, none⟩ = some (.int .i64 n) := RM.out.cell (i := 7) (by omega)
  have x8 : W1.cell? ⟨w.heap.size, 8, none⟩ = some (.int .i64 g) := RM.out.cell (i := 8) (by omega)
  go_wp2_with fail
  clear x6 x7 x8
  refine (settingOK_any r n g _).mono ?_
  rintro e W2 ⟨rfl, kk⟩
  replace K0 := hik (K0.out.trans kk)
  replace RM := hik (rowIs_keep RM.out kk)
  replace RS := hik (rowIs_keep RS.out kk)
  clear kk
  cases b1 : stb r n g
  · have HB := hik (show stk s r n g P f (sokb fs gs ls at' st ct) at' ct = 1 by unfold stk; rw [if_pos (.inr (.inl b1))])
    go_wp2
    go_ret
    exact ⟨(by rw [HB.out] <;> rfl), K0.out⟩
  have x9 : W2.cell? ⟨w.heap.size, 9, none⟩ = some (.slice c P cap) := RM.out.cell (i := 9) (by omega)
  go_wp2_with fail
  clear x9
  refine (numsOK_any c P cap f _ (hik (hf.out.keep K0.out)) hP).mono ?_
  rintro e W3 ⟨rfl, hw⟩
  have hw := hw.symm
  subst hw
  cases b2 : fds P f
  · have HB := hik (show stk s r n g P f (sokb fs gs ls at' st ct) at' ct = 1 by unfold stk; rw [if_pos (.inr (.inr (.inl b2)))])
    go_wp2
    go_ret
    exact ⟨(by rw [HB.out] <;> rfl), K0.out⟩
  have y0 : W2.cell? ⟨w.heap.size + 1, 0, none⟩ = some (.slice cs ls ps) := RS.out.cell (i := 0) (by omega)
  have y1 : W2.cell? ⟨w.heap.size + 1, 1, none⟩ = some (.int .i64 at') := RS.out.cell (i := 1) (by omega)
  have y2 : W2.cell? ⟨w.heap.size + 1, 2, none⟩ = some (.string st) := RS.out.cell (i := 2) (by omega)
  have y3 : W2.cell? ⟨w.heap.size + 1, 3, none⟩ = some (.int .i64 ct) := RS.out.cell (i := 3) (by omega)
  go_wp2_with fail
  clear y0 y1 y2 y3
  refine (sourceOK_any cs ls ps at' st ct fs gs _ (hik (hsr.out.keep K0.out)) hls hst).mono ?_
  rintro e W4 ⟨rfl, kk⟩
  replace K0 := hik (K0.out.trans kk)
  replace RM := hik (rowIs_keep RM.out kk)
  replace RS := hik (rowIs_keep RS.out kk)
  clear kk
  cases b3 : sokb fs gs ls at' st ct
  · have HB := hik (show stk s r n g P f (sokb fs gs ls at' st ct) at' ct = 1 by unfold stk; rw [if_pos (.inr (.inr (.inr b3)))])
    go_wp2
    go_ret
    exact ⟨(by rw [HB.out] <;> rfl), K0.out⟩
  have SP := sokb_in b3
  have x2 : W4.cell? ⟨w.heap.size, 2, none⟩ = some (.int .i64 s.p) := RM.out.cell (i := 2) (by omega)
  have x9 : W4.cell? ⟨w.heap.size, 9, none⟩ = some (.slice c P cap) := RM.out.cell (i := 9) (by omega)
  by_cases b4 : (P : Int) = s.p
  rotate_left 1
  · have HB := hik (show stk s r n g P f (sokb fs gs ls at' st ct) at' ct = 17 by unfold stk; rw [if_neg (by rw [b0, b1, b2, b3]; simp), if_pos b4])
    go_wp2
    go_ret
    exact ⟨(by rw [HB.out] <;> rfl), K0.out⟩
  have y0 : W4.cell? ⟨w.heap.size + 1, 0, none⟩ = some (.slice cs ls ps) := RS.out.cell (i := 0) (by omega)
  have y1 : W4.cell? ⟨w.heap.size + 1, 1, none⟩ = some (.int .i64 at') := RS.out.cell (i := 1) (by omega)
  have y2 : W4.cell? ⟨w.heap.size + 1, 2, none⟩ = some (.string st) := RS.out.cell (i := 2) (by omega)
  have y3 : W4.cell? ⟨w.heap.size + 1, 3, none⟩ = some (.int .i64 ct) := RS.out.cell (i := 3) (by omega)
  go_wp2_with fail
  clear y0 y1 y2 y3 x2 x9
  refine (left_any cs ls ps at' st ct _ SP.1 SP.2.1 SP.2.2.1 SP.2.2.2).mono ?_
  rintro e W5 ⟨lf, rfl, hlf, kk⟩
  have HLF := hlf 200
  clear hlf
  replace K0 := hik (K0.out.trans kk)
  replace RM := hik (rowIs_keep RM.out kk)
  replace RS := hik (rowIs_keep RS.out kk)
  clear kk
  cases b5 : spb at' ct 200
  · have hl : ¬ lf < 200 := fun h => by have := HLF.1 h; rw [b5] at this; cases this
    have HB := hik (show stk s r n g P f (sokb fs gs ls at' st ct) at' ct = 0 by unfold stk; rw [if_neg (by rw [b0, b1, b2, b3]; simp), if_neg (by simpa using b4), b5]; rfl)
    go_wp2
    go_ret
    exact ⟨(by rw [HB.out] <;> rfl), K0.out⟩
  · have hl : lf < 200 := HLF.2 b5
    have HB := hik (show stk s r n g P f (sokb fs gs ls at' st ct) at' ct = 6 by unfold stk; rw [if_neg (by rw [b0, b1, b2, b3]; simp), if_neg (by simpa using b4), if_pos b5])
    go_wp2
    go_ret
    exact ⟨(by rw [HB.out] <;> rfl), K0.out⟩

set_option maxHeartbeats 8000000 in
theorem stText_any (s : Sy) (a : SyA) (r n g : Int) (c : Option Addr) (P cap : Nat) (f : Nat → Int) (w : World) (hv : Hid (SyV w s a)) (hs : s.small) (hok : Hid (sysb s = true)) (hst : Hid (stb r n g = true)) (hf : Hid (RowV w c P (iv f))) (hfb : Hid (fds P f = true)) (hP : P ≤ 4096) (ht : Hid (Tabs w)) :
    Calls Tryz.prog 78 #[.agg #[.int .i64 s.r, .int .i64 s.q, .int .i64 s.p, .slice a.cA s.nA a.pA, .slice a.cB s.nB a.pB, .slice a.cC s.nC a.pC, .int .i64 r, .int .i64 n, .int .i64 g, .slice c P cap]] w fun e w' => e = .returned (.string (stX s r n g P f)) ∧ Chg nob w w' := by
  obtain ⟨⟨r1, r3⟩, ⟨n1, n8⟩, g0, g12⟩ := stb_parts hst.out
  obtain ⟨i0, hi, hz0, hz1, hz2⟩ := info_parts infoU8
  have HI := hik hi
  have HZ0 := hik hz0
  have HZ1 := hik hz1
  have HZ2 := hik hz2
  clear hi hz0 hz1 hz2
  have H3 := hik (fun j (hj : j < 3) => by3_at (r := r) (q := n) (p := g) (by omega) (by omega) (by omega) (by omega) (by omega) (by omega) hj)
  have hr256 : r % 256 = r := by omega
  have hq256 : n % 256 = n := by omega
  have hp256 : g % 256 = g := by omega
  have HFB := hik (fun (i : Nat) (hi : i < P) => fds_at hfb.out hi)
  have K0 := hik ((Chg.refl nob w).alloc (.cells #[.int .i64 s.r, .int .i64 s.q, .int .i64 s.p, .slice a.cA s.nA a.pA, .slice a.cB s.nB a.pB, .slice a.cC s.nC a.pC, .int .i64 r, .int .i64 n, .int .i64 g, .slice c P cap] 75))
  have RM := hik (rowN_new w 10 #[.int .i64 s.r, .int .i64 s.q, .int .i64 s.p, .slice a.cA s.nA a.pA, .slice a.cB s.nB a.pB, .slice a.cC s.nC a.pC, .int .i64 r, .int .i64 n, .int .i64 g, .slice c P cap] 75 rfl)
  have dc : sdc s = 0 := by unfold sdc; rw [if_pos hok.out]
  obtain ⟨D, hD0⟩ : ∃ D, D = hsh (sdK s 3) := ⟨_, rfl⟩
  have hD : D.size = 32 := by rw [hD0]; exact hsh_size _
  have HX := hik (show stX s r n g P f = stW (D ++ by3 r n g) f P by rw [hD0]; rfl)
  have dv : sdv s = D := by rw [hD0]; unfold sdv; rw [if_pos hok.out]
  clear hD0
  go_enter Tryz.func78, Tryz.ntmps78
  go_wp2_with fail
  generalize hW : w.alloc (.cells #[.int .i64 s.r, .int .i64 s.q, .int .i64 s.p, .slice a.cA s.nA a.pA, .slice a.cB s.nB a.pB, .slice a.cC s.nC a.pC, .int .i64 r, .int .i64 n, .int .i64 g, .slice c P cap] 75) = W0 at K0 RM ⊢
  clear hW
  refine (digest_any s a _ (hik (hv.out.keep K0.out)) hs (hik (ht.out.keep K0.out))).mono ?_
  rintro e W1 ⟨he, kk⟩
  rw [dc, dv] at he
  subst he
  replace K0 := hik (K0.out.trans kk)
  replace RM := hik (rowIs_keep RM.out kk)
  clear kk dc dv
  obtain ⟨WM, capM, hcvM, HB, KM, hcm⟩ := conv_text D W1 (by omega)
  rw [hD] at hcvM HB
  have HBT := hik (show BT WM W1.heap.size W1.heap.size 32 capM D from ⟨hD.symm, HB.out, by unfold maxLen; omega⟩)
  have hlo := K0.out.size
  have hw0 : w.heap.size < W1.heap.size := RM.out.lt
  have hm1 := HBT.out.r.lt
  clear HB hcm

  have x6 : WM.cell? ⟨w.heap.size, 6, none⟩ = some (.int .i64 r) := KM.out.look (RM.out.cell (i := 6) (by omega))
  have x7 : WM.cell? ⟨w.heap.size, 7, none⟩ = some (.int .i64 n) := KM.out.look (RM.out.cell (i := 7) (by omega))
  have x8 : WM.cell? ⟨w.heap.size, 8, none⟩ = some (.int .i64 g) := KM.out.look (RM.out.cell (i := 8) (by omega))
  go_wp2_with (at_builtin; refine wpList_append_bt _ rfl (.tmp 15) (.tmp 28) 53 rfl 5 i0 (.int .u8 0) Tryz.underlying53 HI.out HZ0.out HZ1.out HZ2.out rfl W1.heap.size W1.heap.size 32 capM D rfl (by simp; omega) (HBT.out.keep ((Chg.refl nob _).alloc _)) ⟨_, 0, none⟩ 3 3 (by3 r n g) rfl (by3_size _ _ _).symm ?c1 (by omega) (by omega) ?c2)
  case c1 =>
    intro j hj
    rw [by3_size] at hj
    rw [show bb (zs (by3 r n g)) j = .int .u8 (if j = 0 then r else if j = 1 then n else g) by unfold bb; rw [H3.out j hj]]
    rcases (show j = 0 ∨ j = 1 ∨ j = 2 by omega) with rfl | rfl | rfl <;> simp [Addr.add, hr256, hq256, hp256] <;> omega
  case c2 =>
    intro g2 cap2 W2 o2 k2 l2
    have O2 := hik o2
    have K2 := hik (K0.out.near (((KM.out.alloc _).wide).trans k2) (fun i q => by have q : i = W1.heap.size := q; omega))
    have R2 := hik (rowIs_chg (rowIs_keep RM.out (KM.out.alloc _)) k2 (fun q => by have q : w.heap.size = W1.heap.size := q; omega))
    have HB2 := hik (show W1.heap.size ≤ W2.heap.size by have := k2.size; have := (KM.out.alloc (.cells #[.int .u8 r, .int .u8 n, .int .u8 g] 5)).size; omega)
    have x9 : W2.cell? ⟨w.heap.size, 9, none⟩ = some (.slice c P cap) := R2.out.cell (i := 9) (by omega)
    clear o2 k2 l2 KM hm1 hcvM x6 x7 x8 HBT H3 hr256 hq256 hp256 R2
    generalize hDT : D ++ by3 r n g = DT at O2 HX ⊢
    have hDS : DT.size = 35 := by rw [← hDT, ByteArray.size_append, by3_size, hD]
    clear hDT hD
    generalize hB : W1.heap.size = gB at O2 HB2 hw0 ⊢
    clear hB
    go_wp2
    clear x9
    go_loopw [5, 33] (fun v i W => ∃ (k gk nk capk : Nat), k ≤ P ∧ nk = 35 + 4 * k ∧ i = .int .i64 k ∧ v = .slice (some ⟨gk, 0, none⟩) nk capk ∧ Hid (BT W gB gk nk capk (stW DT f k)) ∧ Hid (Chg nob w W) ∧ Hid (gB ≤ W.heap.size)) (fun _ i _ => P - (intOf i).toNat)
    case atStart => exact ⟨0, g2, 35, cap2, by omega, by omega, rfl, rfl, O2, K2, HB2⟩
    case round =>
      clear O2 K2 HB2
      obtain ⟨k, gk, nk, capk, hk, hnk, rfl, rfl, HO, HG, HL⟩ := hrel
      rename World => wi
      have hnk' : nk ≤ 900000 := by omega
      have HNK := hik hnk
      clear hnk
      by_cases hlt : k < P
      · have hk1 : (k : Int) < (P : Int) := by omega
        have hk0 : (0 : Int) ≤ (k : Int) := by omega
        obtain ⟨xb, xo, rfl, hxb, hc⟩ := (hf.out.keep HG.out) k hlt
        have hx : wi.cell? ⟨xb, xo + k, none⟩ = some (.int .i64 (f k)) := hc
        clear hc
        have FB := HFB.out k hlt
        go_wp2_with fail
        refine (appendWord_bt gB gk nk capk (stW DT f k) (f k) _ HO FB.1 FB.2 hnk' HL.out).mono ?_
        rintro e W5 ⟨g5, cap5, rfl, o5, k5, l5⟩
        have O5 := hik (show BT W5 gB g5 (nk + 4) cap5 (stW DT f (k + 1)) from o5)
        have G5 := hik (HG.out.near k5 (fun i q => by have q : i = gk := q; have := HO.out.r.lo; omega))
        have L5 := hik (Nat.le_trans HL.out k5.size)
        clear o5 k5 l5 hx FB
        go_wp2
        go_roundw
        case rel => exact ⟨k + 1, g5, nk + 4, cap5, by omega, by have := HNK.out; omega, by go_num, rfl, O5, G5, L5⟩
        case measure => simp [intOf]; omega
      · have hcc : ¬ (k : Int) < (P : Int) := by omega
        have hke : P = k := by omega
        have hcv : (convert 53 9 (.slice (some ⟨gk, 0, none⟩) nk capk)).run Tryz.prog wi = .ok (.string (stW DT f P)) wi := by
          have q := convB (some ⟨gk, 0, none⟩) nk capk (zs (stW DT f k)) wi (BRow.row HO.out.r)
          rw [show bt (zs (stW DT f k)) nk = stW DT f P by rw [HO.out.e, bt_zs9, hke]] at q
          exact q
        clear hke
        go_wp2
        go_ret
        exact ⟨(by rw [HX.out] <;> rfl), HG.out⟩

end Go.Proofs.YtkpohajmcngjcaaGreatDoor

namespace Go.Proofs.YtkpohajmcngjcaaGreatDoor
open Go.ChangeShapes Go.WideShapes Go.ChangeAt Go.RowKit
set_option linter.unusedVariables false
set_option maxRecDepth 100000
set_option linter.unusedSimpArgs false

set_option maxHeartbeats 8000000 in
theorem sAsk12_any (s : Sy) (a : SyA) (r n g : Int) (c : Option Addr) (P cap : Nat) (f : Nat → Int) (cs : Option Addr) (ls ps : Nat) (at' : Int) (st : ByteArray) (ct : Int) (fs gs : Nat → Int) (w : World) (hv : Hid (SyV w s a)) (hs : s.small) (hf : Hid (RowV w c P (iv f))) (hP : P ≤ 1099511627776) (hsr : Hid (PairV w cs ls fs gs)) (hls : (ls : Int) ≤ 9223372036854775807) (hss : (st.size : Int) ≤ 9223372036854775807) (hP2 : P ≤ 4096) :
    Calls Tryz.prog 32 #[.agg #[.int .i64 s.r, .int .i64 s.q, .int .i64 s.p, .slice a.cA s.nA a.pA, .slice a.cB s.nB a.pB, .slice a.cC s.nC a.pC], .agg #[.int .i64 r, .int .i64 n, .int .i64 g], .slice c P cap, .agg #[.slice cs ls ps, .int .i64 at', .string st, .int .i64 ct]] w fun e w' => e = .returned (.int .i64 (stk s r n g P f (sokb fs gs ls at' st ct) at' ct)) ∧ Chg nob w w' := by
  have K0 := hik ((((Chg.refl nob w).alloc (.cells #[.int .i64 s.r, .int .i64 s.q, .int .i64 s.p, .slice a.cA s.nA a.pA, .slice a.cB s.nB a.pB, .slice a.cC s.nC a.pC] 40)).alloc (.cells #[.int .i64 r, .int .i64 n, .int .i64 g] 42)).alloc (.cells #[.slice cs ls ps, .int .i64 at', .string st, .int .i64 ct] 35))
  have RS := hik (rowIs_keep (rowN_new w 6 #[.int .i64 s.r, .int .i64 s.q, .int .i64 s.p, .slice a.cA s.nA a.pA, .slice a.cB s.nB a.pB, .slice a.cC s.nC a.pC] 40 rfl) (((Chg.refl nob _).alloc (.cells #[.int .i64 r, .int .i64 n, .int .i64 g] 42)).alloc (.cells #[.slice cs ls ps, .int .i64 at', .string st, .int .i64 ct] 35)))
  have RT := hik (rowIs_keep (rowN_new (w.alloc (.cells #[.int .i64 s.r, .int .i64 s.q, .int .i64 s.p, .slice a.cA s.nA a.pA, .slice a.cB s.nB a.pB, .slice a.cC s.nC a.pC] 40)) 3 #[.int .i64 r, .int .i64 n, .int .i64 g] 42 rfl) ((Chg.refl nob _).alloc (.cells #[.slice cs ls ps, .int .i64 at', .string st, .int .i64 ct] 35)))
  have RR := hik (rowN_new ((w.alloc (.cells #[.int .i64 s.r, .int .i64 s.q, .int .i64 s.p, .slice a.cA s.nA a.pA, .slice a.cB s.nB a.pB, .slice a.cC s.nC a.pC] 40)).alloc (.cells #[.int .i64 r, .int .i64 n, .int .i64 g] 42)) 4 #[.slice cs ls ps, .int .i64 at', .string st, .int .i64 ct] 35 rfl)
  rw [asz] at RT
  rw [asz, asz] at RR
  have hl' : ¬ (4096 : Int) < P := by omega
  go_enter Tryz.func32, Tryz.ntmps32
  go_wp2_with fail
  generalize hW : ((w.alloc (.cells #[.int .i64 s.r, .int .i64 s.q, .int .i64 s.p, .slice a.cA s.nA a.pA, .slice a.cB s.nB a.pB, .slice a.cC s.nC a.pC] 40)).alloc (.cells #[.int .i64 r, .int .i64 n, .int .i64 g] 42)).alloc (.cells #[.slice cs ls ps, .int .i64 at', .string st, .int .i64 ct] 35) = W0 at K0 RS RT RR ⊢
  clear hW
  refine (sSysOK_any s a _ (hik (hv.out.keep K0.out)) hs).mono ?_
  rintro e W1 ⟨rfl, kk⟩
  replace K0 := hik (K0.out.trans kk)
  replace RS := hik (rowIs_keep RS.out kk)
  replace RT := hik (rowIs_keep RT.out kk)
  replace RR := hik (rowIs_keep RR.out kk)
  clear kk
  cases b0 : sysb s
  · have HB := hik (show stk s r n g P f (sokb fs gs ls at' st ct) at' ct = 1 by unfold stk; rw [if_pos (.inl b0)])
    go_wp2
    go_ret
    exact ⟨(by rw [HB.out] <;> rfl), K0.out⟩
  have x0 : W1.cell? ⟨w.heap.size + 1, 0, none⟩ = some (.int .i64 r) := RT.out.cell (i := 0) (by omega)
  have x1 : W1.cell? ⟨w.heap.size + 1, 1, none⟩ = some (.int .i64 n) := RT.out.cell (i := 1) (by omega)
  have x2 : W1.cell? ⟨w.heap.size + 1, 2, none⟩ = some (.int .i64 g) := RT.out.cell (i := 2) (by omega)
  go_wp2_with fail
  clear x0 x1 x2
  refine (sSettingOK_any r n g _).mono ?_
  rintro e W2 ⟨rfl, kk⟩
  replace K0 := hik (K0.out.trans kk)
  replace RS := hik (rowIs_keep RS.out kk)
  replace RT := hik (rowIs_keep RT.out kk)
  replace RR := hik (rowIs_keep RR.out kk)
  clear kk
  cases b1 : stb r n g
  · have HB := hik (show stk s r n g P f (sokb fs gs ls at' st ct) at' ct = 1 by unfold stk; rw [if_pos (.inr (.inl b1))])
    go_wp2
    go_ret
    exact ⟨(by rw [HB.out] <;> rfl), K0.out⟩
  go_wp2_with fail
  refine (sFields_any c P cap f _ (hik (hf.out.keep K0.out)) hP).mono ?_
  rintro e W3 ⟨rfl, hw⟩
  have hw := hw.symm
  subst hw
  cases b2 : fds P f
  · have HB := hik (show stk s r n g P f (sokb fs gs ls at' st ct) at' ct = 1 by unfold stk; rw [if_pos (.inr (.inr (.inl b2)))])
    go_wp2
    go_ret
    exact ⟨(by rw [HB.out] <;> rfl), K0.out⟩
  have y0 : W2.cell? ⟨w.heap.size + 1 + 1, 0, none⟩ = some (.slice cs ls ps) := RR.out.cell (i := 0) (by omega)
  have y1 : W2.cell? ⟨w.heap.size + 1 + 1, 1, none⟩ = some (.int .i64 at') := RR.out.cell (i := 1) (by omega)
  have y2 : W2.cell? ⟨w.heap.size + 1 + 1, 2, none⟩ = some (.string st) := RR.out.cell (i := 2) (by omega)
  have y3 : W2.cell? ⟨w.heap.size + 1 + 1, 3, none⟩ = some (.int .i64 ct) := RR.out.cell (i := 3) (by omega)
  go_wp2_with fail
  clear y0 y1 y2 y3
  refine (sSourceOK_any cs ls ps at' st ct fs gs _ (hik (hsr.out.keep K0.out)) hls hss).mono ?_
  rintro e W4 ⟨rfl, kk⟩
  replace K0 := hik (K0.out.trans kk)
  replace RS := hik (rowIs_keep RS.out kk)
  replace RT := hik (rowIs_keep RT.out kk)
  replace RR := hik (rowIs_keep RR.out kk)
  clear kk
  cases b3 : sokb fs gs ls at' st ct
  · have HB := hik (show stk s r n g P f (sokb fs gs ls at' st ct) at' ct = 1 by unfold stk; rw [if_pos (.inr (.inr (.inr b3)))])
    go_wp2
    go_ret
    exact ⟨(by rw [HB.out] <;> rfl), K0.out⟩
  have x2 : W4.cell? ⟨w.heap.size, 2, none⟩ = some (.int .i64 s.p) := RS.out.cell (i := 2) (by omega)
  by_cases b4 : (P : Int) = s.p
  rotate_left 1
  · have HB := hik (show stk s r n g P f (sokb fs gs ls at' st ct) at' ct = 17 by unfold stk; rw [if_neg (by rw [b0, b1, b2, b3]; simp), if_pos b4])
    go_wp2
    go_ret
    exact ⟨(by rw [HB.out] <;> rfl), K0.out⟩
  have y0 : W4.cell? ⟨w.heap.size + 1 + 1, 0, none⟩ = some (.slice cs ls ps) := RR.out.cell (i := 0) (by omega)
  have y1 : W4.cell? ⟨w.heap.size + 1 + 1, 1, none⟩ = some (.int .i64 at') := RR.out.cell (i := 1) (by omega)
  have y2 : W4.cell? ⟨w.heap.size + 1 + 1, 2, none⟩ = some (.string st) := RR.out.cell (i := 2) (by omega)
  have y3 : W4.cell? ⟨w.heap.size + 1 + 1, 3, none⟩ = some (.int .i64 ct) := RR.out.cell (i := 3) (by omega)
  go_wp2_with fail
  clear y0 y1 y2 y3 x2
  refine (sSpent_any cs ls ps at' st ct 200 _ (by omega)).mono ?_
  rintro e W5 ⟨rfl, kk⟩
  replace K0 := hik (K0.out.trans kk)
  replace RS := hik (rowIs_keep RS.out kk)
  replace RT := hik (rowIs_keep RT.out kk)
  replace RR := hik (rowIs_keep RR.out kk)
  clear kk
  cases b5 : spb at' ct 200
  · have HB := hik (show stk s r n g P f (sokb fs gs ls at' st ct) at' ct = 0 by unfold stk; rw [if_neg (by rw [b0, b1, b2, b3]; simp), if_neg (by simpa using b4), b5]; rfl)
    go_wp2
    go_ret
    exact ⟨(by rw [HB.out] <;> rfl), K0.out⟩
  · have HB := hik (show stk s r n g P f (sokb fs gs ls at' st ct) at' ct = 6 by unfold stk; rw [if_neg (by rw [b0, b1, b2, b3]; simp), if_neg (by simpa using b4), if_pos b5])
    go_wp2
    go_ret
    exact ⟨(by rw [HB.out] <;> rfl), K0.out⟩

set_option maxHeartbeats 16000000 in
theorem sStart12_any (s : Sy) (a : SyA) (r n g : Int) (c : Option Addr) (P cap : Nat) (f : Nat → Int) (cs : Option Addr) (ls ps : Nat) (at' : Int) (st : ByteArray) (ct : Int) (fs gs : Nat → Int) (w : World) (hv : Hid (SyV w s a)) (hok : Hid (sysb s = true)) (hst : Hid (stb r n g = true)) (hf : Hid (RowV w c P (iv f))) (hfb : Hid (fds P f = true)) (hP : P ≤ 4096) (hss : st.size = 32) :
    Calls Tryz.prog 34 #[.agg #[.int .i64 s.r, .int .i64 s.q, .int .i64 s.p, .slice a.cA s.nA a.pA, .slice a.cB s.nB a.pB, .slice a.cC s.nC a.pC], .agg #[.int .i64 r, .int .i64 n, .int .i64 g], .slice c P cap, .agg #[.slice cs ls ps, .int .i64 at', .string st, .int .i64 ct]] w fun e w' => e = .returned (.agg #[.slice cs ls ps, .int .i64 at', .string (abS st (stX s r n g P f)), .int .i64 0]) ∧ Chg nob w w' := by
  obtain ⟨⟨r1, r3⟩, ⟨n1, n8⟩, g0, g12⟩ := stb_parts hst.out
  obtain ⟨DT, hDT⟩ : ∃ DT, DT = stT s r n g := ⟨_, rfl⟩
  have HX := hik (show stX s r n g P f = stW DT f P by rw [hDT]; rfl)
  have hts : (stW DT f P).size ≤ 65536 := by rw [← HX.out, stX_size]; omega
  have hT35 : DT.size = 35 := by rw [hDT]; exact stT_size s r n g
  have HDT := hik (show DT = hsh (sdK s 3) ++ by3 r n g from hDT)
  clear hDT
  have HFB := hik (fun (i : Nat) (hi : i < P) => fds_at hfb.out hi)
  have hr256 : r % 256 = r := by omega
  have hq256 : n % 256 = n := by omega
  have hp256 : g % 256 = g := by omega
  have hwr : IntKind.u8.wrap r = r := by first | (rw [IntKind.wrap_u8]; omega) | (simp [IntKind.wrap]; omega)
  have hwn : IntKind.u8.wrap n = n := by first | (rw [IntKind.wrap_u8]; omega) | (simp [IntKind.wrap]; omega)
  have hwg : IntKind.u8.wrap g = g := by first | (rw [IntKind.wrap_u8]; omega) | (simp [IntKind.wrap]; omega)
  have hb3 : (by3 r n g).size = 3 := by3_size _ _ _
  have hhs : (hsh (sdK s 3)).size = 32 := hsh_size _
  have K0 := hik (((((Chg.refl nob w).alloc (.cells #[.int .i64 s.r, .int .i64 s.q, .int .i64 s.p, .slice a.cA s.nA a.pA, .slice a.cB s.nB a.pB, .slice a.cC s.nC a.pC] 40)).alloc (.cells #[.int .i64 r, .int .i64 n, .int .i64 g] 42)).alloc (.cells #[.slice cs ls ps, .int .i64 at', .string st, .int .i64 ct] 35)).alloc (.cells #[.slice none 0 0, .int .i64 0, .string ⟨#[]⟩, .int .i64 0] 35))
  have RS := hik (rowIs_keep (rowN_new w 6 #[.int .i64 s.r, .int .i64 s.q, .int .i64 s.p, .slice a.cA s.nA a.pA, .slice a.cB s.nB a.pB, .slice a.cC s.nC a.pC] 40 rfl) ((((Chg.refl nob _).alloc (.cells #[.int .i64 r, .int .i64 n, .int .i64 g] 42)).alloc (.cells #[.slice cs ls ps, .int .i64 at', .string st, .int .i64 ct] 35)).alloc (.cells #[.slice none 0 0, .int .i64 0, .string ⟨#[]⟩, .int .i64 0] 35)))
  have RT := hik (rowIs_keep (rowN_new (w.alloc (.cells #[.int .i64 s.r, .int .i64 s.q, .int .i64 s.p, .slice a.cA s.nA a.pA, .slice a.cB s.nB a.pB, .slice a.cC s.nC a.pC] 40)) 3 #[.int .i64 r, .int .i64 n, .int .i64 g] 42 rfl) (((Chg.refl nob _).alloc (.cells #[.slice cs ls ps, .int .i64 at', .string st, .int .i64 ct] 35)).alloc (.cells #[.slice none 0 0, .int .i64 0, .string ⟨#[]⟩, .int .i64 0] 35)))
  have RR := hik (rowIs_keep (rowN_new ((w.alloc (.cells #[.int .i64 s.r, .int .i64 s.q, .int .i64 s.p, .slice a.cA s.nA a.pA, .slice a.cB s.nB a.pB, .slice a.cC s.nC a.pC] 40)).alloc (.cells #[.int .i64 r, .int .i64 n, .int .i64 g] 42)) 4 #[.slice cs ls ps, .int .i64 at', .string st, .int .i64 ct] 35 rfl) ((Chg.refl nob _).alloc (.cells #[.slice none 0 0, .int .i64 0, .string ⟨#[]⟩, .int .i64 0] 35)))
  have RZ := hik (row4_new (((w.alloc (.cells #[.int .i64 s.r, .int .i64 s.q, .int .i64 s.p, .slice a.cA s.nA a.pA, .slice a.cB s.nB a.pB, .slice a.cC s.nC a.pC] 40)).alloc (.cells #[.int .i64 r, .int .i64 n, .int .i64 g] 42)).alloc (.cells #[.slice cs ls ps, .int .i64 at', .string st, .int .i64 ct] 35)) (.slice none 0 0) (.int .i64 0) (.string ⟨#[]⟩) (.int .i64 0) 35)
  rw [asz] at RT
  rw [asz, asz] at RR
  rw [asz, asz, asz] at RZ
  go_enter Tryz.func34, Tryz.ntmps34
  go_upto_region 1 with fail
  generalize hW : (((w.alloc (.cells #[.int .i64 s.r, .int .i64 s.q, .int .i64 s.p, .slice a.cA s.nA a.pA, .slice a.cB s.nB a.pB, .slice a.cC s.nC a.pC] 40)).alloc (.cells #[.int .i64 r, .int .i64 n, .int .i64 g] 42)).alloc (.cells #[.slice cs ls ps, .int .i64 at', .string st, .int .i64 ct] 35)).alloc (.cells #[.slice none 0 0, .int .i64 0, .string ⟨#[]⟩, .int .i64 0] 35) = W0 at K0 RS RT RR RZ ⊢
  clear hW
  have x0 : W0.cell? ⟨w.heap.size, 0, none⟩ = some (.int .i64 s.r) := RS.out.cell (i := 0) (by omega)
  have x1 : W0.cell? ⟨w.heap.size, 1, none⟩ = some (.int .i64 s.q) := RS.out.cell (i := 1) (by omega)
  have x2 : W0.cell? ⟨w.heap.size, 2, none⟩ = some (.int .i64 s.p) := RS.out.cell (i := 2) (by omega)
  have x3 : W0.cell? ⟨w.heap.size, 3, none⟩ = some (.slice a.cA s.nA a.pA) := RS.out.cell (i := 3) (by omega)
  have x4 : W0.cell? ⟨w.heap.size, 4, none⟩ = some (.slice a.cB s.nB a.pB) := RS.out.cell (i := 4) (by omega)
  have x5 : W0.cell? ⟨w.heap.size, 5, none⟩ = some (.slice a.cC s.nC a.pC) := RS.out.cell (i := 5) (by omega)
  have y0 : W0.cell? ⟨w.heap.size + 1, 0, none⟩ = some (.int .i64 r) := RT.out.cell (i := 0) (by omega)
  have y1 : W0.cell? ⟨w.heap.size + 1, 1, none⟩ = some (.int .i64 n) := RT.out.cell (i := 1) (by omega)
  have y2 : W0.cell? ⟨w.heap.size + 1, 2, none⟩ = some (.int .i64 g) := RT.out.cell (i := 2) (by omega)
  go_cut [9] (fun v W => v = .string DT ∧ Hid (Chg nob W0 W))
  case first =>
    have KW := hik ((Chg.refl nob W0).drew1)
    have SA := hik (fun (WW : World) (kW : Chg nob W0 WW) => (show (WW.cell? ⟨w.heap.size, 0, none⟩ = some (.int .i64 s.r) ∧ WW.cell? ⟨w.heap.size, 1, none⟩ = some (.int .i64 s.q) ∧ WW.cell? ⟨w.heap.size, 2, none⟩ = some (.int .i64 s.p) ∧ WW.cell? ⟨w.heap.size, 3, none⟩ = some (.slice a.cA s.nA a.pA) ∧ WW.cell? ⟨w.heap.size, 4, none⟩ = some (.slice a.cB s.nB a.pB) ∧ WW.cell? ⟨w.heap.size, 5, none⟩ = some (.slice a.cC s.nC a.pC) ∧ WW.cell? ⟨w.heap.size + 1, 0, none⟩ = some (.int .i64 r) ∧ WW.cell? ⟨w.heap.size + 1, 1, none⟩ = some (.int .i64 n) ∧ WW.cell? ⟨w.heap.size + 1, 2, none⟩ = some (.int .i64 g)) from ⟨kW.see x0, kW.see x1, kW.see x2, kW.see x3, kW.see x4, kW.see x5, kW.see y0, kW.see y1, kW.see y2⟩))
    refine wp_region_held_drew (S := fun w' => w'.cell? ⟨w.heap.size, 0, none⟩ = some (.int .i64 s.r) ∧ w'.cell? ⟨w.heap.size, 1, none⟩ = some (.int .i64 s.q) ∧ w'.cell? ⟨w.heap.size, 2, none⟩ = some (.int .i64 s.p) ∧ w'.cell? ⟨w.heap.size, 3, none⟩ = some (.slice a.cA s.nA a.pA) ∧ w'.cell? ⟨w.heap.size, 4, none⟩ = some (.slice a.cB s.nB a.pB) ∧ w'.cell? ⟨w.heap.size, 5, none⟩ = some (.slice a.cC s.nC a.pC) ∧ w'.cell? ⟨w.heap.size + 1, 0, none⟩ = some (.int .i64 r) ∧ w'.cell? ⟨w.heap.size + 1, 1, none⟩ = some (.int .i64 n) ∧ w'.cell? ⟨w.heap.size + 1, 2, none⟩ = some (.int .i64 g)) (by kernel_rfl) ⟨x0, x1, x2, x3, x4, x5, y0, y1, y2⟩ (fun hHeld => ?_)
    refine wpAnyH_take (i := 0) (v := ?_) rfl (by kernel_rfl) (by kernel_rfl) (by kernel_rfl) (fun _ _ _ h => h) (Or.inl ⟨by rfl, ?_⟩) (by assumption) ?_
    rotate_left 1
    · (intro w' hSw; (try dsimp only at hSw); go_simp; try with_reducible rfl)
    try simp only [Act.put, List.setIfInBounds_toArray, List.set_cons_zero, List.set_cons_succ, List.getElem_toArray, List.getElem_cons_zero, List.getElem_cons_succ]
    refine wpAnyH_take (i := 2) (v := ?_) rfl (by kernel_rfl) (by kernel_rfl) (by kernel_rfl) (fun _ _ _ h => h) (Or.inl ⟨by rfl, ?_⟩) (by assumption) ?_
    rotate_left 1
    · (intro w' hSw; (try dsimp only at hSw); go_simp; try with_reducible rfl)
    try simp only [Act.put, List.setIfInBounds_toArray, List.set_cons_zero, List.set_cons_succ, List.getElem_toArray, List.getElem_cons_zero, List.getElem_cons_succ]
    refine wpAnyH_take (i := 3) (v := ?_) rfl (by kernel_rfl) (by kernel_rfl) (by kernel_rfl) (fun _ _ _ h => h) (Or.inl ⟨by rfl, ?_⟩) (by assumption) ?_
    rotate_left 1
    · (intro w' hSw; (try dsimp only at hSw); go_simp; try with_reducible rfl)
    try simp only [Act.put, List.setIfInBounds_toArray, List.set_cons_zero, List.set_cons_succ, List.getElem_toArray, List.getElem_cons_zero, List.getElem_cons_succ]
    refine wpAnyH_take (i := 4) (v := ?_) rfl (by kernel_rfl) (by kernel_rfl) (by kernel_rfl) (fun _ _ _ h => h) (Or.inl ⟨by rfl, ?_⟩) (by assumption) ?_
    rotate_left 1
    · (intro w' hSw; (try dsimp only at hSw); go_simp; try with_reducible rfl)
    try simp only [Act.put, List.setIfInBounds_toArray, List.set_cons_zero, List.set_cons_succ, List.getElem_toArray, List.getElem_cons_zero, List.getElem_cons_succ]
    refine wpAnyH_take (i := 5) (v := ?_) rfl (by kernel_rfl) (by kernel_rfl) (by kernel_rfl) (fun _ _ _ h => h) (Or.inl ⟨by rfl, ?_⟩) (by assumption) ?_
    rotate_left 1
    · (intro w' hSw; (try dsimp only at hSw); go_simp; try with_reducible rfl)
    try simp only [Act.put, List.setIfInBounds_toArray, List.set_cons_zero, List.set_cons_succ, List.getElem_toArray, List.getElem_cons_zero, List.getElem_cons_succ]
    refine wpAnyH_take (i := 6) (v := ?_) rfl (by kernel_rfl) (by kernel_rfl) (by kernel_rfl) (fun _ _ _ h => h) (Or.inl ⟨by rfl, ?_⟩) (by assumption) ?_
    rotate_left 1
    · (intro w' hSw; (try dsimp only at hSw); go_simp; try with_reducible rfl)
    try simp only [Act.put, List.setIfInBounds_toArray, List.set_cons_zero, List.set_cons_succ, List.getElem_toArray, List.getElem_cons_zero, List.getElem_cons_succ]
    refine wpAnyH_take (i := 7) (v := ?_) rfl (by kernel_rfl) (by kernel_rfl) (by kernel_rfl) (fun _ _ _ h => h) (Or.inl ⟨by rfl, ?_⟩) (by assumption) ?_
    rotate_left 1
    · (intro w' hSw; (try dsimp only at hSw); go_simp; try with_reducible rfl)
    try simp only [Act.put, List.setIfInBounds_toArray, List.set_cons_zero, List.set_cons_succ, List.getElem_toArray, List.getElem_cons_zero, List.getElem_cons_succ]
    refine wpAnyH_take (i := 8) (v := ?_) rfl (by kernel_rfl) (by kernel_rfl) (by kernel_rfl) (fun _ _ _ h => h) (Or.inl ⟨by rfl, ?_⟩) (by assumption) ?_
    rotate_left 1
    · (intro w' hSw; (try dsimp only at hSw); go_simp; try with_reducible rfl)
    try simp only [Act.put, List.setIfInBounds_toArray, List.set_cons_zero, List.set_cons_succ, List.getElem_toArray, List.getElem_cons_zero, List.getElem_cons_succ]
    refine wpAnyH_take (i := 9) (v := ?_) rfl (by kernel_rfl) (by kernel_rfl) (by kernel_rfl) (fun _ _ _ h => h) (Or.inl ⟨by rfl, ?_⟩) (by assumption) ?_
    rotate_left 1
    · (intro w' hSw; (try dsimp only at hSw); go_simp; try with_reducible rfl)
    try simp only [Act.put, List.setIfInBounds_toArray, List.set_cons_zero, List.set_cons_succ, List.getElem_toArray, List.getElem_cons_zero, List.getElem_cons_succ]
    refine wpAnyH_take (i := 10) (v := ?_) rfl (by kernel_rfl) (by kernel_rfl) (by kernel_rfl) (fun _ _ _ h => h) (Or.inl ⟨by rfl, ?_⟩) (by assumption) ?_
    rotate_left 1
    · (intro w' hSw; (try dsimp only at hSw); go_simp; try with_reducible rfl)
    try simp only [Act.put, List.setIfInBounds_toArray, List.set_cons_zero, List.set_cons_succ, List.getElem_toArray, List.getElem_cons_zero, List.getElem_cons_succ]
    refine wpAnyH_ready (rs := [1, 11]) (by kernel_rfl) (by simp) ?_
    refine AllReadyH.cons rfl (fun K hK => ?_) ?_
    · refine stepL_callN 68 #[.tmp 11] #[40] (by rfl) (by rfl) #[.agg #[.int .i64 s.r, .int .i64 s.q, .int .i64 s.p, .slice a.cA s.nA a.pA, .slice a.cB s.nB a.pB, .slice a.cC s.nC a.pC]] (by simp only [List.map_toArray, List.map_cons, List.map_nil] <;> rfl) (run_go Tryz.func68 (by kernel_rfl) (by kernel_rfl) _ _) (sDig_any s a _ (hik (hv.out.keep (K0.out.trans KW.out))) hok) ?_
      rintro e U1 ⟨he, kk⟩
      (try replace BR := hik (RowV.keep BR.out kk))
      refine ⟨_, he, ?_⟩
      replace KW := hik (KW.out.trans kk)
      refine hK.out _ _ (SA.out _ KW.out) (fun hHeld => ?_)
      clear hK K
      try simp only [Act.put, List.setIfInBounds_toArray, List.set_cons_zero, List.set_cons_succ, List.getElem_toArray, List.getElem_cons_zero, List.getElem_cons_succ]
      clear he kk
      refine wpAnyH_ready (rs := [11]) (by kernel_rfl) (by simp) ?_
      refine AllReadyH.cons rfl (fun K hK => ?_) AllReadyH.nil
      simp only [List.getElem_toArray, List.getElem_cons_zero, List.getElem_cons_succ]
      go_simp
      replace KW := hik (show Chg nob W0 (U1.alloc (.cells #[.int .u8 r, .int .u8 n, .int .u8 g] 5)) from KW.out.alloc (.cells #[.int .u8 r, .int .u8 n, .int .u8 g] 5))
      refine hK.out _ _ (SA.out _ KW.out) (fun hHeld => ?_)
      clear hK K
      try simp only [Act.put, List.setIfInBounds_toArray, List.set_cons_zero, List.set_cons_succ, List.getElem_toArray, List.getElem_cons_zero, List.getElem_cons_succ]
      have BR := hik (by3_row U1 r n g 5)
      generalize hgb : U1.heap.size = gb at BR ⊢
      generalize hE : U1.alloc (.cells #[.int .u8 r, .int .u8 n, .int .u8 g] 5) = B2 at KW BR hHeld ⊢
      clear hgb hE
      refine wpAnyH_ready (rs := [12]) (by kernel_rfl) (by simp) ?_
      refine AllReadyH.cons rfl (fun K hK => ?_) AllReadyH.nil
      have hcv : (convert 53 9 (.slice (some ⟨gb, 0, none⟩) 3 3)).run Tryz.prog B2 = .ok (.string (by3 r n g)) B2 := convB (some ⟨gb, 0, none⟩) 3 3 _ B2 BR.out
      refine stepL_conv 53 9 (.tmp 22) (by rfl) (by rfl) _ _ _ (by rfl) hcv ?_
      refine hK.out _ _ (SA.out _ KW.out) (fun hHeld => ?_)
      clear hK K
      try simp only [Act.put, List.setIfInBounds_toArray, List.set_cons_zero, List.set_cons_succ, List.getElem_toArray, List.getElem_cons_zero, List.getElem_cons_succ]
      clear hcv BR
      refine wpAnyH_take (i := 13) (v := ?_) rfl (by kernel_rfl) (by kernel_rfl) (by kernel_rfl) (fun _ _ _ h => h) (Or.inl ⟨by rfl, ?_⟩) (by assumption) ?_
      rotate_left 1
      · (intro w' hSw; (try dsimp only at hSw); go_simp; try with_reducible rfl)
      try simp only [Act.put, List.setIfInBounds_toArray, List.set_cons_zero, List.set_cons_succ, List.getElem_toArray, List.getElem_cons_zero, List.getElem_cons_succ]
      refine wpAnyH_take (i := 14) (v := ?_) rfl (by kernel_rfl) (by kernel_rfl) (by kernel_rfl) (fun _ _ _ h => h) (Or.inl ⟨by rfl, ?_⟩) (by assumption) ?_
      rotate_left 1
      · (intro w' hSw; (try dsimp only at hSw); go_simp; try with_reducible rfl)
      try simp only [Act.put, List.setIfInBounds_toArray, List.set_cons_zero, List.set_cons_succ, List.getElem_toArray, List.getElem_cons_zero, List.getElem_cons_succ]
      refine wpAnyH_done (by kernel_rfl) ?_ _
      go_wp2_with fail
      go_meet
      exact ⟨by rw [HDT.out], KW⟩
    · refine AllReadyH.cons rfl (fun K hK => ?_) AllReadyH.nil
      simp only [List.getElem_toArray, List.getElem_cons_zero, List.getElem_cons_succ]
      go_simp
      replace KW := hik (show Chg nob W0 (World.drew (W0.alloc (.cells #[.int .u8 r, .int .u8 n, .int .u8 g] 5))) from ((Chg.refl nob W0).alloc (.cells #[.int .u8 r, .int .u8 n, .int .u8 g] 5)).drew1)
      refine hK.out _ _ (SA.out _ KW.out) (fun hHeld => ?_)
      clear hK K
      try simp only [Act.put, List.setIfInBounds_toArray, List.set_cons_zero, List.set_cons_succ, List.getElem_toArray, List.getElem_cons_zero, List.getElem_cons_succ]
      have BR := hik (by3_row W0 r n g 5)
      replace BR := hik (RowV.keep BR.out ((Chg.refl nob _).drew1))
      generalize hgb : W0.heap.size = gb at BR ⊢
      generalize hE : World.drew (W0.alloc (.cells #[.int .u8 r, .int .u8 n, .int .u8 g] 5)) = B1 at KW BR hHeld ⊢
      clear hgb hE
      refine wpAnyH_ready (rs := [1, 12]) (by kernel_rfl) (by simp) ?_
      refine AllReadyH.cons rfl (fun K hK => ?_) ?_
      · refine stepL_callN 68 #[.tmp 11] #[40] (by rfl) (by rfl) #[.agg #[.int .i64 s.r, .int .i64 s.q, .int .i64 s.p, .slice a.cA s.nA a.pA, .slice a.cB s.nB a.pB, .slice a.cC s.nC a.pC]] (by simp only [List.map_toArray, List.map_cons, List.map_nil] <;> rfl) (run_go Tryz.func68 (by kernel_rfl) (by kernel_rfl) _ _) (sDig_any s a _ (hik (hv.out.keep (K0.out.trans KW.out))) hok) ?_
        rintro e U2 ⟨he, kk⟩
        (try replace BR := hik (RowV.keep BR.out kk))
        refine ⟨_, he, ?_⟩
        replace KW := hik (KW.out.trans kk)
        refine hK.out _ _ (SA.out _ KW.out) (fun hHeld => ?_)
        clear hK K
        try simp only [Act.put, List.setIfInBounds_toArray, List.set_cons_zero, List.set_cons_succ, List.getElem_toArray, List.getElem_cons_zero, List.getElem_cons_succ]
        clear he kk
        refine wpAnyH_ready (rs := [12]) (by kernel_rfl) (by simp) ?_
        refine AllReadyH.cons rfl (fun K hK => ?_) AllReadyH.nil
        have hcv : (convert 53 9 (.slice (some ⟨gb, 0, none⟩) 3 3)).run Tryz.prog U2 = .ok (.string (by3 r n g)) U2 := convB (some ⟨gb, 0, none⟩) 3 3 _ U2 BR.out
        refine stepL_conv 53 9 (.tmp 22) (by rfl) (by rfl) _ _ _ (by rfl) hcv ?_
        refine hK.out _ _ (SA.out _ KW.out) (fun hHeld => ?_)
        clear hK K
        try simp only [Act.put, List.setIfInBounds_toArray, List.set_cons_zero, List.set_cons_succ, List.getElem_toArray, List.getElem_cons_zero, List.getElem_cons_succ]
        clear hcv BR
        refine wpAnyH_take (i := 13) (v := ?_) rfl (by kernel_rfl) (by kernel_rfl) (by kernel_rfl) (fun _ _ _ h => h) (Or.inl ⟨by rfl, ?_⟩) (by assumption) ?_
        rotate_left 1
        · (intro w' hSw; (try dsimp only at hSw); go_simp; try with_reducible rfl)
        try simp only [Act.put, List.setIfInBounds_toArray, List.set_cons_zero, List.set_cons_succ, List.getElem_toArray, List.getElem_cons_zero, List.getElem_cons_succ]
        refine wpAnyH_take (i := 14) (v := ?_) rfl (by kernel_rfl) (by kernel_rfl) (by kernel_rfl) (fun _ _ _ h => h) (Or.inl ⟨by rfl, ?_⟩) (by assumption) ?_
        rotate_left 1
        · (intro w' hSw; (try dsimp only at hSw); go_simp; try with_reducible rfl)
        try simp only [Act.put, List.setIfInBounds_toArray, List.set_cons_zero, List.set_cons_succ, List.getElem_toArray, List.getElem_cons_zero, List.getElem_cons_succ]
        refine wpAnyH_done (by kernel_rfl) ?_ _
        go_wp2_with fail
        go_meet
        exact ⟨by rw [HDT.out], KW⟩
      · refine AllReadyH.cons rfl (fun K hK => ?_) AllReadyH.nil
        have hcv : (convert 53 9 (.slice (some ⟨gb, 0, none⟩) 3 3)).run Tryz.prog B1 = .ok (.string (by3 r n g)) B1 := convB (some ⟨gb, 0, none⟩) 3 3 _ B1 BR.out
        refine stepL_conv 53 9 (.tmp 22) (by rfl) (by rfl) _ _ _ (by rfl) hcv ?_
        refine hK.out _ _ (SA.out _ KW.out) (fun hHeld => ?_)
        clear hK K
        try simp only [Act.put, List.setIfInBounds_toArray, List.set_cons_zero, List.set_cons_succ, List.getElem_toArray, List.getElem_cons_zero, List.getElem_cons_succ]
        clear hcv BR
        refine wpAnyH_ready (rs := [1]) (by kernel_rfl) (by simp) ?_
        refine AllReadyH.cons rfl (fun K hK => ?_) AllReadyH.nil
        refine stepL_callN 68 #[.tmp 11] #[40] (by rfl) (by rfl) #[.agg #[.int .i64 s.r, .int .i64 s.q, .int .i64 s.p, .slice a.cA s.nA a.pA, .slice a.cB s.nB a.pB, .slice a.cC s.nC a.pC]] (by simp only [List.map_toArray, List.map_cons, List.map_nil] <;> rfl) (run_go Tryz.func68 (by kernel_rfl) (by kernel_rfl) _ _) (sDig_any s a _ (hik (hv.out.keep (K0.out.trans KW.out))) hok) ?_
        rintro e U2 ⟨he, kk⟩
        (try replace BR := hik (RowV.keep BR.out kk))
        refine ⟨_, he, ?_⟩
        replace KW := hik (KW.out.trans kk)
        refine hK.out _ _ (SA.out _ KW.out) (fun hHeld => ?_)
        clear hK K
        try simp only [Act.put, List.setIfInBounds_toArray, List.set_cons_zero, List.set_cons_succ, List.getElem_toArray, List.getElem_cons_zero, List.getElem_cons_succ]
        clear he kk
        refine wpAnyH_take (i := 13) (v := ?_) rfl (by kernel_rfl) (by kernel_rfl) (by kernel_rfl) (fun _ _ _ h => h) (Or.inl ⟨by rfl, ?_⟩) (by assumption) ?_
        rotate_left 1
        · (intro w' hSw; (try dsimp only at hSw); go_simp; try with_reducible rfl)
        try simp only [Act.put, List.setIfInBounds_toArray, List.set_cons_zero, List.set_cons_succ, List.getElem_toArray, List.getElem_cons_zero, List.getElem_cons_succ]
        refine wpAnyH_take (i := 14) (v := ?_) rfl (by kernel_rfl) (by kernel_rfl) (by kernel_rfl) (fun _ _ _ h => h) (Or.inl ⟨by rfl, ?_⟩) (by assumption) ?_
        rotate_left 1
        · (intro w' hSw; (try dsimp only at hSw); go_simp; try with_reducible rfl)
        try simp only [Act.put, List.setIfInBounds_toArray, List.set_cons_zero, List.set_cons_succ, List.getElem_toArray, List.getElem_cons_zero, List.getElem_cons_succ]
        refine wpAnyH_done (by kernel_rfl) ?_ _
        go_wp2_with fail
        go_meet
        exact ⟨by rw [HDT.out], KW⟩
  case rest =>
    obtain ⟨rfl, K1⟩ := hcut
    rename World => W1
    clear x0 x1 x2 x3 x4 x5 y0 y1 y2 RS RT
    replace RR := hik (rowIs_keep RR.out K1.out)
    replace RZ := hik (rowIs_keep RZ.out K1.out)
    replace K0 := hik (K0.out.trans K1.out)
    clear K1 hr256 hq256 hp256 hwr hwn hwg hb3 hhs
    go_wp2
    go_loopw [9, 10] (fun v i W => ∃ k : Nat, k ≤ P ∧ i = .int .i64 k ∧ v = .string (stW DT f k) ∧ Hid (Chg nob W1 W)) (fun _ i _ => P - (intOf i).toNat)
    case atStart => exact ⟨0, Nat.zero_le _, rfl, rfl, hik (Chg.refl _ _)⟩
    case round =>
      obtain ⟨k, hk, rfl, rfl, HG⟩ := hrel
      rename World => wi
      by_cases hlt : k < P
      · have hk1 : (k : Int) < (P : Int) := by omega
        have hk0 : (0 : Int) ≤ (k : Int) := by omega
        obtain ⟨xb, xo, ec, hxb, hc⟩ := (hf.out.keep (K0.out.trans HG.out)) k hlt
        have hx : wi.cell? ⟨xb, xo + k, none⟩ = some (.int .i64 (f k)) := hc
        clear hc
        have FB := HFB.out k hlt
        subst ec
        have hsz : (stW DT f k).size ≤ 20000 := by rw [stW_size, hT35]; omega
        have hbz : (be4 (f k)).size = 4 := be4_size _
        have hno : ¬ 9223372036854775807 < (stW DT f k).size + 4 := by omega
        have HST := hik (show stW DT f (k + 1) = stW DT f k ++ be4 (f k) from rfl)
        go_wp2_with fail
        refine (l02Number_any (f k) _ FB.1 FB.2).mono ?_
        rintro e W5 ⟨b1, p1, hb1, rfl, hcells, kk⟩
        have G5 := hik (HG.out.trans kk)
        have hcv : (convert 53 9 (.slice (some ⟨b1, 0, none⟩) 4 p1)).run Tryz.prog W5 = .ok (.string (be4 (f k))) W5 := convB (some ⟨b1, 0, none⟩) 4 p1 (wb (f k)) W5 (four_row (World.block_lt_of_cell? _ _ (hcells 0 _ rfl)) hcells)
        clear kk hcells hb1 hx FB HG
        go_wp2
        go_roundw
        case rel => exact ⟨k + 1, by omega, by go_num, by rw [HST.out], G5⟩
        case measure => simp [intOf]; omega
      · have hcc : ¬ (k : Int) < (P : Int) := by omega
        have hke : P = k := by omega
        replace RR := hik (rowIs_keep RR.out HG.out)
        replace RZ := hik (rowIs_keep RZ.out HG.out)
        replace K0 := hik (K0.out.trans HG.out)
        clear HG
        have y0 : wi.cell? ⟨w.heap.size + 1 + 1, 0, none⟩ = some (.slice cs ls ps) := RR.out.cell (i := 0) (by omega)
        have y1 : wi.cell? ⟨w.heap.size + 1 + 1, 1, none⟩ = some (.int .i64 at') := RR.out.cell (i := 1) (by omega)
        have y2 : wi.cell? ⟨w.heap.size + 1 + 1, 2, none⟩ = some (.string st) := RR.out.cell (i := 2) (by omega)
        have y3 : wi.cell? ⟨w.heap.size + 1 + 1, 3, none⟩ = some (.int .i64 ct) := RR.out.cell (i := 3) (by omega)
        go_wp2_with fail
        clear y0 y1 y2 y3 hcc
        subst hke
        refine (sAbsorb_any cs ls ps at' st ct (stW DT f P) _ hss hts).mono ?_
        rintro e W6 ⟨rfl, kk⟩
        replace K0 := hik (K0.out.trans kk)
        replace RZ := hik (rowIs_keep RZ.out kk)
        clear kk RR
        generalize hSX : abS st (stW DT f P) = SX
        have HSX := hik hSX
        clear hSX
        have y0 : W6.cell? ⟨w.heap.size + 1 + 1 + 1, 0, none⟩ = some (.slice none 0 0) := RZ.out.cell (i := 0) (by omega)
        have y1 : W6.cell? ⟨w.heap.size + 1 + 1 + 1, 1, none⟩ = some (.int .i64 0) := RZ.out.cell (i := 1) (by omega)
        have y2 : W6.cell? ⟨w.heap.size + 1 + 1 + 1, 2, none⟩ = some (.string ⟨#[]⟩) := RZ.out.cell (i := 2) (by omega)
        have y3 : W6.cell? ⟨w.heap.size + 1 + 1 + 1, 3, none⟩ = some (.int .i64 0) := RZ.out.cell (i := 3) (by omega)
        have f0 := RZ.out.frozen 0
        have f1 := RZ.out.frozen 1
        have f2 := RZ.out.frozen 2
        have f3 := RZ.out.frozen 3
        have fz := RZ.out.lt
        have RE := hik (row4_set RZ.out (.slice cs ls ps) (.int .i64 at') (.string SX) (.int .i64 0))
        have KE := hik (chg4_set K0.out (w.heap.size + 1 + 1 + 1) (fun l => absurd l (by omega)) (.slice cs ls ps) (.int .i64 at') (.string SX) (.int .i64 0))
        clear RZ
        go_wp2
        have d0 : ((((W6.setCell ⟨w.heap.size + 1 + 1 + 1, 0, none⟩ (.slice cs ls ps)).setCell ⟨w.heap.size + 1 + 1 + 1, 1, none⟩ (.int .i64 at')).setCell ⟨w.heap.size + 1 + 1 + 1, 2, none⟩ (.string SX)).setCell ⟨w.heap.size + 1 + 1 + 1, 3, none⟩ (.int .i64 0)).cell? ⟨w.heap.size + 1 + 1 + 1, 0, none⟩ = some (.slice cs ls ps) := RE.out.cell (i := 0) (by omega)
        have d1 : ((((W6.setCell ⟨w.heap.size + 1 + 1 + 1, 0, none⟩ (.slice cs ls ps)).setCell ⟨w.heap.size + 1 + 1 + 1, 1, none⟩ (.int .i64 at')).setCell ⟨w.heap.size + 1 + 1 + 1, 2, none⟩ (.string SX)).setCell ⟨w.heap.size + 1 + 1 + 1, 3, none⟩ (.int .i64 0)).cell? ⟨w.heap.size + 1 + 1 + 1, 1, none⟩ = some (.int .i64 at') := RE.out.cell (i := 1) (by omega)
        have d2 : ((((W6.setCell ⟨w.heap.size + 1 + 1 + 1, 0, none⟩ (.slice cs ls ps)).setCell ⟨w.heap.size + 1 + 1 + 1, 1, none⟩ (.int .i64 at')).setCell ⟨w.heap.size + 1 + 1 + 1, 2, none⟩ (.string SX)).setCell ⟨w.heap.size + 1 + 1 + 1, 3, none⟩ (.int .i64 0)).cell? ⟨w.heap.size + 1 + 1 + 1, 2, none⟩ = some (.string SX) := RE.out.cell (i := 2) (by omega)
        have d3 : ((((W6.setCell ⟨w.heap.size + 1 + 1 + 1, 0, none⟩ (.slice cs ls ps)).setCell ⟨w.heap.size + 1 + 1 + 1, 1, none⟩ (.int .i64 at')).setCell ⟨w.heap.size + 1 + 1 + 1, 2, none⟩ (.string SX)).setCell ⟨w.heap.size + 1 + 1 + 1, 3, none⟩ (.int .i64 0)).cell? ⟨w.heap.size + 1 + 1 + 1, 3, none⟩ = some (.int .i64 0) := RE.out.cell (i := 3) (by omega)
        exact bodyPost_ret (v := .agg #[.slice cs ls ps, .int .i64 at', .string SX, .int .i64 0]) (by simp [results, Tryz.results34, go_sem, d0, d1, d2, d3]) rfl ⟨by rw [HX.out, HSX.out], KE.out⟩

set_option maxHeartbeats 8000000 in
theorem sStart_any (s : Sy) (a : SyA) (r n g : Int) (c : Option Addr) (P cap : Nat) (f : Nat → Int) (cs : Option Addr) (ls ps : Nat) (at' : Int) (st : ByteArray) (ct : Int) (fs gs : Nat → Int) (w : World) (hv : Hid (SyV w s a)) (hs : s.small) (hf : Hid (RowV w c P (iv f))) (hP : P ≤ 1099511627776) (hsr : Hid (PairV w cs ls fs gs)) (hls : (ls : Int) ≤ 9223372036854775807) (hss : (st.size : Int) ≤ 9223372036854775807) :
    Calls Tryz.prog 7 #[.agg #[.int .i64 s.r, .int .i64 s.q, .int .i64 s.p, .slice a.cA s.nA a.pA, .slice a.cB s.nB a.pB, .slice a.cC s.nC a.pC], .agg #[.int .i64 r, .int .i64 n, .int .i64 g], .slice c P cap, .agg #[.slice cs ls ps, .int .i64 at', .string st, .int .i64 ct]] w fun e w' => StAns w (stc s r n g P f (sokb fs gs ls at' st ct) at' ct) ls fs gs at' (abS st (stX s r n g P f)) e w' := by
  have K0 := hik (((((Chg.refl nob w).alloc (.cells #[.int .i64 s.r, .int .i64 s.q, .int .i64 s.p, .slice a.cA s.nA a.pA, .slice a.cB s.nB a.pB, .slice a.cC s.nC a.pC] 40)).alloc (.cells #[.int .i64 r, .int .i64 n, .int .i64 g] 42)).alloc (.cells #[.slice cs ls ps, .int .i64 at', .string st, .int .i64 ct] 35)).alloc (.cells #[.slice none 0 0, .int .i64 0, .string ⟨#[]⟩, .int .i64 0] 35))
  by_cases hl : 4096 < P
  · have hl' : (4096 : Int) < P := by omega
    have HC := hik (show stc s r n g P f (sokb fs gs ls at' st ct) at' ct = 2 by unfold stc; rw [if_pos hl])
    rw [HC.out]
    go_enter Tryz.func7, Tryz.ntmps7
    go_wp2
    exact bodyPost_ret (v := .tuple #[.agg #[.slice none 0 0, .int .i64 0, .string ⟨#[]⟩, .int .i64 0], .int .i64 2]) (by simp [results, Tryz.results7, go_sem]) rfl ⟨(fun h => by cases h), fun _ => ⟨rfl, K0.out⟩⟩
  have hl' : ¬ (4096 : Int) < P := by omega
  have HC := hik (show stc s r n g P f (sokb fs gs ls at' st ct) at' ct = stk s r n g P f (sokb fs gs ls at' st ct) at' ct by unfold stc; rw [if_neg hl])
  rw [HC.out]
  clear HC
  have RS := hik (rowIs_keep (rowN_new w 6 #[.int .i64 s.r, .int .i64 s.q, .int .i64 s.p, .slice a.cA s.nA a.pA, .slice a.cB s.nB a.pB, .slice a.cC s.nC a.pC] 40 rfl) ((((Chg.refl nob _).alloc (.cells #[.int .i64 r, .int .i64 n, .int .i64 g] 42)).alloc (.cells #[.slice cs ls ps, .int .i64 at', .string st, .int .i64 ct] 35)).alloc (.cells #[.slice none 0 0, .int .i64 0, .string ⟨#[]⟩, .int .i64 0] 35)))
  have RT := hik (rowIs_keep (rowN_new (w.alloc (.cells #[.int .i64 s.r, .int .i64 s.q, .int .i64 s.p, .slice a.cA s.nA a.pA, .slice a.cB s.nB a.pB, .slice a.cC s.nC a.pC] 40)) 3 #[.int .i64 r, .int .i64 n, .int .i64 g] 42 rfl) (((Chg.refl nob _).alloc (.cells #[.slice cs ls ps, .int .i64 at', .string st, .int .i64 ct] 35)).alloc (.cells #[.slice none 0 0, .int .i64 0, .string ⟨#[]⟩, .int .i64 0] 35)))
  have RR := hik (rowIs_keep (rowN_new ((w.alloc (.cells #[.int .i64 s.r, .int .i64 s.q, .int .i64 s.p, .slice a.cA s.nA a.pA, .slice a.cB s.nB a.pB, .slice a.cC s.nC a.pC] 40)).alloc (.cells #[.int .i64 r, .int .i64 n, .int .i64 g] 42)) 4 #[.slice cs ls ps, .int .i64 at', .string st, .int .i64 ct] 35 rfl) ((Chg.refl nob _).alloc (.cells #[.slice none 0 0, .int .i64 0, .string ⟨#[]⟩, .int .i64 0] 35)))
  have RZ := hik (row4_new (((w.alloc (.cells #[.int .i64 s.r, .int .i64 s.q, .int .i64 s.p, .slice a.cA s.nA a.pA, .slice a.cB s.nB a.pB, .slice a.cC s.nC a.pC] 40)).alloc (.cells #[.int .i64 r, .int .i64 n, .int .i64 g] 42)).alloc (.cells #[.slice cs ls ps, .int .i64 at', .string st, .int .i64 ct] 35)) (.slice none 0 0) (.int .i64 0) (.string ⟨#[]⟩) (.int .i64 0) 35)
  rw [asz] at RT
  rw [asz, asz] at RR
  rw [asz, asz, asz] at RZ
  go_enter Tryz.func7, Tryz.ntmps7
  go_wp2_with fail
  generalize hW : (((w.alloc (.cells #[.int .i64 s.r, .int .i64 s.q, .int .i64 s.p, .slice a.cA s.nA a.pA, .slice a.cB s.nB a.pB, .slice a.cC s.nC a.pC] 40)).alloc (.cells #[.int .i64 r, .int .i64 n, .int .i64 g] 42)).alloc (.cells #[.slice cs ls ps, .int .i64 at', .string st, .int .i64 ct] 35)).alloc (.cells #[.slice none 0 0, .int .i64 0, .string ⟨#[]⟩, .int .i64 0] 35) = W0 at K0 RS RT RR RZ ⊢
  clear hW
  refine (sAsk12_any s a r n g c P cap f cs ls ps at' st ct fs gs _ (hik (hv.out.keep K0.out)) hs (hik (hf.out.keep K0.out)) hP (hik (hsr.out.keep K0.out)) hls hss (by omega)).mono ?_
  rintro e W1 ⟨rfl, kk⟩
  replace K0 := hik (K0.out.trans kk)
  replace RS := hik (rowIs_keep RS.out kk)
  replace RT := hik (rowIs_keep RT.out kk)
  replace RR := hik (rowIs_keep RR.out kk)
  replace RZ := hik (rowIs_keep RZ.out kk)
  clear kk
  generalize hCD : stk s r n g P f (sokb fs gs ls at' st ct) at' ct = CD
  have HCD := hik hCD
  clear hCD
  by_cases h0 : CD = 0
  rotate_left 1

  · have zz := RZ.out.lt
    have y0 : W1.cell? ⟨w.heap.size + 1 + 1 + 1, 0, none⟩ = some (.slice none 0 0) := RZ.out.cell (i := 0) (by omega)
    have y1 : W1.cell? ⟨w.heap.size + 1 + 1 + 1, 1, none⟩ = some (.int .i64 0) := RZ.out.cell (i := 1) (by omega)
    have y2 : W1.cell? ⟨w.heap.size + 1 + 1 + 1, 2, none⟩ = some (.string ⟨#[]⟩) := RZ.out.cell (i := 2) (by omega)
    have y3 : W1.cell? ⟨w.heap.size + 1 + 1 + 1, 3, none⟩ = some (.int .i64 0) := RZ.out.cell (i := 3) (by omega)
    have f0 := RZ.out.frozen 0
    have f1 := RZ.out.frozen 1
    have f2 := RZ.out.frozen 2
    have f3 := RZ.out.frozen 3
    have fz := RZ.out.lt
    have RE := hik (row4_set RZ.out (.slice none 0 0) (.int .i64 0) (.string ⟨#[]⟩) (.int .i64 0))
    have KE := hik (chg4_set K0.out (w.heap.size + 1 + 1 + 1) (fun l => absurd l (by omega)) (.slice none 0 0) (.int .i64 0) (.string ⟨#[]⟩) (.int .i64 0))
    clear RZ
    go_wp2
    have d0 : ((((W1.setCell ⟨w.heap.size + 1 + 1 + 1, 0, none⟩ (.slice none 0 0)).setCell ⟨w.heap.size + 1 + 1 + 1, 1, none⟩ (.int .i64 0)).setCell ⟨w.heap.size + 1 + 1 + 1, 2, none⟩ (.string ⟨#[]⟩)).setCell ⟨w.heap.size + 1 + 1 + 1, 3, none⟩ (.int .i64 0)).cell? ⟨w.heap.size + 1 + 1 + 1, 0, none⟩ = some (.slice none 0 0) := RE.out.cell (i := 0) (by omega)
    have d1 : ((((W1.setCell ⟨w.heap.size + 1 + 1 + 1, 0, none⟩ (.slice none 0 0)).setCell ⟨w.heap.size + 1 + 1 + 1, 1, none⟩ (.int .i64 0)).setCell ⟨w.heap.size + 1 + 1 + 1, 2, none⟩ (.string ⟨#[]⟩)).setCell ⟨w.heap.size + 1 + 1 + 1, 3, none⟩ (.int .i64 0)).cell? ⟨w.heap.size + 1 + 1 + 1, 1, none⟩ = some (.int .i64 0) := RE.out.cell (i := 1) (by omega)
    have d2 : ((((W1.setCell ⟨w.heap.size + 1 + 1 + 1, 0, none⟩ (.slice none 0 0)).setCell ⟨w.heap.size + 1 + 1 + 1, 1, none⟩ (.int .i64 0)).setCell ⟨w.heap.size + 1 + 1 + 1, 2, none⟩ (.string ⟨#[]⟩)).setCell ⟨w.heap.size + 1 + 1 + 1, 3, none⟩ (.int .i64 0)).cell? ⟨w.heap.size + 1 + 1 + 1, 2, none⟩ = some (.string ⟨#[]⟩) := RE.out.cell (i := 2) (by omega)
    have d3 : ((((W1.setCell ⟨w.heap.size + 1 + 1 + 1, 0, none⟩ (.slice none 0 0)).setCell ⟨w.heap.size + 1 + 1 + 1, 1, none⟩ (.int .i64 0)).setCell ⟨w.heap.size + 1 + 1 + 1, 2, none⟩ (.string ⟨#[]⟩)).setCell ⟨w.heap.size + 1 + 1 + 1, 3, none⟩ (.int .i64 0)).cell? ⟨w.heap.size + 1 + 1 + 1, 3, none⟩ = some (.int .i64 0) := RE.out.cell (i := 3) (by omega)
    exact bodyPost_ret (v := .tuple #[.agg #[.slice none 0 0, .int .i64 0, .string ⟨#[]⟩, .int .i64 0], .int .i64 CD]) (by simp [results, Tryz.results7, go_sem, d0, d1, d2, d3]) rfl ⟨fun h => absurd (HCD.out.symm.trans h) h0, fun _ => ⟨by rw [HCD.out], KE.out⟩⟩
  subst h0
  obtain ⟨q0, q1, q2, q3, q4, q5⟩ := stk_0 HCD.out
  obtain ⟨l64, s32⟩ := sokb_st q3
  have Q0 := hik q0
  have Q1 := hik q1
  have Q2 := hik q2
  clear q0 q1 q2 q3 q4 q5
  have x0 : W1.cell? ⟨w.heap.size, 0, none⟩ = some (.int .i64 s.r) := RS.out.cell (i := 0) (by omega)
  have x1 : W1.cell? ⟨w.heap.size, 1, none⟩ = some (.int .i64 s.q) := RS.out.cell (i := 1) (by omega)
  have x2 : W1.cell? ⟨w.heap.size, 2, none⟩ = some (.int .i64 s.p) := RS.out.cell (i := 2) (by omega)
  have x3 : W1.cell? ⟨w.heap.size, 3, none⟩ = some (.slice a.cA s.nA a.pA) := RS.out.cell (i := 3) (by omega)
  have x4 : W1.cell? ⟨w.heap.size, 4, none⟩ = some (.slice a.cB s.nB a.pB) := RS.out.cell (i := 4) (by omega)
  have x5 : W1.cell? ⟨w.heap.size, 5, none⟩ = some (.slice a.cC s.nC a.pC) := RS.out.cell (i := 5) (by omega)
  have t0 : W1.cell? ⟨w.heap.size + 1, 0, none⟩ = some (.int .i64 r) := RT.out.cell (i := 0) (by omega)
  have t1 : W1.cell? ⟨w.heap.size + 1, 1, none⟩ = some (.int .i64 n) := RT.out.cell (i := 1) (by omega)
  have t2 : W1.cell? ⟨w.heap.size + 1, 2, none⟩ = some (.int .i64 g) := RT.out.cell (i := 2) (by omega)
  have y0 : W1.cell? ⟨w.heap.size + 1 + 1, 0, none⟩ = some (.slice cs ls ps) := RR.out.cell (i := 0) (by omega)
  have y1 : W1.cell? ⟨w.heap.size + 1 + 1, 1, none⟩ = some (.int .i64 at') := RR.out.cell (i := 1) (by omega)
  have y2 : W1.cell? ⟨w.heap.size + 1 + 1, 2, none⟩ = some (.string st) := RR.out.cell (i := 2) (by omega)
  have y3 : W1.cell? ⟨w.heap.size + 1 + 1, 3, none⟩ = some (.int .i64 ct) := RR.out.cell (i := 3) (by omega)
  go_wp2_with fail
  clear x0 x1 x2 x3 x4 x5 t0 t1 t2 y0 y1 y2 y3
  refine (sStart12_any s a r n g c P cap f cs ls ps at' st ct fs gs _ (hik (hv.out.keep K0.out)) Q0 Q1 (hik (hf.out.keep K0.out)) Q2 (by omega) s32).mono ?_
  rintro e W2 ⟨rfl, kk⟩
  replace K0 := hik (K0.out.trans kk)
  replace RZ := hik (rowIs_keep RZ.out kk)
  clear kk RS RT RR
  have RZL := hik RZ.out.lt
  generalize hSX : abS st (stX s r n g P f) = SX
  have HSX := hik hSX
  clear hSX
  go_wp2_with fail
  refine (sOwn_any cs ls ps fs gs at' SX 0 _ (hik (hsr.out.keep K0.out)) (by omega)).mono ?_
  rintro e W3 ⟨c2, cap2, rfl, ho, kk⟩
  replace RZ := hik (rowIs_keep RZ.out kk)
  have hw1 : w.heap.size ≤ W2.heap.size := K0.out.size
  have hz1 : w.heap.size + 1 + 1 + 1 < W2.heap.size := RZL.out
  replace K0 := hik (K0.out.trans kk)
  have OO := hik ho
  clear kk ho
  have y0 : W3.cell? ⟨w.heap.size + 1 + 1 + 1, 0, none⟩ = some (.slice none 0 0) := RZ.out.cell (i := 0) (by omega)
  have y1 : W3.cell? ⟨w.heap.size + 1 + 1 + 1, 1, none⟩ = some (.int .i64 0) := RZ.out.cell (i := 1) (by omega)
  have y2 : W3.cell? ⟨w.heap.size + 1 + 1 + 1, 2, none⟩ = some (.string ⟨#[]⟩) := RZ.out.cell (i := 2) (by omega)
  have y3 : W3.cell? ⟨w.heap.size + 1 + 1 + 1, 3, none⟩ = some (.int .i64 0) := RZ.out.cell (i := 3) (by omega)
  have f0 := RZ.out.frozen 0
  have f1 := RZ.out.frozen 1
  have f2 := RZ.out.frozen 2
  have f3 := RZ.out.frozen 3
  have fz := RZ.out.lt
  have KS := hik (chg4_set (Chg.refl (fun x => x = w.heap.size + 1 + 1 + 1) W3) (w.heap.size + 1 + 1 + 1) (fun _ => rfl) (.slice c2 ls cap2) (.int .i64 at') (.string SX) (.int .i64 0))
  have O9 := hik ((OO.out.chg KS.out (fun x hx ec e => by have e : x = w.heap.size + 1 + 1 + 1 := e; omega)).low hw1)
  have K9 := hik (K0.out.near KS.out (fun i e => by have e : i = w.heap.size + 1 + 1 + 1 := e; omega))
  have RE := hik (row4_set RZ.out (.slice c2 ls cap2) (.int .i64 at') (.string SX) (.int .i64 0))
  clear KS RZ
  go_wp2
  have d0 : ((((W3.setCell ⟨w.heap.size + 1 + 1 + 1, 0, none⟩ (.slice c2 ls cap2)).setCell ⟨w.heap.size + 1 + 1 + 1, 1, none⟩ (.int .i64 at')).setCell ⟨w.heap.size + 1 + 1 + 1, 2, none⟩ (.string SX)).setCell ⟨w.heap.size + 1 + 1 + 1, 3, none⟩ (.int .i64 0)).cell? ⟨w.heap.size + 1 + 1 + 1, 0, none⟩ = some (.slice c2 ls cap2) := RE.out.cell (i := 0) (by omega)
  have d1 : ((((W3.setCell ⟨w.heap.size + 1 + 1 + 1, 0, none⟩ (.slice c2 ls cap2)).setCell ⟨w.heap.size + 1 + 1 + 1, 1, none⟩ (.int .i64 at')).setCell ⟨w.heap.size + 1 + 1 + 1, 2, none⟩ (.string SX)).setCell ⟨w.heap.size + 1 + 1 + 1, 3, none⟩ (.int .i64 0)).cell? ⟨w.heap.size + 1 + 1 + 1, 1, none⟩ = some (.int .i64 at') := RE.out.cell (i := 1) (by omega)
  have d2 : ((((W3.setCell ⟨w.heap.size + 1 + 1 + 1, 0, none⟩ (.slice c2 ls cap2)).setCell ⟨w.heap.size + 1 + 1 + 1, 1, none⟩ (.int .i64 at')).setCell ⟨w.heap.size + 1 + 1 + 1, 2, none⟩ (.string SX)).setCell ⟨w.heap.size + 1 + 1 + 1, 3, none⟩ (.int .i64 0)).cell? ⟨w.heap.size + 1 + 1 + 1, 2, none⟩ = some (.string SX) := RE.out.cell (i := 2) (by omega)
  have d3 : ((((W3.setCell ⟨w.heap.size + 1 + 1 + 1, 0, none⟩ (.slice c2 ls cap2)).setCell ⟨w.heap.size + 1 + 1 + 1, 1, none⟩ (.int .i64 at')).setCell ⟨w.heap.size + 1 + 1 + 1, 2, none⟩ (.string SX)).setCell ⟨w.heap.size + 1 + 1 + 1, 3, none⟩ (.int .i64 0)).cell? ⟨w.heap.size + 1 + 1 + 1, 3, none⟩ = some (.int .i64 0) := RE.out.cell (i := 3) (by omega)
  exact bodyPost_ret (v := .tuple #[.agg #[.slice c2 ls cap2, .int .i64 at', .string SX, .int .i64 0], .int .i64 0]) (by simp [results, Tryz.results7, go_sem, d0, d1, d2, d3]) rfl ⟨fun _ => ⟨c2, cap2, by rw [HSX.out], O9.out, K9.out⟩, fun h => absurd HCD.out h⟩

end Go.Proofs.YtkpohajmcngjcaaGreatDoor
