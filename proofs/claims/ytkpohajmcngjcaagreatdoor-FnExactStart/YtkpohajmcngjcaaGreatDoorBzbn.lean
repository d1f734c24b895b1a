/- Several texts in one: What the program begins a proof with, and Start: contracts. Conditions: a system, public numbers and a source that can be read; the two tables lie. · The walk of the law of Start. Conditions: a system, public numbers and a source that can be read; the two tables lie. -/
import Derived.Test.YtkpohajmcngjcaaGreatDoorBzas
import Derived.Test.YtkpohajmcngjcaaGreatDoorBzbk
import Derived.Test.YtkpohajmcngjcaaGreatDoorBzan
import Derived.Test.YtkpohajmcngjcaaGreatDoorBzbo
import Derived.Test.YtkpohajmcngjcaaGreatDoorBzar
import Derived.Test.YtkpohajmcngjcaaGreatDoorBzat
import Derived.Test.YtkpohajmcngjcaaGreatDoorBzbp
import Derived.Test.YtkpohajmcngjcaaGreatDoorBzbq
import Derived.Test.YtkpohajmcngjcaaGreatDoorBzac
import Derived.Test.YtkpohajmcngjcaaGreatDoorBzao
import Derived.Test.YtkpohajmcngjcaaGreatDoorBzbr
import Derived.Deep.DeepCutAuto
import Derived.Deep.RegionHeld3
namespace Go.Proofs.YtkpohajmcngjcaaGreatDoor
open Go.ChangeShapes Go.WideShapes Go.ChangeAt Go.RowKit
set_option linter.unusedVariables false
set_option maxRecDepth 100000
set_option linter.unusedSimpArgs false

/-- What has been told is taken in. -/
def TlAns (w : World) (b ls : Nat) (fs gs : Nat → Int) (at' : Int) (st : ByteArray) (e : Ending) (w' : World) : Prop :=
  ∃ (c : Option Addr) (cap : Nat), e = .returned (.tuple #[]) ∧ w'.rowIs b 78 4 (pv4 (.slice c ls cap) (.int .i64 at') (.string st) (.int .i64 0)) ∧ OwnE w' w.heap.size c ls fs gs ∧ Chg (fun x => x = b) w w'

set_option maxHeartbeats 2000000 in
theorem tell_any (b : Nat) (cs : Option Addr) (ls ps : Nat) (at' : Int) (st : ByteArray) (ct : Int) (fs gs : Nat → Int) (t : ByteArray) (w : World) (hr : Hid (w.rowIs b 78 4 (pv4 (.slice cs ls ps) (.int .i64 at') (.string st) (.int .i64 ct)))) (ht : Hid (Tabs w)) (hp : Hid (PairV w cs ls fs gs)) (hl : ls ≤ 64) (hst : st.size = 32) (hts : t.size ≤ 65536) :
    Calls Tryz.prog 77 #[.pointer (some ⟨b, 0, none⟩), .string t] w fun e w' => TlAns w b ls fs gs at' (abS st t) e w' := by
  have x0 : w.cell? ⟨b, 0, none⟩ = some (.slice cs ls ps) := hr.out.cell (i := 0) (by omega)
  have x1 : w.cell? ⟨b, 1, none⟩ = some (.int .i64 at') := hr.out.cell (i := 1) (by omega)
  have x2 : w.cell? ⟨b, 2, none⟩ = some (.string st) := hr.out.cell (i := 2) (by omega)
  have x3 : w.cell? ⟨b, 3, none⟩ = some (.int .i64 ct) := hr.out.cell (i := 3) (by omega)
  go_enter Tryz.func77, Tryz.ntmps77
  go_wp2_with fail
  refine (takingIn_any cs ls ps fs gs at' st ct t _ ht hp (by omega) hst hts).mono ?_
  rintro e W1 ⟨c1, cap1, rfl, ho, kk⟩
  have R1 := hik (rowIs_keep hr.out kk)
  have hb : b < w.heap.size := hr.out.lt
  have KS := hik (chg4_set (Chg.refl (fun x => x = b) W1) b (fun _ => rfl) (.slice c1 ls cap1) (.int .i64 at') (.string (abS st t)) (.int .i64 0))
  have OO := hik (ho.chg KS.out (fun x hx _ e => by have e : x = b := e; omega))
  have RR := hik (row4_set R1.out (.slice c1 ls cap1) (.int .i64 at') (.string (abS st t)) (.int .i64 0))
  have KK := hik (kk.wide.trans KS.out)
  clear x0 x1 x2 x3 kk ho KS

  have x0 : W1.cell? ⟨b, 0, none⟩ = some (.slice cs ls ps) := R1.out.cell (i := 0) (by omega)
  have x1 : W1.cell? ⟨b, 1, none⟩ = some (.int .i64 at') := R1.out.cell (i := 1) (by omega)
  have x2 : W1.cell? ⟨b, 2, none⟩ = some (.string st) := R1.out.cell (i := 2) (by omega)
  have x3 : W1.cell? ⟨b, 3, none⟩ = some (.int .i64 ct) := R1.out.cell (i := 3) (by omega)
  have f0 := R1.out.frozen 0
  have f1 := R1.out.frozen 1
  have f2 := R1.out.frozen 2
  have f3 := R1.out.frozen 3
  have fz := R1.out.lt
  clear R1
  go_wp2
  exact bodyPost_end (results_none rfl _ _ _) rfl ⟨c1, cap1, rfl, RR.out, OO.out, KK.out⟩

set_option maxHeartbeats 8000000 in
theorem startedTalk_any (s : Sy) (a : SyA) (r n g : Int) (c : Option Addr) (P cap : Nat) (f : Nat → Int) (cs : Option Addr) (ls ps : Nat) (at' : Int) (st : ByteArray) (ct : Int) (fs gs : Nat → Int) (w : World) (hv : Hid (SyV w s a)) (hs : s.small) (hok : Hid (sysb s = true)) (hst : Hid (stb r n g = true)) (hf : Hid (RowV w c P (iv f))) (hfb : Hid (fds P f = true)) (hP : P ≤ 4096) (hsr : Hid (PairV w cs ls fs gs)) (hls : ls ≤ 64) (hss : st.size = 32) (ht : Hid (Tabs w)) :
    Calls Tryz.prog 38 #[.agg #[.int .i64 s.r, .int .i64 s.q, .int .i64 s.p, .slice a.cA s.nA a.pA, .slice a.cB s.nB a.pB, .slice a.cC s.nC a.pC, .int .i64 r, .int .i64 n, .int .i64 g, .slice c P cap], .agg #[.slice cs ls ps, .int .i64 at', .string st, .int .i64 ct]] w fun e w' => SrAns w ls fs gs at' (abS st (stX s r n g P f)) 0 e w' := by
  have hts : (stX s r n g P f).size ≤ 65536 := by rw [stX_size]; omega
  have K0 := hik (((((Chg.refl nob w).alloc (.cells #[.int .i64 s.r, .int .i64 s.q, .int .i64 s.p, .slice a.cA s.nA a.pA, .slice a.cB s.nB a.pB, .slice a.cC s.nC a.pC, .int .i64 r, .int .i64 n, .int .i64 g, .slice c P cap] 75)).alloc (.cells #[.slice cs ls ps, .int .i64 at', .string st, .int .i64 ct] 35)).alloc (.cells #[.slice none 0 0, .int .i64 0, .string ⟨#[]⟩, .int .i64 0] 78)).alloc (.cells #[.slice cs ls ps, .int .i64 at', .string st, .int .i64 ct] 78))
  have RM := hik (rowIs_keep (rowN_new w 10 #[.int .i64 s.r, .int .i64 s.q, .int .i64 s.p, .slice a.cA s.nA a.pA, .slice a.cB s.nB a.pB, .slice a.cC s.nC a.pC, .int .i64 r, .int .i64 n, .int .i64 g, .slice c P cap] 75 rfl) ((((Chg.refl nob _).alloc (.cells #[.slice cs ls ps, .int .i64 at', .string st, .int .i64 ct] 35)).alloc (.cells #[.slice none 0 0, .int .i64 0, .string ⟨#[]⟩, .int .i64 0] 78)).alloc (.cells #[.slice cs ls ps, .int .i64 at', .string st, .int .i64 ct] 78)))
  have RZ := hik (rowIs_keep (row4_new ((w.alloc (.cells #[.int .i64 s.r, .int .i64 s.q, .int .i64 s.p, .slice a.cA s.nA a.pA, .slice a.cB s.nB a.pB, .slice a.cC s.nC a.pC, .int .i64 r, .int .i64 n, .int .i64 g, .slice c P cap] 75)).alloc (.cells #[.slice cs ls ps, .int .i64 at', .string st, .int .i64 ct] 35)) (.slice none 0 0) (.int .i64 0) (.string ⟨#[]⟩) (.int .i64 0) 78) ((Chg.refl nob _).alloc (.cells #[.slice cs ls ps, .int .i64 at', .string st, .int .i64 ct] 78)))
  have RK := hik (row4_new (((w.alloc (.cells #[.int .i64 s.r, .int .i64 s.q, .int .i64 s.p, .slice a.cA s.nA a.pA, .slice a.cB s.nB a.pB, .slice a.cC s.nC a.pC, .int .i64 r, .int .i64 n, .int .i64 g, .slice c P cap] 75)).alloc (.cells #[.slice cs ls ps, .int .i64 at', .string st, .int .i64 ct] 35)).alloc (.cells #[.slice none 0 0, .int .i64 0, .string ⟨#[]⟩, .int .i64 0] 78)) (.slice cs ls ps) (.int .i64 at') (.string st) (.int .i64 ct) 78)
  rw [asz, asz] at RZ
  rw [asz, asz, asz] at RK
  have HZ := hik (show ((((w.alloc (.cells #[.int .i64 s.r, .int .i64 s.q, .int .i64 s.p, .slice a.cA s.nA a.pA, .slice a.cB s.nB a.pB, .slice a.cC s.nC a.pC, .int .i64 r, .int .i64 n, .int .i64 g, .slice c P cap] 75)).alloc (.cells #[.slice cs ls ps, .int .i64 at', .string st, .int .i64 ct] 35)).alloc (.cells #[.slice none 0 0, .int .i64 0, .string ⟨#[]⟩, .int .i64 0] 78)).alloc (.cells #[.slice cs ls ps, .int .i64 at', .string st, .int .i64 ct] 78)).heap.size = w.heap.size + 1 + 1 + 1 + 1 by simp)
  go_enter Tryz.func38, Tryz.ntmps38
  go_wp2_with fail
  generalize hW : (((w.alloc (.cells #[.int .i64 s.r, .int .i64 s.q, .int .i64 s.p, .slice a.cA s.nA a.pA, .slice a.cB s.nB a.pB, .slice a.cC s.nC a.pC, .int .i64 r, .int .i64 n, .int .i64 g, .slice c P cap] 75)).alloc (.cells #[.slice cs ls ps, .int .i64 at', .string st, .int .i64 ct] 35)).alloc (.cells #[.slice none 0 0, .int .i64 0, .string ⟨#[]⟩, .int .i64 0] 78)).alloc (.cells #[.slice cs ls ps, .int .i64 at', .string st, .int .i64 ct] 78) = W0 at K0 RM RZ RK HZ ⊢
  clear hW
  refine (stText_any s a r n g c P cap f _ (hik (hv.out.keep K0.out)) hs hok hst (hik (hf.out.keep K0.out)) hfb hP (hik (ht.out.keep K0.out))).mono ?_
  rintro e W1 ⟨rfl, kk⟩
  replace K0 := hik (K0.out.trans kk)
  replace RZ := hik (rowIs_keep RZ.out kk)
  replace RK := hik (rowIs_keep RK.out kk)
  replace HZ := hik (show w.heap.size + 1 + 1 + 1 + 1 ≤ W1.heap.size by have := HZ.out; have := kk.size; omega)
  clear kk RM
  generalize hTX : stX s r n g P f = TX at hts ⊢
  have HTX := hik hTX
  clear hTX
  go_wp2_with fail
  refine (tell_any (w.heap.size + 1 + 1 + 1) cs ls ps at' st ct fs gs TX _ RK (hik (ht.out.keep K0.out)) (hik (hsr.out.keep K0.out)) hls hss hts).mono ?_
  rintro e W2 ⟨c2, cap2, rfl, hrow, ho, kk⟩
  have KE := hik (K0.out.near kk (fun i e => by have e : i = w.heap.size + 1 + 1 + 1 := e; omega))
  have RY := hik (rowIs_chg RZ.out kk (fun e => by have e : w.heap.size + 1 + 1 = w.heap.size + 1 + 1 + 1 := e; omega))
  have RW := hik hrow
  have OO := hik ho
  clear kk hrow ho RZ RK

  have x0 : W2.cell? ⟨w.heap.size + 1 + 1 + 1, 0, none⟩ = some (.slice c2 ls cap2) := RW.out.cell (i := 0) (by omega)
  have x1 : W2.cell? ⟨w.heap.size + 1 + 1 + 1, 1, none⟩ = some (.int .i64 at') := RW.out.cell (i := 1) (by omega)
  have x2 : W2.cell? ⟨w.heap.size + 1 + 1 + 1, 2, none⟩ = some (.string (abS st TX)) := RW.out.cell (i := 2) (by omega)
  have x3 : W2.cell? ⟨w.heap.size + 1 + 1 + 1, 3, none⟩ = some (.int .i64 0) := RW.out.cell (i := 3) (by omega)
  have y0 : W2.cell? ⟨w.heap.size + 1 + 1, 0, none⟩ = some (.slice none 0 0) := RY.out.cell (i := 0) (by omega)
  have y1 : W2.cell? ⟨w.heap.size + 1 + 1, 1, none⟩ = some (.int .i64 0) := RY.out.cell (i := 1) (by omega)
  have y2 : W2.cell? ⟨w.heap.size + 1 + 1, 2, none⟩ = some (.string ⟨#[]⟩) := RY.out.cell (i := 2) (by omega)
  have y3 : W2.cell? ⟨w.heap.size + 1 + 1, 3, none⟩ = some (.int .i64 0) := RY.out.cell (i := 3) (by omega)
  have f0 := RY.out.frozen 0
  have f1 := RY.out.frozen 1
  have f2 := RY.out.frozen 2
  have f3 := RY.out.frozen 3
  have fz := RY.out.lt
  have KS := hik (chg4_set (Chg.refl (fun x => x = w.heap.size + 1 + 1) W2) (w.heap.size + 1 + 1) (fun _ => rfl) (.slice c2 ls cap2) (.int .i64 at') (.string (abS st TX)) (.int .i64 0))
  have O9 := hik ((OO.out.chg KS.out (fun x hx ec e => by have e : x = w.heap.size + 1 + 1 := e; have := HZ.out; omega)).low (show w.heap.size ≤ W1.heap.size by have := HZ.out; omega))
  have K9 := hik (KE.out.near KS.out (fun i e => by have e : i = w.heap.size + 1 + 1 := e; omega))
  have RE := hik (row4_set RY.out (.slice c2 ls cap2) (.int .i64 at') (.string (abS st TX)) (.int .i64 0))
  clear KS RW RY
  go_wp2
  have d0 : ((((W2.setCell ⟨w.heap.size + 1 + 1, 0, none⟩ (.slice c2 ls cap2)).setCell ⟨w.heap.size + 1 + 1, 1, none⟩ (.int .i64 at')).setCell ⟨w.heap.size + 1 + 1, 2, none⟩ (.string (abS st TX))).setCell ⟨w.heap.size + 1 + 1, 3, none⟩ (.int .i64 0)).cell? ⟨w.heap.size + 1 + 1, 0, none⟩ = some (.slice c2 ls cap2) := RE.out.cell (i := 0) (by omega)
  have d1 : ((((W2.setCell ⟨w.heap.size + 1 + 1, 0, none⟩ (.slice c2 ls cap2)).setCell ⟨w.heap.size + 1 + 1, 1, none⟩ (.int .i64 at')).setCell ⟨w.heap.size + 1 + 1, 2, none⟩ (.string (abS st TX))).setCell ⟨w.heap.size + 1 + 1, 3, none⟩ (.int .i64 0)).cell? ⟨w.heap.size + 1 + 1, 1, none⟩ = some (.int .i64 at') := RE.out.cell (i := 1) (by omega)
  have d2 : ((((W2.setCell ⟨w.heap.size + 1 + 1, 0, none⟩ (.slice c2 ls cap2)).setCell ⟨w.heap.size + 1 + 1, 1, none⟩ (.int .i64 at')).setCell ⟨w.heap.size + 1 + 1, 2, none⟩ (.string (abS st TX))).setCell ⟨w.heap.size + 1 + 1, 3, none⟩ (.int .i64 0)).cell? ⟨w.heap.size + 1 + 1, 2, none⟩ = some (.string (abS st TX)) := RE.out.cell (i := 2) (by omega)
  have d3 : ((((W2.setCell ⟨w.heap.size + 1 + 1, 0, none⟩ (.slice c2 ls cap2)).setCell ⟨w.heap.size + 1 + 1, 1, none⟩ (.int .i64 at')).setCell ⟨w.heap.size + 1 + 1, 2, none⟩ (.string (abS st TX))).setCell ⟨w.heap.size + 1 + 1, 3, none⟩ (.int .i64 0)).cell? ⟨w.heap.size + 1 + 1, 3, none⟩ = some (.int .i64 0) := RE.out.cell (i := 3) (by omega)
  exact bodyPost_ret (v := .agg #[.slice c2 ls cap2, .int .i64 at', .string (abS st TX), .int .i64 0]) (by simp [results, Tryz.results38, go_sem, d0, d1, d2, d3]) rfl ⟨c2, cap2, by rw [HTX.out], O9.out, K9.out⟩

theorem field_talk (v0 v1 v2 v3 : Value) (W : World) : (Instr.field 78 (.agg #[v0, v1, v2, v3]) 0).run Tryz.prog W = .ok (.agg #[v0, v1, v2, v3]) W := by
  first | kernel_rfl | (simp [Instr.field, Tryz.underlying78]; rfl)
set_option maxHeartbeats 8000000 in
theorem start_any (s : Sy) (a : SyA) (r n g : Int) (c : Option Addr) (P cap : Nat) (f : Nat → Int) (cs : Option Addr) (ls ps : Nat) (at' : Int) (st : ByteArray) (ct : Int) (fs gs : Nat → Int) (w : World) (hv : Hid (SyV w s a)) (hs : s.small) (hf : Hid (RowV w c P (iv f))) (hP : P ≤ 1099511627776) (hsr : Hid (PairV w cs ls fs gs)) (hls : (ls : Int) ≤ 9223372036854775807) (hss : (st.size : Int) ≤ 9223372036854775807) (ht : Hid (Tabs w)) :
    Calls Tryz.prog 12 #[.agg #[.int .i64 s.r, .int .i64 s.q, .int .i64 s.p, .slice a.cA s.nA a.pA, .slice a.cB s.nB a.pB, .slice a.cC s.nC a.pC], .agg #[.int .i64 r, .int .i64 n, .int .i64 g], .slice c P cap, .agg #[.slice cs ls ps, .int .i64 at', .string st, .int .i64 ct]] w fun e w' => StAns w (stc s r n g P f (sokb fs gs ls at' st ct) at' ct) ls fs gs at' (abS st (stX s r n g P f)) e w' := by
  have K0 := hik (((((Chg.refl nob w).alloc (.cells #[.int .i64 s.r, .int .i64 s.q, .int .i64 s.p, .slice a.cA s.nA a.pA, .slice a.cB s.nB a.pB, .slice a.cC s.nC a.pC] 40)).alloc (.cells #[.int .i64 r, .int .i64 n, .int .i64 g] 42)).alloc (.cells #[.slice cs ls ps, .int .i64 at', .string st, .int .i64 ct] 35)).alloc (.cells #[.slice none 0 0, .int .i64 0, .string ⟨#[]⟩, .int .i64 0] 35))
  have RZ := hik (row4_new (((w.alloc (.cells #[.int .i64 s.r, .int .i64 s.q, .int .i64 s.p, .slice a.cA s.nA a.pA, .slice a.cB s.nB a.pB, .slice a.cC s.nC a.pC] 40)).alloc (.cells #[.int .i64 r, .int .i64 n, .int .i64 g] 42)).alloc (.cells #[.slice cs ls ps, .int .i64 at', .string st, .int .i64 ct] 35)) (.slice none 0 0) (.int .i64 0) (.string ⟨#[]⟩) (.int .i64 0) 35)
  have RR := hik (rowIs_keep (row4_new ((w.alloc (.cells #[.int .i64 s.r, .int .i64 s.q, .int .i64 s.p, .slice a.cA s.nA a.pA, .slice a.cB s.nB a.pB, .slice a.cC s.nC a.pC] 40)).alloc (.cells #[.int .i64 r, .int .i64 n, .int .i64 g] 42)) (.slice cs ls ps) (.int .i64 at') (.string st) (.int .i64 ct) 35) ((Chg.refl nob _).alloc (.cells #[.slice none 0 0, .int .i64 0, .string ⟨#[]⟩, .int .i64 0] 35)))
  rw [asz, asz, asz] at RZ
  rw [asz, asz] at RR
  by_cases hl : 4096 < P
  · have hl' : (4096 : Int) < P := by omega
    have HC := hik (show stc s r n g P f (sokb fs gs ls at' st ct) at' ct = 2 by unfold stc; rw [if_pos hl])
    rw [HC.out]
    go_enter Tryz.func12, Tryz.ntmps12
    go_wp2
    exact bodyPost_ret (v := .tuple #[.agg #[.slice none 0 0, .int .i64 0, .string ⟨#[]⟩, .int .i64 0], .int .i64 2]) (by simp [results, Tryz.results12, go_sem]) rfl ⟨(fun h => by cases h), fun _ => ⟨rfl, K0.out⟩⟩
  have hl' : ¬ (4096 : Int) < P := by omega
  have HC := hik (show stc s r n g P f (sokb fs gs ls at' st ct) at' ct = stk s r n g P f (sokb fs gs ls at' st ct) at' ct by unfold stc; rw [if_neg hl])
  rw [HC.out]
  clear HC
  go_enter Tryz.func12, Tryz.ntmps12
  go_wp2_with fail
  have KM := hik (K0.out.alloc (.cells #[.int .i64 s.r, .int .i64 s.q, .int .i64 s.p, .slice a.cA s.nA a.pA, .slice a.cB s.nB a.pB, .slice a.cC s.nC a.pC, .int .i64 r, .int .i64 n, .int .i64 g, .slice c P cap] 75))
  have RM := hik (rowN_new ((((w.alloc (.cells #[.int .i64 s.r, .int .i64 s.q, .int .i64 s.p, .slice a.cA s.nA a.pA, .slice a.cB s.nB a.pB, .slice a.cC s.nC a.pC] 40)).alloc (.cells #[.int .i64 r, .int .i64 n, .int .i64 g] 42)).alloc (.cells #[.slice cs ls ps, .int .i64 at', .string st, .int .i64 ct] 35)).alloc (.cells #[.slice none 0 0, .int .i64 0, .string ⟨#[]⟩, .int .i64 0] 35)) 10 #[.int .i64 s.r, .int .i64 s.q, .int .i64 s.p, .slice a.cA s.nA a.pA, .slice a.cB s.nB a.pB, .slice a.cC s.nC a.pC, .int .i64 r, .int .i64 n, .int .i64 g, .slice c P cap] 75 rfl)
  replace RZ := hik (rowIs_keep RZ.out ((Chg.refl nob _).alloc (.cells #[.int .i64 s.r, .int .i64 s.q, .int .i64 s.p, .slice a.cA s.nA a.pA, .slice a.cB s.nB a.pB, .slice a.cC s.nC a.pC, .int .i64 r, .int .i64 n, .int .i64 g, .slice c P cap] 75)))
  replace RR := hik (rowIs_keep RR.out ((Chg.refl nob _).alloc (.cells #[.int .i64 s.r, .int .i64 s.q, .int .i64 s.p, .slice a.cA s.nA a.pA, .slice a.cB s.nB a.pB, .slice a.cC s.nC a.pC, .int .i64 r, .int .i64 n, .int .i64 g, .slice c P cap] 75)))
  rw [asz, asz, asz, asz] at RM
  generalize hW : ((((w.alloc (.cells #[.int .i64 s.r, .int .i64 s.q, .int .i64 s.p, .slice a.cA s.nA a.pA, .slice a.cB s.nB a.pB, .slice a.cC s.nC a.pC] 40)).alloc (.cells #[.int .i64 r, .int .i64 n, .int .i64 g] 42)).alloc (.cells #[.slice cs ls ps, .int .i64 at', .string st, .int .i64 ct] 35)).alloc (.cells #[.slice none 0 0, .int .i64 0, .string ⟨#[]⟩, .int .i64 0] 35)).alloc (.cells #[.int .i64 s.r, .int .i64 s.q, .int .i64 s.p, .slice a.cA s.nA a.pA, .slice a.cB s.nB a.pB, .slice a.cC s.nC a.pC, .int .i64 r, .int .i64 n, .int .i64 g, .slice c P cap] 75) = W0 at KM RM RZ RR ⊢
  clear hW K0
  refine (startCode_any s a r n g c P cap f cs ls ps at' st ct fs gs _ (hik (hv.out.keep KM.out)) hs (hik (hf.out.keep KM.out)) hP (hik (hsr.out.keep KM.out)) hls hss).mono ?_
  rintro e W1 ⟨rfl, kk⟩
  replace KM := hik (KM.out.trans kk)
  replace RM := hik (rowIs_keep RM.out kk)
  replace RZ := hik (rowIs_keep RZ.out kk)
  replace RR := hik (rowIs_keep RR.out kk)
  clear kk
  generalize hCD : stk s r n g P f (sokb fs gs ls at' st ct) at' ct = CD
  have HCD := hik hCD
  clear hCD

  by_cases h0 : CD = 0
  rotate_left 1
  · have z0 := RZ.out.cell (i := 0) (by omega)
    clear z0
    have y0 : W1.cell? ⟨w.heap.size + 1 + 1 + 1, 0, none⟩ = some (.slice none 0 0) := RZ.out.cell (i := 0) (by omega)
    have y1 : W1.cell? ⟨w.heap.size + 1 + 1 + 1, 1, none⟩ = some (.int .i64 0) := RZ.out.cell (i := 1) (by omega)
    have y2 : W1.cell? ⟨w.heap.size + 1 + 1 + 1, 2, none⟩ = some (.string ⟨#[]⟩) := RZ.out.cell (i := 2) (by omega)
    have y3 : W1.cell? ⟨w.heap.size + 1 + 1 + 1, 3, none⟩ = some (.int .i64 0) := RZ.out.cell (i := 3) (by omega)
    have f0 := RZ.out.frozen 0
    have f1 := RZ.out.frozen 1
    have f2 := RZ.out.frozen 2
    have f3 := RZ.out.frozen 3
    have fz := RZ.out.lt
    have RE := hik (row4_set RZ.out (.slice none 0 0) (.int .i64 0) (.string ⟨#[]⟩) (.int .i64 0))
    have KE := hik (chg4_set KM.out (w.heap.size + 1 + 1 + 1) (fun l => absurd l (by omega)) (.slice none 0 0) (.int .i64 0) (.string ⟨#[]⟩) (.int .i64 0))
    clear RZ
    go_wp2
    have d0 : ((((W1.setCell ⟨w.heap.size + 1 + 1 + 1, 0, none⟩ (.slice none 0 0)).setCell ⟨w.heap.size + 1 + 1 + 1, 1, none⟩ (.int .i64 0)).setCell ⟨w.heap.size + 1 + 1 + 1, 2, none⟩ (.string ⟨#[]⟩)).setCell ⟨w.heap.size + 1 + 1 + 1, 3, none⟩ (.int .i64 0)).cell? ⟨w.heap.size + 1 + 1 + 1, 0, none⟩ = some (.slice none 0 0) := RE.out.cell (i := 0) (by omega)
    have d1 : ((((W1.setCell ⟨w.heap.size + 1 + 1 + 1, 0, none⟩ (.slice none 0 0)).setCell ⟨w.heap.size + 1 + 1 + 1, 1, none⟩ (.int .i64 0)).setCell ⟨w.heap.size + 1 + 1 + 1, 2, none⟩ (.string ⟨#[]⟩)).setCell ⟨w.heap.size + 1 + 1 + 1, 3, none⟩ (.int .i64 0)).cell? ⟨w.heap.size + 1 + 1 + 1, 1, none⟩ = some (.int .i64 0) := RE.out.cell (i := 1) (by omega)
    have d2 : ((((W1.setCell ⟨w.heap.size + 1 + 1 + 1, 0, none⟩ (.slice none 0 0)).setCell ⟨w.heap.size + 1 + 1 + 1, 1, none⟩ (.int .i64 0)).setCell ⟨w.heap.size + 1 + 1 + 1, 2, none⟩ (.string ⟨#[]⟩)).setCell ⟨w.heap.size + 1 + 1 + 1, 3, none⟩ (.int .i64 0)).cell? ⟨w.heap.size + 1 + 1 + 1, 2, none⟩ = some (.string ⟨#[]⟩) := RE.out.cell (i := 2) (by omega)
    have d3 : ((((W1.setCell ⟨w.heap.size + 1 + 1 + 1, 0, none⟩ (.slice none 0 0)).setCell ⟨w.heap.size + 1 + 1 + 1, 1, none⟩ (.int .i64 0)).setCell ⟨w.heap.size + 1 + 1 + 1, 2, none⟩ (.string ⟨#[]⟩)).setCell ⟨w.heap.size + 1 + 1 + 1, 3, none⟩ (.int .i64 0)).cell? ⟨w.heap.size + 1 + 1 + 1, 3, none⟩ = some (.int .i64 0) := RE.out.cell (i := 3) (by omega)
    exact bodyPost_ret (v := .tuple #[.agg #[.slice none 0 0, .int .i64 0, .string ⟨#[]⟩, .int .i64 0], .int .i64 CD]) (by simp [results, Tryz.results12, go_sem, d0, d1, d2, d3]) rfl ⟨fun h => absurd (HCD.out.symm.trans h) h0, fun _ => ⟨by rw [HCD.out], KE.out⟩⟩
  subst h0
  obtain ⟨q0, q1, q2, q3, q4, q5⟩ := stk_0 HCD.out
  obtain ⟨l64, s32⟩ := sokb_st q3
  have Q0 := hik q0
  have Q1 := hik q1
  have Q2 := hik q2
  clear q0 q1 q2 q3 q4 q5
  have x0 : W1.cell? ⟨w.heap.size + 1 + 1 + 1 + 1, 0, none⟩ = some (.int .i64 s.r) := RM.out.cell (i := 0) (by omega)
  have x1 : W1.cell? ⟨w.heap.size + 1 + 1 + 1 + 1, 1, none⟩ = some (.int .i64 s.q) := RM.out.cell (i := 1) (by omega)
  have x2 : W1.cell? ⟨w.heap.size + 1 + 1 + 1 + 1, 2, none⟩ = some (.int .i64 s.p) := RM.out.cell (i := 2) (by omega)
  have x3 : W1.cell? ⟨w.heap.size + 1 + 1 + 1 + 1, 3, none⟩ = some (.slice a.cA s.nA a.pA) := RM.out.cell (i := 3) (by omega)
  have x4 : W1.cell? ⟨w.heap.size + 1 + 1 + 1 + 1, 4, none⟩ = some (.slice a.cB s.nB a.pB) := RM.out.cell (i := 4) (by omega)
  have x5 : W1.cell? ⟨w.heap.size + 1 + 1 + 1 + 1, 5, none⟩ = some (.slice a.cC s.nC a.pC) := RM.out.cell (i := 5) (by omega)
  have x6 : W1.cell? ⟨w.heap.size + 1 + 1 + 1 + 1, 6, none⟩ = some (.int .i64 r) := RM.out.cell (i := 6) (by omega)
  have x7 : W1.cell? ⟨w.heap.size + 1 + 1 + 1 + 1, 7, none⟩ = some (.int .i64 n) := RM.out.cell (i := 7) (by omega)
  have x8 : W1.cell? ⟨w.heap.size + 1 + 1 + 1 + 1, 8, none⟩ = some (.int .i64 g) := RM.out.cell (i := 8) (by omega)
  have x9 : W1.cell? ⟨w.heap.size + 1 + 1 + 1 + 1, 9, none⟩ = some (.slice c P cap) := RM.out.cell (i := 9) (by omega)
  have y0 : W1.cell? ⟨w.heap.size + 1 + 1, 0, none⟩ = some (.slice cs ls ps) := RR.out.cell (i := 0) (by omega)
  have y1 : W1.cell? ⟨w.heap.size + 1 + 1, 1, none⟩ = some (.int .i64 at') := RR.out.cell (i := 1) (by omega)
  have y2 : W1.cell? ⟨w.heap.size + 1 + 1, 2, none⟩ = some (.string st) := RR.out.cell (i := 2) (by omega)
  have y3 : W1.cell? ⟨w.heap.size + 1 + 1, 3, none⟩ = some (.int .i64 ct) := RR.out.cell (i := 3) (by omega)
  go_wp2_with fail
  clear x0 x1 x2 x3 x4 x5 x6 x7 x8 x9 y0 y1 y2 y3
  refine (startedTalk_any s a r n g c P cap f cs ls ps at' st ct fs gs _ (hik (hv.out.keep KM.out)) hs Q0 Q1 (hik (hf.out.keep KM.out)) Q2 (by omega) (hik (hsr.out.keep KM.out)) l64 s32 (hik (ht.out.keep KM.out))).mono ?_
  rintro e W2 ⟨c2, cap2, rfl, ho, kk⟩
  replace RZ := hik (rowIs_keep RZ.out kk)
  have hw1 : w.heap.size ≤ W1.heap.size := KM.out.size
  have hz1 : w.heap.size + 1 + 1 + 1 + 1 < W1.heap.size := RM.out.lt
  replace KM := hik (KM.out.trans kk)
  have OO := hik ho
  clear kk ho RM RR
  generalize hSX : abS st (stX s r n g P f) = SX
  have HSX := hik hSX
  clear hSX
  have y0 : W2.cell? ⟨w.heap.size + 1 + 1 + 1, 0, none⟩ = some (.slice none 0 0) := RZ.out.cell (i := 0) (by omega)
  have y1 : W2.cell? ⟨w.heap.size + 1 + 1 + 1, 1, none⟩ = some (.int .i64 0) := RZ.out.cell (i := 1) (by omega)
  have y2 : W2.cell? ⟨w.heap.size + 1 + 1 + 1, 2, none⟩ = some (.string ⟨#[]⟩) := RZ.out.cell (i := 2) (by omega)
  have y3 : W2.cell? ⟨w.heap.size + 1 + 1 + 1, 3, none⟩ = some (.int .i64 0) := RZ.out.cell (i := 3) (by omega)
  have f0 := RZ.out.frozen 0
  have f1 := RZ.out.frozen 1
  have f2 := RZ.out.frozen 2
  have f3 := RZ.out.frozen 3
  have fz := RZ.out.lt
  have ff := field_talk (.slice c2 ls cap2) (.int .i64 at') (.string SX) (.int .i64 0)
  have KS := hik (chg4_set (Chg.refl (fun x => x = w.heap.size + 1 + 1 + 1) W2) (w.heap.size + 1 + 1 + 1) (fun _ => rfl) (.slice c2 ls cap2) (.int .i64 at') (.string SX) (.int .i64 0))
  have O9 := hik ((OO.out.chg KS.out (fun x hx ec e => by have e : x = w.heap.size + 1 + 1 + 1 := e; omega)).low hw1)
  have K9 := hik (KM.out.near KS.out (fun i e => by have e : i = w.heap.size + 1 + 1 + 1 := e; omega))
  have RE := hik (row4_set RZ.out (.slice c2 ls cap2) (.int .i64 at') (.string SX) (.int .i64 0))
  clear KS RZ
  go_wp2
  have d0 : ((((W2.setCell ⟨w.heap.size + 1 + 1 + 1, 0, none⟩ (.slice c2 ls cap2)).setCell ⟨w.heap.size + 1 + 1 + 1, 1, none⟩ (.int .i64 at')).setCell ⟨w.heap.size + 1 + 1 + 1, 2, none⟩ (.string SX)).setCell ⟨w.heap.size + 1 + 1 + 1, 3, none⟩ (.int .i64 0)).cell? ⟨w.heap.size + 1 + 1 + 1, 0, none⟩ = some (.slice c2 ls cap2) := RE.out.cell (i := 0) (by omega)
  have d1 : ((((W2.setCell ⟨w.heap.size + 1 + 1 + 1, 0, none⟩ (.slice c2 ls cap2)).setCell ⟨w.heap.size + 1 + 1 + 1, 1, none⟩ (.int .i64 at')).setCell ⟨w.heap.size + 1 + 1 + 1, 2, none⟩ (.string SX)).setCell ⟨w.heap.size + 1 + 1 + 1, 3, none⟩ (.int .i64 0)).cell? ⟨w.heap.size + 1 + 1 + 1, 1, none⟩ = some (.int .i64 at') := RE.out.cell (i := 1) (by omega)
  have d2 : ((((W2.setCell ⟨w.heap.size + 1 + 1 + 1, 0, none⟩ (.slice c2 ls cap2)).setCell ⟨w.heap.size + 1 + 1 + 1, 1, none⟩ (.int .i64 at')).setCell ⟨w.heap.size + 1 + 1 + 1, 2, none⟩ (.string SX)).setCell ⟨w.heap.size + 1 + 1 + 1, 3, none⟩ (.int .i64 0)).cell? ⟨w.heap.size + 1 + 1 + 1, 2, none⟩ = some (.string SX) := RE.out.cell (i := 2) (by omega)
  have d3 : ((((W2.setCell ⟨w.heap.size + 1 + 1 + 1, 0, none⟩ (.slice c2 ls cap2)).setCell ⟨w.heap.size + 1 + 1 + 1, 1, none⟩ (.int .i64 at')).setCell ⟨w.heap.size + 1 + 1 + 1, 2, none⟩ (.string SX)).setCell ⟨w.heap.size + 1 + 1 + 1, 3, none⟩ (.int .i64 0)).cell? ⟨w.heap.size + 1 + 1 + 1, 3, none⟩ = some (.int .i64 0) := RE.out.cell (i := 3) (by omega)
  exact bodyPost_ret (v := .tuple #[.agg #[.slice c2 ls cap2, .int .i64 at', .string SX, .int .i64 0], .int .i64 0]) (by simp [results, Tryz.results12, go_sem, d0, d1, d2, d3]) rfl ⟨fun _ => ⟨c2, cap2, by rw [HSX.out], O9.out, K9.out⟩, fun h => absurd HCD.out h⟩

end Go.Proofs.YtkpohajmcngjcaaGreatDoor

namespace Go.Proofs.YtkpohajmcngjcaaGreatDoor
open Go.ChangeShapes Go.WideShapes Go.ChangeAt Go.RowKit
set_option linter.unusedVariables false
set_option maxRecDepth 100000
set_option linter.unusedSimpArgs false

theorem StAns.sc {w w' : World} {code : Int} {ls : Nat} {fs gs : Nat → Int} {at' : Int} {st : ByteArray} {e : Ending} (h : StAns w code ls fs gs at' st e w') : SCAns w code (if code = 0 then ls else 0) fs gs (if code = 0 then at' else 0) (if code = 0 then st else ⟨#[]⟩) 0 e w' := by
  by_cases h0 : code = 0
  · have q := h.1 h0
    subst h0
    exact q
  · obtain ⟨he, kk⟩ := h.2 h0
    rw [if_neg h0, if_neg h0, if_neg h0]
    exact ⟨none, 0, he, OwnE.zero, kk⟩
theorem OwnE.farE {P : Nat → Prop} {w w' : World} {B : Nat} {c : Option Addr} {n : Nat} {f g : Nat → Int} (h : OwnE w B c n f g) (k : Chg P w w') (hp : ∀ b, B ≤ b → c = some ⟨b, 0, none⟩ → n = 0 ∨ ¬ P b) : OwnE w' B c n f g := by
  rcases h with h0 | ⟨b, N, hh, e, hb, hr, q⟩
  · exact .inl h0
  · rcases hp b hb e with h0 | h0
    · exact .inl h0
    · exact OwnE.chg (.inr ⟨b, N, hh, e, hb, hr, q⟩) k (fun b' _ ec => by rw [e] at ec; cases ec; exact h0)

set_option maxHeartbeats 1000000 in
theorem markNone8 (c : Option Addr) (cap : Nat) (q : Int) (w : World) : Calls Tryz.prog 42 #[.slice c 0 cap, .int .i64 q] w fun e w' => e = .returned (.int .i64 q) ∧ Chg nob w w' := by
  go_enter Tryz.func42, Tryz.ntmps42
  go_wp2
  go_loopw [1, 5] (fun v i W => i = .int .i64 0 ∧ v = .int .i64 q ∧ Hid (Chg nob w W)) (fun _ _ _ => 0)
  case atStart => exact ⟨rfl, rfl, hik (Chg.refl _ _)⟩
  case round =>
    obtain ⟨rfl, rfl, HC⟩ := hrel
    go_wp2
    go_ret
    exact ⟨rfl, HC.out⟩
theorem markExtS_p (B : Nat) (c : Option Addr) (n cap : Nat) (f g : Nat → Int) (q : Int) (w : World) (ho : Hid (OwnE w B c n f g)) (hn : n ≤ 1099511627776) (q0 : 0 ≤ q) (q1 : q ≤ 1099511627776) :
    Calls Tryz.prog 42 #[.slice c n cap, .int .i64 q] w fun e w' => e = .returned (.int .i64 (q + 2 * n)) ∧ OwnE w' B c n (mka q) (mkd q) ∧ Chg (fun b => B ≤ b ∧ 0 < n ∧ c = some ⟨b, 0, none⟩) w w' := by
  by_cases h0 : n = 0
  · subst h0
    refine (markNone8 c cap q w).mono ?_
    rintro e w' ⟨rfl, k⟩
    exact ⟨by simp, .inl rfl, k.wide⟩
  · refine (markExtS_own B c n cap f g q w ho hn q0 q1).mono ?_
    rintro e w' ⟨rfl, o, k⟩
    exact ⟨rfl, o, k.mono (fun i _ m => ⟨m.1, by omega, m.2.1⟩)⟩

set_option maxHeartbeats 1000000 in
theorem markSource_p (B : Nat) (c : Option Addr) (n cap : Nat) (f g : Nat → Int) (at' : Int) (st : ByteArray) (ct : Int) (q : Int) (w : World) (ho : Hid (OwnE w B c n f g)) (hn : n ≤ 1099511627776) (q0 : 0 ≤ q) (q1 : q ≤ 1099511627776) :
    Calls Tryz.prog 18 #[.agg #[.slice c n cap, .int .i64 at', .string st, .int .i64 ct], .int .i64 q] w fun e w' => e = .returned (.int .i64 (q + 2 * n)) ∧ OwnE w' B c n (mka q) (mkd q) ∧ Chg (fun b => B ≤ b ∧ 0 < n ∧ c = some ⟨b, 0, none⟩) w w' := by
  go_enter Tryz.func18, Tryz.ntmps18
  go_wp2_with (go_at_call 42; refine (markExtS_p B c n cap f g q _ (hik (ho.out.keep ((Chg.refl nob w).alloc _))) hn q0 q1).mono ?_; rintro e W1 ⟨rfl, o1, k1⟩; have K1 := hik (((Chg.refl (fun b => B ≤ b ∧ 0 < n ∧ c = some ⟨b, 0, none⟩) w).alloc _).trans k1); have O1 := hik o1; clear k1 o1)
  go_ret
  exact ⟨rfl, O1.out, K1.out⟩

set_option maxHeartbeats 16000000 in
theorem walkStart (s0 : Sy) (y0 : SyA) (a1 b1 d1 : Int) (c2 : Option Addr) (len2 cap2 : Nat) (f2 : Nat → Int) (c3 : Option Addr) (len3 cap3 : Nat) (f3 g3 : Nat → Int) (at3 : Int) (st3 : ByteArray) (ct3 : Int) (ws3 : st3.size ≤ maxLen) (w : World) (w0 : SyV w s0 y0) (bg0 : s0.nA ≤ 9223372036854775807 ∧ s0.nB ≤ 9223372036854775807 ∧ s0.nC ≤ 9223372036854775807) (w2 : RowV w c2 len2 (iv f2)) (bg2 : len2 ≤ 9223372036854775807) (w3 : PairV w c3 len3 f3 g3) (bg3 : (len3 : Int) ≤ 9223372036854775807) (ht : Hid (Tabs w)) :
    Calls Tryz.prog 3 #[.agg #[.int .i64 s0.r, .int .i64 s0.q, .int .i64 s0.p, .slice y0.cA s0.nA y0.pA, .slice y0.cB s0.nB y0.pB, .slice y0.cC s0.nC y0.pC], .agg #[.int .i64 a1, .int .i64 b1, .int .i64 d1], .slice c2 len2 cap2, .agg #[.slice c3 len3 cap3, .int .i64 at3, .string st3, .int .i64 ct3]] w fun e w' => e = .returned (.bool true) ∧ Below w.heap.size w w' := by
  have HV := hik w0
  have HF := hik w2
  have HP := hik w3
  clear w0 w2 w3
  obtain ⟨bb1, bb2, bb3⟩ := bg0
  have hws : (st3.size : Int) ≤ 9223372036854775807 := by unfold maxLen at ws3; omega
  clear ws3
  have G := hik ((((Chg.refl nob w).alloc (.cells #[.int .i64 s0.r, .int .i64 s0.q, .int .i64 s0.p, .slice y0.cA s0.nA y0.pA, .slice y0.cB s0.nB y0.pB, .slice y0.cC s0.nC y0.pC] 24)).alloc (.cells #[.int .i64 a1, .int .i64 b1, .int .i64 d1] 26)).alloc (.cells #[.slice c3 len3 cap3, .int .i64 at3, .string st3, .int .i64 ct3] 30))
  by_cases hm2 : 1048576 < len2
  · have hm2' : (1048576 : Int) < len2 := by omega
    go_enter Tryz.func3, Tryz.ntmps3
    go_wp2
    go_ret
    exact ⟨rfl, G.out.belowAll⟩
  have hm2' : ¬ (1048576 : Int) < len2 := by omega
  by_cases hm : 1048576 < s0.nA + s0.nB + s0.nC
  · go_enter Tryz.func3, Tryz.ntmps3
    go_wp2_with (go_at_call 5; refine (szSystem_no s0 y0 _ _ (by omega) (by omega) (by omega) (by omega) (by omega) (by omega)).mono ?_; rintro e W1 ⟨rfl, k1⟩; have K1 := hik (G.out.trans k1); clear k1)
    go_ret
    exact ⟨rfl, K1.out.belowAll⟩
  have hs : s0.small := ⟨by omega, by omega, by omega⟩
  have hp : ¬ (1048576 : Int) - (s0.nA : Int) - (s0.nB : Int) - (s0.nC : Int) < 0 := by omega
  have A := hik (rowIs_keep (rowN_new w 6 #[.int .i64 s0.r, .int .i64 s0.q, .int .i64 s0.p, .slice y0.cA s0.nA y0.pA, .slice y0.cB s0.nB y0.pB, .slice y0.cC s0.nC y0.pC] 24 rfl) (((Chg.refl nob _).alloc (.cells #[.int .i64 a1, .int .i64 b1, .int .i64 d1] 26)).alloc (.cells #[.slice c3 len3 cap3, .int .i64 at3, .string st3, .int .i64 ct3] 30)))
  have CB := hik (rowIs_keep (rowN_new (w.alloc (.cells #[.int .i64 s0.r, .int .i64 s0.q, .int .i64 s0.p, .slice y0.cA s0.nA y0.pA, .slice y0.cB s0.nB y0.pB, .slice y0.cC s0.nC y0.pC] 24)) 3 #[.int .i64 a1, .int .i64 b1, .int .i64 d1] 26 rfl) ((Chg.refl nob _).alloc (.cells #[.slice c3 len3 cap3, .int .i64 at3, .string st3, .int .i64 ct3] 30)))
  have DB := hik (rowN_new ((w.alloc (.cells #[.int .i64 s0.r, .int .i64 s0.q, .int .i64 s0.p, .slice y0.cA s0.nA y0.pA, .slice y0.cB s0.nB y0.pB, .slice y0.cC s0.nC y0.pC] 24)).alloc (.cells #[.int .i64 a1, .int .i64 b1, .int .i64 d1] 26)) 4 #[.slice c3 len3 cap3, .int .i64 at3, .string st3, .int .i64 ct3] 30 rfl)
  rw [asz] at CB
  rw [asz, asz] at DB
  have s1 := hik (show w.heap.size + 1 + 1 + 1 ≤ (((w.alloc (.cells #[.int .i64 s0.r, .int .i64 s0.q, .int .i64 s0.p, .slice y0.cA s0.nA y0.pA, .slice y0.cB s0.nB y0.pB, .slice y0.cC s0.nC y0.pC] 24)).alloc (.cells #[.int .i64 a1, .int .i64 b1, .int .i64 d1] 26)).alloc (.cells #[.slice c3 len3 cap3, .int .i64 at3, .string st3, .int .i64 ct3] 30)).heap.size by simp)
  by_cases hm3 : (1048576 - (s0.nA : Int) - (s0.nB : Int) - (s0.nC : Int)) < (len3 : Int) + (st3.size : Int)
  · go_enter Tryz.func3, Tryz.ntmps3
    go_wp2_with fail
    generalize hW : ((w.alloc (.cells #[.int .i64 s0.r, .int .i64 s0.q, .int .i64 s0.p, .slice y0.cA s0.nA y0.pA, .slice y0.cB s0.nB y0.pB, .slice y0.cC s0.nC y0.pC] 24)).alloc (.cells #[.int .i64 a1, .int .i64 b1, .int .i64 d1] 26)).alloc (.cells #[.slice c3 len3 cap3, .int .i64 at3, .string st3, .int .i64 ct3] 30) = W1 at G A CB DB s1 ⊢
    clear hW
    refine (szSystem_ok s0 y0 _ _ (by omega) (by omega)).mono ?_
    rintro e W2 ⟨rfl, kk⟩
    replace G := hik (G.out.trans kk)
    replace DB := hik (rowIs_keep DB.out kk)
    clear kk
    have x0 : W2.cell? ⟨w.heap.size + 1 + 1, 0, none⟩ = some (.slice c3 len3 cap3) := DB.out.cell (i := 0) (by omega)
    have x1 : W2.cell? ⟨w.heap.size + 1 + 1, 1, none⟩ = some (.int .i64 at3) := DB.out.cell (i := 1) (by omega)
    have x2 : W2.cell? ⟨w.heap.size + 1 + 1, 2, none⟩ = some (.string st3) := DB.out.cell (i := 2) (by omega)
    have x3 : W2.cell? ⟨w.heap.size + 1 + 1, 3, none⟩ = some (.int .i64 ct3) := DB.out.cell (i := 3) (by omega)
    go_wp2_with fail
    refine (szSource_no _ _ _ _ _ _ _ _ hm3 (by omega) (by omega) bg3 hws).mono ?_
    rintro e W3 ⟨rfl, kk⟩
    replace G := hik (G.out.trans kk)
    clear kk
    go_wp2
    go_ret
    exact ⟨rfl, G.out.belowAll⟩
  have hn3 : len3 ≤ 1048576 := by omega
  have HSC := hik (fun (a : SyA) (c d : Option Addr) (p p' : Nat) (w' : World) (h : Hid (SyV w' s0 a)) (h' : Hid (RowV w' c len2 (iv f2))) (h2 : Hid (PairV w' d len3 f3 g3)) => (sStart_any s0 a a1 b1 d1 c len2 p f2 d len3 p' at3 st3 ct3 f3 g3 w' h hs h' (by omega) h2 (by omega) hws).mono (fun e w'' q => StAns.sc q))
  have HI := hik (fun (a : SyA) (c d : Option Addr) (p p' : Nat) (w' : World) (h : Hid (SyV w' s0 a)) (h' : Hid (RowV w' c len2 (iv f2))) (h2 : Hid (PairV w' d len3 f3 g3)) (h3 : Hid (Tabs w')) => (start_any s0 a a1 b1 d1 c len2 p f2 d len3 p' at3 st3 ct3 f3 g3 w' h hs h' (by omega) h2 (by omega) hws h3).mono (fun e w'' q => StAns.sc q))
  generalize stc s0 a1 b1 d1 len2 f2 (sokb f3 g3 len3 at3 st3 ct3) at3 ct3 = q at HSC HI
  have hnS : (if q = 0 then len3 else 0) ≤ len3 := by split <;> omega
  generalize (if q = 0 then len3 else 0) = nS at HSC HI hnS
  generalize (if q = 0 then at3 else 0) = aa at HSC HI
  generalize (if q = 0 then abS st3 (stX s0 a1 b1 d1 len2 f2) else ⟨#[]⟩) = ss at HSC HI
  go_enter Tryz.func3, Tryz.ntmps3
  go_wp2_with fail
  generalize hW : ((w.alloc (.cells #[.int .i64 s0.r, .int .i64 s0.q, .int .i64 s0.p, .slice y0.cA s0.nA y0.pA, .slice y0.cB s0.nB y0.pB, .slice y0.cC s0.nC y0.pC] 24)).alloc (.cells #[.int .i64 a1, .int .i64 b1, .int .i64 d1] 26)).alloc (.cells #[.slice c3 len3 cap3, .int .i64 at3, .string st3, .int .i64 ct3] 30) = W1 at G A CB DB s1 ⊢
  clear hW
  refine (szSystem_ok s0 y0 _ _ (by omega) (by omega)).mono ?_
  rintro e W2 ⟨rfl, kk⟩
  have s2 := hik kk.size
  replace G := hik (G.out.trans kk)
  replace A := hik (rowIs_keep A.out kk)
  replace CB := hik (rowIs_keep CB.out kk)
  replace DB := hik (rowIs_keep DB.out kk)
  clear kk
  have xDB0 : W2.cell? ⟨w.heap.size + 1 + 1, 0, none⟩ = some (.slice c3 len3 cap3) := DB.out.cell (i := 0) (by omega)
  have xDB1 : W2.cell? ⟨w.heap.size + 1 + 1, 1, none⟩ = some (.int .i64 at3) := DB.out.cell (i := 1) (by omega)
  have xDB2 : W2.cell? ⟨w.heap.size + 1 + 1, 2, none⟩ = some (.string st3) := DB.out.cell (i := 2) (by omega)
  have xDB3 : W2.cell? ⟨w.heap.size + 1 + 1, 3, none⟩ = some (.int .i64 ct3) := DB.out.cell (i := 3) (by omega)
  have zDB := DB.out.lt
  go_wp2_with fail
  refine (szSource_ok _ _ _ _ _ _ _ _ (by omega) (by omega)).mono ?_
  rintro e W3 ⟨rfl, kk⟩
  clear xDB0 xDB1 xDB2 xDB3 zDB
  have s3 := hik kk.size
  replace G := hik (G.out.trans kk)
  replace A := hik (rowIs_keep A.out kk)
  replace CB := hik (rowIs_keep CB.out kk)
  replace DB := hik (rowIs_keep DB.out kk)
  clear kk
  have hp3 : ¬ (1048576 - (s0.nA : Int) - (s0.nB : Int) - (s0.nC : Int)) - (len3 : Int) - (st3.size : Int) < 0 := by omega
  go_upto_region 10 with fail
  go_cut [10, 11] (fun pp qq W => ∃ (cS : Option Addr) (capS gZ lo hi : Nat), pp = .pointer (some ⟨gZ, 0, none⟩) ∧ qq = .int .i64 q ∧ Hid (OwnE W lo cS nS f3 g3) ∧ Hid (W.rowIs gZ 35 4 (pv4 (.slice cS nS capS) (.int .i64 aa) (.string ss) (.int .i64 0))) ∧ Hid (Chg nob W3 W) ∧ Hid (W3.heap.size ≤ gZ ∧ W3.heap.size ≤ lo ∧ ¬ (lo ≤ gZ ∧ gZ < hi) ∧ lo ≤ hi ∧ hi ≤ W.heap.size) ∧ Hid (∀ b, cS = some ⟨b, 0, none⟩ → nS = 0 ∨ b < hi))
  case first =>
    focus
      have xCB0 : W3.cell? ⟨w.heap.size + 1, 0, none⟩ = some (.int .i64 a1) := CB.out.cell (i := 0) (by omega)
      have xCB1 : W3.cell? ⟨w.heap.size + 1, 1, none⟩ = some (.int .i64 b1) := CB.out.cell (i := 1) (by omega)
      have xCB2 : W3.cell? ⟨w.heap.size + 1, 2, none⟩ = some (.int .i64 d1) := CB.out.cell (i := 2) (by omega)
      have zCB := CB.out.lt
      have xA0 : W3.cell? ⟨w.heap.size, 0, none⟩ = some (.int .i64 s0.r) := A.out.cell (i := 0) (by omega)
      have xA1 : W3.cell? ⟨w.heap.size, 1, none⟩ = some (.int .i64 s0.q) := A.out.cell (i := 1) (by omega)
      have xA2 : W3.cell? ⟨w.heap.size, 2, none⟩ = some (.int .i64 s0.p) := A.out.cell (i := 2) (by omega)
      have xA3 : W3.cell? ⟨w.heap.size, 3, none⟩ = some (.slice y0.cA s0.nA y0.pA) := A.out.cell (i := 3) (by omega)
      have xA4 : W3.cell? ⟨w.heap.size, 4, none⟩ = some (.slice y0.cB s0.nB y0.pB) := A.out.cell (i := 4) (by omega)
      have xA5 : W3.cell? ⟨w.heap.size, 5, none⟩ = some (.slice y0.cC s0.nC y0.pC) := A.out.cell (i := 5) (by omega)
      have zA := A.out.lt
      have xDB0 : W3.cell? ⟨w.heap.size + 1 + 1, 0, none⟩ = some (.slice c3 len3 cap3) := DB.out.cell (i := 0) (by omega)
      have xDB1 : W3.cell? ⟨w.heap.size + 1 + 1, 1, none⟩ = some (.int .i64 at3) := DB.out.cell (i := 1) (by omega)
      have xDB2 : W3.cell? ⟨w.heap.size + 1 + 1, 2, none⟩ = some (.string st3) := DB.out.cell (i := 2) (by omega)
      have xDB3 : W3.cell? ⟨w.heap.size + 1 + 1, 3, none⟩ = some (.int .i64 ct3) := DB.out.cell (i := 3) (by omega)
      have zDB := DB.out.lt
      have SA := hik (fun (WW : World) (kW : Chg nob W3 WW) => (show (WW.cell? ⟨w.heap.size + 1, 0, none⟩ = some (.int .i64 a1) ∧ WW.cell? ⟨w.heap.size + 1, 1, none⟩ = some (.int .i64 b1) ∧ WW.cell? ⟨w.heap.size + 1, 2, none⟩ = some (.int .i64 d1) ∧ WW.cell? ⟨w.heap.size, 0, none⟩ = some (.int .i64 s0.r) ∧ WW.cell? ⟨w.heap.size, 1, none⟩ = some (.int .i64 s0.q) ∧ WW.cell? ⟨w.heap.size, 2, none⟩ = some (.int .i64 s0.p) ∧ WW.cell? ⟨w.heap.size, 3, none⟩ = some (.slice y0.cA s0.nA y0.pA) ∧ WW.cell? ⟨w.heap.size, 4, none⟩ = some (.slice y0.cB s0.nB y0.pB) ∧ WW.cell? ⟨w.heap.size, 5, none⟩ = some (.slice y0.cC s0.nC y0.pC) ∧ WW.cell? ⟨w.heap.size + 1 + 1, 0, none⟩ = some (.slice c3 len3 cap3) ∧ WW.cell? ⟨w.heap.size + 1 + 1, 1, none⟩ = some (.int .i64 at3) ∧ WW.cell? ⟨w.heap.size + 1 + 1, 2, none⟩ = some (.string st3) ∧ WW.cell? ⟨w.heap.size + 1 + 1, 3, none⟩ = some (.int .i64 ct3)) from ⟨kW.see xCB0, kW.see xCB1, kW.see xCB2, kW.see xA0, kW.see xA1, kW.see xA2, kW.see xA3, kW.see xA4, kW.see xA5, kW.see xDB0, kW.see xDB1, kW.see xDB2, kW.see xDB3⟩))
      refine wp_regionC [⟨12, 10, .cells #[.slice none 0 0, .int .i64 0, .string ⟨#[]⟩, .int .i64 0] 35, fun b => .pointer (some ⟨b, 0, none⟩)⟩] 14 (by kernel_rfl) (by rfl) (by rfl) (by kernel_rfl) ?_
      refine wpC_take (i := 0) (v := ?_) rfl (by kernel_rfl) (by kernel_rfl) (by rfl) (fun _ _ _ h => h) (fun u => Or.inl ⟨by rfl, ?_⟩) ?_
      rotate_left 1
      · (intro w' hSw; have hSw := SA.out _ hSw; (try dsimp only at hSw); try simp only [putF, Act.put, List.setIfInBounds_toArray, List.set_cons_zero, List.set_cons_succ, List.getElem_toArray, List.getElem_cons_zero, List.getElem_cons_succ]; go_simp; try with_reducible rfl)
      try simp only [Act.put, List.setIfInBounds_toArray, List.set_cons_zero, List.set_cons_succ, List.getElem_toArray, List.getElem_cons_zero, List.getElem_cons_succ]
      refine wpC_take (i := 2) (v := ?_) rfl (by kernel_rfl) (by kernel_rfl) (by rfl) (fun _ _ _ h => h) (fun u => Or.inl ⟨by rfl, ?_⟩) ?_
      rotate_left 1
      · (intro w' hSw; have hSw := SA.out _ hSw; (try dsimp only at hSw); try simp only [putF, Act.put, List.setIfInBounds_toArray, List.set_cons_zero, List.set_cons_succ, List.getElem_toArray, List.getElem_cons_zero, List.getElem_cons_succ]; go_simp; try with_reducible rfl)
      try simp only [Act.put, List.setIfInBounds_toArray, List.set_cons_zero, List.set_cons_succ, List.getElem_toArray, List.getElem_cons_zero, List.getElem_cons_succ]
      refine wpC_take (i := 4) (v := ?_) rfl (by kernel_rfl) (by kernel_rfl) (by rfl) (fun _ _ _ h => h) (fun u => Or.inl ⟨by rfl, ?_⟩) ?_
      rotate_left 1
      · (intro w' hSw; have hSw := SA.out _ hSw; (try dsimp only at hSw); try simp only [putF, Act.put, List.setIfInBounds_toArray, List.set_cons_zero, List.set_cons_succ, List.getElem_toArray, List.getElem_cons_zero, List.getElem_cons_succ]; go_simp; try with_reducible rfl)
      try simp only [Act.put, List.setIfInBounds_toArray, List.set_cons_zero, List.set_cons_succ, List.getElem_toArray, List.getElem_cons_zero, List.getElem_cons_succ]
      refine wpC_take (i := 6) (v := ?_) rfl (by kernel_rfl) (by kernel_rfl) (by rfl) (fun _ _ _ h => h) (fun u => Or.inl ⟨by rfl, ?_⟩) ?_
      rotate_left 1
      · (intro w' hSw; have hSw := SA.out _ hSw; (try dsimp only at hSw); try simp only [putF, Act.put, List.setIfInBounds_toArray, List.set_cons_zero, List.set_cons_succ, List.getElem_toArray, List.getElem_cons_zero, List.getElem_cons_succ]; go_simp; try with_reducible rfl)
      try simp only [Act.put, List.setIfInBounds_toArray, List.set_cons_zero, List.set_cons_succ, List.getElem_toArray, List.getElem_cons_zero, List.getElem_cons_succ]
      refine wpC_step (i := 1) rfl (by kernel_rfl) (by rfl) (List.forall_mem_cons.2 ⟨FloOK.alloc rfl 35 rfl rfl rfl (fun w => by go_simp), (fun _ h => absurd h List.not_mem_nil)⟩) (by rfl) ?_
      intro bb gg uu U1' hrd hB k0 kW K' hK
      clear hrd hB
      have KW := hik k0
      clear kW k0
      refine stepL_callN 8 #[.tmp 36] #[24] (by rfl) (by rfl) #[.agg #[.int .i64 s0.r, .int .i64 s0.q, .int .i64 s0.p, .slice y0.cA s0.nA y0.pA, .slice y0.cB s0.nB y0.pB, .slice y0.cC s0.nC y0.pC]] (by (try simp only [putF, Act.put, List.setIfInBounds_toArray, List.set_cons_zero, List.set_cons_succ, List.getElem_toArray, List.getElem_cons_zero, List.getElem_cons_succ]); simp only [List.map_toArray, List.map_cons, List.map_nil] <;> rfl) (run_go Tryz.func8 (by kernel_rfl) (by kernel_rfl) _ _) (toSystem_any s0 y0 _ (hik (HV.out.keep (G.out.trans KW.out))) hs) ?_
      rintro e U1 ⟨bAu9, bBu9, bCu9, he, l1, l2, l3, rA, rB, rC, kk⟩
      have SX := hik (SyV.rows (pA := s0.nA) (pB := s0.nB) (pC := s0.nC) rA rB rC)
      clear l1 l2 l3 rA rB rC
      refine ⟨_, he, hK _ _ kk ?_⟩
      have hsU1 := hik kk.size
      clear he kk hK K' KW bb gg uu
      try simp only [Act.put, List.setIfInBounds_toArray, List.set_cons_zero, List.set_cons_succ, List.getElem_toArray, List.getElem_cons_zero, List.getElem_cons_succ]
      refine wpC_step (i := 3) rfl (by kernel_rfl) (by rfl) (List.forall_mem_cons.2 ⟨FloOK.alloc rfl 35 rfl rfl rfl (fun w => by go_simp), (fun _ h => absurd h List.not_mem_nil)⟩) (by rfl) ?_
      intro bb gg uu U2' hrd hB k0 kW K' hK
      clear hrd hB
      have KW := hik k0
      replace SX := hik (SX.out.keep kW)
      clear kW k0
      refine stepL_callN 9 #[.tmp 38] #[26] (by rfl) (by rfl) #[.agg #[.int .i64 a1, .int .i64 b1, .int .i64 d1]] (by (try simp only [putF, Act.put, List.setIfInBounds_toArray, List.set_cons_zero, List.set_cons_succ, List.getElem_toArray, List.getElem_cons_zero, List.getElem_cons_succ]); simp only [List.map_toArray, List.map_cons, List.map_nil] <;> rfl) (run_go Tryz.func9 (by kernel_rfl) (by kernel_rfl) _ _) (toSetting_any a1 b1 d1 _) ?_
      rintro e U2 ⟨he, kk⟩
      replace SX := hik (SX.out.keep kk)
      refine ⟨_, he, hK _ _ kk ?_⟩
      have hsU2 := hik kk.size
      clear he kk hK K' KW bb gg uu
      try simp only [Act.put, List.setIfInBounds_toArray, List.set_cons_zero, List.set_cons_succ, List.getElem_toArray, List.getElem_cons_zero, List.getElem_cons_succ]
      refine wpC_step (i := 5) rfl (by kernel_rfl) (by rfl) (List.forall_mem_cons.2 ⟨FloOK.alloc rfl 35 rfl rfl rfl (fun w => by go_simp), (fun _ h => absurd h List.not_mem_nil)⟩) (by rfl) ?_
      intro bb gg uu U3' hrd hB k0 kW K' hK
      clear hrd hB
      have KW := hik k0
      replace SX := hik (SX.out.keep kW)
      clear kW k0
      refine stepL_callN 10 #[.tmp 40] #[27] (by rfl) (by rfl) #[.slice c2 len2 cap2] (by (try simp only [putF, Act.put, List.setIfInBounds_toArray, List.set_cons_zero, List.set_cons_succ, List.getElem_toArray, List.getElem_cons_zero, List.getElem_cons_succ]); simp only [List.map_toArray, List.map_cons, List.map_nil] <;> rfl) (run_go Tryz.func10 (by kernel_rfl) (by kernel_rfl) _ _) (toIntS_any c2 len2 cap2 f2 _ (hik (HF.out.keep (G.out.trans KW.out))) (by omega)) ?_
      rintro e U3 ⟨he, ri, kk⟩
      replace SX := hik (SX.out.keep kk)
      generalize hxb : (U3').heap.size = xb at he ri
      clear hxb
      have IY := hik (RowV.of_row ri (Nat.le_refl _))
      clear ri
      refine ⟨_, he, hK _ _ kk ?_⟩
      have hsU3 := hik kk.size
      clear he kk hK K' KW bb gg uu
      try simp only [Act.put, List.setIfInBounds_toArray, List.set_cons_zero, List.set_cons_succ, List.getElem_toArray, List.getElem_cons_zero, List.getElem_cons_succ]
      refine wpC_step (i := 7) rfl (by kernel_rfl) (by rfl) (List.forall_mem_cons.2 ⟨FloOK.alloc rfl 35 rfl rfl rfl (fun w => by go_simp), (fun _ h => absurd h List.not_mem_nil)⟩) (by rfl) ?_
      intro bb gg uu U4' hrd hB k0 kW K' hK
      clear hrd hB
      have KW := hik k0
      replace SX := hik (SX.out.keep kW)
      replace IY := hik (IY.out.keep kW)
      clear kW k0
      refine stepL_callN 11 #[.tmp 42] #[30] (by rfl) (by rfl) #[.agg #[.slice c3 len3 cap3, .int .i64 at3, .string st3, .int .i64 ct3]] (by (try simp only [putF, Act.put, List.setIfInBounds_toArray, List.set_cons_zero, List.set_cons_succ, List.getElem_toArray, List.getElem_cons_zero, List.getElem_cons_succ]); simp only [List.map_toArray, List.map_cons, List.map_nil] <;> rfl) (run_go Tryz.func11 (by kernel_rfl) (by kernel_rfl) _ _) (toSource_any c3 len3 cap3 f3 g3 at3 st3 ct3 _ (hik (HP.out.keep (G.out.trans KW.out))) (by omega)) ?_
      rintro e U4 ⟨by_, hby, he, hry, kk⟩
      replace SX := hik (SX.out.keep kk)
      replace IY := hik (IY.out.keep kk)
      have OY := hik (OwnE.of_row hry (Nat.le_refl by_))
      clear hry hby
      refine ⟨_, he, hK _ _ kk ?_⟩
      have hsU4 := hik kk.size
      clear he kk hK K' KW bb gg uu
      try simp only [Act.put, List.setIfInBounds_toArray, List.set_cons_zero, List.set_cons_succ, List.getElem_toArray, List.getElem_cons_zero, List.getElem_cons_succ]
      refine wpC_step (i := 8) rfl (by kernel_rfl) (by rfl) (List.forall_mem_cons.2 ⟨FloOK.alloc rfl 35 rfl rfl rfl (fun w => by go_simp), (fun _ h => absurd h List.not_mem_nil)⟩) (by rfl) ?_
      intro bb gg uu U5' hrd hB k0 kW K' hK
      clear hrd hB
      have KW := hik k0
      replace SX := hik (SX.out.keep kW)
      replace IY := hik (IY.out.keep kW)
      replace OY := hik (OY.out.keep kW)
      clear kW k0
      refine stepL_callN 7 #[.tmp 37, .tmp 39, .tmp 41, .tmp 43] #[40, 42, 27, 35] (by rfl) (by rfl) #[.agg #[.int .i64 s0.r, .int .i64 s0.q, .int .i64 s0.p, .slice (some ⟨bAu9, 0, none⟩) s0.nA s0.nA, .slice (some ⟨bBu9, 0, none⟩) s0.nB s0.nB, .slice (some ⟨bCu9, 0, none⟩) s0.nC s0.nC], .agg #[.int .i64 a1, .int .i64 b1, .int .i64 d1], .slice (some ⟨xb, 0, none⟩) len2 len2, .agg #[.slice (some ⟨by_, 0, none⟩) len3 len3, .int .i64 at3, .string st3, .int .i64 ct3]] (by (try simp only [putF, Act.put, List.setIfInBounds_toArray, List.set_cons_zero, List.set_cons_succ, List.getElem_toArray, List.getElem_cons_zero, List.getElem_cons_succ]); simp only [List.map_toArray, List.map_cons, List.map_nil] <;> rfl) (run_go Tryz.func7 (by kernel_rfl) (by kernel_rfl) _ _) (HSC.out ⟨some ⟨bAu9, 0, none⟩, some ⟨bBu9, 0, none⟩, some ⟨bCu9, 0, none⟩, s0.nA, s0.nB, s0.nC⟩ _ _ _ _ _ SX IY (hik OY.out.pairs)) ?_
      rintro e U5 ⟨cS, capS, he, rS, kk⟩
      replace SX := hik (SX.out.keep kk)
      replace IY := hik (IY.out.keep kk)
      replace OY := hik (OY.out.keep kk)
      have RS := hik rS
      have UPS := hik rS.upper9
      have HLO := hik (show W3.heap.size ≤ U5'.heap.size from KW.out.size)
      clear rS
      refine ⟨_, he, hK _ _ kk ?_⟩
      have hsU5 := hik kk.size
      clear he kk hK K' KW bb gg uu
      try simp only [Act.put, List.setIfInBounds_toArray, List.set_cons_zero, List.set_cons_succ, List.getElem_toArray, List.getElem_cons_zero, List.getElem_cons_succ]
      refine wpC_take (i := 9) (v := ?_) rfl (by kernel_rfl) (by kernel_rfl) (by rfl) (fun _ _ _ h => h) (fun u => Or.inl ⟨by rfl, ?_⟩) ?_
      rotate_left 1
      · (intro w' hSw; have hSw := SA.out _ hSw; (try dsimp only at hSw); try simp only [putF, Act.put, List.setIfInBounds_toArray, List.set_cons_zero, List.set_cons_succ, List.getElem_toArray, List.getElem_cons_zero, List.getElem_cons_succ]; go_simp; try with_reducible rfl)
      try simp only [Act.put, List.setIfInBounds_toArray, List.set_cons_zero, List.set_cons_succ, List.getElem_toArray, List.getElem_cons_zero, List.getElem_cons_succ]
      refine wpC_take (i := 10) (v := ?_) rfl (by kernel_rfl) (by kernel_rfl) (by rfl) (fun _ _ _ h => h) (fun u => Or.inl ⟨by rfl, ?_⟩) ?_
      rotate_left 1
      · (intro w' hSw; have hSw := SA.out _ hSw; (try dsimp only at hSw); try simp only [putF, Act.put, List.setIfInBounds_toArray, List.set_cons_zero, List.set_cons_succ, List.getElem_toArray, List.getElem_cons_zero, List.getElem_cons_succ]; go_simp; try with_reducible rfl)
      try simp only [Act.put, List.setIfInBounds_toArray, List.set_cons_zero, List.set_cons_succ, List.getElem_toArray, List.getElem_cons_zero, List.getElem_cons_succ]
      refine wpC_take (i := 11) (v := ?_) rfl (by kernel_rfl) (by kernel_rfl) (by rfl) (fun _ _ _ h => h) (fun u => Or.inl ⟨by rfl, ?_⟩) ?_
      rotate_left 1
      · (intro w' hSw; have hSw := SA.out _ hSw; (try dsimp only at hSw); try simp only [putF, Act.put, List.setIfInBounds_toArray, List.set_cons_zero, List.set_cons_succ, List.getElem_toArray, List.getElem_cons_zero, List.getElem_cons_succ]; go_simp; try with_reducible rfl)
      try simp only [Act.put, List.setIfInBounds_toArray, List.set_cons_zero, List.set_cons_succ, List.getElem_toArray, List.getElem_cons_zero, List.getElem_cons_succ]
      refine wpC_all (by kernel_rfl) (by rfl) (List.forall_mem_cons.2 ⟨FloOK.alloc rfl 35 rfl rfl rfl (fun w => by go_simp), (fun _ h => absurd h List.not_mem_nil)⟩) ?_
      intro gg uu Uz hB k0 kW
      have KW := hik k0
      have HTOP := hik kW.size
      replace SX := hik (SX.out.keep kW)
      replace IY := hik (IY.out.keep kW)
      replace OY := hik (OY.out.keep kW)
      replace RS := hik (RS.out.keep kW)
      obtain ⟨eu0, hg0, hl0, hc0, ha0, hd0⟩ := hB 0 _ rfl rfl
      have eu0 : uu 0 = .pointer (some ⟨gg 0, 0, none⟩) := eu0
      have BX0 := hik (rowN_at (n := 4) hc0 rfl)
      clear hd0 hc0 hl0
      clear hB kW
      generalize gg 0 = g0 at eu0 hg0 ha0 BX0
      refine wpAnyH_as (fuel' := 2) rfl (listed' := #[true, true, true, true, true, true, true, true, true, true, true, true, true, false, false]) (by kernel_rfl) ?_
      simp only [putF, eu0, Act.put, List.setIfInBounds_toArray, List.set_cons_zero, List.set_cons_succ, List.getElem_toArray, List.getElem_cons_zero, List.getElem_cons_succ]
      clear eu0
      have hHeld := k0
      clear k0
      refine wpAnyH_ready (rs := [13]) (by kernel_rfl) (by simp) ?_
      refine AllReadyH.cons rfl (fun K hK => ?_) AllReadyH.nil
      have yy0 : Uz.cell? ⟨g0, 0, none⟩ = some (.slice none 0 0) := BX0.out.cell (i := 0) (by omega)
      have fz0 := BX0.out.frozen 0
      have yy1 : Uz.cell? ⟨g0, 1, none⟩ = some (.int .i64 0) := BX0.out.cell (i := 1) (by omega)
      have fz1 := BX0.out.frozen 1
      have yy2 : Uz.cell? ⟨g0, 2, none⟩ = some (.string ⟨#[]⟩) := BX0.out.cell (i := 2) (by omega)
      have fz2 := BX0.out.frozen 2
      have yy3 : Uz.cell? ⟨g0, 3, none⟩ = some (.int .i64 0) := BX0.out.cell (i := 3) (by omega)
      have fz3 := BX0.out.frozen 3
      have l7 := BX0.out.lt
      have C7 := hik ((((((Chg.refl (fun b => b = g0) Uz).setCell (p := ⟨g0, 0, none⟩) (fun _ => rfl) (.slice cS nS capS)).setCell (p := ⟨g0, 1, none⟩) (fun _ => rfl) (.int .i64 aa)).setCell (p := ⟨g0, 2, none⟩) (fun _ => rfl) (.string ss)).setCell (p := ⟨g0, 3, none⟩) (fun _ => rfl) (.int .i64 0)))
      simp only [List.getElem_toArray, List.getElem_cons_zero, List.getElem_cons_succ]
      go_simp
      replace KW := hik (((((KW.out.setCell (p := ⟨g0, 0, none⟩) (fun l => absurd (show g0 < W3.heap.size from l) (by omega)) (.slice cS nS capS)).setCell (p := ⟨g0, 1, none⟩) (fun l => absurd (show g0 < W3.heap.size from l) (by omega)) (.int .i64 aa)).setCell (p := ⟨g0, 2, none⟩) (fun l => absurd (show g0 < W3.heap.size from l) (by omega)) (.string ss)).setCell (p := ⟨g0, 3, none⟩) (fun l => absurd (show g0 < W3.heap.size from l) (by omega)) (.int .i64 0)))
      refine hK.out _ _ KW.out (fun hHeld => ?_)
      clear hK K
      try simp only [Act.put, List.setIfInBounds_toArray, List.set_cons_zero, List.set_cons_succ, List.getElem_toArray, List.getElem_cons_zero, List.getElem_cons_succ]
      clear yy0 fz0 yy1 fz1 yy2 fz2 yy3 fz3 l7
      replace RS := hik (RS.out.farE C7.out (fun b hb ec => (UPS.out b ec).elim .inl (fun q => .inr (fun e => ha0 (.inr ⟨by rw [← show b = g0 from e]; exact hb, by rw [← show b = g0 from e]; exact q⟩)))))
      have RB0 : Hid (World.rowIs _ g0 35 4 (fun i => (#[.slice cS nS capS, .int .i64 aa, .string ss, .int .i64 0] : Array Value).getD i undef)) := hik (((((BX0.out.set 0 (.slice cS nS capS)).set 1 (.int .i64 aa)).set 2 (.string ss)).set 3 (.int .i64 0)).congr (fun i hi => by rcases (show i = 0 ∨ i = 1 ∨ i = 2 ∨ i = 3 by omega) with rfl | rfl | rfl | rfl <;> rfl))
      replace HTOP := hik (Nat.le_trans HTOP.out C7.out.size)
      clear C7 BX0
      generalize hUS : ((((Uz.setCell ⟨g0, 0, none⟩ (.slice cS nS capS)).setCell ⟨g0, 1, none⟩ (.int .i64 aa)).setCell ⟨g0, 2, none⟩ (.string ss)).setCell ⟨g0, 3, none⟩ (.int .i64 0)) = Us1 at RB0 KW hHeld RS HTOP ⊢
      clear hUS
      refine wpAnyH_take (i := 14) (v := ?_) rfl (by kernel_rfl) (by kernel_rfl) (by kernel_rfl) (fun _ _ _ h => h) (Or.inl ⟨by rfl, ?_⟩) (by assumption) ?_
      rotate_left 1
      · (intro w' hSw; (try dsimp only at hSw); go_simp; try with_reducible rfl)
      try simp only [Act.put, List.setIfInBounds_toArray, List.set_cons_zero, List.set_cons_succ, List.getElem_toArray, List.getElem_cons_zero, List.getElem_cons_succ]
      refine wpAnyH_done (by kernel_rfl) ?_ _
      have R1 := hik (show World.rowIs _ g0 35 4 (pv4 (.slice cS nS capS) (.int .i64 aa) (.string ss) (.int .i64 0)) from RB0.out.congr (fun i hi => by rcases (show i = 0 ∨ i = 1 ∨ i = 2 ∨ i = 3 by omega) with rfl | rfl | rfl | rfl <;> rfl))
      clear SA RB0
      go_wp2_with fail
      go_meet
      exact ⟨cS, capS, g0, U5'.heap.size, U5.heap.size, rfl, rfl, RS, R1, KW, hik ⟨hg0, HLO.out, fun x => ha0 (.inr x), hsU5.out, HTOP.out⟩, UPS⟩
  case rest =>
    as_aux_lemma =>
      obtain ⟨cS, capS, gw, lo1, hi1, rfl, rfl, SW0, RW, KW, BW, UW⟩ := hcut
      rename World => W4
      have s4 := hik KW.out.size
      replace G := hik (G.out.trans KW.out)
      replace A := hik (rowIs_keep A.out KW.out)
      replace CB := hik (rowIs_keep CB.out KW.out)
      replace DB := hik (rowIs_keep DB.out KW.out)
      have SW := hik SW0.out.pairs
      have GW := hik (Chg.refl nob W4)
      have lw := hik RW.out.lt
      clear KW SW0 UW
      have xA0 : W4.cell? ⟨w.heap.size, 0, none⟩ = some (.int .i64 s0.r) := A.out.cell (i := 0) (by omega)
      have xA1 : W4.cell? ⟨w.heap.size, 1, none⟩ = some (.int .i64 s0.q) := A.out.cell (i := 1) (by omega)
      have xA2 : W4.cell? ⟨w.heap.size, 2, none⟩ = some (.int .i64 s0.p) := A.out.cell (i := 2) (by omega)
      have xA3 : W4.cell? ⟨w.heap.size, 3, none⟩ = some (.slice y0.cA s0.nA y0.pA) := A.out.cell (i := 3) (by omega)
      have xA4 : W4.cell? ⟨w.heap.size, 4, none⟩ = some (.slice y0.cB s0.nB y0.pB) := A.out.cell (i := 4) (by omega)
      have xA5 : W4.cell? ⟨w.heap.size, 5, none⟩ = some (.slice y0.cC s0.nC y0.pC) := A.out.cell (i := 5) (by omega)
      have zA := A.out.lt
      go_wp2_with fail
      refine (toSystem_any s0 y0 _ (hik (HV.out.keep G.out)) hs).mono ?_
      rintro e W5 ⟨bA2, bB2, bC2, rfl, l1, l2, l3, rA, rB, rC, kk⟩
      clear xA0 xA1 xA2 xA3 xA4 xA5 zA
      have s5 := hik kk.size
      replace G := hik (G.out.trans kk)
      replace A := hik (rowIs_keep A.out kk)
      replace CB := hik (rowIs_keep CB.out kk)
      replace DB := hik (rowIs_keep DB.out kk)
      replace RW := hik (rowIs_keep RW.out kk)
      replace GW := hik (GW.out.trans kk)
      have EA := hik rA
      have EB := hik rB
      have EC := hik rC
      have hl1 := hik l1
      have hl2 := hik l2
      have hl3 := hik l3
      have hl4 := hik rC.lt
      clear l1 l2 l3 rA rB rC
      clear kk
      go_wp2_with fail
      have kk := (Chg.refl nob W5).alloc (.cells #[.int .i64 s0.r, .int .i64 s0.q, .int .i64 s0.p, .slice (some ⟨bA2, 0, none⟩) s0.nA s0.nA, .slice (some ⟨bB2, 0, none⟩) s0.nB s0.nB, .slice (some ⟨bC2, 0, none⟩) s0.nC s0.nC] 40)
      have CX := hik (rowN_new W5 6 #[.int .i64 s0.r, .int .i64 s0.q, .int .i64 s0.p, .slice (some ⟨bA2, 0, none⟩) s0.nA s0.nA, .slice (some ⟨bB2, 0, none⟩) s0.nB s0.nB, .slice (some ⟨bC2, 0, none⟩) s0.nC s0.nC] 40 rfl)
      have s6 := hik (show W5.heap.size + 1 = (W5.alloc (.cells #[.int .i64 s0.r, .int .i64 s0.q, .int .i64 s0.p, .slice (some ⟨bA2, 0, none⟩) s0.nA s0.nA, .slice (some ⟨bB2, 0, none⟩) s0.nB s0.nB, .slice (some ⟨bC2, 0, none⟩) s0.nC s0.nC] 40)).heap.size by simp)
      replace G := hik (G.out.trans kk)
      replace A := hik (rowIs_keep A.out kk)
      replace CB := hik (rowIs_keep CB.out kk)
      replace DB := hik (rowIs_keep DB.out kk)
      replace RW := hik (rowIs_keep RW.out kk)
      replace GW := hik (GW.out.trans kk)
      replace EA := hik (rowIs_keep EA.out kk)
      replace EB := hik (rowIs_keep EB.out kk)
      replace EC := hik (rowIs_keep EC.out kk)
      clear kk
      generalize hg_CX : W5.heap.size = gx at CX ⊢
      have Hgx := hik hg_CX
      clear hg_CX
      generalize hE : W5.alloc (.cells #[.int .i64 s0.r, .int .i64 s0.q, .int .i64 s0.p, .slice (some ⟨bA2, 0, none⟩) s0.nA s0.nA, .slice (some ⟨bB2, 0, none⟩) s0.nB s0.nB, .slice (some ⟨bC2, 0, none⟩) s0.nC s0.nC] 40) = W6 at G A CB DB RW GW EA EB EC CX s6 ⊢
      clear hE
      refine (toIntS_any c2 len2 cap2 f2 _ (hik (HF.out.keep G.out)) (by omega)).mono ?_
      rintro e W7 ⟨rfl, ri, kk⟩
      have s7 := hik kk.size
      replace G := hik (G.out.trans kk)
      replace A := hik (rowIs_keep A.out kk)
      replace CB := hik (rowIs_keep CB.out kk)
      replace DB := hik (rowIs_keep DB.out kk)
      replace RW := hik (rowIs_keep RW.out kk)
      replace GW := hik (GW.out.trans kk)
      replace EA := hik (rowIs_keep EA.out kk)
      replace EB := hik (rowIs_keep EB.out kk)
      replace EC := hik (rowIs_keep EC.out kk)
      replace CX := hik (rowIs_keep CX.out kk)
      have IX := hik ri
      have li := hik ri.lt
      clear ri
      clear kk
      generalize hgi : W6.heap.size = gi at IX li ⊢
      have HGI := hik hgi
      clear hgi
      have xDB0 : W7.cell? ⟨w.heap.size + 1 + 1, 0, none⟩ = some (.slice c3 len3 cap3) := DB.out.cell (i := 0) (by omega)
      have xDB1 : W7.cell? ⟨w.heap.size + 1 + 1, 1, none⟩ = some (.int .i64 at3) := DB.out.cell (i := 1) (by omega)
      have xDB2 : W7.cell? ⟨w.heap.size + 1 + 1, 2, none⟩ = some (.string st3) := DB.out.cell (i := 2) (by omega)
      have xDB3 : W7.cell? ⟨w.heap.size + 1 + 1, 3, none⟩ = some (.int .i64 ct3) := DB.out.cell (i := 3) (by omega)
      have zDB := DB.out.lt
      go_wp2_with fail
      refine (toSource_any c3 len3 cap3 f3 g3 at3 st3 ct3 _ (hik (HP.out.keep G.out)) (by omega)).mono ?_
      rintro e W8 ⟨bx, hbx, rfl, hr, kk⟩
      clear xDB0 xDB1 xDB2 xDB3 zDB
      have s8 := hik kk.size
      replace G := hik (G.out.trans kk)
      replace A := hik (rowIs_keep A.out kk)
      replace CB := hik (rowIs_keep CB.out kk)
      replace DB := hik (rowIs_keep DB.out kk)
      replace RW := hik (rowIs_keep RW.out kk)
      replace GW := hik (GW.out.trans kk)
      replace EA := hik (rowIs_keep EA.out kk)
      replace EB := hik (rowIs_keep EB.out kk)
      replace EC := hik (rowIs_keep EC.out kk)
      replace CX := hik (rowIs_keep CX.out kk)
      replace IX := hik (rowIs_keep IX.out kk)
      have Ox := hik (OwnE.of_row hr (Nat.le_refl bx))
      have lx := hik hr.lt
      have ux := hik hbx
      clear hr hbx
      clear kk
      go_upto_region 14 with fail
      have kk := (Chg.refl nob W8).alloc (.cells #[.slice (some ⟨bx, 0, none⟩) len3 len3, .int .i64 at3, .string st3, .int .i64 ct3] 35)
      have RX := hik (rowN_new W8 4 #[.slice (some ⟨bx, 0, none⟩) len3 len3, .int .i64 at3, .string st3, .int .i64 ct3] 35 rfl)
      have s9 := hik (show W8.heap.size + 1 = (W8.alloc (.cells #[.slice (some ⟨bx, 0, none⟩) len3 len3, .int .i64 at3, .string st3, .int .i64 ct3] 35)).heap.size by simp)
      replace G := hik (G.out.trans kk)
      replace A := hik (rowIs_keep A.out kk)
      replace CB := hik (rowIs_keep CB.out kk)
      replace DB := hik (rowIs_keep DB.out kk)
      replace RW := hik (rowIs_keep RW.out kk)
      replace GW := hik (GW.out.trans kk)
      replace EA := hik (rowIs_keep EA.out kk)
      replace EB := hik (rowIs_keep EB.out kk)
      replace EC := hik (rowIs_keep EC.out kk)
      replace CX := hik (rowIs_keep CX.out kk)
      replace IX := hik (rowIs_keep IX.out kk)
      replace Ox := hik (Ox.out.keep kk)
      clear kk
      generalize hg_RX : W8.heap.size = gr at RX ⊢
      have Hgr := hik hg_RX
      clear hg_RX
      generalize hE : W8.alloc (.cells #[.slice (some ⟨bx, 0, none⟩) len3 len3, .int .i64 at3, .string st3, .int .i64 ct3] 35) = W9 at G A CB DB RW GW EA EB EC CX IX Ox RX s9 ⊢
      clear hE
      go_upto_region 14 with fail
      go_cut [15, 16] (fun pp qq W => ∃ (cS : Option Addr) (capS gZ lo hi : Nat), pp = .pointer (some ⟨gZ, 0, none⟩) ∧ qq = .int .i64 q ∧ Hid (OwnE W lo cS nS f3 g3) ∧ Hid (W.rowIs gZ 35 4 (pv4 (.slice cS nS capS) (.int .i64 aa) (.string ss) (.int .i64 0))) ∧ Hid (Chg nob W9 W) ∧ Hid (W9.heap.size ≤ gZ ∧ W9.heap.size ≤ lo ∧ ¬ (lo ≤ gZ ∧ gZ < hi) ∧ lo ≤ hi ∧ hi ≤ W.heap.size) ∧ Hid (∀ b, cS = some ⟨b, 0, none⟩ → nS = 0 ∨ b < hi))
      case first =>
        focus
          have xCB0 : W9.cell? ⟨w.heap.size + 1, 0, none⟩ = some (.int .i64 a1) := CB.out.cell (i := 0) (by omega)
          have xCB1 : W9.cell? ⟨w.heap.size + 1, 1, none⟩ = some (.int .i64 b1) := CB.out.cell (i := 1) (by omega)
          have xCB2 : W9.cell? ⟨w.heap.size + 1, 2, none⟩ = some (.int .i64 d1) := CB.out.cell (i := 2) (by omega)
          have zCB := CB.out.lt
          have xCX0 : W9.cell? ⟨gx, 0, none⟩ = some (.int .i64 s0.r) := CX.out.cell (i := 0) (by omega)
          have xCX1 : W9.cell? ⟨gx, 1, none⟩ = some (.int .i64 s0.q) := CX.out.cell (i := 1) (by omega)
          have xCX2 : W9.cell? ⟨gx, 2, none⟩ = some (.int .i64 s0.p) := CX.out.cell (i := 2) (by omega)
          have xCX3 : W9.cell? ⟨gx, 3, none⟩ = some (.slice (some ⟨bA2, 0, none⟩) s0.nA s0.nA) := CX.out.cell (i := 3) (by omega)
          have xCX4 : W9.cell? ⟨gx, 4, none⟩ = some (.slice (some ⟨bB2, 0, none⟩) s0.nB s0.nB) := CX.out.cell (i := 4) (by omega)
          have xCX5 : W9.cell? ⟨gx, 5, none⟩ = some (.slice (some ⟨bC2, 0, none⟩) s0.nC s0.nC) := CX.out.cell (i := 5) (by omega)
          have zCX := CX.out.lt
          have xRX0 : W9.cell? ⟨gr, 0, none⟩ = some (.slice (some ⟨bx, 0, none⟩) len3 len3) := RX.out.cell (i := 0) (by omega)
          have xRX1 : W9.cell? ⟨gr, 1, none⟩ = some (.int .i64 at3) := RX.out.cell (i := 1) (by omega)
          have xRX2 : W9.cell? ⟨gr, 2, none⟩ = some (.string st3) := RX.out.cell (i := 2) (by omega)
          have xRX3 : W9.cell? ⟨gr, 3, none⟩ = some (.int .i64 ct3) := RX.out.cell (i := 3) (by omega)
          have zRX := RX.out.lt
          have SA := hik (fun (WW : World) (kW : Chg nob W9 WW) => (show (WW.cell? ⟨w.heap.size + 1, 0, none⟩ = some (.int .i64 a1) ∧ WW.cell? ⟨w.heap.size + 1, 1, none⟩ = some (.int .i64 b1) ∧ WW.cell? ⟨w.heap.size + 1, 2, none⟩ = some (.int .i64 d1) ∧ WW.cell? ⟨gx, 0, none⟩ = some (.int .i64 s0.r) ∧ WW.cell? ⟨gx, 1, none⟩ = some (.int .i64 s0.q) ∧ WW.cell? ⟨gx, 2, none⟩ = some (.int .i64 s0.p) ∧ WW.cell? ⟨gx, 3, none⟩ = some (.slice (some ⟨bA2, 0, none⟩) s0.nA s0.nA) ∧ WW.cell? ⟨gx, 4, none⟩ = some (.slice (some ⟨bB2, 0, none⟩) s0.nB s0.nB) ∧ WW.cell? ⟨gx, 5, none⟩ = some (.slice (some ⟨bC2, 0, none⟩) s0.nC s0.nC) ∧ WW.cell? ⟨gr, 0, none⟩ = some (.slice (some ⟨bx, 0, none⟩) len3 len3) ∧ WW.cell? ⟨gr, 1, none⟩ = some (.int .i64 at3) ∧ WW.cell? ⟨gr, 2, none⟩ = some (.string st3) ∧ WW.cell? ⟨gr, 3, none⟩ = some (.int .i64 ct3)) from ⟨kW.see xCB0, kW.see xCB1, kW.see xCB2, kW.see xCX0, kW.see xCX1, kW.see xCX2, kW.see xCX3, kW.see xCX4, kW.see xCX5, kW.see xRX0, kW.see xRX1, kW.see xRX2, kW.see xRX3⟩))
          refine wp_regionC [⟨9, 15, .cells #[.slice none 0 0, .int .i64 0, .string ⟨#[]⟩, .int .i64 0] 35, fun b => .pointer (some ⟨b, 0, none⟩)⟩] 11 (by kernel_rfl) (by rfl) (by rfl) (by kernel_rfl) ?_
          refine wpC_take (i := 0) (v := ?_) rfl (by kernel_rfl) (by kernel_rfl) (by rfl) (fun _ _ _ h => h) (fun u => Or.inl ⟨by rfl, ?_⟩) ?_
          rotate_left 1
          · (intro w' hSw; have hSw := SA.out _ hSw; (try dsimp only at hSw); try simp only [putF, Act.put, List.setIfInBounds_toArray, List.set_cons_zero, List.set_cons_succ, List.getElem_toArray, List.getElem_cons_zero, List.getElem_cons_succ]; go_simp; try with_reducible rfl)
          try simp only [Act.put, List.setIfInBounds_toArray, List.set_cons_zero, List.set_cons_succ, List.getElem_toArray, List.getElem_cons_zero, List.getElem_cons_succ]
          refine wpC_take (i := 1) (v := ?_) rfl (by kernel_rfl) (by kernel_rfl) (by rfl) (fun _ _ _ h => h) (fun u => Or.inl ⟨by rfl, ?_⟩) ?_
          rotate_left 1
          · (intro w' hSw; have hSw := SA.out _ hSw; (try dsimp only at hSw); try simp only [putF, Act.put, List.setIfInBounds_toArray, List.set_cons_zero, List.set_cons_succ, List.getElem_toArray, List.getElem_cons_zero, List.getElem_cons_succ]; go_simp; try with_reducible rfl)
          try simp only [Act.put, List.setIfInBounds_toArray, List.set_cons_zero, List.set_cons_succ, List.getElem_toArray, List.getElem_cons_zero, List.getElem_cons_succ]
          refine wpC_take (i := 3) (v := ?_) rfl (by kernel_rfl) (by kernel_rfl) (by rfl) (fun _ _ _ h => h) (fun u => Or.inl ⟨by rfl, ?_⟩) ?_
          rotate_left 1
          · (intro w' hSw; have hSw := SA.out _ hSw; (try dsimp only at hSw); try simp only [putF, Act.put, List.setIfInBounds_toArray, List.set_cons_zero, List.set_cons_succ, List.getElem_toArray, List.getElem_cons_zero, List.getElem_cons_succ]; go_simp; try with_reducible rfl)
          try simp only [Act.put, List.setIfInBounds_toArray, List.set_cons_zero, List.set_cons_succ, List.getElem_toArray, List.getElem_cons_zero, List.getElem_cons_succ]
          refine wpC_take (i := 4) (v := ?_) rfl (by kernel_rfl) (by kernel_rfl) (by rfl) (fun _ _ _ h => h) (fun u => Or.inl ⟨by rfl, ?_⟩) ?_
          rotate_left 1
          · (intro w' hSw; have hSw := SA.out _ hSw; (try dsimp only at hSw); try simp only [putF, Act.put, List.setIfInBounds_toArray, List.set_cons_zero, List.set_cons_succ, List.getElem_toArray, List.getElem_cons_zero, List.getElem_cons_succ]; go_simp; try with_reducible rfl)
          try simp only [Act.put, List.setIfInBounds_toArray, List.set_cons_zero, List.set_cons_succ, List.getElem_toArray, List.getElem_cons_zero, List.getElem_cons_succ]
          refine wpC_step (i := 2) rfl (by kernel_rfl) (by rfl) (List.forall_mem_cons.2 ⟨FloOK.alloc rfl 35 rfl rfl rfl (fun w => by go_simp), (fun _ h => absurd h List.not_mem_nil)⟩) (by rfl) ?_
          intro bb gg uu V1' hrd hB k0 kW K' hK
          clear hrd hB
          have KW := hik k0
          clear kW k0
          refine stepL_callN 9 #[.tmp 55] #[26] (by rfl) (by rfl) #[.agg #[.int .i64 a1, .int .i64 b1, .int .i64 d1]] (by (try simp only [putF, Act.put, List.setIfInBounds_toArray, List.set_cons_zero, List.set_cons_succ, List.getElem_toArray, List.getElem_cons_zero, List.getElem_cons_succ]); simp only [List.map_toArray, List.map_cons, List.map_nil] <;> rfl) (run_go Tryz.func9 (by kernel_rfl) (by kernel_rfl) _ _) (toSetting_any a1 b1 d1 _) ?_
          rintro e V1 ⟨he, kk⟩
          refine ⟨_, he, hK _ _ kk ?_⟩
          have hsV1 := hik kk.size
          clear he kk hK K' KW bb gg uu
          try simp only [Act.put, List.setIfInBounds_toArray, List.set_cons_zero, List.set_cons_succ, List.getElem_toArray, List.getElem_cons_zero, List.getElem_cons_succ]
          refine wpC_step (i := 5) rfl (by kernel_rfl) (by rfl) (List.forall_mem_cons.2 ⟨FloOK.alloc rfl 35 rfl rfl rfl (fun w => by go_simp), (fun _ h => absurd h List.not_mem_nil)⟩) (by rfl) ?_
          intro bb gg uu V2' hrd hB k0 kW K' hK
          clear hrd hB
          have KW := hik k0
          clear kW k0
          refine stepL_callN 12 #[.tmp 54, .tmp 56, .tmp 57, .tmp 58] #[40, 42, 27, 35] (by rfl) (by rfl) #[.agg #[.int .i64 s0.r, .int .i64 s0.q, .int .i64 s0.p, .slice (some ⟨bA2, 0, none⟩) s0.nA s0.nA, .slice (some ⟨bB2, 0, none⟩) s0.nB s0.nB, .slice (some ⟨bC2, 0, none⟩) s0.nC s0.nC], .agg #[.int .i64 a1, .int .i64 b1, .int .i64 d1], .slice (some ⟨gi, 0, none⟩) len2 len2, .agg #[.slice (some ⟨bx, 0, none⟩) len3 len3, .int .i64 at3, .string st3, .int .i64 ct3]] (by (try simp only [putF, Act.put, List.setIfInBounds_toArray, List.set_cons_zero, List.set_cons_succ, List.getElem_toArray, List.getElem_cons_zero, List.getElem_cons_succ]); simp only [List.map_toArray, List.map_cons, List.map_nil] <;> rfl) (run_go Tryz.func12 (by kernel_rfl) (by kernel_rfl) _ _) (HI.out ⟨some ⟨bA2, 0, none⟩, some ⟨bB2, 0, none⟩, some ⟨bC2, 0, none⟩, s0.nA, s0.nB, s0.nC⟩ _ _ _ _ _ (hik (SyV.keep (SyV.rows (pA := s0.nA) (pB := s0.nB) (pC := s0.nC) EA.out EB.out EC.out) KW.out)) (hik (RowV.keep (RowV.of_row IX.out (Nat.le_refl _)) KW.out)) (hik (PairV.keep Ox.out.pairs KW.out)) (hik (ht.out.keep (G.out.trans KW.out)))) ?_
          rintro e V2 ⟨cS, capS, he, rS, kk⟩
          have RS := hik rS
          have UPS := hik rS.upper9
          have HLO := hik (show W9.heap.size ≤ V2'.heap.size from KW.out.size)
          clear rS
          refine ⟨_, he, hK _ _ kk ?_⟩
          have hsV2 := hik kk.size
          clear he kk hK K' KW bb gg uu
          try simp only [Act.put, List.setIfInBounds_toArray, List.set_cons_zero, List.set_cons_succ, List.getElem_toArray, List.getElem_cons_zero, List.getElem_cons_succ]
          refine wpC_take (i := 6) (v := ?_) rfl (by kernel_rfl) (by kernel_rfl) (by rfl) (fun _ _ _ h => h) (fun u => Or.inl ⟨by rfl, ?_⟩) ?_
          rotate_left 1
          · (intro w' hSw; have hSw := SA.out _ hSw; (try dsimp only at hSw); try simp only [putF, Act.put, List.setIfInBounds_toArray, List.set_cons_zero, List.set_cons_succ, List.getElem_toArray, List.getElem_cons_zero, List.getElem_cons_succ]; go_simp; try with_reducible rfl)
          try simp only [Act.put, List.setIfInBounds_toArray, List.set_cons_zero, List.set_cons_succ, List.getElem_toArray, List.getElem_cons_zero, List.getElem_cons_succ]
          refine wpC_take (i := 7) (v := ?_) rfl (by kernel_rfl) (by kernel_rfl) (by rfl) (fun _ _ _ h => h) (fun u => Or.inl ⟨by rfl, ?_⟩) ?_
          rotate_left 1
          · (intro w' hSw; have hSw := SA.out _ hSw; (try dsimp only at hSw); try simp only [putF, Act.put, List.setIfInBounds_toArray, List.set_cons_zero, List.set_cons_succ, List.getElem_toArray, List.getElem_cons_zero, List.getElem_cons_succ]; go_simp; try with_reducible rfl)
          try simp only [Act.put, List.setIfInBounds_toArray, List.set_cons_zero, List.set_cons_succ, List.getElem_toArray, List.getElem_cons_zero, List.getElem_cons_succ]
          refine wpC_take (i := 8) (v := ?_) rfl (by kernel_rfl) (by kernel_rfl) (by rfl) (fun _ _ _ h => h) (fun u => Or.inl ⟨by rfl, ?_⟩) ?_
          rotate_left 1
          · (intro w' hSw; have hSw := SA.out _ hSw; (try dsimp only at hSw); try simp only [putF, Act.put, List.setIfInBounds_toArray, List.set_cons_zero, List.set_cons_succ, List.getElem_toArray, List.getElem_cons_zero, List.getElem_cons_succ]; go_simp; try with_reducible rfl)
          try simp only [Act.put, List.setIfInBounds_toArray, List.set_cons_zero, List.set_cons_succ, List.getElem_toArray, List.getElem_cons_zero, List.getElem_cons_succ]
          refine wpC_all (by kernel_rfl) (by rfl) (List.forall_mem_cons.2 ⟨FloOK.alloc rfl 35 rfl rfl rfl (fun w => by go_simp), (fun _ h => absurd h List.not_mem_nil)⟩) ?_
          intro gg uu Vz hB k0 kW
          have KW := hik k0
          have HTOP := hik kW.size
          replace RS := hik (RS.out.keep kW)
          obtain ⟨eu0, hg0, hl0, hc0, ha0, hd0⟩ := hB 0 _ rfl rfl
          have eu0 : uu 0 = .pointer (some ⟨gg 0, 0, none⟩) := eu0
          have BX0 := hik (rowN_at (n := 4) hc0 rfl)
          clear hd0 hc0 hl0
          clear hB kW
          generalize gg 0 = g0 at eu0 hg0 ha0 BX0
          refine wpAnyH_as (fuel' := 2) rfl (listed' := #[true, true, true, true, true, true, true, true, true, true, false, false]) (by kernel_rfl) ?_
          simp only [putF, eu0, Act.put, List.setIfInBounds_toArray, List.set_cons_zero, List.set_cons_succ, List.getElem_toArray, List.getElem_cons_zero, List.getElem_cons_succ]
          clear eu0
          have hHeld := k0
          clear k0
          refine wpAnyH_ready (rs := [10]) (by kernel_rfl) (by simp) ?_
          refine AllReadyH.cons rfl (fun K hK => ?_) AllReadyH.nil
          have yy0 : Vz.cell? ⟨g0, 0, none⟩ = some (.slice none 0 0) := BX0.out.cell (i := 0) (by omega)
          have fz0 := BX0.out.frozen 0
          have yy1 : Vz.cell? ⟨g0, 1, none⟩ = some (.int .i64 0) := BX0.out.cell (i := 1) (by omega)
          have fz1 := BX0.out.frozen 1
          have yy2 : Vz.cell? ⟨g0, 2, none⟩ = some (.string ⟨#[]⟩) := BX0.out.cell (i := 2) (by omega)
          have fz2 := BX0.out.frozen 2
          have yy3 : Vz.cell? ⟨g0, 3, none⟩ = some (.int .i64 0) := BX0.out.cell (i := 3) (by omega)
          have fz3 := BX0.out.frozen 3
          have l7 := BX0.out.lt
          have C7 := hik ((((((Chg.refl (fun b => b = g0) Vz).setCell (p := ⟨g0, 0, none⟩) (fun _ => rfl) (.slice cS nS capS)).setCell (p := ⟨g0, 1, none⟩) (fun _ => rfl) (.int .i64 aa)).setCell (p := ⟨g0, 2, none⟩) (fun _ => rfl) (.string ss)).setCell (p := ⟨g0, 3, none⟩) (fun _ => rfl) (.int .i64 0)))
          simp only [List.getElem_toArray, List.getElem_cons_zero, List.getElem_cons_succ]
          go_simp
          replace KW := hik (((((KW.out.setCell (p := ⟨g0, 0, none⟩) (fun l => absurd (show g0 < W9.heap.size from l) (by omega)) (.slice cS nS capS)).setCell (p := ⟨g0, 1, none⟩) (fun l => absurd (show g0 < W9.heap.size from l) (by omega)) (.int .i64 aa)).setCell (p := ⟨g0, 2, none⟩) (fun l => absurd (show g0 < W9.heap.size from l) (by omega)) (.string ss)).setCell (p := ⟨g0, 3, none⟩) (fun l => absurd (show g0 < W9.heap.size from l) (by omega)) (.int .i64 0)))
          refine hK.out _ _ KW.out (fun hHeld => ?_)
          clear hK K
          try simp only [Act.put, List.setIfInBounds_toArray, List.set_cons_zero, List.set_cons_succ, List.getElem_toArray, List.getElem_cons_zero, List.getElem_cons_succ]
          clear yy0 fz0 yy1 fz1 yy2 fz2 yy3 fz3 l7
          replace RS := hik (RS.out.farE C7.out (fun b hb ec => (UPS.out b ec).elim .inl (fun q => .inr (fun e => ha0 (.inr ⟨by rw [← show b = g0 from e]; exact hb, by rw [← show b = g0 from e]; exact q⟩)))))
          have RB0 : Hid (World.rowIs _ g0 35 4 (fun i => (#[.slice cS nS capS, .int .i64 aa, .string ss, .int .i64 0] : Array Value).getD i undef)) := hik (((((BX0.out.set 0 (.slice cS nS capS)).set 1 (.int .i64 aa)).set 2 (.string ss)).set 3 (.int .i64 0)).congr (fun i hi => by rcases (show i = 0 ∨ i = 1 ∨ i = 2 ∨ i = 3 by omega) with rfl | rfl | rfl | rfl <;> rfl))
          replace HTOP := hik (Nat.le_trans HTOP.out C7.out.size)
          clear C7 BX0
          generalize hUS : ((((Vz.setCell ⟨g0, 0, none⟩ (.slice cS nS capS)).setCell ⟨g0, 1, none⟩ (.int .i64 aa)).setCell ⟨g0, 2, none⟩ (.string ss)).setCell ⟨g0, 3, none⟩ (.int .i64 0)) = Vs1 at RB0 KW hHeld RS HTOP ⊢
          clear hUS
          refine wpAnyH_take (i := 11) (v := ?_) rfl (by kernel_rfl) (by kernel_rfl) (by kernel_rfl) (fun _ _ _ h => h) (Or.inl ⟨by rfl, ?_⟩) (by assumption) ?_
          rotate_left 1
          · (intro w' hSw; (try dsimp only at hSw); go_simp; try with_reducible rfl)
          try simp only [Act.put, List.setIfInBounds_toArray, List.set_cons_zero, List.set_cons_succ, List.getElem_toArray, List.getElem_cons_zero, List.getElem_cons_succ]
          refine wpAnyH_done (by kernel_rfl) ?_ _
          have R1 := hik (show World.rowIs _ g0 35 4 (pv4 (.slice cS nS capS) (.int .i64 aa) (.string ss) (.int .i64 0)) from RB0.out.congr (fun i hi => by rcases (show i = 0 ∨ i = 1 ∨ i = 2 ∨ i = 3 by omega) with rfl | rfl | rfl | rfl <;> rfl))
          clear SA RB0
          go_wp2_with fail
          go_meet
          exact ⟨cS, capS, g0, V2'.heap.size, V2.heap.size, rfl, rfl, RS, R1, KW, hik ⟨hg0, HLO.out, fun x => ha0 (.inr x), hsV2.out, HTOP.out⟩, UPS⟩
      case rest =>
        as_aux_lemma =>
          obtain ⟨gS, gsc, gZ, lo2, hi2, rfl, rfl, OS, RG, KW, BG, UG⟩ := hcut
          rename World => W10
          have s10 := hik KW.out.size
          replace G := hik (G.out.trans KW.out)
          replace A := hik (rowIs_keep A.out KW.out)
          replace CB := hik (rowIs_keep CB.out KW.out)
          replace DB := hik (rowIs_keep DB.out KW.out)
          replace RW := hik (rowIs_keep RW.out KW.out)
          replace GW := hik (GW.out.trans KW.out)
          replace EA := hik (rowIs_keep EA.out KW.out)
          replace EB := hik (rowIs_keep EB.out KW.out)
          replace EC := hik (rowIs_keep EC.out KW.out)
          replace CX := hik (rowIs_keep CX.out KW.out)
          replace IX := hik (rowIs_keep IX.out KW.out)
          replace Ox := hik (Ox.out.keep KW.out)
          replace RX := hik (rowIs_keep RX.out KW.out)
          have lz := hik RG.out.lt
          clear KW
          have xRG0 : W10.cell? ⟨gZ, 0, none⟩ = some (.slice gS nS gsc) := RG.out.cell (i := 0) (by omega)
          have xRG1 : W10.cell? ⟨gZ, 1, none⟩ = some (.int .i64 aa) := RG.out.cell (i := 1) (by omega)
          have xRG2 : W10.cell? ⟨gZ, 2, none⟩ = some (.string ss) := RG.out.cell (i := 2) (by omega)
          have xRG3 : W10.cell? ⟨gZ, 3, none⟩ = some (.int .i64 0) := RG.out.cell (i := 3) (by omega)
          have zRG := RG.out.lt
          have xRW0 : W10.cell? ⟨gw, 0, none⟩ = some (.slice cS nS capS) := RW.out.cell (i := 0) (by omega)
          have xRW1 : W10.cell? ⟨gw, 1, none⟩ = some (.int .i64 aa) := RW.out.cell (i := 1) (by omega)
          have xRW2 : W10.cell? ⟨gw, 2, none⟩ = some (.string ss) := RW.out.cell (i := 2) (by omega)
          have xRW3 : W10.cell? ⟨gw, 3, none⟩ = some (.int .i64 0) := RW.out.cell (i := 3) (by omega)
          have zRW := RW.out.lt
          go_wp2_with fail
          refine (eqSource_any gS cS nS nS gsc capS f3 g3 f3 g3 aa ss 0 _ (hik OS.out.pairs) (hik (SW.out.keep GW.out)) rfl (fun _ _ => ⟨rfl, rfl⟩) (by omega)).mono ?_
          rintro e W11 ⟨rfl, kk⟩
          clear xRG0 xRG1 xRG2 xRG3 zRG xRW0 xRW1 xRW2 xRW3 zRW
          have s11 := hik kk.size
          replace G := hik (G.out.trans kk)
          replace A := hik (rowIs_keep A.out kk)
          replace CB := hik (rowIs_keep CB.out kk)
          replace DB := hik (rowIs_keep DB.out kk)
          replace RW := hik (rowIs_keep RW.out kk)
          replace GW := hik (GW.out.trans kk)
          replace EA := hik (rowIs_keep EA.out kk)
          replace EB := hik (rowIs_keep EB.out kk)
          replace EC := hik (rowIs_keep EC.out kk)
          replace CX := hik (rowIs_keep CX.out kk)
          replace IX := hik (rowIs_keep IX.out kk)
          replace Ox := hik (Ox.out.keep kk)
          replace RX := hik (rowIs_keep RX.out kk)
          replace OS := hik (OS.out.keep kk)
          replace RG := hik (rowIs_keep RG.out kk)
          clear kk
          have xA0 : W11.cell? ⟨w.heap.size, 0, none⟩ = some (.int .i64 s0.r) := A.out.cell (i := 0) (by omega)
          have xA1 : W11.cell? ⟨w.heap.size, 1, none⟩ = some (.int .i64 s0.q) := A.out.cell (i := 1) (by omega)
          have xA2 : W11.cell? ⟨w.heap.size, 2, none⟩ = some (.int .i64 s0.p) := A.out.cell (i := 2) (by omega)
          have xA3 : W11.cell? ⟨w.heap.size, 3, none⟩ = some (.slice y0.cA s0.nA y0.pA) := A.out.cell (i := 3) (by omega)
          have xA4 : W11.cell? ⟨w.heap.size, 4, none⟩ = some (.slice y0.cB s0.nB y0.pB) := A.out.cell (i := 4) (by omega)
          have xA5 : W11.cell? ⟨w.heap.size, 5, none⟩ = some (.slice y0.cC s0.nC y0.pC) := A.out.cell (i := 5) (by omega)
          have zA := A.out.lt
          have xCX0 : W11.cell? ⟨gx, 0, none⟩ = some (.int .i64 s0.r) := CX.out.cell (i := 0) (by omega)
          have xCX1 : W11.cell? ⟨gx, 1, none⟩ = some (.int .i64 s0.q) := CX.out.cell (i := 1) (by omega)
          have xCX2 : W11.cell? ⟨gx, 2, none⟩ = some (.int .i64 s0.p) := CX.out.cell (i := 2) (by omega)
          have xCX3 : W11.cell? ⟨gx, 3, none⟩ = some (.slice (some ⟨bA2, 0, none⟩) s0.nA s0.nA) := CX.out.cell (i := 3) (by omega)
          have xCX4 : W11.cell? ⟨gx, 4, none⟩ = some (.slice (some ⟨bB2, 0, none⟩) s0.nB s0.nB) := CX.out.cell (i := 4) (by omega)
          have xCX5 : W11.cell? ⟨gx, 5, none⟩ = some (.slice (some ⟨bC2, 0, none⟩) s0.nC s0.nC) := CX.out.cell (i := 5) (by omega)
          have zCX := CX.out.lt
          go_wp2_with fail
          go_region_held3 (fun w' => (w'.cell? ⟨w.heap.size, 0, none⟩ = some (.int .i64 s0.r) ∧ w'.cell? ⟨w.heap.size, 1, none⟩ = some (.int .i64 s0.q) ∧ w'.cell? ⟨w.heap.size, 2, none⟩ = some (.int .i64 s0.p) ∧ w'.cell? ⟨w.heap.size, 3, none⟩ = some (.slice y0.cA s0.nA y0.pA) ∧ w'.cell? ⟨w.heap.size, 4, none⟩ = some (.slice y0.cB s0.nB y0.pB) ∧ w'.cell? ⟨w.heap.size, 5, none⟩ = some (.slice y0.cC s0.nC y0.pC)) ∧ w'.cell? ⟨gx, 0, none⟩ = some (.int .i64 s0.r) ∧ w'.cell? ⟨gx, 1, none⟩ = some (.int .i64 s0.q) ∧ w'.cell? ⟨gx, 2, none⟩ = some (.int .i64 s0.p) ∧ w'.cell? ⟨gx, 3, none⟩ = some (.slice (some ⟨bA2, 0, none⟩) s0.nA s0.nA) ∧ w'.cell? ⟨gx, 4, none⟩ = some (.slice (some ⟨bB2, 0, none⟩) s0.nB s0.nB) ∧ w'.cell? ⟨gx, 5, none⟩ = some (.slice (some ⟨bC2, 0, none⟩) s0.nC s0.nC)) (first | (exact ⟨⟨xA0, xA1, xA2, xA3, xA4, xA5⟩, xCX0, xCX1, xCX2, xCX3, xCX4, xCX5⟩) | (exact ⟨⟨k6.look xA0, k6.look xA1, k6.look xA2, k6.look xA3, k6.look xA4, k6.look xA5⟩, k6.look xCX0, k6.look xCX1, k6.look xCX2, k6.look xCX3, k6.look xCX4, k6.look xCX5⟩) | (exact ⟨⟨k7.look (k6.look xA0), k7.look (k6.look xA1), k7.look (k6.look xA2), k7.look (k6.look xA3), k7.look (k6.look xA4), k7.look (k6.look xA5)⟩, k7.look (k6.look xCX0), k7.look (k6.look xCX1), k7.look (k6.look xCX2), k7.look (k6.look xCX3), k7.look (k6.look xCX4), k7.look (k6.look xCX5)⟩)) (first | (go_at_call 8; refine (toSystem_any s0 y0 _ (hik (HV.out.keep G.out.drew1)) hs).mono ?_; rintro e W12 ⟨bA3, bB3, bC3, rfl, _, _, _, rA, rB, rC, k6⟩) | (go_at_call 14; refine (eqSystem_any s0 ⟨some ⟨bA2, 0, none⟩, some ⟨bB2, 0, none⟩, some ⟨bC2, 0, none⟩, s0.nA, s0.nB, s0.nC⟩ ⟨some ⟨bA3, 0, none⟩, some ⟨bB3, 0, none⟩, some ⟨bC3, 0, none⟩, s0.nA, s0.nB, s0.nC⟩ _ (hik (((SyV.rows (pA := s0.nA) (pB := s0.nB) (pC := s0.nC) EA.out EB.out EC.out).keep ((Chg.refl nob _).drew1)).keep k6)) (hik (SyV.rows rA rB rC)) hs).mono ?_; rintro e W13 ⟨rfl, k7⟩))
          clear xA0 xA1 xA2 xA3 xA4 xA5 zA xCX0 xCX1 xCX2 xCX3 xCX4 xCX5 zCX
          have kk := ((Chg.refl nob W11).drew1).trans (k6.trans k7)
          have s13 := hik kk.size
          replace G := hik (G.out.trans kk)
          replace A := hik (rowIs_keep A.out kk)
          replace CB := hik (rowIs_keep CB.out kk)
          replace DB := hik (rowIs_keep DB.out kk)
          replace RW := hik (rowIs_keep RW.out kk)
          replace GW := hik (GW.out.trans kk)
          replace EA := hik (rowIs_keep EA.out kk)
          replace EB := hik (rowIs_keep EB.out kk)
          replace EC := hik (rowIs_keep EC.out kk)
          replace CX := hik (rowIs_keep CX.out kk)
          replace IX := hik (rowIs_keep IX.out kk)
          replace Ox := hik (Ox.out.keep kk)
          replace RX := hik (rowIs_keep RX.out kk)
          replace OS := hik (OS.out.keep kk)
          replace RG := hik (rowIs_keep RG.out kk)
          clear k6 k7 kk rA rB rC
          go_wp2_with fail
          refine (toIntS_any c2 len2 cap2 f2 _ (hik (HF.out.keep G.out)) (by omega)).mono ?_
          rintro e W14 ⟨rfl, ri, kk⟩
          have s14 := hik kk.size
          replace G := hik (G.out.trans kk)
          replace A := hik (rowIs_keep A.out kk)
          replace CB := hik (rowIs_keep CB.out kk)
          replace DB := hik (rowIs_keep DB.out kk)
          replace RW := hik (rowIs_keep RW.out kk)
          replace GW := hik (GW.out.trans kk)
          replace EA := hik (rowIs_keep EA.out kk)
          replace EB := hik (rowIs_keep EB.out kk)
          replace EC := hik (rowIs_keep EC.out kk)
          replace CX := hik (rowIs_keep CX.out kk)
          replace IX := hik (rowIs_keep IX.out kk)
          replace Ox := hik (Ox.out.keep kk)
          replace RX := hik (rowIs_keep RX.out kk)
          replace OS := hik (OS.out.keep kk)
          replace RG := hik (rowIs_keep RG.out kk)
          have IB := hik ri
          clear ri
          clear kk
          go_wp2_with fail
          refine (eqIntS_any _ _ len2 len2 _ _ f2 f2 _ (hik (RowV.of_row IX.out (Nat.le_refl _))) (hik (RowV.of_row IB.out (Nat.le_refl _))) rfl (fun _ _ => rfl) (by omega)).mono ?_
          rintro e W15 ⟨rfl, kk⟩
          have s15 := hik kk.size
          replace G := hik (G.out.trans kk)
          replace A := hik (rowIs_keep A.out kk)
          replace CB := hik (rowIs_keep CB.out kk)
          replace DB := hik (rowIs_keep DB.out kk)
          replace RW := hik (rowIs_keep RW.out kk)
          replace GW := hik (GW.out.trans kk)
          replace EA := hik (rowIs_keep EA.out kk)
          replace EB := hik (rowIs_keep EB.out kk)
          replace EC := hik (rowIs_keep EC.out kk)
          replace CX := hik (rowIs_keep CX.out kk)
          replace IX := hik (rowIs_keep IX.out kk)
          replace Ox := hik (Ox.out.keep kk)
          replace RX := hik (rowIs_keep RX.out kk)
          replace OS := hik (OS.out.keep kk)
          replace RG := hik (rowIs_keep RG.out kk)
          clear IB
          clear kk
          have xDB0 : W15.cell? ⟨w.heap.size + 1 + 1, 0, none⟩ = some (.slice c3 len3 cap3) := DB.out.cell (i := 0) (by omega)
          have xDB1 : W15.cell? ⟨w.heap.size + 1 + 1, 1, none⟩ = some (.int .i64 at3) := DB.out.cell (i := 1) (by omega)
          have xDB2 : W15.cell? ⟨w.heap.size + 1 + 1, 2, none⟩ = some (.string st3) := DB.out.cell (i := 2) (by omega)
          have xDB3 : W15.cell? ⟨w.heap.size + 1 + 1, 3, none⟩ = some (.int .i64 ct3) := DB.out.cell (i := 3) (by omega)
          have zDB := DB.out.lt
          have xRX0 : W15.cell? ⟨gr, 0, none⟩ = some (.slice (some ⟨bx, 0, none⟩) len3 len3) := RX.out.cell (i := 0) (by omega)
          have xRX1 : W15.cell? ⟨gr, 1, none⟩ = some (.int .i64 at3) := RX.out.cell (i := 1) (by omega)
          have xRX2 : W15.cell? ⟨gr, 2, none⟩ = some (.string st3) := RX.out.cell (i := 2) (by omega)
          have xRX3 : W15.cell? ⟨gr, 3, none⟩ = some (.int .i64 ct3) := RX.out.cell (i := 3) (by omega)
          have zRX := RX.out.lt
          go_wp2_with fail
          go_region_held3 (fun w' => (w'.cell? ⟨w.heap.size + 1 + 1, 0, none⟩ = some (.slice c3 len3 cap3) ∧ w'.cell? ⟨w.heap.size + 1 + 1, 1, none⟩ = some (.int .i64 at3) ∧ w'.cell? ⟨w.heap.size + 1 + 1, 2, none⟩ = some (.string st3) ∧ w'.cell? ⟨w.heap.size + 1 + 1, 3, none⟩ = some (.int .i64 ct3)) ∧ w'.cell? ⟨gr, 0, none⟩ = some (.slice (some ⟨bx, 0, none⟩) len3 len3) ∧ w'.cell? ⟨gr, 1, none⟩ = some (.int .i64 at3) ∧ w'.cell? ⟨gr, 2, none⟩ = some (.string st3) ∧ w'.cell? ⟨gr, 3, none⟩ = some (.int .i64 ct3)) (first | (exact ⟨⟨xDB0, xDB1, xDB2, xDB3⟩, xRX0, xRX1, xRX2, xRX3⟩) | (exact ⟨⟨k6.look xDB0, k6.look xDB1, k6.look xDB2, k6.look xDB3⟩, k6.look xRX0, k6.look xRX1, k6.look xRX2, k6.look xRX3⟩) | (exact ⟨⟨k7.look (k6.look xDB0), k7.look (k6.look xDB1), k7.look (k6.look xDB2), k7.look (k6.look xDB3)⟩, k7.look (k6.look xRX0), k7.look (k6.look xRX1), k7.look (k6.look xRX2), k7.look (k6.look xRX3)⟩)) (first | (go_at_call 11; refine (toSource_any c3 len3 cap3 f3 g3 at3 st3 ct3 _ (hik (HP.out.keep G.out.drew1)) (by omega)).mono ?_; rintro e W16 ⟨by_, hby, rfl, hry, k6⟩) | (go_at_call 13; refine (eqSource_any (some ⟨bx, 0, none⟩) (some ⟨by_, 0, none⟩) len3 len3 len3 len3 f3 g3 f3 g3 at3 st3 ct3 _ (hik ((Ox.out.pairs.keep ((Chg.refl nob _).drew1)).keep k6)) (hik (PairV.of_row hry (Nat.le_refl _))) rfl (fun _ _ => ⟨rfl, rfl⟩) (by omega)).mono ?_; rintro e W17 ⟨rfl, k7⟩))
          clear xDB0 xDB1 xDB2 xDB3 zDB xRX0 xRX1 xRX2 xRX3 zRX
          have kk := ((Chg.refl nob W15).drew1).trans (k6.trans k7)
          have s17 := hik kk.size
          replace G := hik (G.out.trans kk)
          replace A := hik (rowIs_keep A.out kk)
          replace CB := hik (rowIs_keep CB.out kk)
          replace DB := hik (rowIs_keep DB.out kk)
          replace RW := hik (rowIs_keep RW.out kk)
          replace GW := hik (GW.out.trans kk)
          replace EA := hik (rowIs_keep EA.out kk)
          replace EB := hik (rowIs_keep EB.out kk)
          replace EC := hik (rowIs_keep EC.out kk)
          replace CX := hik (rowIs_keep CX.out kk)
          replace IX := hik (rowIs_keep IX.out kk)
          replace Ox := hik (Ox.out.keep kk)
          replace RX := hik (rowIs_keep RX.out kk)
          replace OS := hik (OS.out.keep kk)
          replace RG := hik (rowIs_keep RG.out kk)
          clear k6 k7 kk hry hby
          have xCX0 : W17.cell? ⟨gx, 0, none⟩ = some (.int .i64 s0.r) := CX.out.cell (i := 0) (by omega)
          have xCX1 : W17.cell? ⟨gx, 1, none⟩ = some (.int .i64 s0.q) := CX.out.cell (i := 1) (by omega)
          have xCX2 : W17.cell? ⟨gx, 2, none⟩ = some (.int .i64 s0.p) := CX.out.cell (i := 2) (by omega)
          have xCX3 : W17.cell? ⟨gx, 3, none⟩ = some (.slice (some ⟨bA2, 0, none⟩) s0.nA s0.nA) := CX.out.cell (i := 3) (by omega)
          have xCX4 : W17.cell? ⟨gx, 4, none⟩ = some (.slice (some ⟨bB2, 0, none⟩) s0.nB s0.nB) := CX.out.cell (i := 4) (by omega)
          have xCX5 : W17.cell? ⟨gx, 5, none⟩ = some (.slice (some ⟨bC2, 0, none⟩) s0.nC s0.nC) := CX.out.cell (i := 5) (by omega)
          have zCX := CX.out.lt
          go_wp2_with fail
          refine (markSystem_any s0 bA2 bB2 bC2 _ EA EB EC hl2.out hl3.out (by omega)).mono ?_
          rintro e W18 ⟨rfl, kk⟩
          clear xCX0 xCX1 xCX2 xCX3 xCX4 xCX5 zCX
          have s18 := hik kk.size
          replace G := hik (G.out.near kk (fun b m => by have m : _ = _ ∨ _ = _ ∨ _ = _ := m; have := s1.out; have := s2.out; have := s3.out; have := s4.out; have := lw.out; have := BW.out; have := s5.out; have := hl1.out; have := hl2.out; have := hl3.out; have := hl4.out; have := s6.out; have := Hgx.out; have := s7.out; have := HGI.out; have := li.out; have := s8.out; have := lx.out; have := ux.out; have := s9.out; have := Hgr.out; have := s10.out; have := BG.out; have := lz.out; have := s11.out; have := s13.out; have := s14.out; have := s15.out; have := s17.out; have := s18.out; omega))
          replace A := hik (rowIs_chg A.out kk (fun m => by have m : _ = _ ∨ _ = _ ∨ _ = _ := m; have := s1.out; have := s2.out; have := s3.out; have := s4.out; have := lw.out; have := BW.out; have := s5.out; have := hl1.out; have := hl2.out; have := hl3.out; have := hl4.out; have := s6.out; have := Hgx.out; have := s7.out; have := HGI.out; have := li.out; have := s8.out; have := lx.out; have := ux.out; have := s9.out; have := Hgr.out; have := s10.out; have := BG.out; have := lz.out; have := s11.out; have := s13.out; have := s14.out; have := s15.out; have := s17.out; have := s18.out; omega))
          replace CB := hik (rowIs_chg CB.out kk (fun m => by have m : _ = _ ∨ _ = _ ∨ _ = _ := m; have := s1.out; have := s2.out; have := s3.out; have := s4.out; have := lw.out; have := BW.out; have := s5.out; have := hl1.out; have := hl2.out; have := hl3.out; have := hl4.out; have := s6.out; have := Hgx.out; have := s7.out; have := HGI.out; have := li.out; have := s8.out; have := lx.out; have := ux.out; have := s9.out; have := Hgr.out; have := s10.out; have := BG.out; have := lz.out; have := s11.out; have := s13.out; have := s14.out; have := s15.out; have := s17.out; have := s18.out; omega))
          replace DB := hik (rowIs_chg DB.out kk (fun m => by have m : _ = _ ∨ _ = _ ∨ _ = _ := m; have := s1.out; have := s2.out; have := s3.out; have := s4.out; have := lw.out; have := BW.out; have := s5.out; have := hl1.out; have := hl2.out; have := hl3.out; have := hl4.out; have := s6.out; have := Hgx.out; have := s7.out; have := HGI.out; have := li.out; have := s8.out; have := lx.out; have := ux.out; have := s9.out; have := Hgr.out; have := s10.out; have := BG.out; have := lz.out; have := s11.out; have := s13.out; have := s14.out; have := s15.out; have := s17.out; have := s18.out; omega))
          replace RW := hik (rowIs_chg RW.out kk (fun m => by have m : _ = _ ∨ _ = _ ∨ _ = _ := m; have := s1.out; have := s2.out; have := s3.out; have := s4.out; have := lw.out; have := BW.out; have := s5.out; have := hl1.out; have := hl2.out; have := hl3.out; have := hl4.out; have := s6.out; have := Hgx.out; have := s7.out; have := HGI.out; have := li.out; have := s8.out; have := lx.out; have := ux.out; have := s9.out; have := Hgr.out; have := s10.out; have := BG.out; have := lz.out; have := s11.out; have := s13.out; have := s14.out; have := s15.out; have := s17.out; have := s18.out; omega))
          replace GW := hik (GW.out.near kk (fun b m => by have m : _ = _ ∨ _ = _ ∨ _ = _ := m; have := s1.out; have := s2.out; have := s3.out; have := s4.out; have := lw.out; have := BW.out; have := s5.out; have := hl1.out; have := hl2.out; have := hl3.out; have := hl4.out; have := s6.out; have := Hgx.out; have := s7.out; have := HGI.out; have := li.out; have := s8.out; have := lx.out; have := ux.out; have := s9.out; have := Hgr.out; have := s10.out; have := BG.out; have := lz.out; have := s11.out; have := s13.out; have := s14.out; have := s15.out; have := s17.out; have := s18.out; omega))
          replace CX := hik (rowIs_chg CX.out kk (fun m => by have m : _ = _ ∨ _ = _ ∨ _ = _ := m; have := s1.out; have := s2.out; have := s3.out; have := s4.out; have := lw.out; have := BW.out; have := s5.out; have := hl1.out; have := hl2.out; have := hl3.out; have := hl4.out; have := s6.out; have := Hgx.out; have := s7.out; have := HGI.out; have := li.out; have := s8.out; have := lx.out; have := ux.out; have := s9.out; have := Hgr.out; have := s10.out; have := BG.out; have := lz.out; have := s11.out; have := s13.out; have := s14.out; have := s15.out; have := s17.out; have := s18.out; omega))
          replace IX := hik (rowIs_chg IX.out kk (fun m => by have m : _ = _ ∨ _ = _ ∨ _ = _ := m; have := s1.out; have := s2.out; have := s3.out; have := s4.out; have := lw.out; have := BW.out; have := s5.out; have := hl1.out; have := hl2.out; have := hl3.out; have := hl4.out; have := s6.out; have := Hgx.out; have := s7.out; have := HGI.out; have := li.out; have := s8.out; have := lx.out; have := ux.out; have := s9.out; have := Hgr.out; have := s10.out; have := BG.out; have := lz.out; have := s11.out; have := s13.out; have := s14.out; have := s15.out; have := s17.out; have := s18.out; omega))
          replace Ox := hik (Ox.out.chg kk (fun b hb _ m => by have m : _ = _ ∨ _ = _ ∨ _ = _ := m; have := s1.out; have := s2.out; have := s3.out; have := s4.out; have := lw.out; have := BW.out; have := s5.out; have := hl1.out; have := hl2.out; have := hl3.out; have := hl4.out; have := s6.out; have := Hgx.out; have := s7.out; have := HGI.out; have := li.out; have := s8.out; have := lx.out; have := ux.out; have := s9.out; have := Hgr.out; have := s10.out; have := BG.out; have := lz.out; have := s11.out; have := s13.out; have := s14.out; have := s15.out; have := s17.out; have := s18.out; omega))
          replace RX := hik (rowIs_chg RX.out kk (fun m => by have m : _ = _ ∨ _ = _ ∨ _ = _ := m; have := s1.out; have := s2.out; have := s3.out; have := s4.out; have := lw.out; have := BW.out; have := s5.out; have := hl1.out; have := hl2.out; have := hl3.out; have := hl4.out; have := s6.out; have := Hgx.out; have := s7.out; have := HGI.out; have := li.out; have := s8.out; have := lx.out; have := ux.out; have := s9.out; have := Hgr.out; have := s10.out; have := BG.out; have := lz.out; have := s11.out; have := s13.out; have := s14.out; have := s15.out; have := s17.out; have := s18.out; omega))
          replace OS := hik (OS.out.chg kk (fun b hb _ m => by have m : _ = _ ∨ _ = _ ∨ _ = _ := m; have := s1.out; have := s2.out; have := s3.out; have := s4.out; have := lw.out; have := BW.out; have := s5.out; have := hl1.out; have := hl2.out; have := hl3.out; have := hl4.out; have := s6.out; have := Hgx.out; have := s7.out; have := HGI.out; have := li.out; have := s8.out; have := lx.out; have := ux.out; have := s9.out; have := Hgr.out; have := s10.out; have := BG.out; have := lz.out; have := s11.out; have := s13.out; have := s14.out; have := s15.out; have := s17.out; have := s18.out; omega))
          replace RG := hik (rowIs_chg RG.out kk (fun m => by have m : _ = _ ∨ _ = _ ∨ _ = _ := m; have := s1.out; have := s2.out; have := s3.out; have := s4.out; have := lw.out; have := BW.out; have := s5.out; have := hl1.out; have := hl2.out; have := hl3.out; have := hl4.out; have := s6.out; have := Hgx.out; have := s7.out; have := HGI.out; have := li.out; have := s8.out; have := lx.out; have := ux.out; have := s9.out; have := Hgr.out; have := s10.out; have := BG.out; have := lz.out; have := s11.out; have := s13.out; have := s14.out; have := s15.out; have := s17.out; have := s18.out; omega))
          clear EA EB EC CX
          clear kk
          go_wp2_with fail
          refine (markIntS_q gi len2 len2 f2 (1 + 3 * s0.nA + 3 * s0.nB + 3 * s0.nC) _ IX (by omega) (by omega) (by omega)).mono ?_
          rintro e W19 ⟨rfl, kk⟩
          have s19 := hik kk.size
          replace G := hik (G.out.near kk (fun b m => by have m : _ = _ := m; have := s1.out; have := s2.out; have := s3.out; have := s4.out; have := lw.out; have := BW.out; have := s5.out; have := hl1.out; have := hl2.out; have := hl3.out; have := hl4.out; have := s6.out; have := Hgx.out; have := s7.out; have := HGI.out; have := li.out; have := s8.out; have := lx.out; have := ux.out; have := s9.out; have := Hgr.out; have := s10.out; have := BG.out; have := lz.out; have := s11.out; have := s13.out; have := s14.out; have := s15.out; have := s17.out; have := s18.out; have := s19.out; omega))
          replace A := hik (rowIs_chg A.out kk (fun m => by have m : _ = _ := m; have := s1.out; have := s2.out; have := s3.out; have := s4.out; have := lw.out; have := BW.out; have := s5.out; have := hl1.out; have := hl2.out; have := hl3.out; have := hl4.out; have := s6.out; have := Hgx.out; have := s7.out; have := HGI.out; have := li.out; have := s8.out; have := lx.out; have := ux.out; have := s9.out; have := Hgr.out; have := s10.out; have := BG.out; have := lz.out; have := s11.out; have := s13.out; have := s14.out; have := s15.out; have := s17.out; have := s18.out; have := s19.out; omega))
          replace CB := hik (rowIs_chg CB.out kk (fun m => by have m : _ = _ := m; have := s1.out; have := s2.out; have := s3.out; have := s4.out; have := lw.out; have := BW.out; have := s5.out; have := hl1.out; have := hl2.out; have := hl3.out; have := hl4.out; have := s6.out; have := Hgx.out; have := s7.out; have := HGI.out; have := li.out; have := s8.out; have := lx.out; have := ux.out; have := s9.out; have := Hgr.out; have := s10.out; have := BG.out; have := lz.out; have := s11.out; have := s13.out; have := s14.out; have := s15.out; have := s17.out; have := s18.out; have := s19.out; omega))
          replace DB := hik (rowIs_chg DB.out kk (fun m => by have m : _ = _ := m; have := s1.out; have := s2.out; have := s3.out; have := s4.out; have := lw.out; have := BW.out; have := s5.out; have := hl1.out; have := hl2.out; have := hl3.out; have := hl4.out; have := s6.out; have := Hgx.out; have := s7.out; have := HGI.out; have := li.out; have := s8.out; have := lx.out; have := ux.out; have := s9.out; have := Hgr.out; have := s10.out; have := BG.out; have := lz.out; have := s11.out; have := s13.out; have := s14.out; have := s15.out; have := s17.out; have := s18.out; have := s19.out; omega))
          replace RW := hik (rowIs_chg RW.out kk (fun m => by have m : _ = _ := m; have := s1.out; have := s2.out; have := s3.out; have := s4.out; have := lw.out; have := BW.out; have := s5.out; have := hl1.out; have := hl2.out; have := hl3.out; have := hl4.out; have := s6.out; have := Hgx.out; have := s7.out; have := HGI.out; have := li.out; have := s8.out; have := lx.out; have := ux.out; have := s9.out; have := Hgr.out; have := s10.out; have := BG.out; have := lz.out; have := s11.out; have := s13.out; have := s14.out; have := s15.out; have := s17.out; have := s18.out; have := s19.out; omega))
          replace GW := hik (GW.out.near kk (fun b m => by have m : _ = _ := m; have := s1.out; have := s2.out; have := s3.out; have := s4.out; have := lw.out; have := BW.out; have := s5.out; have := hl1.out; have := hl2.out; have := hl3.out; have := hl4.out; have := s6.out; have := Hgx.out; have := s7.out; have := HGI.out; have := li.out; have := s8.out; have := lx.out; have := ux.out; have := s9.out; have := Hgr.out; have := s10.out; have := BG.out; have := lz.out; have := s11.out; have := s13.out; have := s14.out; have := s15.out; have := s17.out; have := s18.out; have := s19.out; omega))
          replace Ox := hik (Ox.out.chg kk (fun b hb _ m => by have m : _ = _ := m; have := s1.out; have := s2.out; have := s3.out; have := s4.out; have := lw.out; have := BW.out; have := s5.out; have := hl1.out; have := hl2.out; have := hl3.out; have := hl4.out; have := s6.out; have := Hgx.out; have := s7.out; have := HGI.out; have := li.out; have := s8.out; have := lx.out; have := ux.out; have := s9.out; have := Hgr.out; have := s10.out; have := BG.out; have := lz.out; have := s11.out; have := s13.out; have := s14.out; have := s15.out; have := s17.out; have := s18.out; have := s19.out; omega))
          replace RX := hik (rowIs_chg RX.out kk (fun m => by have m : _ = _ := m; have := s1.out; have := s2.out; have := s3.out; have := s4.out; have := lw.out; have := BW.out; have := s5.out; have := hl1.out; have := hl2.out; have := hl3.out; have := hl4.out; have := s6.out; have := Hgx.out; have := s7.out; have := HGI.out; have := li.out; have := s8.out; have := lx.out; have := ux.out; have := s9.out; have := Hgr.out; have := s10.out; have := BG.out; have := lz.out; have := s11.out; have := s13.out; have := s14.out; have := s15.out; have := s17.out; have := s18.out; have := s19.out; omega))
          replace OS := hik (OS.out.chg kk (fun b hb _ m => by have m : _ = _ := m; have := s1.out; have := s2.out; have := s3.out; have := s4.out; have := lw.out; have := BW.out; have := s5.out; have := hl1.out; have := hl2.out; have := hl3.out; have := hl4.out; have := s6.out; have := Hgx.out; have := s7.out; have := HGI.out; have := li.out; have := s8.out; have := lx.out; have := ux.out; have := s9.out; have := Hgr.out; have := s10.out; have := BG.out; have := lz.out; have := s11.out; have := s13.out; have := s14.out; have := s15.out; have := s17.out; have := s18.out; have := s19.out; omega))
          replace RG := hik (rowIs_chg RG.out kk (fun m => by have m : _ = _ := m; have := s1.out; have := s2.out; have := s3.out; have := s4.out; have := lw.out; have := BW.out; have := s5.out; have := hl1.out; have := hl2.out; have := hl3.out; have := hl4.out; have := s6.out; have := Hgx.out; have := s7.out; have := HGI.out; have := li.out; have := s8.out; have := lx.out; have := ux.out; have := s9.out; have := Hgr.out; have := s10.out; have := BG.out; have := lz.out; have := s11.out; have := s13.out; have := s14.out; have := s15.out; have := s17.out; have := s18.out; have := s19.out; omega))
          clear IX
          clear kk
          have xRX0 : W19.cell? ⟨gr, 0, none⟩ = some (.slice (some ⟨bx, 0, none⟩) len3 len3) := RX.out.cell (i := 0) (by omega)
          have xRX1 : W19.cell? ⟨gr, 1, none⟩ = some (.int .i64 at3) := RX.out.cell (i := 1) (by omega)
          have xRX2 : W19.cell? ⟨gr, 2, none⟩ = some (.string st3) := RX.out.cell (i := 2) (by omega)
          have xRX3 : W19.cell? ⟨gr, 3, none⟩ = some (.int .i64 ct3) := RX.out.cell (i := 3) (by omega)
          have zRX := RX.out.lt
          go_wp2_with fail
          refine (markSource_own bx (some ⟨bx, 0, none⟩) len3 len3 f3 g3 at3 st3 ct3 ((1 + 3 * s0.nA + 3 * s0.nB + 3 * s0.nC) + len2) _ Ox (by omega) (by omega) (by omega) (by have := s1.out; have := s2.out; have := s3.out; have := s4.out; have := lw.out; have := BW.out; have := s5.out; have := hl1.out; have := hl2.out; have := hl3.out; have := hl4.out; have := s6.out; have := Hgx.out; have := s7.out; have := HGI.out; have := li.out; have := s8.out; have := lx.out; have := ux.out; have := s9.out; have := Hgr.out; have := s10.out; have := BG.out; have := lz.out; have := s11.out; have := s13.out; have := s14.out; have := s15.out; have := s17.out; have := s18.out; have := s19.out; omega)).mono ?_
          rintro e W20 ⟨rfl, ox, kk⟩
          clear xRX0 xRX1 xRX2 xRX3 zRX
          have s20 := hik kk.size
          replace G := hik (G.out.near kk (fun b m => by have m1 := m.2.1; simp at m1; have := s1.out; have := s2.out; have := s3.out; have := s4.out; have := lw.out; have := BW.out; have := s5.out; have := hl1.out; have := hl2.out; have := hl3.out; have := hl4.out; have := s6.out; have := Hgx.out; have := s7.out; have := HGI.out; have := li.out; have := s8.out; have := lx.out; have := ux.out; have := s9.out; have := Hgr.out; have := s10.out; have := BG.out; have := lz.out; have := s11.out; have := s13.out; have := s14.out; have := s15.out; have := s17.out; have := s18.out; have := s19.out; have := s20.out; omega))
          replace A := hik (rowIs_chg A.out kk (fun m => by have m1 := m.2.1; simp at m1; have := s1.out; have := s2.out; have := s3.out; have := s4.out; have := lw.out; have := BW.out; have := s5.out; have := hl1.out; have := hl2.out; have := hl3.out; have := hl4.out; have := s6.out; have := Hgx.out; have := s7.out; have := HGI.out; have := li.out; have := s8.out; have := lx.out; have := ux.out; have := s9.out; have := Hgr.out; have := s10.out; have := BG.out; have := lz.out; have := s11.out; have := s13.out; have := s14.out; have := s15.out; have := s17.out; have := s18.out; have := s19.out; have := s20.out; omega))
          replace CB := hik (rowIs_chg CB.out kk (fun m => by have m1 := m.2.1; simp at m1; have := s1.out; have := s2.out; have := s3.out; have := s4.out; have := lw.out; have := BW.out; have := s5.out; have := hl1.out; have := hl2.out; have := hl3.out; have := hl4.out; have := s6.out; have := Hgx.out; have := s7.out; have := HGI.out; have := li.out; have := s8.out; have := lx.out; have := ux.out; have := s9.out; have := Hgr.out; have := s10.out; have := BG.out; have := lz.out; have := s11.out; have := s13.out; have := s14.out; have := s15.out; have := s17.out; have := s18.out; have := s19.out; have := s20.out; omega))
          replace DB := hik (rowIs_chg DB.out kk (fun m => by have m1 := m.2.1; simp at m1; have := s1.out; have := s2.out; have := s3.out; have := s4.out; have := lw.out; have := BW.out; have := s5.out; have := hl1.out; have := hl2.out; have := hl3.out; have := hl4.out; have := s6.out; have := Hgx.out; have := s7.out; have := HGI.out; have := li.out; have := s8.out; have := lx.out; have := ux.out; have := s9.out; have := Hgr.out; have := s10.out; have := BG.out; have := lz.out; have := s11.out; have := s13.out; have := s14.out; have := s15.out; have := s17.out; have := s18.out; have := s19.out; have := s20.out; omega))
          replace RW := hik (rowIs_chg RW.out kk (fun m => by have m1 := m.2.1; simp at m1; have := s1.out; have := s2.out; have := s3.out; have := s4.out; have := lw.out; have := BW.out; have := s5.out; have := hl1.out; have := hl2.out; have := hl3.out; have := hl4.out; have := s6.out; have := Hgx.out; have := s7.out; have := HGI.out; have := li.out; have := s8.out; have := lx.out; have := ux.out; have := s9.out; have := Hgr.out; have := s10.out; have := BG.out; have := lz.out; have := s11.out; have := s13.out; have := s14.out; have := s15.out; have := s17.out; have := s18.out; have := s19.out; have := s20.out; omega))
          replace GW := hik (GW.out.near kk (fun b m => by have m1 := m.2.1; simp at m1; have := s1.out; have := s2.out; have := s3.out; have := s4.out; have := lw.out; have := BW.out; have := s5.out; have := hl1.out; have := hl2.out; have := hl3.out; have := hl4.out; have := s6.out; have := Hgx.out; have := s7.out; have := HGI.out; have := li.out; have := s8.out; have := lx.out; have := ux.out; have := s9.out; have := Hgr.out; have := s10.out; have := BG.out; have := lz.out; have := s11.out; have := s13.out; have := s14.out; have := s15.out; have := s17.out; have := s18.out; have := s19.out; have := s20.out; omega))
          replace OS := hik (OS.out.chg kk (fun b hb _ m => by have m1 := m.2.1; simp at m1; have := s1.out; have := s2.out; have := s3.out; have := s4.out; have := lw.out; have := BW.out; have := s5.out; have := hl1.out; have := hl2.out; have := hl3.out; have := hl4.out; have := s6.out; have := Hgx.out; have := s7.out; have := HGI.out; have := li.out; have := s8.out; have := lx.out; have := ux.out; have := s9.out; have := Hgr.out; have := s10.out; have := BG.out; have := lz.out; have := s11.out; have := s13.out; have := s14.out; have := s15.out; have := s17.out; have := s18.out; have := s19.out; have := s20.out; omega))
          replace RG := hik (rowIs_chg RG.out kk (fun m => by have m1 := m.2.1; simp at m1; have := s1.out; have := s2.out; have := s3.out; have := s4.out; have := lw.out; have := BW.out; have := s5.out; have := hl1.out; have := hl2.out; have := hl3.out; have := hl4.out; have := s6.out; have := Hgx.out; have := s7.out; have := HGI.out; have := li.out; have := s8.out; have := lx.out; have := ux.out; have := s9.out; have := Hgr.out; have := s10.out; have := BG.out; have := lz.out; have := s11.out; have := s13.out; have := s14.out; have := s15.out; have := s17.out; have := s18.out; have := s19.out; have := s20.out; omega))
          clear ox Ox RX
          clear kk
          have hkp : ¬ (1 : Int) + 3 * (s0.nA : Int) + 3 * (s0.nB : Int) + 3 * (s0.nC : Int) + (len2 : Int) + 2 * (len3 : Int) < 0 := by omega
          have xRG0 : W20.cell? ⟨gZ, 0, none⟩ = some (.slice gS nS gsc) := RG.out.cell (i := 0) (by omega)
          have xRG1 : W20.cell? ⟨gZ, 1, none⟩ = some (.int .i64 aa) := RG.out.cell (i := 1) (by omega)
          have xRG2 : W20.cell? ⟨gZ, 2, none⟩ = some (.string ss) := RG.out.cell (i := 2) (by omega)
          have xRG3 : W20.cell? ⟨gZ, 3, none⟩ = some (.int .i64 0) := RG.out.cell (i := 3) (by omega)
          have zRG := RG.out.lt
          have xRW0 : W20.cell? ⟨gw, 0, none⟩ = some (.slice cS nS capS) := RW.out.cell (i := 0) (by omega)
          have xRW1 : W20.cell? ⟨gw, 1, none⟩ = some (.int .i64 aa) := RW.out.cell (i := 1) (by omega)
          have xRW2 : W20.cell? ⟨gw, 2, none⟩ = some (.string ss) := RW.out.cell (i := 2) (by omega)
          have xRW3 : W20.cell? ⟨gw, 3, none⟩ = some (.int .i64 0) := RW.out.cell (i := 3) (by omega)
          have zRW := RW.out.lt
          go_wp2_with fail
          refine (eqSource_any gS cS nS nS gsc capS f3 g3 f3 g3 aa ss 0 _ (hik OS.out.pairs) (hik (SW.out.keep GW.out)) rfl (fun _ _ => ⟨rfl, rfl⟩) (by omega)).mono ?_
          rintro e W21 ⟨rfl, kk⟩
          clear xRG0 xRG1 xRG2 xRG3 zRG xRW0 xRW1 xRW2 xRW3 zRW
          have s21 := hik kk.size
          replace G := hik (G.out.trans kk)
          replace A := hik (rowIs_keep A.out kk)
          replace CB := hik (rowIs_keep CB.out kk)
          replace DB := hik (rowIs_keep DB.out kk)
          replace RW := hik (rowIs_keep RW.out kk)
          replace GW := hik (GW.out.trans kk)
          replace OS := hik (OS.out.keep kk)
          replace RG := hik (rowIs_keep RG.out kk)
          clear kk
          have xRG0 : W21.cell? ⟨gZ, 0, none⟩ = some (.slice gS nS gsc) := RG.out.cell (i := 0) (by omega)
          have xRG1 : W21.cell? ⟨gZ, 1, none⟩ = some (.int .i64 aa) := RG.out.cell (i := 1) (by omega)
          have xRG2 : W21.cell? ⟨gZ, 2, none⟩ = some (.string ss) := RG.out.cell (i := 2) (by omega)
          have xRG3 : W21.cell? ⟨gZ, 3, none⟩ = some (.int .i64 0) := RG.out.cell (i := 3) (by omega)
          have zRG := RG.out.lt
          go_wp2_with fail
          refine (markSource_p lo2 gS nS gsc f3 g3 aa ss 0 1 _ OS (by omega) (by omega) (by omega)).mono ?_
          rintro e W22 ⟨rfl, og, kk⟩
          clear xRG0 xRG1 xRG2 xRG3 zRG
          have s22 := hik kk.size
          replace G := hik (G.out.near kk (fun b m => by have m1 := m.1; have m3 := (UG.out _ m.2.2).resolve_left (by have := m.2.1; omega); have := s1.out; have := s2.out; have := s3.out; have := s4.out; have := lw.out; have := BW.out; have := s5.out; have := hl1.out; have := hl2.out; have := hl3.out; have := hl4.out; have := s6.out; have := Hgx.out; have := s7.out; have := HGI.out; have := li.out; have := s8.out; have := lx.out; have := ux.out; have := s9.out; have := Hgr.out; have := s10.out; have := BG.out; have := lz.out; have := s11.out; have := s13.out; have := s14.out; have := s15.out; have := s17.out; have := s18.out; have := s19.out; have := s20.out; have := s21.out; have := s22.out; omega))
          replace A := hik (rowIs_chg A.out kk (fun m => by have m1 := m.1; have m3 := (UG.out _ m.2.2).resolve_left (by have := m.2.1; omega); have := s1.out; have := s2.out; have := s3.out; have := s4.out; have := lw.out; have := BW.out; have := s5.out; have := hl1.out; have := hl2.out; have := hl3.out; have := hl4.out; have := s6.out; have := Hgx.out; have := s7.out; have := HGI.out; have := li.out; have := s8.out; have := lx.out; have := ux.out; have := s9.out; have := Hgr.out; have := s10.out; have := BG.out; have := lz.out; have := s11.out; have := s13.out; have := s14.out; have := s15.out; have := s17.out; have := s18.out; have := s19.out; have := s20.out; have := s21.out; have := s22.out; omega))
          replace CB := hik (rowIs_chg CB.out kk (fun m => by have m1 := m.1; have m3 := (UG.out _ m.2.2).resolve_left (by have := m.2.1; omega); have := s1.out; have := s2.out; have := s3.out; have := s4.out; have := lw.out; have := BW.out; have := s5.out; have := hl1.out; have := hl2.out; have := hl3.out; have := hl4.out; have := s6.out; have := Hgx.out; have := s7.out; have := HGI.out; have := li.out; have := s8.out; have := lx.out; have := ux.out; have := s9.out; have := Hgr.out; have := s10.out; have := BG.out; have := lz.out; have := s11.out; have := s13.out; have := s14.out; have := s15.out; have := s17.out; have := s18.out; have := s19.out; have := s20.out; have := s21.out; have := s22.out; omega))
          replace DB := hik (rowIs_chg DB.out kk (fun m => by have m1 := m.1; have m3 := (UG.out _ m.2.2).resolve_left (by have := m.2.1; omega); have := s1.out; have := s2.out; have := s3.out; have := s4.out; have := lw.out; have := BW.out; have := s5.out; have := hl1.out; have := hl2.out; have := hl3.out; have := hl4.out; have := s6.out; have := Hgx.out; have := s7.out; have := HGI.out; have := li.out; have := s8.out; have := lx.out; have := ux.out; have := s9.out; have := Hgr.out; have := s10.out; have := BG.out; have := lz.out; have := s11.out; have := s13.out; have := s14.out; have := s15.out; have := s17.out; have := s18.out; have := s19.out; have := s20.out; have := s21.out; have := s22.out; omega))
          replace RW := hik (rowIs_chg RW.out kk (fun m => by have m1 := m.1; have m3 := (UG.out _ m.2.2).resolve_left (by have := m.2.1; omega); have := s1.out; have := s2.out; have := s3.out; have := s4.out; have := lw.out; have := BW.out; have := s5.out; have := hl1.out; have := hl2.out; have := hl3.out; have := hl4.out; have := s6.out; have := Hgx.out; have := s7.out; have := HGI.out; have := li.out; have := s8.out; have := lx.out; have := ux.out; have := s9.out; have := Hgr.out; have := s10.out; have := BG.out; have := lz.out; have := s11.out; have := s13.out; have := s14.out; have := s15.out; have := s17.out; have := s18.out; have := s19.out; have := s20.out; have := s21.out; have := s22.out; omega))
          replace GW := hik (GW.out.near kk (fun b m => by have m1 := m.1; have m3 := (UG.out _ m.2.2).resolve_left (by have := m.2.1; omega); have := s1.out; have := s2.out; have := s3.out; have := s4.out; have := lw.out; have := BW.out; have := s5.out; have := hl1.out; have := hl2.out; have := hl3.out; have := hl4.out; have := s6.out; have := Hgx.out; have := s7.out; have := HGI.out; have := li.out; have := s8.out; have := lx.out; have := ux.out; have := s9.out; have := Hgr.out; have := s10.out; have := BG.out; have := lz.out; have := s11.out; have := s13.out; have := s14.out; have := s15.out; have := s17.out; have := s18.out; have := s19.out; have := s20.out; have := s21.out; have := s22.out; omega))
          replace RG := hik (rowIs_chg RG.out kk (fun m => by have m1 := m.1; have m3 := (UG.out _ m.2.2).resolve_left (by have := m.2.1; omega); have := s1.out; have := s2.out; have := s3.out; have := s4.out; have := lw.out; have := BW.out; have := s5.out; have := hl1.out; have := hl2.out; have := hl3.out; have := hl4.out; have := s6.out; have := Hgx.out; have := s7.out; have := HGI.out; have := li.out; have := s8.out; have := lx.out; have := ux.out; have := s9.out; have := Hgr.out; have := s10.out; have := BG.out; have := lz.out; have := s11.out; have := s13.out; have := s14.out; have := s15.out; have := s17.out; have := s18.out; have := s19.out; have := s20.out; have := s21.out; have := s22.out; omega))
          replace OS := hik og
          clear og
          clear kk
          have xRG0 : W22.cell? ⟨gZ, 0, none⟩ = some (.slice gS nS gsc) := RG.out.cell (i := 0) (by omega)
          have xRG1 : W22.cell? ⟨gZ, 1, none⟩ = some (.int .i64 aa) := RG.out.cell (i := 1) (by omega)
          have xRG2 : W22.cell? ⟨gZ, 2, none⟩ = some (.string ss) := RG.out.cell (i := 2) (by omega)
          have xRG3 : W22.cell? ⟨gZ, 3, none⟩ = some (.int .i64 0) := RG.out.cell (i := 3) (by omega)
          have zRG := RG.out.lt
          go_wp2_with fail
          refine (heldSource_own gS nS gsc aa ss 0 1 _ (hik OS.out.pairs) (by omega) (by omega) (by omega)).mono ?_
          rintro e W23 ⟨rfl, kk⟩
          clear xRG0 xRG1 xRG2 xRG3 zRG
          have s23 := hik kk.size
          replace G := hik (G.out.trans kk)
          replace A := hik (rowIs_keep A.out kk)
          replace CB := hik (rowIs_keep CB.out kk)
          replace DB := hik (rowIs_keep DB.out kk)
          replace RW := hik (rowIs_keep RW.out kk)
          replace GW := hik (GW.out.trans kk)
          replace OS := hik (OS.out.keep kk)
          replace RG := hik (rowIs_keep RG.out kk)
          clear kk
          go_upto_region 37 with fail
          go_cut [20, 21] (fun pp qq W => ∃ (cS : Option Addr) (capS gZ lo hi : Nat), pp = .pointer (some ⟨gZ, 0, none⟩) ∧ qq = .int .i64 q ∧ Hid (OwnE W lo cS nS f3 g3) ∧ Hid (W.rowIs gZ 35 4 (pv4 (.slice cS nS capS) (.int .i64 aa) (.string ss) (.int .i64 0))) ∧ Hid (Chg nob W23 W) ∧ Hid (W23.heap.size ≤ gZ ∧ W23.heap.size ≤ lo ∧ ¬ (lo ≤ gZ ∧ gZ < hi) ∧ lo ≤ hi ∧ hi ≤ W.heap.size) ∧ Hid (∀ b, cS = some ⟨b, 0, none⟩ → nS = 0 ∨ b < hi))
          case first =>
            focus
              have xCB0 : W23.cell? ⟨w.heap.size + 1, 0, none⟩ = some (.int .i64 a1) := CB.out.cell (i := 0) (by omega)
              have xCB1 : W23.cell? ⟨w.heap.size + 1, 1, none⟩ = some (.int .i64 b1) := CB.out.cell (i := 1) (by omega)
              have xCB2 : W23.cell? ⟨w.heap.size + 1, 2, none⟩ = some (.int .i64 d1) := CB.out.cell (i := 2) (by omega)
              have zCB := CB.out.lt
              have xA0 : W23.cell? ⟨w.heap.size, 0, none⟩ = some (.int .i64 s0.r) := A.out.cell (i := 0) (by omega)
              have xA1 : W23.cell? ⟨w.heap.size, 1, none⟩ = some (.int .i64 s0.q) := A.out.cell (i := 1) (by omega)
              have xA2 : W23.cell? ⟨w.heap.size, 2, none⟩ = some (.int .i64 s0.p) := A.out.cell (i := 2) (by omega)
              have xA3 : W23.cell? ⟨w.heap.size, 3, none⟩ = some (.slice y0.cA s0.nA y0.pA) := A.out.cell (i := 3) (by omega)
              have xA4 : W23.cell? ⟨w.heap.size, 4, none⟩ = some (.slice y0.cB s0.nB y0.pB) := A.out.cell (i := 4) (by omega)
              have xA5 : W23.cell? ⟨w.heap.size, 5, none⟩ = some (.slice y0.cC s0.nC y0.pC) := A.out.cell (i := 5) (by omega)
              have zA := A.out.lt
              have xDB0 : W23.cell? ⟨w.heap.size + 1 + 1, 0, none⟩ = some (.slice c3 len3 cap3) := DB.out.cell (i := 0) (by omega)
              have xDB1 : W23.cell? ⟨w.heap.size + 1 + 1, 1, none⟩ = some (.int .i64 at3) := DB.out.cell (i := 1) (by omega)
              have xDB2 : W23.cell? ⟨w.heap.size + 1 + 1, 2, none⟩ = some (.string st3) := DB.out.cell (i := 2) (by omega)
              have xDB3 : W23.cell? ⟨w.heap.size + 1 + 1, 3, none⟩ = some (.int .i64 ct3) := DB.out.cell (i := 3) (by omega)
              have zDB := DB.out.lt
              have SA := hik (fun (WW : World) (kW : Chg nob W23 WW) => (show (WW.cell? ⟨w.heap.size + 1, 0, none⟩ = some (.int .i64 a1) ∧ WW.cell? ⟨w.heap.size + 1, 1, none⟩ = some (.int .i64 b1) ∧ WW.cell? ⟨w.heap.size + 1, 2, none⟩ = some (.int .i64 d1) ∧ WW.cell? ⟨w.heap.size, 0, none⟩ = some (.int .i64 s0.r) ∧ WW.cell? ⟨w.heap.size, 1, none⟩ = some (.int .i64 s0.q) ∧ WW.cell? ⟨w.heap.size, 2, none⟩ = some (.int .i64 s0.p) ∧ WW.cell? ⟨w.heap.size, 3, none⟩ = some (.slice y0.cA s0.nA y0.pA) ∧ WW.cell? ⟨w.heap.size, 4, none⟩ = some (.slice y0.cB s0.nB y0.pB) ∧ WW.cell? ⟨w.heap.size, 5, none⟩ = some (.slice y0.cC s0.nC y0.pC) ∧ WW.cell? ⟨w.heap.size + 1 + 1, 0, none⟩ = some (.slice c3 len3 cap3) ∧ WW.cell? ⟨w.heap.size + 1 + 1, 1, none⟩ = some (.int .i64 at3) ∧ WW.cell? ⟨w.heap.size + 1 + 1, 2, none⟩ = some (.string st3) ∧ WW.cell? ⟨w.heap.size + 1 + 1, 3, none⟩ = some (.int .i64 ct3)) from ⟨kW.see xCB0, kW.see xCB1, kW.see xCB2, kW.see xA0, kW.see xA1, kW.see xA2, kW.see xA3, kW.see xA4, kW.see xA5, kW.see xDB0, kW.see xDB1, kW.see xDB2, kW.see xDB3⟩))
              refine wp_regionC [⟨12, 20, .cells #[.slice none 0 0, .int .i64 0, .string ⟨#[]⟩, .int .i64 0] 35, fun b => .pointer (some ⟨b, 0, none⟩)⟩] 14 (by kernel_rfl) (by rfl) (by rfl) (by kernel_rfl) ?_
              refine wpC_take (i := 0) (v := ?_) rfl (by kernel_rfl) (by kernel_rfl) (by rfl) (fun _ _ _ h => h) (fun u => Or.inl ⟨by rfl, ?_⟩) ?_
              rotate_left 1
              · (intro w' hSw; have hSw := SA.out _ hSw; (try dsimp only at hSw); try simp only [putF, Act.put, List.setIfInBounds_toArray, List.set_cons_zero, List.set_cons_succ, List.getElem_toArray, List.getElem_cons_zero, List.getElem_cons_succ]; go_simp; try with_reducible rfl)
              try simp only [Act.put, List.setIfInBounds_toArray, List.set_cons_zero, List.set_cons_succ, List.getElem_toArray, List.getElem_cons_zero, List.getElem_cons_succ]
              refine wpC_take (i := 2) (v := ?_) rfl (by kernel_rfl) (by kernel_rfl) (by rfl) (fun _ _ _ h => h) (fun u => Or.inl ⟨by rfl, ?_⟩) ?_
              rotate_left 1
              · (intro w' hSw; have hSw := SA.out _ hSw; (try dsimp only at hSw); try simp only [putF, Act.put, List.setIfInBounds_toArray, List.set_cons_zero, List.set_cons_succ, List.getElem_toArray, List.getElem_cons_zero, List.getElem_cons_succ]; go_simp; try with_reducible rfl)
              try simp only [Act.put, List.setIfInBounds_toArray, List.set_cons_zero, List.set_cons_succ, List.getElem_toArray, List.getElem_cons_zero, List.getElem_cons_succ]
              refine wpC_take (i := 4) (v := ?_) rfl (by kernel_rfl) (by kernel_rfl) (by rfl) (fun _ _ _ h => h) (fun u => Or.inl ⟨by rfl, ?_⟩) ?_
              rotate_left 1
              · (intro w' hSw; have hSw := SA.out _ hSw; (try dsimp only at hSw); try simp only [putF, Act.put, List.setIfInBounds_toArray, List.set_cons_zero, List.set_cons_succ, List.getElem_toArray, List.getElem_cons_zero, List.getElem_cons_succ]; go_simp; try with_reducible rfl)
              try simp only [Act.put, List.setIfInBounds_toArray, List.set_cons_zero, List.set_cons_succ, List.getElem_toArray, List.getElem_cons_zero, List.getElem_cons_succ]
              refine wpC_take (i := 6) (v := ?_) rfl (by kernel_rfl) (by kernel_rfl) (by rfl) (fun _ _ _ h => h) (fun u => Or.inl ⟨by rfl, ?_⟩) ?_
              rotate_left 1
              · (intro w' hSw; have hSw := SA.out _ hSw; (try dsimp only at hSw); try simp only [putF, Act.put, List.setIfInBounds_toArray, List.set_cons_zero, List.set_cons_succ, List.getElem_toArray, List.getElem_cons_zero, List.getElem_cons_succ]; go_simp; try with_reducible rfl)
              try simp only [Act.put, List.setIfInBounds_toArray, List.set_cons_zero, List.set_cons_succ, List.getElem_toArray, List.getElem_cons_zero, List.getElem_cons_succ]
              refine wpC_step (i := 1) rfl (by kernel_rfl) (by rfl) (List.forall_mem_cons.2 ⟨FloOK.alloc rfl 35 rfl rfl rfl (fun w => by go_simp), (fun _ h => absurd h List.not_mem_nil)⟩) (by rfl) ?_
              intro bb gg uu P1' hrd hB k0 kW K' hK
              clear hrd hB
              have KW := hik k0
              clear kW k0
              refine stepL_callN 8 #[.tmp 120] #[24] (by rfl) (by rfl) #[.agg #[.int .i64 s0.r, .int .i64 s0.q, .int .i64 s0.p, .slice y0.cA s0.nA y0.pA, .slice y0.cB s0.nB y0.pB, .slice y0.cC s0.nC y0.pC]] (by (try simp only [putF, Act.put, List.setIfInBounds_toArray, List.set_cons_zero, List.set_cons_succ, List.getElem_toArray, List.getElem_cons_zero, List.getElem_cons_succ]); simp only [List.map_toArray, List.map_cons, List.map_nil] <;> rfl) (run_go Tryz.func8 (by kernel_rfl) (by kernel_rfl) _ _) (toSystem_any s0 y0 _ (hik (HV.out.keep (G.out.trans KW.out))) hs) ?_
              rintro e P1 ⟨bAp9, bBp9, bCp9, he, l1, l2, l3, rA, rB, rC, kk⟩
              have SX := hik (SyV.rows (pA := s0.nA) (pB := s0.nB) (pC := s0.nC) rA rB rC)
              clear l1 l2 l3 rA rB rC
              refine ⟨_, he, hK _ _ kk ?_⟩
              have hsP1 := hik kk.size
              clear he kk hK K' KW bb gg uu
              try simp only [Act.put, List.setIfInBounds_toArray, List.set_cons_zero, List.set_cons_succ, List.getElem_toArray, List.getElem_cons_zero, List.getElem_cons_succ]
              refine wpC_step (i := 3) rfl (by kernel_rfl) (by rfl) (List.forall_mem_cons.2 ⟨FloOK.alloc rfl 35 rfl rfl rfl (fun w => by go_simp), (fun _ h => absurd h List.not_mem_nil)⟩) (by rfl) ?_
              intro bb gg uu P2' hrd hB k0 kW K' hK
              clear hrd hB
              have KW := hik k0
              replace SX := hik (SX.out.keep kW)
              clear kW k0
              refine stepL_callN 9 #[.tmp 122] #[26] (by rfl) (by rfl) #[.agg #[.int .i64 a1, .int .i64 b1, .int .i64 d1]] (by (try simp only [putF, Act.put, List.setIfInBounds_toArray, List.set_cons_zero, List.set_cons_succ, List.getElem_toArray, List.getElem_cons_zero, List.getElem_cons_succ]); simp only [List.map_toArray, List.map_cons, List.map_nil] <;> rfl) (run_go Tryz.func9 (by kernel_rfl) (by kernel_rfl) _ _) (toSetting_any a1 b1 d1 _) ?_
              rintro e P2 ⟨he, kk⟩
              replace SX := hik (SX.out.keep kk)
              refine ⟨_, he, hK _ _ kk ?_⟩
              have hsP2 := hik kk.size
              clear he kk hK K' KW bb gg uu
              try simp only [Act.put, List.setIfInBounds_toArray, List.set_cons_zero, List.set_cons_succ, List.getElem_toArray, List.getElem_cons_zero, List.getElem_cons_succ]
              refine wpC_step (i := 5) rfl (by kernel_rfl) (by rfl) (List.forall_mem_cons.2 ⟨FloOK.alloc rfl 35 rfl rfl rfl (fun w => by go_simp), (fun _ h => absurd h List.not_mem_nil)⟩) (by rfl) ?_
              intro bb gg uu P3' hrd hB k0 kW K' hK
              clear hrd hB
              have KW := hik k0
              replace SX := hik (SX.out.keep kW)
              clear kW k0
              refine stepL_callN 10 #[.tmp 124] #[27] (by rfl) (by rfl) #[.slice c2 len2 cap2] (by (try simp only [putF, Act.put, List.setIfInBounds_toArray, List.set_cons_zero, List.set_cons_succ, List.getElem_toArray, List.getElem_cons_zero, List.getElem_cons_succ]); simp only [List.map_toArray, List.map_cons, List.map_nil] <;> rfl) (run_go Tryz.func10 (by kernel_rfl) (by kernel_rfl) _ _) (toIntS_any c2 len2 cap2 f2 _ (hik (HF.out.keep (G.out.trans KW.out))) (by omega)) ?_
              rintro e P3 ⟨he, ri, kk⟩
              replace SX := hik (SX.out.keep kk)
              generalize hxb : (P3').heap.size = xb at he ri
              clear hxb
              have IY := hik (RowV.of_row ri (Nat.le_refl _))
              clear ri
              refine ⟨_, he, hK _ _ kk ?_⟩
              have hsP3 := hik kk.size
              clear he kk hK K' KW bb gg uu
              try simp only [Act.put, List.setIfInBounds_toArray, List.set_cons_zero, List.set_cons_succ, List.getElem_toArray, List.getElem_cons_zero, List.getElem_cons_succ]
              refine wpC_step (i := 7) rfl (by kernel_rfl) (by rfl) (List.forall_mem_cons.2 ⟨FloOK.alloc rfl 35 rfl rfl rfl (fun w => by go_simp), (fun _ h => absurd h List.not_mem_nil)⟩) (by rfl) ?_
              intro bb gg uu P4' hrd hB k0 kW K' hK
              clear hrd hB
              have KW := hik k0
              replace SX := hik (SX.out.keep kW)
              replace IY := hik (IY.out.keep kW)
              clear kW k0
              refine stepL_callN 11 #[.tmp 126] #[30] (by rfl) (by rfl) #[.agg #[.slice c3 len3 cap3, .int .i64 at3, .string st3, .int .i64 ct3]] (by (try simp only [putF, Act.put, List.setIfInBounds_toArray, List.set_cons_zero, List.set_cons_succ, List.getElem_toArray, List.getElem_cons_zero, List.getElem_cons_succ]); simp only [List.map_toArray, List.map_cons, List.map_nil] <;> rfl) (run_go Tryz.func11 (by kernel_rfl) (by kernel_rfl) _ _) (toSource_any c3 len3 cap3 f3 g3 at3 st3 ct3 _ (hik (HP.out.keep (G.out.trans KW.out))) (by omega)) ?_
              rintro e P4 ⟨by_, hby, he, hry, kk⟩
              replace SX := hik (SX.out.keep kk)
              replace IY := hik (IY.out.keep kk)
              have OY := hik (OwnE.of_row hry (Nat.le_refl by_))
              clear hry hby
              refine ⟨_, he, hK _ _ kk ?_⟩
              have hsP4 := hik kk.size
              clear he kk hK K' KW bb gg uu
              try simp only [Act.put, List.setIfInBounds_toArray, List.set_cons_zero, List.set_cons_succ, List.getElem_toArray, List.getElem_cons_zero, List.getElem_cons_succ]
              refine wpC_step (i := 8) rfl (by kernel_rfl) (by rfl) (List.forall_mem_cons.2 ⟨FloOK.alloc rfl 35 rfl rfl rfl (fun w => by go_simp), (fun _ h => absurd h List.not_mem_nil)⟩) (by rfl) ?_
              intro bb gg uu P5' hrd hB k0 kW K' hK
              clear hrd hB
              have KW := hik k0
              replace SX := hik (SX.out.keep kW)
              replace IY := hik (IY.out.keep kW)
              replace OY := hik (OY.out.keep kW)
              clear kW k0
              refine stepL_callN 12 #[.tmp 121, .tmp 123, .tmp 125, .tmp 127] #[40, 42, 27, 35] (by rfl) (by rfl) #[.agg #[.int .i64 s0.r, .int .i64 s0.q, .int .i64 s0.p, .slice (some ⟨bAp9, 0, none⟩) s0.nA s0.nA, .slice (some ⟨bBp9, 0, none⟩) s0.nB s0.nB, .slice (some ⟨bCp9, 0, none⟩) s0.nC s0.nC], .agg #[.int .i64 a1, .int .i64 b1, .int .i64 d1], .slice (some ⟨xb, 0, none⟩) len2 len2, .agg #[.slice (some ⟨by_, 0, none⟩) len3 len3, .int .i64 at3, .string st3, .int .i64 ct3]] (by (try simp only [putF, Act.put, List.setIfInBounds_toArray, List.set_cons_zero, List.set_cons_succ, List.getElem_toArray, List.getElem_cons_zero, List.getElem_cons_succ]); simp only [List.map_toArray, List.map_cons, List.map_nil] <;> rfl) (run_go Tryz.func12 (by kernel_rfl) (by kernel_rfl) _ _) (HI.out ⟨some ⟨bAp9, 0, none⟩, some ⟨bBp9, 0, none⟩, some ⟨bCp9, 0, none⟩, s0.nA, s0.nB, s0.nC⟩ _ _ _ _ _ SX IY (hik OY.out.pairs) (hik (ht.out.keep (G.out.trans KW.out)))) ?_
              rintro e P5 ⟨cS, capS, he, rS, kk⟩
              replace SX := hik (SX.out.keep kk)
              replace IY := hik (IY.out.keep kk)
              replace OY := hik (OY.out.keep kk)
              have RS := hik rS
              have UPS := hik rS.upper9
              have HLO := hik (show W23.heap.size ≤ P5'.heap.size from KW.out.size)
              clear rS
              refine ⟨_, he, hK _ _ kk ?_⟩
              have hsP5 := hik kk.size
              clear he kk hK K' KW bb gg uu
              try simp only [Act.put, List.setIfInBounds_toArray, List.set_cons_zero, List.set_cons_succ, List.getElem_toArray, List.getElem_cons_zero, List.getElem_cons_succ]
              refine wpC_take (i := 9) (v := ?_) rfl (by kernel_rfl) (by kernel_rfl) (by rfl) (fun _ _ _ h => h) (fun u => Or.inl ⟨by rfl, ?_⟩) ?_
              rotate_left 1
              · (intro w' hSw; have hSw := SA.out _ hSw; (try dsimp only at hSw); try simp only [putF, Act.put, List.setIfInBounds_toArray, List.set_cons_zero, List.set_cons_succ, List.getElem_toArray, List.getElem_cons_zero, List.getElem_cons_succ]; go_simp; try with_reducible rfl)
              try simp only [Act.put, List.setIfInBounds_toArray, List.set_cons_zero, List.set_cons_succ, List.getElem_toArray, List.getElem_cons_zero, List.getElem_cons_succ]
              refine wpC_take (i := 10) (v := ?_) rfl (by kernel_rfl) (by kernel_rfl) (by rfl) (fun _ _ _ h => h) (fun u => Or.inl ⟨by rfl, ?_⟩) ?_
              rotate_left 1
              · (intro w' hSw; have hSw := SA.out _ hSw; (try dsimp only at hSw); try simp only [putF, Act.put, List.setIfInBounds_toArray, List.set_cons_zero, List.set_cons_succ, List.getElem_toArray, List.getElem_cons_zero, List.getElem_cons_succ]; go_simp; try with_reducible rfl)
              try simp only [Act.put, List.setIfInBounds_toArray, List.set_cons_zero, List.set_cons_succ, List.getElem_toArray, List.getElem_cons_zero, List.getElem_cons_succ]
              refine wpC_take (i := 11) (v := ?_) rfl (by kernel_rfl) (by kernel_rfl) (by rfl) (fun _ _ _ h => h) (fun u => Or.inl ⟨by rfl, ?_⟩) ?_
              rotate_left 1
              · (intro w' hSw; have hSw := SA.out _ hSw; (try dsimp only at hSw); try simp only [putF, Act.put, List.setIfInBounds_toArray, List.set_cons_zero, List.set_cons_succ, List.getElem_toArray, List.getElem_cons_zero, List.getElem_cons_succ]; go_simp; try with_reducible rfl)
              try simp only [Act.put, List.setIfInBounds_toArray, List.set_cons_zero, List.set_cons_succ, List.getElem_toArray, List.getElem_cons_zero, List.getElem_cons_succ]
              refine wpC_all (by kernel_rfl) (by rfl) (List.forall_mem_cons.2 ⟨FloOK.alloc rfl 35 rfl rfl rfl (fun w => by go_simp), (fun _ h => absurd h List.not_mem_nil)⟩) ?_
              intro gg uu Pz hB k0 kW
              have KW := hik k0
              have HTOP := hik kW.size
              replace SX := hik (SX.out.keep kW)
              replace IY := hik (IY.out.keep kW)
              replace OY := hik (OY.out.keep kW)
              replace RS := hik (RS.out.keep kW)
              obtain ⟨eu0, hg0, hl0, hc0, ha0, hd0⟩ := hB 0 _ rfl rfl
              have eu0 : uu 0 = .pointer (some ⟨gg 0, 0, none⟩) := eu0
              have BX0 := hik (rowN_at (n := 4) hc0 rfl)
              clear hd0 hc0 hl0
              clear hB kW
              generalize gg 0 = g0 at eu0 hg0 ha0 BX0
              refine wpAnyH_as (fuel' := 2) rfl (listed' := #[true, true, true, true, true, true, true, true, true, true, true, true, true, false, false]) (by kernel_rfl) ?_
              simp only [putF, eu0, Act.put, List.setIfInBounds_toArray, List.set_cons_zero, List.set_cons_succ, List.getElem_toArray, List.getElem_cons_zero, List.getElem_cons_succ]
              clear eu0
              have hHeld := k0
              clear k0
              refine wpAnyH_ready (rs := [13]) (by kernel_rfl) (by simp) ?_
              refine AllReadyH.cons rfl (fun K hK => ?_) AllReadyH.nil
              have yy0 : Pz.cell? ⟨g0, 0, none⟩ = some (.slice none 0 0) := BX0.out.cell (i := 0) (by omega)
              have fz0 := BX0.out.frozen 0
              have yy1 : Pz.cell? ⟨g0, 1, none⟩ = some (.int .i64 0) := BX0.out.cell (i := 1) (by omega)
              have fz1 := BX0.out.frozen 1
              have yy2 : Pz.cell? ⟨g0, 2, none⟩ = some (.string ⟨#[]⟩) := BX0.out.cell (i := 2) (by omega)
              have fz2 := BX0.out.frozen 2
              have yy3 : Pz.cell? ⟨g0, 3, none⟩ = some (.int .i64 0) := BX0.out.cell (i := 3) (by omega)
              have fz3 := BX0.out.frozen 3
              have l7 := BX0.out.lt
              have C7 := hik ((((((Chg.refl (fun b => b = g0) Pz).setCell (p := ⟨g0, 0, none⟩) (fun _ => rfl) (.slice cS nS capS)).setCell (p := ⟨g0, 1, none⟩) (fun _ => rfl) (.int .i64 aa)).setCell (p := ⟨g0, 2, none⟩) (fun _ => rfl) (.string ss)).setCell (p := ⟨g0, 3, none⟩) (fun _ => rfl) (.int .i64 0)))
              simp only [List.getElem_toArray, List.getElem_cons_zero, List.getElem_cons_succ]
              go_simp
              replace KW := hik (((((KW.out.setCell (p := ⟨g0, 0, none⟩) (fun l => absurd (show g0 < W23.heap.size from l) (by omega)) (.slice cS nS capS)).setCell (p := ⟨g0, 1, none⟩) (fun l => absurd (show g0 < W23.heap.size from l) (by omega)) (.int .i64 aa)).setCell (p := ⟨g0, 2, none⟩) (fun l => absurd (show g0 < W23.heap.size from l) (by omega)) (.string ss)).setCell (p := ⟨g0, 3, none⟩) (fun l => absurd (show g0 < W23.heap.size from l) (by omega)) (.int .i64 0)))
              refine hK.out _ _ KW.out (fun hHeld => ?_)
              clear hK K
              try simp only [Act.put, List.setIfInBounds_toArray, List.set_cons_zero, List.set_cons_succ, List.getElem_toArray, List.getElem_cons_zero, List.getElem_cons_succ]
              clear yy0 fz0 yy1 fz1 yy2 fz2 yy3 fz3 l7
              replace RS := hik (RS.out.farE C7.out (fun b hb ec => (UPS.out b ec).elim .inl (fun q => .inr (fun e => ha0 (.inr ⟨by rw [← show b = g0 from e]; exact hb, by rw [← show b = g0 from e]; exact q⟩)))))
              have RB0 : Hid (World.rowIs _ g0 35 4 (fun i => (#[.slice cS nS capS, .int .i64 aa, .string ss, .int .i64 0] : Array Value).getD i undef)) := hik (((((BX0.out.set 0 (.slice cS nS capS)).set 1 (.int .i64 aa)).set 2 (.string ss)).set 3 (.int .i64 0)).congr (fun i hi => by rcases (show i = 0 ∨ i = 1 ∨ i = 2 ∨ i = 3 by omega) with rfl | rfl | rfl | rfl <;> rfl))
              replace HTOP := hik (Nat.le_trans HTOP.out C7.out.size)
              clear C7 BX0
              generalize hUS : ((((Pz.setCell ⟨g0, 0, none⟩ (.slice cS nS capS)).setCell ⟨g0, 1, none⟩ (.int .i64 aa)).setCell ⟨g0, 2, none⟩ (.string ss)).setCell ⟨g0, 3, none⟩ (.int .i64 0)) = Ps1 at RB0 KW hHeld RS HTOP ⊢
              clear hUS
              refine wpAnyH_take (i := 14) (v := ?_) rfl (by kernel_rfl) (by kernel_rfl) (by kernel_rfl) (fun _ _ _ h => h) (Or.inl ⟨by rfl, ?_⟩) (by assumption) ?_
              rotate_left 1
              · (intro w' hSw; (try dsimp only at hSw); go_simp; try with_reducible rfl)
              try simp only [Act.put, List.setIfInBounds_toArray, List.set_cons_zero, List.set_cons_succ, List.getElem_toArray, List.getElem_cons_zero, List.getElem_cons_succ]
              refine wpAnyH_done (by kernel_rfl) ?_ _
              have R1 := hik (show World.rowIs _ g0 35 4 (pv4 (.slice cS nS capS) (.int .i64 aa) (.string ss) (.int .i64 0)) from RB0.out.congr (fun i hi => by rcases (show i = 0 ∨ i = 1 ∨ i = 2 ∨ i = 3 by omega) with rfl | rfl | rfl | rfl <;> rfl))
              clear SA RB0
              go_wp2_with fail
              go_meet
              exact ⟨cS, capS, g0, P5'.heap.size, P5.heap.size, rfl, rfl, RS, R1, KW, hik ⟨hg0, HLO.out, fun x => ha0 (.inr x), hsP5.out, HTOP.out⟩, UPS⟩
          case rest =>
            as_aux_lemma =>
              obtain ⟨hS, hsc, gZ2, lo3, hi3, rfl, rfl, OJ, RH, KW, _, _⟩ := hcut
              rename World => W24
              have s24 := hik KW.out.size
              replace G := hik (G.out.trans KW.out)
              replace A := hik (rowIs_keep A.out KW.out)
              replace CB := hik (rowIs_keep CB.out KW.out)
              replace DB := hik (rowIs_keep DB.out KW.out)
              replace RW := hik (rowIs_keep RW.out KW.out)
              replace GW := hik (GW.out.trans KW.out)
              replace OS := hik (OS.out.keep KW.out)
              replace RG := hik (rowIs_keep RG.out KW.out)
              clear KW
              have xRH0 : W24.cell? ⟨gZ2, 0, none⟩ = some (.slice hS nS hsc) := RH.out.cell (i := 0) (by omega)
              have xRH1 : W24.cell? ⟨gZ2, 1, none⟩ = some (.int .i64 aa) := RH.out.cell (i := 1) (by omega)
              have xRH2 : W24.cell? ⟨gZ2, 2, none⟩ = some (.string ss) := RH.out.cell (i := 2) (by omega)
              have xRH3 : W24.cell? ⟨gZ2, 3, none⟩ = some (.int .i64 0) := RH.out.cell (i := 3) (by omega)
              have zRH := RH.out.lt
              have xRW0 : W24.cell? ⟨gw, 0, none⟩ = some (.slice cS nS capS) := RW.out.cell (i := 0) (by omega)
              have xRW1 : W24.cell? ⟨gw, 1, none⟩ = some (.int .i64 aa) := RW.out.cell (i := 1) (by omega)
              have xRW2 : W24.cell? ⟨gw, 2, none⟩ = some (.string ss) := RW.out.cell (i := 2) (by omega)
              have xRW3 : W24.cell? ⟨gw, 3, none⟩ = some (.int .i64 0) := RW.out.cell (i := 3) (by omega)
              have zRW := RW.out.lt
              go_wp2_with fail
              refine (eqSource_any hS cS nS nS hsc capS f3 g3 f3 g3 aa ss 0 _ (hik OJ.out.pairs) (hik (SW.out.keep GW.out)) rfl (fun _ _ => ⟨rfl, rfl⟩) (by omega)).mono ?_
              rintro e W25 ⟨rfl, kk⟩
              clear xRH0 xRH1 xRH2 xRH3 zRH xRW0 xRW1 xRW2 xRW3 zRW
              have s25 := hik kk.size
              replace G := hik (G.out.trans kk)
              replace A := hik (rowIs_keep A.out kk)
              replace CB := hik (rowIs_keep CB.out kk)
              replace DB := hik (rowIs_keep DB.out kk)
              replace RW := hik (rowIs_keep RW.out kk)
              replace GW := hik (GW.out.trans kk)
              replace OS := hik (OS.out.keep kk)
              replace RG := hik (rowIs_keep RG.out kk)
              replace OJ := hik (OJ.out.keep kk)
              replace RH := hik (rowIs_keep RH.out kk)
              clear kk
              have xRG0 : W25.cell? ⟨gZ, 0, none⟩ = some (.slice gS nS gsc) := RG.out.cell (i := 0) (by omega)
              have xRG1 : W25.cell? ⟨gZ, 1, none⟩ = some (.int .i64 aa) := RG.out.cell (i := 1) (by omega)
              have xRG2 : W25.cell? ⟨gZ, 2, none⟩ = some (.string ss) := RG.out.cell (i := 2) (by omega)
              have xRG3 : W25.cell? ⟨gZ, 3, none⟩ = some (.int .i64 0) := RG.out.cell (i := 3) (by omega)
              have zRG := RG.out.lt
              go_wp2_with fail
              refine (heldSource_own gS nS gsc aa ss 0 1 _ (hik OS.out.pairs) (by omega) (by omega) (by omega)).mono ?_
              rintro e W26 ⟨rfl, kk⟩
              clear xRG0 xRG1 xRG2 xRG3 zRG
              have s26 := hik kk.size
              replace G := hik (G.out.trans kk)
              replace A := hik (rowIs_keep A.out kk)
              replace CB := hik (rowIs_keep CB.out kk)
              replace DB := hik (rowIs_keep DB.out kk)
              replace RW := hik (rowIs_keep RW.out kk)
              replace GW := hik (GW.out.trans kk)
              replace OS := hik (OS.out.keep kk)
              replace RG := hik (rowIs_keep RG.out kk)
              replace OJ := hik (OJ.out.keep kk)
              replace RH := hik (rowIs_keep RH.out kk)
              clear kk
              go_wp2
              go_ret
              exact ⟨rfl, G.out.belowAll⟩

end Go.Proofs.YtkpohajmcngjcaaGreatDoor
