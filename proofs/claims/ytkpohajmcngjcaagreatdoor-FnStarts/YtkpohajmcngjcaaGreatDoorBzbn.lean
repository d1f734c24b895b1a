/- Several texts in one: What the program begins a proof with, and Start: contracts. Conditions: a system, public numbers and a source that can be read; the two tables lie. · Three matrices' tables, their rows bound, put together: plain. · What the model's bound table answers: a contract. Conditions: a right system, right elements, as many as its rows. · What the model's BoundTable answers: a contract. Conditions: rows that can be read, lengths of at most 2 to the 40. -/
import Derived.Test.YtkpohajmcngjcaaGreatDoorBzbd
import Derived.Test.YtkpohajmcngjcaaGreatDoorBzbg
import Derived.Test.YtkpohajmcngjcaaGreatDoorBzae
import Derived.Test.YtkpohajmcngjcaaGreatDoorBzan
import Derived.Test.YtkpohajmcngjcaaGreatDoorBzav
import Derived.Test.YtkpohajmcngjcaaGreatDoorBzas
import Derived.Test.YtkpohajmcngjcaaGreatDoorBzar
import Derived.Test.YtkpohajmcngjcaaGreatDoorBzap
namespace Go.Proofs.YtkpohajmcngjcaaGreatDoor
open Go.ChangeShapes Go.WideShapes Go.ChangeAt Go.RowKit
set_option linter.unusedVariables false
set_option maxRecDepth 100000
set_option linter.unusedSimpArgs false

/-- What has been told is taken in. -/
def TlAns (w : World) (b ls : Nat) (fs gs : Nat → Int) (at' : Int) (st : ByteArray) (e : Ending) (w' : World) : Prop :=
  ∃ (c : Option Addr) (cap : Nat), e = .returned (.tuple #[]) ∧ w'.rowIs b 78 4 (pv4 (.slice c ls cap) (.int .i64 at') (.string st) (.int .i64 0)) ∧ OwnE w' w.heap.size c ls fs gs ∧ Chg (fun x => x = b) w w'

set_option maxHeartbeats 2000000 in
theorem tell_any (b : Nat) (cs : Option Addr) (ls ps : Nat) (at' : Int) (st : ByteArray) (ct : Int) (fs gs : Nat → Int) (t : ByteArray) (w : World) (hr : Hid (w.rowIs b 78 4 (pv4 (.slice cs ls ps) (.int .i64 at') (.string st) (.int .i64 ct)))) (ht : Hid (Tabs w)) (hp : Hid (PairV w cs ls fs gs)) (hl : ls ≤ 64) (hst : st.size = 32) (hts : t.size ≤ 65536) :
    Calls Tryz.prog 77 #[.pointer (some ⟨b, 0, none⟩), .string t] w fun e w' => TlAns w b ls fs gs at' (abS st t) e w' := by
  have x0 : w.cell? ⟨b, 0, none⟩ = some (.slice cs ls ps) := hr.out.cell (i := 0) (by omega)
  have x1 : w.cell? ⟨b, 1, none⟩ = some (.int .i64 at') := hr.out.cell (i := 1) (by omega)
  have x2 : w.cell? ⟨b, 2, none⟩ = some (.string st) := hr.out.cell (i := 2) (by omega)
  have x3 : w.cell? ⟨b, 3, none⟩ = some (.int .i64 ct) := hr.out.cell (i := 3) (by omega)
  go_enter Tryz.func77, Tryz.ntmps77
  go_wp2_with fail
  refine (takingIn_any cs ls ps fs gs at' st ct t _ ht hp (by omega) hst hts).mono ?_
  rintro e W1 ⟨c1, cap1, rfl, ho, kk⟩
  have R1 := hik (rowIs_keep hr.out kk)
  have hb : b < w.heap.size := hr.out.lt
  have KS := hik (chg4_set (Chg.refl (fun x => x = b) W1) b (fun _ => rfl) (.slice c1 ls cap1) (.int .i64 at') (.string (abS st t)) (.int .i64 0))
  have OO := hik (ho.chg KS.out (fun x hx _ e => by have e : x = b := e; omega))
  have RR := hik (row4_set R1.out (.slice c1 ls cap1) (.int .i64 at') (.string (abS st t)) (.int .i64 0))
  have KK := hik (kk.wide.trans KS.out)
  clear x0 x1 x2 x3 kk ho KS

  have x0 : W1.cell? ⟨b, 0, none⟩ = some (.slice cs ls ps) := R1.out.cell (i := 0) (by omega)
  have x1 : W1.cell? ⟨b, 1, none⟩ = some (.int .i64 at') := R1.out.cell (i := 1) (by omega)
  have x2 : W1.cell? ⟨b, 2, none⟩ = some (.string st) := R1.out.cell (i := 2) (by omega)
  have x3 : W1.cell? ⟨b, 3, none⟩ = some (.int .i64 ct) := R1.out.cell (i := 3) (by omega)
  have f0 := R1.out.frozen 0
  have f1 := R1.out.frozen 1
  have f2 := R1.out.frozen 2
  have f3 := R1.out.frozen 3
  have fz := R1.out.lt
  clear R1
  go_wp2
  exact bodyPost_end (results_none rfl _ _ _) rfl ⟨c1, cap1, rfl, RR.out, OO.out, KK.out⟩

set_option maxHeartbeats 8000000 in
theorem startedTalk_any (s : Sy) (a : SyA) (r n g : Int) (c : Option Addr) (P cap : Nat) (f : Nat → Int) (cs : Option Addr) (ls ps : Nat) (at' : Int) (st : ByteArray) (ct : Int) (fs gs : Nat → Int) (w : World) (hv : Hid (SyV w s a)) (hs : s.small) (hok : Hid (sysb s = true)) (hst : Hid (stb r n g = true)) (hf : Hid (RowV w c P (iv f))) (hfb : Hid (fds P f = true)) (hP : P ≤ 4096) (hsr : Hid (PairV w cs ls fs gs)) (hls : ls ≤ 64) (hss : st.size = 32) (ht : Hid (Tabs w)) :
    Calls Tryz.prog 38 #[.agg #[.int .i64 s.r, .int .i64 s.q, .int .i64 s.p, .slice a.cA s.nA a.pA, .slice a.cB s.nB a.pB, .slice a.cC s.nC a.pC, .int .i64 r, .int .i64 n, .int .i64 g, .slice c P cap], .agg #[.slice cs ls ps, .int .i64 at', .string st, .int .i64 ct]] w fun e w' => SrAns w ls fs gs at' (abS st (stX s r n g P f)) 0 e w' := by
  have hts : (stX s r n g P f).size ≤ 65536 := by rw [stX_size]; omega
  have K0 := hik (((((Chg.refl nob w).alloc (.cells #[.int .i64 s.r, .int .i64 s.q, .int .i64 s.p, .slice a.cA s.nA a.pA, .slice a.cB s.nB a.pB, .slice a.cC s.nC a.pC, .int .i64 r, .int .i64 n, .int .i64 g, .slice c P cap] 75)).alloc (.cells #[.slice cs ls ps, .int .i64 at', .string st, .int .i64 ct] 35)).alloc (.cells #[.slice none 0 0, .int .i64 0, .string ⟨#[]⟩, .int .i64 0] 78)).alloc (.cells #[.slice cs ls ps, .int .i64 at', .string st, .int .i64 ct] 78))
  have RM := hik (rowIs_keep (rowN_new w 10 #[.int .i64 s.r, .int .i64 s.q, .int .i64 s.p, .slice a.cA s.nA a.pA, .slice a.cB s.nB a.pB, .slice a.cC s.nC a.pC, .int .i64 r, .int .i64 n, .int .i64 g, .slice c P cap] 75 rfl) ((((Chg.refl nob _).alloc (.cells #[.slice cs ls ps, .int .i64 at', .string st, .int .i64 ct] 35)).alloc (.cells #[.slice none 0 0, .int .i64 0, .string ⟨#[]⟩, .int .i64 0] 78)).alloc (.cells #[.slice cs ls ps, .int .i64 at', .string st, .int .i64 ct] 78)))
  have RZ := hik (rowIs_keep (row4_new ((w.alloc (.cells #[.int .i64 s.r, .int .i64 s.q, .int .i64 s.p, .slice a.cA s.nA a.pA, .slice a.cB s.nB a.pB, .slice a.cC s.nC a.pC, .int .i64 r, .int .i64 n, .int .i64 g, .slice c P cap] 75)).alloc (.cells #[.slice cs ls ps, .int .i64 at', .string st, .int .i64 ct] 35)) (.slice none 0 0) (.int .i64 0) (.string ⟨#[]⟩) (.int .i64 0) 78) ((Chg.refl nob _).alloc (.cells #[.slice cs ls ps, .int .i64 at', .string st, .int .i64 ct] 78)))
  have RK := hik (row4_new (((w.alloc (.cells #[.int .i64 s.r, .int .i64 s.q, .int .i64 s.p, .slice a.cA s.nA a.pA, .slice a.cB s.nB a.pB, .slice a.cC s.nC a.pC, .int .i64 r, .int .i64 n, .int .i64 g, .slice c P cap] 75)).alloc (.cells #[.slice cs ls ps, .int .i64 at', .string st, .int .i64 ct] 35)).alloc (.cells #[.slice none 0 0, .int .i64 0, .string ⟨#[]⟩, .int .i64 0] 78)) (.slice cs ls ps) (.int .i64 at') (.string st) (.int .i64 ct) 78)
  rw [asz, asz] at RZ
  rw [asz, asz, asz] at RK
  have HZ := hik (show ((((w.alloc (.cells #[.int .i64 s.r, .int .i64 s.q, .int .i64 s.p, .slice a.cA s.nA a.pA, .slice a.cB s.nB a.pB, .slice a.cC s.nC a.pC, .int .i64 r, .int .i64 n, .int .i64 g, .slice c P cap] 75)).alloc (.cells #[.slice cs ls ps, .int .i64 at', .string st, .int .i64 ct] 35)).alloc (.cells #[.slice none 0 0, .int .i64 0, .string ⟨#[]⟩, .int .i64 0] 78)).alloc (.cells #[.slice cs ls ps, .int .i64 at', .string st, .int .i64 ct] 78)).heap.size = w.heap.size + 1 + 1 + 1 + 1 by simp)
  go_enter Tryz.func38, Tryz.ntmps38
  go_wp2_with fail
  generalize hW : (((w.alloc (.cells #[.int .i64 s.r, .int .i64 s.q, .int .i64 s.p, .slice a.cA s.nA a.pA, .slice a.cB s.nB a.pB, .slice a.cC s.nC a.pC, .int .i64 r, .int .i64 n, .int .i64 g, .slice c P cap] 75)).alloc (.cells #[.slice cs ls ps, .int .i64 at', .string st, .int .i64 ct] 35)).alloc (.cells #[.slice none 0 0, .int .i64 0, .string ⟨#[]⟩, .int .i64 0] 78)).alloc (.cells #[.slice cs ls ps, .int .i64 at', .string st, .int .i64 ct] 78) = W0 at K0 RM RZ RK HZ ⊢
  clear hW
  refine (stText_any s a r n g c P cap f _ (hik (hv.out.keep K0.out)) hs hok hst (hik (hf.out.keep K0.out)) hfb hP (hik (ht.out.keep K0.out))).mono ?_
  rintro e W1 ⟨rfl, kk⟩
  replace K0 := hik (K0.out.trans kk)
  replace RZ := hik (rowIs_keep RZ.out kk)
  replace RK := hik (rowIs_keep RK.out kk)
  replace HZ := hik (show w.heap.size + 1 + 1 + 1 + 1 ≤ W1.heap.size by have := HZ.out; have := kk.size; omega)
  clear kk RM
  generalize hTX : stX s r n g P f = TX at hts ⊢
  have HTX := hik hTX
  clear hTX
  go_wp2_with fail
  refine (tell_any (w.heap.size + 1 + 1 + 1) cs ls ps at' st ct fs gs TX _ RK (hik (ht.out.keep K0.out)) (hik (hsr.out.keep K0.out)) hls hss hts).mono ?_
  rintro e W2 ⟨c2, cap2, rfl, hrow, ho, kk⟩
  have KE := hik (K0.out.near kk (fun i e => by have e : i = w.heap.size + 1 + 1 + 1 := e; omega))
  have RY := hik (rowIs_chg RZ.out kk (fun e => by have e : w.heap.size + 1 + 1 = w.heap.size + 1 + 1 + 1 := e; omega))
  have RW := hik hrow
  have OO := hik ho
  clear kk hrow ho RZ RK

  have x0 : W2.cell? ⟨w.heap.size + 1 + 1 + 1, 0, none⟩ = some (.slice c2 ls cap2) := RW.out.cell (i := 0) (by omega)
  have x1 : W2.cell? ⟨w.heap.size + 1 + 1 + 1, 1, none⟩ = some (.int .i64 at') := RW.out.cell (i := 1) (by omega)
  have x2 : W2.cell? ⟨w.heap.size + 1 + 1 + 1, 2, none⟩ = some (.string (abS st TX)) := RW.out.cell (i := 2) (by omega)
  have x3 : W2.cell? ⟨w.heap.size + 1 + 1 + 1, 3, none⟩ = some (.int .i64 0) := RW.out.cell (i := 3) (by omega)
  have y0 : W2.cell? ⟨w.heap.size + 1 + 1, 0, none⟩ = some (.slice none 0 0) := RY.out.cell (i := 0) (by omega)
  have y1 : W2.cell? ⟨w.heap.size + 1 + 1, 1, none⟩ = some (.int .i64 0) := RY.out.cell (i := 1) (by omega)
  have y2 : W2.cell? ⟨w.heap.size + 1 + 1, 2, none⟩ = some (.string ⟨#[]⟩) := RY.out.cell (i := 2) (by omega)
  have y3 : W2.cell? ⟨w.heap.size + 1 + 1, 3, none⟩ = some (.int .i64 0) := RY.out.cell (i := 3) (by omega)
  have f0 := RY.out.frozen 0
  have f1 := RY.out.frozen 1
  have f2 := RY.out.frozen 2
  have f3 := RY.out.frozen 3
  have fz := RY.out.lt
  have KS := hik (chg4_set (Chg.refl (fun x => x = w.heap.size + 1 + 1) W2) (w.heap.size + 1 + 1) (fun _ => rfl) (.slice c2 ls cap2) (.int .i64 at') (.string (abS st TX)) (.int .i64 0))
  have O9 := hik ((OO.out.chg KS.out (fun x hx ec e => by have e : x = w.heap.size + 1 + 1 := e; have := HZ.out; omega)).low (show w.heap.size ≤ W1.heap.size by have := HZ.out; omega))
  have K9 := hik (KE.out.near KS.out (fun i e => by have e : i = w.heap.size + 1 + 1 := e; omega))
  have RE := hik (row4_set RY.out (.slice c2 ls cap2) (.int .i64 at') (.string (abS st TX)) (.int .i64 0))
  clear KS RW RY
  go_wp2
  have d0 : ((((W2.setCell ⟨w.heap.size + 1 + 1, 0, none⟩ (.slice c2 ls cap2)).setCell ⟨w.heap.size + 1 + 1, 1, none⟩ (.int .i64 at')).setCell ⟨w.heap.size + 1 + 1, 2, none⟩ (.string (abS st TX))).setCell ⟨w.heap.size + 1 + 1, 3, none⟩ (.int .i64 0)).cell? ⟨w.heap.size + 1 + 1, 0, none⟩ = some (.slice c2 ls cap2) := RE.out.cell (i := 0) (by omega)
  have d1 : ((((W2.setCell ⟨w.heap.size + 1 + 1, 0, none⟩ (.slice c2 ls cap2)).setCell ⟨w.heap.size + 1 + 1, 1, none⟩ (.int .i64 at')).setCell ⟨w.heap.size + 1 + 1, 2, none⟩ (.string (abS st TX))).setCell ⟨w.heap.size + 1 + 1, 3, none⟩ (.int .i64 0)).cell? ⟨w.heap.size + 1 + 1, 1, none⟩ = some (.int .i64 at') := RE.out.cell (i := 1) (by omega)
  have d2 : ((((W2.setCell ⟨w.heap.size + 1 + 1, 0, none⟩ (.slice c2 ls cap2)).setCell ⟨w.heap.size + 1 + 1, 1, none⟩ (.int .i64 at')).setCell ⟨w.heap.size + 1 + 1, 2, none⟩ (.string (abS st TX))).setCell ⟨w.heap.size + 1 + 1, 3, none⟩ (.int .i64 0)).cell? ⟨w.heap.size + 1 + 1, 2, none⟩ = some (.string (abS st TX)) := RE.out.cell (i := 2) (by omega)
  have d3 : ((((W2.setCell ⟨w.heap.size + 1 + 1, 0, none⟩ (.slice c2 ls cap2)).setCell ⟨w.heap.size + 1 + 1, 1, none⟩ (.int .i64 at')).setCell ⟨w.heap.size + 1 + 1, 2, none⟩ (.string (abS st TX))).setCell ⟨w.heap.size + 1 + 1, 3, none⟩ (.int .i64 0)).cell? ⟨w.heap.size + 1 + 1, 3, none⟩ = some (.int .i64 0) := RE.out.cell (i := 3) (by omega)
  exact bodyPost_ret (v := .agg #[.slice c2 ls cap2, .int .i64 at', .string (abS st TX), .int .i64 0]) (by simp [results, Tryz.results38, go_sem, d0, d1, d2, d3]) rfl ⟨c2, cap2, by rw [HTX.out], O9.out, K9.out⟩

theorem field_talk (v0 v1 v2 v3 : Value) (W : World) : (Instr.field 78 (.agg #[v0, v1, v2, v3]) 0).run Tryz.prog W = .ok (.agg #[v0, v1, v2, v3]) W := by
  first | kernel_rfl | (simp [Instr.field, Tryz.underlying78]; rfl)
set_option maxHeartbeats 8000000 in
theorem start_any (s : Sy) (a : SyA) (r n g : Int) (c : Option Addr) (P cap : Nat) (f : Nat → Int) (cs : Option Addr) (ls ps : Nat) (at' : Int) (st : ByteArray) (ct : Int) (fs gs : Nat → Int) (w : World) (hv : Hid (SyV w s a)) (hs : s.small) (hf : Hid (RowV w c P (iv f))) (hP : P ≤ 1099511627776) (hsr : Hid (PairV w cs ls fs gs)) (hls : (ls : Int) ≤ 9223372036854775807) (hss : (st.size : Int) ≤ 9223372036854775807) (ht : Hid (Tabs w)) :
    Calls Tryz.prog 12 #[.agg #[.int .i64 s.r, .int .i64 s.q, .int .i64 s.p, .slice a.cA s.nA a.pA, .slice a.cB s.nB a.pB, .slice a.cC s.nC a.pC], .agg #[.int .i64 r, .int .i64 n, .int .i64 g], .slice c P cap, .agg #[.slice cs ls ps, .int .i64 at', .string st, .int .i64 ct]] w fun e w' => StAns w (stc s r n g P f (sokb fs gs ls at' st ct) at' ct) ls fs gs at' (abS st (stX s r n g P f)) e w' := by
  have K0 := hik (((((Chg.refl nob w).alloc (.cells #[.int .i64 s.r, .int .i64 s.q, .int .i64 s.p, .slice a.cA s.nA a.pA, .slice a.cB s.nB a.pB, .slice a.cC s.nC a.pC] 40)).alloc (.cells #[.int .i64 r, .int .i64 n, .int .i64 g] 42)).alloc (.cells #[.slice cs ls ps, .int .i64 at', .string st, .int .i64 ct] 35)).alloc (.cells #[.slice none 0 0, .int .i64 0, .string ⟨#[]⟩, .int .i64 0] 35))
  have RZ := hik (row4_new (((w.alloc (.cells #[.int .i64 s.r, .int .i64 s.q, .int .i64 s.p, .slice a.cA s.nA a.pA, .slice a.cB s.nB a.pB, .slice a.cC s.nC a.pC] 40)).alloc (.cells #[.int .i64 r, .int .i64 n, .int .i64 g] 42)).alloc (.cells #[.slice cs ls ps, .int .i64 at', .string st, .int .i64 ct] 35)) (.slice none 0 0) (.int .i64 0) (.string ⟨#[]⟩) (.int .i64 0) 35)
  have RR := hik (rowIs_keep (row4_new ((w.alloc (.cells #[.int .i64 s.r, .int .i64 s.q, .int .i64 s.p, .slice a.cA s.nA a.pA, .slice a.cB s.nB a.pB, .slice a.cC s.nC a.pC] 40)).alloc (.cells #[.int .i64 r, .int .i64 n, .int .i64 g] 42)) (.slice cs ls ps) (.int .i64 at') (.string st) (.int .i64 ct) 35) ((Chg.refl nob _).alloc (.cells #[.slice none 0 0, .int .i64 0, .string ⟨#[]⟩, .int .i64 0] 35)))
  rw [asz, asz, asz] at RZ
  rw [asz, asz] at RR
  by_cases hl : 4096 < P
  · have hl' : (4096 : Int) < P := by omega
    have HC := hik (show stc s r n g P f (sokb fs gs ls at' st ct) at' ct = 2 by unfold stc; rw [if_pos hl])
    rw [HC.out]
    go_enter Tryz.func12, Tryz.ntmps12
    go_wp2
    exact bodyPost_ret (v := .tuple #[.agg #[.slice none 0 0, .int .i64 0, .string ⟨#[]⟩, .int .i64 0], .int .i64 2]) (by simp [results, Tryz.results12, go_sem]) rfl ⟨(fun h => by cases h), fun _ => ⟨rfl, K0.out⟩⟩
  have hl' : ¬ (4096 : Int) < P := by omega
  have HC := hik (show stc s r n g P f (sokb fs gs ls at' st ct) at' ct = stk s r n g P f (sokb fs gs ls at' st ct) at' ct by unfold stc; rw [if_neg hl])
  rw [HC.out]
  clear HC
  go_enter Tryz.func12, Tryz.ntmps12
  go_wp2_with fail
  have KM := hik (K0.out.alloc (.cells #[.int .i64 s.r, .int .i64 s.q, .int .i64 s.p, .slice a.cA s.nA a.pA, .slice a.cB s.nB a.pB, .slice a.cC s.nC a.pC, .int .i64 r, .int .i64 n, .int .i64 g, .slice c P cap] 75))
  have RM := hik (rowN_new ((((w.alloc (.cells #[.int .i64 s.r, .int .i64 s.q, .int .i64 s.p, .slice a.cA s.nA a.pA, .slice a.cB s.nB a.pB, .slice a.cC s.nC a.pC] 40)).alloc (.cells #[.int .i64 r, .int .i64 n, .int .i64 g] 42)).alloc (.cells #[.slice cs ls ps, .int .i64 at', .string st, .int .i64 ct] 35)).alloc (.cells #[.slice none 0 0, .int .i64 0, .string ⟨#[]⟩, .int .i64 0] 35)) 10 #[.int .i64 s.r, .int .i64 s.q, .int .i64 s.p, .slice a.cA s.nA a.pA, .slice a.cB s.nB a.pB, .slice a.cC s.nC a.pC, .int .i64 r, .int .i64 n, .int .i64 g, .slice c P cap] 75 rfl)
  replace RZ := hik (rowIs_keep RZ.out ((Chg.refl nob _).alloc (.cells #[.int .i64 s.r, .int .i64 s.q, .int .i64 s.p, .slice a.cA s.nA a.pA, .slice a.cB s.nB a.pB, .slice a.cC s.nC a.pC, .int .i64 r, .int .i64 n, .int .i64 g, .slice c P cap] 75)))
  replace RR := hik (rowIs_keep RR.out ((Chg.refl nob _).alloc (.cells #[.int .i64 s.r, .int .i64 s.q, .int .i64 s.p, .slice a.cA s.nA a.pA, .slice a.cB s.nB a.pB, .slice a.cC s.nC a.pC, .int .i64 r, .int .i64 n, .int .i64 g, .slice c P cap] 75)))
  rw [asz, asz, asz, asz] at RM
  generalize hW : ((((w.alloc (.cells #[.int .i64 s.r, .int .i64 s.q, .int .i64 s.p, .slice a.cA s.nA a.pA, .slice a.cB s.nB a.pB, .slice a.cC s.nC a.pC] 40)).alloc (.cells #[.int .i64 r, .int .i64 n, .int .i64 g] 42)).alloc (.cells #[.slice cs ls ps, .int .i64 at', .string st, .int .i64 ct] 35)).alloc (.cells #[.slice none 0 0, .int .i64 0, .string ⟨#[]⟩, .int .i64 0] 35)).alloc (.cells #[.int .i64 s.r, .int .i64 s.q, .int .i64 s.p, .slice a.cA s.nA a.pA, .slice a.cB s.nB a.pB, .slice a.cC s.nC a.pC, .int .i64 r, .int .i64 n, .int .i64 g, .slice c P cap] 75) = W0 at KM RM RZ RR ⊢
  clear hW K0
  refine (startCode_any s a r n g c P cap f cs ls ps at' st ct fs gs _ (hik (hv.out.keep KM.out)) hs (hik (hf.out.keep KM.out)) hP (hik (hsr.out.keep KM.out)) hls hss).mono ?_
  rintro e W1 ⟨rfl, kk⟩
  replace KM := hik (KM.out.trans kk)
  replace RM := hik (rowIs_keep RM.out kk)
  replace RZ := hik (rowIs_keep RZ.out kk)
  replace RR := hik (rowIs_keep RR.out kk)
  clear kk
  generalize hCD : stk s r n g P f (sokb fs gs ls at' st ct) at' ct = CD
  have HCD := hik hCD
  clear hCD

  by_cases h0 : CD = 0
  rotate_left 1
  · have z0 := RZ.out.cell (i := 0) (by omega)
    clear z0
    have y0 : W1.cell? ⟨w.heap.size + 1 + 1 + 1, 0, none⟩ = some (.slice none 0 0) := RZ.out.cell (i := 0) (by omega)
    have y1 : W1.cell? ⟨w.heap.size + 1 + 1 + 1, 1, none⟩ = some (.int .i64 0) := RZ.out.cell (i := 1) (by omega)
    have y2 : W1.cell? ⟨w.heap.size + 1 + 1 + 1, 2, none⟩ = some (.string ⟨#[]⟩) := RZ.out.cell (i := 2) (by omega)
    have y3 : W1.cell? ⟨w.heap.size + 1 + 1 + 1, 3, none⟩ = some (.int .i64 0) := RZ.out.cell (i := 3) (by omega)
    have f0 := RZ.out.frozen 0
    have f1 := RZ.out.frozen 1
    have f2 := RZ.out.frozen 2
    have f3 := RZ.out.frozen 3
    have fz := RZ.out.lt
    have RE := hik (row4_set RZ.out (.slice none 0 0) (.int .i64 0) (.string ⟨#[]⟩) (.int .i64 0))
    have KE := hik (chg4_set KM.out (w.heap.size + 1 + 1 + 1) (fun l => absurd l (by omega)) (.slice none 0 0) (.int .i64 0) (.string ⟨#[]⟩) (.int .i64 0))
    clear RZ
    go_wp2
    have d0 : ((((W1.setCell ⟨w.heap.size + 1 + 1 + 1, 0, none⟩ (.slice none 0 0)).setCell ⟨w.heap.size + 1 + 1 + 1, 1, none⟩ (.int .i64 0)).setCell ⟨w.heap.size + 1 + 1 + 1, 2, none⟩ (.string ⟨#[]⟩)).setCell ⟨w.heap.size + 1 + 1 + 1, 3, none⟩ (.int .i64 0)).cell? ⟨w.heap.size + 1 + 1 + 1, 0, none⟩ = some (.slice none 0 0) := RE.out.cell (i := 0) (by omega)
    have d1 : ((((W1.setCell ⟨w.heap.size + 1 + 1 + 1, 0, none⟩ (.slice none 0 0)).setCell ⟨w.heap.size + 1 + 1 + 1, 1, none⟩ (.int .i64 0)).setCell ⟨w.heap.size + 1 + 1 + 1, 2, none⟩ (.string ⟨#[]⟩)).setCell ⟨w.heap.size + 1 + 1 + 1, 3, none⟩ (.int .i64 0)).cell? ⟨w.heap.size + 1 + 1 + 1, 1, none⟩ = some (.int .i64 0) := RE.out.cell (i := 1) (by omega)
    have d2 : ((((W1.setCell ⟨w.heap.size + 1 + 1 + 1, 0, none⟩ (.slice none 0 0)).setCell ⟨w.heap.size + 1 + 1 + 1, 1, none⟩ (.int .i64 0)).setCell ⟨w.heap.size + 1 + 1 + 1, 2, none⟩ (.string ⟨#[]⟩)).setCell ⟨w.heap.size + 1 + 1 + 1, 3, none⟩ (.int .i64 0)).cell? ⟨w.heap.size + 1 + 1 + 1, 2, none⟩ = some (.string ⟨#[]⟩) := RE.out.cell (i := 2) (by omega)
    have d3 : ((((W1.setCell ⟨w.heap.size + 1 + 1 + 1, 0, none⟩ (.slice none 0 0)).setCell ⟨w.heap.size + 1 + 1 + 1, 1, none⟩ (.int .i64 0)).setCell ⟨w.heap.size + 1 + 1 + 1, 2, none⟩ (.string ⟨#[]⟩)).setCell ⟨w.heap.size + 1 + 1 + 1, 3, none⟩ (.int .i64 0)).cell? ⟨w.heap.size + 1 + 1 + 1, 3, none⟩ = some (.int .i64 0) := RE.out.cell (i := 3) (by omega)
    exact bodyPost_ret (v := .tuple #[.agg #[.slice none 0 0, .int .i64 0, .string ⟨#[]⟩, .int .i64 0], .int .i64 CD]) (by simp [results, Tryz.results12, go_sem, d0, d1, d2, d3]) rfl ⟨fun h => absurd (HCD.out.symm.trans h) h0, fun _ => ⟨by rw [HCD.out], KE.out⟩⟩
  subst h0
  obtain ⟨q0, q1, q2, q3, q4, q5⟩ := stk_0 HCD.out
  obtain ⟨l64, s32⟩ := sokb_st q3
  have Q0 := hik q0
  have Q1 := hik q1
  have Q2 := hik q2
  clear q0 q1 q2 q3 q4 q5
  have x0 : W1.cell? ⟨w.heap.size + 1 + 1 + 1 + 1, 0, none⟩ = some (.int .i64 s.r) := RM.out.cell (i := 0) (by omega)
  have x1 : W1.cell? ⟨w.heap.size + 1 + 1 + 1 + 1, 1, none⟩ = some (.int .i64 s.q) := RM.out.cell (i := 1) (by omega)
  have x2 : W1.cell? ⟨w.heap.size + 1 + 1 + 1 + 1, 2, none⟩ = some (.int .i64 s.p) := RM.out.cell (i := 2) (by omega)
  have x3 : W1.cell? ⟨w.heap.size + 1 + 1 + 1 + 1, 3, none⟩ = some (.slice a.cA s.nA a.pA) := RM.out.cell (i := 3) (by omega)
  have x4 : W1.cell? ⟨w.heap.size + 1 + 1 + 1 + 1, 4, none⟩ = some (.slice a.cB s.nB a.pB) := RM.out.cell (i := 4) (by omega)
  have x5 : W1.cell? ⟨w.heap.size + 1 + 1 + 1 + 1, 5, none⟩ = some (.slice a.cC s.nC a.pC) := RM.out.cell (i := 5) (by omega)
  have x6 : W1.cell? ⟨w.heap.size + 1 + 1 + 1 + 1, 6, none⟩ = some (.int .i64 r) := RM.out.cell (i := 6) (by omega)
  have x7 : W1.cell? ⟨w.heap.size + 1 + 1 + 1 + 1, 7, none⟩ = some (.int .i64 n) := RM.out.cell (i := 7) (by omega)
  have x8 : W1.cell? ⟨w.heap.size + 1 + 1 + 1 + 1, 8, none⟩ = some (.int .i64 g) := RM.out.cell (i := 8) (by omega)
  have x9 : W1.cell? ⟨w.heap.size + 1 + 1 + 1 + 1, 9, none⟩ = some (.slice c P cap) := RM.out.cell (i := 9) (by omega)
  have y0 : W1.cell? ⟨w.heap.size + 1 + 1, 0, none⟩ = some (.slice cs ls ps) := RR.out.cell (i := 0) (by omega)
  have y1 : W1.cell? ⟨w.heap.size + 1 + 1, 1, none⟩ = some (.int .i64 at') := RR.out.cell (i := 1) (by omega)
  have y2 : W1.cell? ⟨w.heap.size + 1 + 1, 2, none⟩ = some (.string st) := RR.out.cell (i := 2) (by omega)
  have y3 : W1.cell? ⟨w.heap.size + 1 + 1, 3, none⟩ = some (.int .i64 ct) := RR.out.cell (i := 3) (by omega)
  go_wp2_with fail
  clear x0 x1 x2 x3 x4 x5 x6 x7 x8 x9 y0 y1 y2 y3
  refine (startedTalk_any s a r n g c P cap f cs ls ps at' st ct fs gs _ (hik (hv.out.keep KM.out)) hs Q0 Q1 (hik (hf.out.keep KM.out)) Q2 (by omega) (hik (hsr.out.keep KM.out)) l64 s32 (hik (ht.out.keep KM.out))).mono ?_
  rintro e W2 ⟨c2, cap2, rfl, ho, kk⟩
  replace RZ := hik (rowIs_keep RZ.out kk)
  have hw1 : w.heap.size ≤ W1.heap.size := KM.out.size
  have hz1 : w.heap.size + 1 + 1 + 1 + 1 < W1.heap.size := RM.out.lt
  replace KM := hik (KM.out.trans kk)
  have OO := hik ho
  clear kk ho RM RR
  generalize hSX : abS st (stX s r n g P f) = SX
  have HSX := hik hSX
  clear hSX
  have y0 : W2.cell? ⟨w.heap.size + 1 + 1 + 1, 0, none⟩ = some (.slice none 0 0) := RZ.out.cell (i := 0) (by omega)
  have y1 : W2.cell? ⟨w.heap.size + 1 + 1 + 1, 1, none⟩ = some (.int .i64 0) := RZ.out.cell (i := 1) (by omega)
  have y2 : W2.cell? ⟨w.heap.size + 1 + 1 + 1, 2, none⟩ = some (.string ⟨#[]⟩) := RZ.out.cell (i := 2) (by omega)
  have y3 : W2.cell? ⟨w.heap.size + 1 + 1 + 1, 3, none⟩ = some (.int .i64 0) := RZ.out.cell (i := 3) (by omega)
  have f0 := RZ.out.frozen 0
  have f1 := RZ.out.frozen 1
  have f2 := RZ.out.frozen 2
  have f3 := RZ.out.frozen 3
  have fz := RZ.out.lt
  have ff := field_talk (.slice c2 ls cap2) (.int .i64 at') (.string SX) (.int .i64 0)
  have KS := hik (chg4_set (Chg.refl (fun x => x = w.heap.size + 1 + 1 + 1) W2) (w.heap.size + 1 + 1 + 1) (fun _ => rfl) (.slice c2 ls cap2) (.int .i64 at') (.string SX) (.int .i64 0))
  have O9 := hik ((OO.out.chg KS.out (fun x hx ec e => by have e : x = w.heap.size + 1 + 1 + 1 := e; omega)).low hw1)
  have K9 := hik (KM.out.near KS.out (fun i e => by have e : i = w.heap.size + 1 + 1 + 1 := e; omega))
  have RE := hik (row4_set RZ.out (.slice c2 ls cap2) (.int .i64 at') (.string SX) (.int .i64 0))
  clear KS RZ
  go_wp2
  have d0 : ((((W2.setCell ⟨w.heap.size + 1 + 1 + 1, 0, none⟩ (.slice c2 ls cap2)).setCell ⟨w.heap.size + 1 + 1 + 1, 1, none⟩ (.int .i64 at')).setCell ⟨w.heap.size + 1 + 1 + 1, 2, none⟩ (.string SX)).setCell ⟨w.heap.size + 1 + 1 + 1, 3, none⟩ (.int .i64 0)).cell? ⟨w.heap.size + 1 + 1 + 1, 0, none⟩ = some (.slice c2 ls cap2) := RE.out.cell (i := 0) (by omega)
  have d1 : ((((W2.setCell ⟨w.heap.size + 1 + 1 + 1, 0, none⟩ (.slice c2 ls cap2)).setCell ⟨w.heap.size + 1 + 1 + 1, 1, none⟩ (.int .i64 at')).setCell ⟨w.heap.size + 1 + 1 + 1, 2, none⟩ (.string SX)).setCell ⟨w.heap.size + 1 + 1 + 1, 3, none⟩ (.int .i64 0)).cell? ⟨w.heap.size + 1 + 1 + 1, 1, none⟩ = some (.int .i64 at') := RE.out.cell (i := 1) (by omega)
  have d2 : ((((W2.setCell ⟨w.heap.size + 1 + 1 + 1, 0, none⟩ (.slice c2 ls cap2)).setCell ⟨w.heap.size + 1 + 1 + 1, 1, none⟩ (.int .i64 at')).setCell ⟨w.heap.size + 1 + 1 + 1, 2, none⟩ (.string SX)).setCell ⟨w.heap.size + 1 + 1 + 1, 3, none⟩ (.int .i64 0)).cell? ⟨w.heap.size + 1 + 1 + 1, 2, none⟩ = some (.string SX) := RE.out.cell (i := 2) (by omega)
  have d3 : ((((W2.setCell ⟨w.heap.size + 1 + 1 + 1, 0, none⟩ (.slice c2 ls cap2)).setCell ⟨w.heap.size + 1 + 1 + 1, 1, none⟩ (.int .i64 at')).setCell ⟨w.heap.size + 1 + 1 + 1, 2, none⟩ (.string SX)).setCell ⟨w.heap.size + 1 + 1 + 1, 3, none⟩ (.int .i64 0)).cell? ⟨w.heap.size + 1 + 1 + 1, 3, none⟩ = some (.int .i64 0) := RE.out.cell (i := 3) (by omega)
  exact bodyPost_ret (v := .tuple #[.agg #[.slice c2 ls cap2, .int .i64 at', .string SX, .int .i64 0], .int .i64 0]) (by simp [results, Tryz.results12, go_sem, d0, d1, d2, d3]) rfl ⟨fun _ => ⟨c2, cap2, by rw [HSX.out], O9.out, K9.out⟩, fun h => absurd HCD.out h⟩

end Go.Proofs.YtkpohajmcngjcaaGreatDoor

namespace Go.Proofs.YtkpohajmcngjcaaGreatDoor
set_option linter.unusedVariables false

/-- The first k entries of a matrix put into a table: r times the value times the row's share, at the column. -/
def btE (e : Nat → El) (r : El) (X : Nat → En) (T : Nat → El) : Nat → Nat → El
  | 0, j => T j
  | k + 1, j => if j = (X k).2.1.toNat then El.ad (btE e r X T k j) (El.ml r (El.ml (El.ofi (X k).2.2) (e (X k).1.toNat))) else btE e r X T k j
/-- The table behind the first k matrices. -/
def btK (s : Sy) (e : Nat → El) (r : Nat → El) : Nat → Nat → El
  | 0 => fun _ => El.zr
  | k + 1 => btE e (r k) (pk3 s.XA s.XB s.XC k) (btK s e r k) (pk3 s.nA s.nB s.nC k)
theorem btE_congr {e e' : Nat → El} {r r' : El} {X : Nat → En} {T T' : Nat → El} (hr : r = r') (hT : ∀ j, T j = T' j) : ∀ {n : Nat}, (∀ i, i < n → e (X i).1.toNat = e' (X i).1.toNat) → ∀ j, btE e r X T n j = btE e' r' X T' n j
  | 0, _, j => hT j
  | n + 1, h, j => by
    unfold btE
    rw [btE_congr hr hT (fun i hi => h i (by omega)) j, h n (by omega), hr]
theorem btK_congr {s : Sy} {e e' : Nat → El} {r : Nat → El} (h : ∀ k i, i < pk3 s.nA s.nB s.nC k → e (pk3 s.XA s.XB s.XC k i).1.toNat = e' (pk3 s.XA s.XB s.XC k i).1.toNat) : ∀ k j, btK s e r k j = btK s e' r k j
  | 0, _ => rfl
  | k + 1, j => by
    unfold btK
    exact btE_congr rfl (btK_congr h k) (fun i hi => h k i hi) j
/-- What is told of a system, a point and three elements. -/
def bdc (s : Sy) (n : Nat) (f g u v : Nat → Int) : Int := if 4096 < n then 2 else if sysb s = false ∨ okP f g n = false ∨ okP u v 3 = false then 1 else if ¬ (n : Int) = s.r then 8 else 0
def bdn (s : Sy) (n : Nat) (f g u v : Nat → Int) : Nat := if bdc s n f g u v = 0 then 2 ^ s.q.toNat else 0
def bdv (s : Sy) (n : Nat) (f g u v : Nat → Int) : Nat → El := btK s (El.eqp (elF f g) n) (elF u v) 3
/-- Columns of right entries. -/
theorem win_col {s : Sy} (h : sysb s = true) {k i : Nat} (hi : i < pk3 s.nA s.nB s.nC k) : ∃ ri ci : Nat, (pk3 s.XA s.XB s.XC k i).1 = (ri : Int) ∧ (pk3 s.XA s.XB s.XC k i).2.1 = (ci : Int) ∧ ri < 2 ^ s.r.toNat ∧ ci < 2 ^ s.q.toNat ∧ 1 ≤ (pk3 s.XA s.XB s.XC k i).2.2 ∧ (pk3 s.XA s.XB s.XC k i).2.2 < 2130706433 := by
  obtain ⟨rr, mm, er, eq_, r1, r5, m1, m4, p0, p1, hA, hB, hC⟩ := sysb_parts h
  have key : win (2 ^ rr) (2 ^ (mm + 1)) (pk3 s.XA s.XB s.XC k i) = true := by
    unfold pk3 at hi ⊢
    split at hi
    · exact (elm_parts hA).2 i hi
    · exact (elm_parts hB).2 i hi
    · exact (elm_parts hC).2 i hi
  obtain ⟨ri, ci, e1, e2, h1, h2, v0, v1⟩ := win_nat key
  have c1 := pow_cast rr
  have c2 := pow_cast (mm + 1)
  refine ⟨ri, ci, e1, e2, ?_, ?_, v0, v1⟩
  · rw [er, Int.toNat_natCast]; omega
  · rw [eq_, Int.toNat_natCast]; omega

end Go.Proofs.YtkpohajmcngjcaaGreatDoor

namespace Go.Proofs.YtkpohajmcngjcaaGreatDoor
open Go.ChangeShapes Go.WideShapes Go.ChangeAt Go.RowKit
set_option linter.unusedVariables false
set_option maxRecDepth 100000
set_option linter.unusedSimpArgs false

theorem SyV.at_ {W : World} {s : Sy} {a : SyA} (h : SyV W s a) (k : Nat) : EntV W (pk3 a.cA a.cB a.cC k) (pk3 s.nA s.nB s.nC k) (pk3 s.XA s.XB s.XC k) := by
  unfold pk3
  split
  · exact h.A
  · exact h.B
  · exact h.C


end Go.Proofs.YtkpohajmcngjcaaGreatDoor

namespace Go.Proofs.YtkpohajmcngjcaaGreatDoor
open Go.ChangeShapes Go.WideShapes Go.ChangeAt Go.RowKit
set_option linter.unusedVariables false
set_option maxRecDepth 100000
set_option linter.unusedSimpArgs false


end Go.Proofs.YtkpohajmcngjcaaGreatDoor
