/- What the laws' copy of an opening is: a contract. Conditions: an opening that can be read, lengths of at most 2 to the 20. -/
import Derived.Test.YtfbjlohnbpienaaLawD
import Derived.Test.YtfbjlohnbpienaaLawH
namespace Go.Proofs.Ytfbjlohnbpienaa
open Go.ChangeShapes Go.WideShapes Go.ChangeAt Go.RowKit
set_option linter.unusedVariables false
set_option maxRecDepth 100000
set_option linter.unusedSimpArgs false

theorem rowN_new (W : World) (n : Nat) (a : Array Value) (t : TypeId) (h : a.size = n) : (W.alloc (.cells a t)).rowIs W.heap.size t n (fun i => a.getD i undef) :=
  ⟨a, Go.Deep.blk_alloc_new _ _, h, fun i hi => by simp [h, hi]⟩
/-- An opening of a call's own. -/
def OpAns (w : World) (o : OD) (e : Ending) (w' : World) : Prop :=
  ∃ (cR : Option Addr) (pR : Nat) (cT : Option Addr) (pT : Nat) (cQ : Option Addr) (pQ m1 m2 : Nat), e = .returned (.agg #[.slice cR o.nr pR, .slice cT o.nt pT, .int .i64 o.la, .int .i64 o.lb, .int .i64 o.no, .slice cQ o.nq pQ]) ∧ w.heap.size ≤ m1 ∧ m1 ≤ m2 ∧ m2 ≤ w'.heap.size ∧ o.R.Own w' w.heap.size m1 (.slice cR o.nr pR) ∧ o.S.Own w' m1 m2 (.slice cT o.nt pT) ∧ o.Q.Own w' m2 w'.heap.size (.slice cQ o.nq pQ) ∧ Chg nob w w'
/-- An opening that can be read. -/
def OpV (w : World) (o : OD) (cR : Option Addr) (pR : Nat) (cT : Option Addr) (pT : Nat) (cQ : Option Addr) (pQ : Nat) : Prop :=
  o.R.Rep w (.slice cR o.nr pR) ∧ o.S.Rep w (.slice cT o.nt pT) ∧ o.Q.Rep w (.slice cQ o.nq pQ)
theorem OpV.keep {w w' : World} {o : OD} {cR : Option Addr} {pR : Nat} {cT : Option Addr} {pT : Nat} {cQ : Option Addr} {pQ : Nat} (h : OpV w o cR pR cT pT cQ pQ) (k : Chg nob w w') : OpV w' o cR pR cT pT cQ pQ := ⟨h.1.keep k, h.2.1.keep k, h.2.2.keep k⟩
/-- Lengths of at most 2 to the 20. -/
def OD.small (o : OD) : Prop := o.R.small 1048576 ∧ o.S.small 1048576 ∧ o.Q.small 1048576

set_option maxHeartbeats 4000000 in
theorem toOpening_d (o : OD) (cR : Option Addr) (pR : Nat) (cT : Option Addr) (pT : Nat) (cQ : Option Addr) (pQ : Nat) (w : World) (h : Hid (OpV w o cR pR cT pT cQ pQ)) (hs : Hid o.small) :
    Calls Try.prog 7 #[.agg #[.slice cR o.nr pR, .slice cT o.nt pT, .int .i64 o.la, .int .i64 o.lb, .int .i64 o.no, .slice cQ o.nq pQ]] w fun e w' => OpAns w o e w' := by
  have hst := hik hs.out.2.1
  have K0 := hik ((((Chg.refl nob w).alloc (.cells #[.slice cR o.nr pR, .slice cT o.nt pT, .int .i64 o.la, .int .i64 o.lb, .int .i64 o.no, .slice cQ o.nq pQ] 28)).alloc (.cells #[.slice none 0 0, .slice none 0 0, .int .i64 0, .int .i64 0, .int .i64 0, .slice none 0 0] 39)).alloc (.cells #[.slice none 0 0, .slice none 0 0, .int .i64 0, .int .i64 0, .int .i64 0, .slice none 0 0] 39))
  have R0 := hik (rowIs_keep (rowN_new w 6 #[.slice cR o.nr pR, .slice cT o.nt pT, .int .i64 o.la, .int .i64 o.lb, .int .i64 o.no, .slice cQ o.nq pQ] 28 rfl) (((Chg.refl nob _).alloc (.cells #[.slice none 0 0, .slice none 0 0, .int .i64 0, .int .i64 0, .int .i64 0, .slice none 0 0] 39)).alloc (.cells #[.slice none 0 0, .slice none 0 0, .int .i64 0, .int .i64 0, .int .i64 0, .slice none 0 0] 39)))
  have R1 := hik (rowIs_keep (rowN_new (w.alloc (.cells #[.slice cR o.nr pR, .slice cT o.nt pT, .int .i64 o.la, .int .i64 o.lb, .int .i64 o.no, .slice cQ o.nq pQ] 28)) 6 #[.slice none 0 0, .slice none 0 0, .int .i64 0, .int .i64 0, .int .i64 0, .slice none 0 0] 39 rfl) ((Chg.refl nob _).alloc (.cells #[.slice none 0 0, .slice none 0 0, .int .i64 0, .int .i64 0, .int .i64 0, .slice none 0 0] 39)))
  have R2 := hik (rowN_new ((w.alloc (.cells #[.slice cR o.nr pR, .slice cT o.nt pT, .int .i64 o.la, .int .i64 o.lb, .int .i64 o.no, .slice cQ o.nq pQ] 28)).alloc (.cells #[.slice none 0 0, .slice none 0 0, .int .i64 0, .int .i64 0, .int .i64 0, .slice none 0 0] 39)) 6 #[.slice none 0 0, .slice none 0 0, .int .i64 0, .int .i64 0, .int .i64 0, .slice none 0 0] 39 rfl)
  rw [asz] at R1
  rw [asz, asz] at R2
  have HZ := hik (show (((w.alloc (.cells #[.slice cR o.nr pR, .slice cT o.nt pT, .int .i64 o.la, .int .i64 o.lb, .int .i64 o.no, .slice cQ o.nq pQ] 28)).alloc (.cells #[.slice none 0 0, .slice none 0 0, .int .i64 0, .int .i64 0, .int .i64 0, .slice none 0 0] 39)).alloc (.cells #[.slice none 0 0, .slice none 0 0, .int .i64 0, .int .i64 0, .int .i64 0, .slice none 0 0] 39)).heap.size = w.heap.size + 1 + 1 + 1 by simp)
  go_enter Try.func7, Try.ntmps7
  go_wp2_with fail
  generalize hW : ((w.alloc (.cells #[.slice cR o.nr pR, .slice cT o.nt pT, .int .i64 o.la, .int .i64 o.lb, .int .i64 o.no, .slice cQ o.nq pQ] 28)).alloc (.cells #[.slice none 0 0, .slice none 0 0, .int .i64 0, .int .i64 0, .int .i64 0, .slice none 0 0] 39)).alloc (.cells #[.slice none 0 0, .slice none 0 0, .int .i64 0, .int .i64 0, .int .i64 0, .slice none 0 0] 39) = W0 at R0 R1 R2 K0 HZ ⊢
  clear hW
  have x0 : _ = some (.slice cR o.nr pR : Value) := R0.out.cell (i := 0) (by omega)
  have z0 := R0.out.lt
  refine (toExtSS_d cR o.nr pR o.rl o.rf o.rg _ (hik (h.out.1.keep K0.out)) (hik hs.out.1)).mono ?_
  rintro e W1 ⟨c1, p1, rfl, o1, k1⟩
  have O1 := hik o1
  have LL := hik (show W0.heap.size ≤ W1.heap.size from k1.size)
  replace R0 := hik (rowIs_keep R0.out k1)
  replace R1 := hik (rowIs_keep R1.out k1)
  replace R2 := hik (rowIs_keep R2.out k1)
  replace K0 := hik (K0.out.trans k1)
  clear k1 o1 x0 z0
  have y0 : _ = some (.slice none 0 0 : Value) := R2.out.cell (i := 0) (by omega)
  have v0 := R2.out.frozen 0
  have z2 := R2.out.lt
  replace R0 := hik (R0.out.setOther (a := ⟨w.heap.size + 1 + 1, 0, none⟩) (show w.heap.size ≠ w.heap.size + 1 + 1 by omega) (.slice c1 o.nr p1))
  replace R1 := hik (R1.out.setOther (a := ⟨w.heap.size + 1 + 1, 0, none⟩) (show w.heap.size + 1 ≠ w.heap.size + 1 + 1 by omega) (.slice c1 o.nr p1))
  replace R2 := hik ((R2.out.set 0 (.slice c1 o.nr p1)).congr (g := (fun i => (#[.slice c1 o.nr p1, .slice none 0 0, .int .i64 0, .int .i64 0, .int .i64 0, .slice none 0 0] : Array Value).getD i undef)) (fun i hi => by
    have hi' : i < 6 := hi
    rcases (show i = 0 ∨ i = 1 ∨ i = 2 ∨ i = 3 ∨ i = 4 ∨ i = 5 by omega) with rfl | rfl | rfl | rfl | rfl | rfl <;> rfl))
  have kS := hik ((Chg.refl (fun y => y = w.heap.size + 1 + 1) W1).setCell (p := ⟨w.heap.size + 1 + 1, 0, none⟩) (fun _ => rfl) (.slice c1 o.nr p1))
  replace O1 := hik (O1.out.chg kS.out (fun y h1 h2 e => by have := HZ.out; have := LL.out; omega))
  replace K0 := hik (K0.out.setCell (p := ⟨w.heap.size + 1 + 1, 0, none⟩) (fun l => absurd l (by simp; omega)) (.slice c1 o.nr p1))
  have SS := hik (show (W1.setCell ⟨w.heap.size + 1 + 1, 0, none⟩ (.slice c1 o.nr p1)).heap.size = W1.heap.size by simp)
  clear kS
  have x1 : _ = some (.slice cT o.nt pT : Value) := R0.out.cell (i := 1) (by omega)
  have z0 := R0.out.lt
  go_wp2_with fail
  generalize hW : W1.setCell ⟨w.heap.size + 1 + 1, 0, none⟩ (.slice c1 o.nr p1) = W2 at R0 R1 R2 K0 SS O1 x1 z0 ⊢
  clear hW y0 v0 z2
  have S2 := hik SS.out
  clear SS
  obtain ⟨c', cap', e', hTT⟩ := h.out.2.1
  cases e'
  refine (toStringB_any cT o.nt pT o.ts _ (hik (hTT.keep K0.out)) (by have : o.nt ≤ 1048576 := hst.out.1; omega)).mono ?_
  rintro e W3 ⟨rfl, r3, k3⟩
  have O2 := hik (show o.S.Own W3 W2.heap.size W3.heap.size (.slice (some ⟨W2.heap.size, 0, none⟩) o.nt o.nt) from ⟨_, _, rfl, .inr ⟨_, rfl, Nat.le_refl _, r3.lt, WRow.of r3⟩⟩)
  replace O1 := hik (O1.out.keep k3)
  have L3 := hik (show W2.heap.size ≤ W3.heap.size from k3.size)
  replace LL := hik (show W0.heap.size ≤ W2.heap.size by have := LL.out; have := S2.out; omega)
  replace R0 := hik (rowIs_keep R0.out k3)
  replace R1 := hik (rowIs_keep R1.out k3)
  replace R2 := hik (rowIs_keep R2.out k3)
  replace K0 := hik (K0.out.trans k3)
  clear k3 r3 x1 z0 hTT
  have y1 : _ = some (.slice none 0 0 : Value) := R2.out.cell (i := 1) (by omega)
  have v1 := R2.out.frozen 1
  have z2 := R2.out.lt
  replace R0 := hik (R0.out.setOther (a := ⟨w.heap.size + 1 + 1, 1, none⟩) (show w.heap.size ≠ w.heap.size + 1 + 1 by omega) (.slice (some ⟨W2.heap.size, 0, none⟩) o.nt o.nt))
  replace R1 := hik (R1.out.setOther (a := ⟨w.heap.size + 1 + 1, 1, none⟩) (show w.heap.size + 1 ≠ w.heap.size + 1 + 1 by omega) (.slice (some ⟨W2.heap.size, 0, none⟩) o.nt o.nt))
  replace R2 := hik ((R2.out.set 1 (.slice (some ⟨W2.heap.size, 0, none⟩) o.nt o.nt)).congr (g := (fun i => (#[.slice c1 o.nr p1, .slice (some ⟨W2.heap.size, 0, none⟩) o.nt o.nt, .int .i64 0, .int .i64 0, .int .i64 0, .slice none 0 0] : Array Value).getD i undef)) (fun i hi => by
    have hi' : i < 6 := hi
    rcases (show i = 0 ∨ i = 1 ∨ i = 2 ∨ i = 3 ∨ i = 4 ∨ i = 5 by omega) with rfl | rfl | rfl | rfl | rfl | rfl <;> rfl))
  have kS := hik ((Chg.refl (fun y => y = w.heap.size + 1 + 1) W3).setCell (p := ⟨w.heap.size + 1 + 1, 1, none⟩) (fun _ => rfl) (.slice (some ⟨W2.heap.size, 0, none⟩) o.nt o.nt))
  replace O1 := hik (O1.out.chg kS.out (fun y h1 h2 e => by have := HZ.out; have := LL.out; omega))
  replace O2 := hik (O2.out.chg kS.out (fun y h1 h2 e => by have := HZ.out; have := LL.out; omega))
  replace K0 := hik (K0.out.setCell (p := ⟨w.heap.size + 1 + 1, 1, none⟩) (fun l => absurd l (by simp; omega)) (.slice (some ⟨W2.heap.size, 0, none⟩) o.nt o.nt))
  have SS := hik (show (W3.setCell ⟨w.heap.size + 1 + 1, 1, none⟩ (.slice (some ⟨W2.heap.size, 0, none⟩) o.nt o.nt)).heap.size = W3.heap.size by simp)
  clear kS
  have x2 : _ = some (.int .i64 o.la : Value) := R0.out.cell (i := 2) (by omega)
  have x3 : _ = some (.int .i64 o.lb : Value) := R0.out.cell (i := 3) (by omega)
  have z0 := R0.out.lt
  go_wp2_with fail
  generalize hW : W3.setCell ⟨w.heap.size + 1 + 1, 1, none⟩ (.slice (some ⟨W2.heap.size, 0, none⟩) o.nt o.nt) = W4 at R0 R1 R2 K0 SS O1 O2 x2 x3 z0 ⊢
  clear hW y1 v1 z2
  have S4 := hik SS.out
  clear SS
  refine (toExt_any o.la o.lb _).mono ?_
  rintro e W5 ⟨rfl, k5⟩
  replace O1 := hik (O1.out.keep k5)
  replace O2 := hik (O2.out.keep k5)
  have L5 := hik (show W4.heap.size ≤ W5.heap.size from k5.size)
  replace R0 := hik (rowIs_keep R0.out k5)
  replace R1 := hik (rowIs_keep R1.out k5)
  replace R2 := hik (rowIs_keep R2.out k5)
  replace K0 := hik (K0.out.trans k5)
  clear k5 x2 x3 z0
  have y2 : _ = some (.int .i64 0 : Value) := R2.out.cell (i := 2) (by omega)
  have v2 := R2.out.frozen 2
  have y3 : _ = some (.int .i64 0 : Value) := R2.out.cell (i := 3) (by omega)
  have v3 := R2.out.frozen 3
  have z2 := R2.out.lt
  replace R0 := hik ((R0.out.setOther (a := ⟨w.heap.size + 1 + 1, 2, none⟩) (show w.heap.size ≠ w.heap.size + 1 + 1 by omega) (.int .i64 o.la)).setOther (a := ⟨w.heap.size + 1 + 1, 3, none⟩) (show w.heap.size ≠ w.heap.size + 1 + 1 by omega) (.int .i64 o.lb))
  replace R1 := hik ((R1.out.setOther (a := ⟨w.heap.size + 1 + 1, 2, none⟩) (show w.heap.size + 1 ≠ w.heap.size + 1 + 1 by omega) (.int .i64 o.la)).setOther (a := ⟨w.heap.size + 1 + 1, 3, none⟩) (show w.heap.size + 1 ≠ w.heap.size + 1 + 1 by omega) (.int .i64 o.lb))
  replace R2 := hik (((R2.out.set 2 (.int .i64 o.la)).set 3 (.int .i64 o.lb)).congr (g := (fun i => (#[.slice c1 o.nr p1, .slice (some ⟨W2.heap.size, 0, none⟩) o.nt o.nt, .int .i64 o.la, .int .i64 o.lb, .int .i64 0, .slice none 0 0] : Array Value).getD i undef)) (fun i hi => by
    have hi' : i < 6 := hi
    rcases (show i = 0 ∨ i = 1 ∨ i = 2 ∨ i = 3 ∨ i = 4 ∨ i = 5 by omega) with rfl | rfl | rfl | rfl | rfl | rfl <;> rfl))
  have kS := hik (((Chg.refl (fun y => y = w.heap.size + 1 + 1) W5).setCell (p := ⟨w.heap.size + 1 + 1, 2, none⟩) (fun _ => rfl) (.int .i64 o.la)).setCell (p := ⟨w.heap.size + 1 + 1, 3, none⟩) (fun _ => rfl) (.int .i64 o.lb))
  replace O1 := hik (O1.out.chg kS.out (fun y h1 h2 e => by have := HZ.out; have := LL.out; omega))
  replace O2 := hik (O2.out.chg kS.out (fun y h1 h2 e => by have := HZ.out; have := LL.out; omega))
  replace K0 := hik ((K0.out.setCell (p := ⟨w.heap.size + 1 + 1, 2, none⟩) (fun l => absurd l (by simp; omega)) (.int .i64 o.la)).setCell (p := ⟨w.heap.size + 1 + 1, 3, none⟩) (fun l => absurd l (by simp; omega)) (.int .i64 o.lb))
  have SS := hik (show ((W5.setCell ⟨w.heap.size + 1 + 1, 2, none⟩ (.int .i64 o.la)).setCell ⟨w.heap.size + 1 + 1, 3, none⟩ (.int .i64 o.lb)).heap.size = W5.heap.size by simp)
  clear kS
  have S5 := hik SS.out
  clear SS
  have x4 : _ = some (.int .i64 o.no : Value) := R0.out.cell (i := 4) (by omega)
  have z0 := R0.out.lt
  have y4 : _ = some (.int .i64 0 : Value) := R2.out.cell (i := 4) (by omega)
  have v4 := R2.out.frozen 4
  have z2 := R2.out.lt
  replace R0 := hik (R0.out.setOther (a := ⟨w.heap.size + 1 + 1, 4, none⟩) (show w.heap.size ≠ w.heap.size + 1 + 1 by omega) (.int .i64 o.no))
  replace R1 := hik (R1.out.setOther (a := ⟨w.heap.size + 1 + 1, 4, none⟩) (show w.heap.size + 1 ≠ w.heap.size + 1 + 1 by omega) (.int .i64 o.no))
  replace R2 := hik ((R2.out.set 4 (.int .i64 o.no)).congr (g := (fun i => (#[.slice c1 o.nr p1, .slice (some ⟨W2.heap.size, 0, none⟩) o.nt o.nt, .int .i64 o.la, .int .i64 o.lb, .int .i64 o.no, .slice none 0 0] : Array Value).getD i undef)) (fun i hi => by
    have hi' : i < 6 := hi
    rcases (show i = 0 ∨ i = 1 ∨ i = 2 ∨ i = 3 ∨ i = 4 ∨ i = 5 by omega) with rfl | rfl | rfl | rfl | rfl | rfl <;> rfl))
  have kS := hik ((Chg.refl (fun y => y = w.heap.size + 1 + 1) ((W5.setCell ⟨w.heap.size + 1 + 1, 2, none⟩ (.int .i64 o.la)).setCell ⟨w.heap.size + 1 + 1, 3, none⟩ (.int .i64 o.lb))).setCell (p := ⟨w.heap.size + 1 + 1, 4, none⟩) (fun _ => rfl) (.int .i64 o.no))
  replace O1 := hik (O1.out.chg kS.out (fun y h1 h2 e => by have := HZ.out; have := LL.out; omega))
  replace O2 := hik (O2.out.chg kS.out (fun y h1 h2 e => by have := HZ.out; have := LL.out; omega))
  replace K0 := hik (K0.out.setCell (p := ⟨w.heap.size + 1 + 1, 4, none⟩) (fun l => absurd l (by simp; omega)) (.int .i64 o.no))
  have SS := hik (show (((W5.setCell ⟨w.heap.size + 1 + 1, 2, none⟩ (.int .i64 o.la)).setCell ⟨w.heap.size + 1 + 1, 3, none⟩ (.int .i64 o.lb)).setCell ⟨w.heap.size + 1 + 1, 4, none⟩ (.int .i64 o.no)).heap.size = ((W5.setCell ⟨w.heap.size + 1 + 1, 2, none⟩ (.int .i64 o.la)).setCell ⟨w.heap.size + 1 + 1, 3, none⟩ (.int .i64 o.lb)).heap.size by simp)
  clear kS
  have S6 := hik (SS.out.trans S5.out)
  clear SS
  have x5 : _ = some (.slice cQ o.nq pQ : Value) := R0.out.cell (i := 5) (by omega)
  go_wp2_with fail
  generalize hW : ((W5.setCell ⟨w.heap.size + 1 + 1, 2, none⟩ (.int .i64 o.la)).setCell ⟨w.heap.size + 1 + 1, 3, none⟩ (.int .i64 o.lb)).setCell ⟨w.heap.size + 1 + 1, 4, none⟩ (.int .i64 o.no) = W6 at R0 R1 R2 K0 S6 O1 O2 x5 z0 ⊢
  clear hW x4 y2 v2 y3 v3 y4 v4 z2
  refine (toQueryS_d cQ o.nq pQ o.q _ (hik (h.out.2.2.keep K0.out)) (hik hs.out.2.2)).mono ?_
  rintro e W7 ⟨c7, p7, rfl, o7, k7⟩
  have O3 := hik o7
  replace O1 := hik (O1.out.keep k7)
  replace O2 := hik (O2.out.keep k7)
  have L7 := hik (show W6.heap.size ≤ W7.heap.size from k7.size)
  replace R0 := hik (rowIs_keep R0.out k7)
  replace R1 := hik (rowIs_keep R1.out k7)
  replace R2 := hik (rowIs_keep R2.out k7)
  replace K0 := hik (K0.out.trans k7)
  clear k7 o7 x5 z0
  have y0 : _ = some (.slice c1 o.nr p1 : Value) := R2.out.cell (i := 0) (by omega)
  have y1 : _ = some (.slice (some ⟨W2.heap.size, 0, none⟩) o.nt o.nt : Value) := R2.out.cell (i := 1) (by omega)
  have y2 : _ = some (.int .i64 o.la : Value) := R2.out.cell (i := 2) (by omega)
  have y3 : _ = some (.int .i64 o.lb : Value) := R2.out.cell (i := 3) (by omega)
  have y4 : _ = some (.int .i64 o.no : Value) := R2.out.cell (i := 4) (by omega)
  have u0 : _ = some (.slice none 0 0 : Value) := R1.out.cell (i := 0) (by omega)
  have f0 := R1.out.frozen 0
  have u1 : _ = some (.slice none 0 0 : Value) := R1.out.cell (i := 1) (by omega)
  have f1 := R1.out.frozen 1
  have u2 : _ = some (.int .i64 0 : Value) := R1.out.cell (i := 2) (by omega)
  have f2 := R1.out.frozen 2
  have u3 : _ = some (.int .i64 0 : Value) := R1.out.cell (i := 3) (by omega)
  have f3 := R1.out.frozen 3
  have u4 : _ = some (.int .i64 0 : Value) := R1.out.cell (i := 4) (by omega)
  have f4 := R1.out.frozen 4
  have u5 : _ = some (.slice none 0 0 : Value) := R1.out.cell (i := 5) (by omega)
  have f5 := R1.out.frozen 5
  have z1 := R1.out.lt
  have y5 : _ = some (.slice none 0 0 : Value) := R2.out.cell (i := 5) (by omega)
  have v5 := R2.out.frozen 5
  have z2 := R2.out.lt
  replace R0 := hik (R0.out.setOther (a := ⟨w.heap.size + 1 + 1, 5, none⟩) (show w.heap.size ≠ w.heap.size + 1 + 1 by omega) (.slice c7 o.nq p7))
  replace R1 := hik (R1.out.setOther (a := ⟨w.heap.size + 1 + 1, 5, none⟩) (show w.heap.size + 1 ≠ w.heap.size + 1 + 1 by omega) (.slice c7 o.nq p7))
  replace R2 := hik ((R2.out.set 5 (.slice c7 o.nq p7)).congr (g := (fun i => (#[.slice c1 o.nr p1, .slice (some ⟨W2.heap.size, 0, none⟩) o.nt o.nt, .int .i64 o.la, .int .i64 o.lb, .int .i64 o.no, .slice c7 o.nq p7] : Array Value).getD i undef)) (fun i hi => by
    have hi' : i < 6 := hi
    rcases (show i = 0 ∨ i = 1 ∨ i = 2 ∨ i = 3 ∨ i = 4 ∨ i = 5 by omega) with rfl | rfl | rfl | rfl | rfl | rfl <;> rfl))
  have kS := hik ((Chg.refl (fun y => y = w.heap.size + 1 + 1) W7).setCell (p := ⟨w.heap.size + 1 + 1, 5, none⟩) (fun _ => rfl) (.slice c7 o.nq p7))
  replace O1 := hik (O1.out.chg kS.out (fun y h1 h2 e => by have := HZ.out; have := LL.out; have := S4.out; have := S6.out; have := L3.out; have := L5.out; have := L7.out; omega))
  replace O2 := hik (O2.out.chg kS.out (fun y h1 h2 e => by have := HZ.out; have := LL.out; have := S4.out; have := S6.out; have := L3.out; have := L5.out; have := L7.out; omega))
  replace O3 := hik (O3.out.chg kS.out (fun y h1 h2 e => by have := HZ.out; have := LL.out; have := S4.out; have := S6.out; have := L3.out; have := L5.out; have := L7.out; omega))
  replace K0 := hik (K0.out.setCell (p := ⟨w.heap.size + 1 + 1, 5, none⟩) (fun l => absurd l (by simp; omega)) (.slice c7 o.nq p7))
  have SS := hik (show (W7.setCell ⟨w.heap.size + 1 + 1, 5, none⟩ (.slice c7 o.nq p7)).heap.size = W7.heap.size by simp)
  clear kS
  have d0 : ((W7.setCell ⟨w.heap.size + 1 + 1, 5, none⟩ (.slice c7 o.nq p7)).setCell ⟨w.heap.size + 1, 0, none⟩ (.slice c1 o.nr p1)).cell? ⟨w.heap.size + 1, 0, none⟩ = some (.slice c1 o.nr p1) := by have q := (R1.out.set 0 (.slice c1 o.nr p1)).cell (i := 0) (by omega); simpa using q
  have d1 : (((W7.setCell ⟨w.heap.size + 1 + 1, 5, none⟩ (.slice c7 o.nq p7)).setCell ⟨w.heap.size + 1, 0, none⟩ (.slice c1 o.nr p1)).setCell ⟨w.heap.size + 1, 1, none⟩ (.slice (some ⟨W2.heap.size, 0, none⟩) o.nt o.nt)).cell? ⟨w.heap.size + 1, 1, none⟩ = some (.slice (some ⟨W2.heap.size, 0, none⟩) o.nt o.nt) := by have q := ((R1.out.set 0 (.slice c1 o.nr p1)).set 1 (.slice (some ⟨W2.heap.size, 0, none⟩) o.nt o.nt)).cell (i := 1) (by omega); simpa using q
  have d2 : ((((W7.setCell ⟨w.heap.size + 1 + 1, 5, none⟩ (.slice c7 o.nq p7)).setCell ⟨w.heap.size + 1, 0, none⟩ (.slice c1 o.nr p1)).setCell ⟨w.heap.size + 1, 1, none⟩ (.slice (some ⟨W2.heap.size, 0, none⟩) o.nt o.nt)).setCell ⟨w.heap.size + 1, 2, none⟩ (.int .i64 o.la)).cell? ⟨w.heap.size + 1, 2, none⟩ = some (.int .i64 o.la) := by have q := (((R1.out.set 0 (.slice c1 o.nr p1)).set 1 (.slice (some ⟨W2.heap.size, 0, none⟩) o.nt o.nt)).set 2 (.int .i64 o.la)).cell (i := 2) (by omega); simpa using q
  have d3 : (((((W7.setCell ⟨w.heap.size + 1 + 1, 5, none⟩ (.slice c7 o.nq p7)).setCell ⟨w.heap.size + 1, 0, none⟩ (.slice c1 o.nr p1)).setCell ⟨w.heap.size + 1, 1, none⟩ (.slice (some ⟨W2.heap.size, 0, none⟩) o.nt o.nt)).setCell ⟨w.heap.size + 1, 2, none⟩ (.int .i64 o.la)).setCell ⟨w.heap.size + 1, 3, none⟩ (.int .i64 o.lb)).cell? ⟨w.heap.size + 1, 3, none⟩ = some (.int .i64 o.lb) := by have q := ((((R1.out.set 0 (.slice c1 o.nr p1)).set 1 (.slice (some ⟨W2.heap.size, 0, none⟩) o.nt o.nt)).set 2 (.int .i64 o.la)).set 3 (.int .i64 o.lb)).cell (i := 3) (by omega); simpa using q
  have d4 : ((((((W7.setCell ⟨w.heap.size + 1 + 1, 5, none⟩ (.slice c7 o.nq p7)).setCell ⟨w.heap.size + 1, 0, none⟩ (.slice c1 o.nr p1)).setCell ⟨w.heap.size + 1, 1, none⟩ (.slice (some ⟨W2.heap.size, 0, none⟩) o.nt o.nt)).setCell ⟨w.heap.size + 1, 2, none⟩ (.int .i64 o.la)).setCell ⟨w.heap.size + 1, 3, none⟩ (.int .i64 o.lb)).setCell ⟨w.heap.size + 1, 4, none⟩ (.int .i64 o.no)).cell? ⟨w.heap.size + 1, 4, none⟩ = some (.int .i64 o.no) := by have q := (((((R1.out.set 0 (.slice c1 o.nr p1)).set 1 (.slice (some ⟨W2.heap.size, 0, none⟩) o.nt o.nt)).set 2 (.int .i64 o.la)).set 3 (.int .i64 o.lb)).set 4 (.int .i64 o.no)).cell (i := 4) (by omega); simpa using q
  have d5 : (((((((W7.setCell ⟨w.heap.size + 1 + 1, 5, none⟩ (.slice c7 o.nq p7)).setCell ⟨w.heap.size + 1, 0, none⟩ (.slice c1 o.nr p1)).setCell ⟨w.heap.size + 1, 1, none⟩ (.slice (some ⟨W2.heap.size, 0, none⟩) o.nt o.nt)).setCell ⟨w.heap.size + 1, 2, none⟩ (.int .i64 o.la)).setCell ⟨w.heap.size + 1, 3, none⟩ (.int .i64 o.lb)).setCell ⟨w.heap.size + 1, 4, none⟩ (.int .i64 o.no)).setCell ⟨w.heap.size + 1, 5, none⟩ (.slice c7 o.nq p7)).cell? ⟨w.heap.size + 1, 5, none⟩ = some (.slice c7 o.nq p7) := by have q := ((((((R1.out.set 0 (.slice c1 o.nr p1)).set 1 (.slice (some ⟨W2.heap.size, 0, none⟩) o.nt o.nt)).set 2 (.int .i64 o.la)).set 3 (.int .i64 o.lb)).set 4 (.int .i64 o.no)).set 5 (.slice c7 o.nq p7)).cell (i := 5) (by omega); simpa using q
  have kS := hik (((((((Chg.refl (fun y => y = w.heap.size + 1) (W7.setCell ⟨w.heap.size + 1 + 1, 5, none⟩ (.slice c7 o.nq p7))).setCell (p := ⟨w.heap.size + 1, 0, none⟩) (fun _ => rfl) (.slice c1 o.nr p1)).setCell (p := ⟨w.heap.size + 1, 1, none⟩) (fun _ => rfl) (.slice (some ⟨W2.heap.size, 0, none⟩) o.nt o.nt)).setCell (p := ⟨w.heap.size + 1, 2, none⟩) (fun _ => rfl) (.int .i64 o.la)).setCell (p := ⟨w.heap.size + 1, 3, none⟩) (fun _ => rfl) (.int .i64 o.lb)).setCell (p := ⟨w.heap.size + 1, 4, none⟩) (fun _ => rfl) (.int .i64 o.no)).setCell (p := ⟨w.heap.size + 1, 5, none⟩) (fun _ => rfl) (.slice c7 o.nq p7))
  replace O1 := hik (O1.out.chg kS.out (fun y h1 h2 e => by have := HZ.out; have := LL.out; have := S4.out; have := S6.out; have := L3.out; have := L5.out; have := L7.out; omega))
  replace O2 := hik (O2.out.chg kS.out (fun y h1 h2 e => by have := HZ.out; have := LL.out; have := S4.out; have := S6.out; have := L3.out; have := L5.out; have := L7.out; omega))
  replace O3 := hik (O3.out.chg kS.out (fun y h1 h2 e => by have := HZ.out; have := LL.out; have := S4.out; have := S6.out; have := L3.out; have := L5.out; have := L7.out; omega))
  replace K0 := hik ((((((K0.out.setCell (p := ⟨w.heap.size + 1, 0, none⟩) (fun l => absurd l (by simp)) (.slice c1 o.nr p1)).setCell (p := ⟨w.heap.size + 1, 1, none⟩) (fun l => absurd l (by simp)) (.slice (some ⟨W2.heap.size, 0, none⟩) o.nt o.nt)).setCell (p := ⟨w.heap.size + 1, 2, none⟩) (fun l => absurd l (by simp)) (.int .i64 o.la)).setCell (p := ⟨w.heap.size + 1, 3, none⟩) (fun l => absurd l (by simp)) (.int .i64 o.lb)).setCell (p := ⟨w.heap.size + 1, 4, none⟩) (fun l => absurd l (by simp)) (.int .i64 o.no)).setCell (p := ⟨w.heap.size + 1, 5, none⟩) (fun l => absurd l (by simp)) (.slice c7 o.nq p7))
  have SZ := hik (show (((((((W7.setCell ⟨w.heap.size + 1 + 1, 5, none⟩ (.slice c7 o.nq p7)).setCell ⟨w.heap.size + 1, 0, none⟩ (.slice c1 o.nr p1)).setCell ⟨w.heap.size + 1, 1, none⟩ (.slice (some ⟨W2.heap.size, 0, none⟩) o.nt o.nt)).setCell ⟨w.heap.size + 1, 2, none⟩ (.int .i64 o.la)).setCell ⟨w.heap.size + 1, 3, none⟩ (.int .i64 o.lb)).setCell ⟨w.heap.size + 1, 4, none⟩ (.int .i64 o.no)).setCell ⟨w.heap.size + 1, 5, none⟩ (.slice c7 o.nq p7)).heap.size = W7.heap.size by simp)
  clear kS SS R0 R1 R2
  go_wp2
  exact bodyPost_ret (v := .agg #[.slice c1 o.nr p1, .slice (some ⟨W2.heap.size, 0, none⟩) o.nt o.nt, .int .i64 o.la, .int .i64 o.lb, .int .i64 o.no, .slice c7 o.nq p7]) (by simp [results, Try.results7, go_sem, d0, d1, d2, d3, d4, d5]) rfl ⟨_, _, _, _, _, _, W2.heap.size, W4.heap.size, rfl, by have := HZ.out; have := LL.out; omega, by have := S4.out; have := L3.out; omega, by rw [SZ.out]; have := S6.out; have := L5.out; have := L7.out; omega, O1.out.wide (by have := HZ.out; omega) (by have := S2.out; omega), O2.out.wide (Nat.le_refl _) (by have := S4.out; omega), by rw [SZ.out]; exact O3.out.wide (by have := S6.out; have := L5.out; omega) (Nat.le_refl _), K0.out⟩
end Go.Proofs.Ytfbjlohnbpienaa
