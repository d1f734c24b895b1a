/- Several texts in one: What the laws' copy of an opening is: a contract. Conditions: an opening that can be read, lengths of at most 2 to the 20. · What the laws' sizes of lists of lists, queries and openings are: contracts. Conditions: lists that can be read, lengths that an int can have. -/
import Derived.Test.YtfbjlohnbpienaaGreatBzaf
import Derived.Test.YtfbjlohnbpienaaGreatBzad
namespace Go.Proofs.YtfbjlohnbpienaaGreat
open Go.ChangeShapes Go.WideShapes Go.ChangeAt Go.RowKit
set_option linter.unusedVariables false
set_option maxRecDepth 100000
set_option linter.unusedSimpArgs false

theorem rowN_new (W : World) (n : Nat) (a : Array Value) (t : TypeId) (h : a.size = n) : (W.alloc (.cells a t)).rowIs W.heap.size t n (fun i => a.getD i undef) :=
  ⟨a, Go.Deep.blk_alloc_new _ _, h, fun i hi => by simp [h, hi]⟩
/-- An opening of a call's own. -/
def OpAns (w : World) (o : OD) (e : Ending) (w' : World) : Prop :=
  ∃ (cR : Option Addr) (pR : Nat) (cT : Option Addr) (pT : Nat) (cQ : Option Addr) (pQ m1 m2 : Nat), e = .returned (.agg #[.slice cR o.nr pR, .slice cT o.nt pT, .int .i64 o.la, .int .i64 o.lb, .int .i64 o.no, .slice cQ o.nq pQ]) ∧ w.heap.size ≤ m1 ∧ m1 ≤ m2 ∧ m2 ≤ w'.heap.size ∧ o.R.Own w' w.heap.size m1 (.slice cR o.nr pR) ∧ o.S.Own w' m1 m2 (.slice cT o.nt pT) ∧ o.Q.Own w' m2 w'.heap.size (.slice cQ o.nq pQ) ∧ Chg nob w w'
/-- An opening that can be read. -/
def OpV (w : World) (o : OD) (cR : Option Addr) (pR : Nat) (cT : Option Addr) (pT : Nat) (cQ : Option Addr) (pQ : Nat) : Prop :=
  o.R.Rep w (.slice cR o.nr pR) ∧ o.S.Rep w (.slice cT o.nt pT) ∧ o.Q.Rep w (.slice cQ o.nq pQ)
theorem OpV.keep {w w' : World} {o : OD} {cR : Option Addr} {pR : Nat} {cT : Option Addr} {pT : Nat} {cQ : Option Addr} {pQ : Nat} (h : OpV w o cR pR cT pT cQ pQ) (k : Chg nob w w') : OpV w' o cR pR cT pT cQ pQ := ⟨h.1.keep k, h.2.1.keep k, h.2.2.keep k⟩
/-- Lengths of at most 2 to the 20. -/
def OD.small (o : OD) : Prop := o.R.small 1048576 ∧ o.S.small 1048576 ∧ o.Q.small 1048576

set_option maxHeartbeats 4000000 in
theorem toOpening_d (o : OD) (cR : Option Addr) (pR : Nat) (cT : Option Addr) (pT : Nat) (cQ : Option Addr) (pQ : Nat) (w : World) (h : Hid (OpV w o cR pR cT pT cQ pQ)) (hs : Hid o.small) :
    Calls Tryz.prog 25 #[.agg #[.slice cR o.nr pR, .slice cT o.nt pT, .int .i64 o.la, .int .i64 o.lb, .int .i64 o.no, .slice cQ o.nq pQ]] w fun e w' => OpAns w o e w' := by
  have hst := hik hs.out.2.1
  have K0 := hik ((((Chg.refl nob w).alloc (.cells #[.slice cR o.nr pR, .slice cT o.nt pT, .int .i64 o.la, .int .i64 o.lb, .int .i64 o.no, .slice cQ o.nq pQ] 28)).alloc (.cells #[.slice none 0 0, .slice none 0 0, .int .i64 0, .int .i64 0, .int .i64 0, .slice none 0 0] 45)).alloc (.cells #[.slice none 0 0, .slice none 0 0, .int .i64 0, .int .i64 0, .int .i64 0, .slice none 0 0] 45))
  have R0 := hik (rowIs_keep (rowN_new w 6 #[.slice cR o.nr pR, .slice cT o.nt pT, .int .i64 o.la, .int .i64 o.lb, .int .i64 o.no, .slice cQ o.nq pQ] 28 rfl) (((Chg.refl nob _).alloc (.cells #[.slice none 0 0, .slice none 0 0, .int .i64 0, .int .i64 0, .int .i64 0, .slice none 0 0] 45)).alloc (.cells #[.slice none 0 0, .slice none 0 0, .int .i64 0, .int .i64 0, .int .i64 0, .slice none 0 0] 45)))
  have R1 := hik (rowIs_keep (rowN_new (w.alloc (.cells #[.slice cR o.nr pR, .slice cT o.nt pT, .int .i64 o.la, .int .i64 o.lb, .int .i64 o.no, .slice cQ o.nq pQ] 28)) 6 #[.slice none 0 0, .slice none 0 0, .int .i64 0, .int .i64 0, .int .i64 0, .slice none 0 0] 45 rfl) ((Chg.refl nob _).alloc (.cells #[.slice none 0 0, .slice none 0 0, .int .i64 0, .int .i64 0, .int .i64 0, .slice none 0 0] 45)))
  have R2 := hik (rowN_new ((w.alloc (.cells #[.slice cR o.nr pR, .slice cT o.nt pT, .int .i64 o.la, .int .i64 o.lb, .int .i64 o.no, .slice cQ o.nq pQ] 28)).alloc (.cells #[.slice none 0 0, .slice none 0 0, .int .i64 0, .int .i64 0, .int .i64 0, .slice none 0 0] 45)) 6 #[.slice none 0 0, .slice none 0 0, .int .i64 0, .int .i64 0, .int .i64 0, .slice none 0 0] 45 rfl)
  rw [asz] at R1
  rw [asz, asz] at R2
  have HZ := hik (show (((w.alloc (.cells #[.slice cR o.nr pR, .slice cT o.nt pT, .int .i64 o.la, .int .i64 o.lb, .int .i64 o.no, .slice cQ o.nq pQ] 28)).alloc (.cells #[.slice none 0 0, .slice none 0 0, .int .i64 0, .int .i64 0, .int .i64 0, .slice none 0 0] 45)).alloc (.cells #[.slice none 0 0, .slice none 0 0, .int .i64 0, .int .i64 0, .int .i64 0, .slice none 0 0] 45)).heap.size = w.heap.size + 1 + 1 + 1 by simp)
  go_enter Tryz.func25, Tryz.ntmps25
  go_wp2_with fail
  generalize hW : ((w.alloc (.cells #[.slice cR o.nr pR, .slice cT o.nt pT, .int .i64 o.la, .int .i64 o.lb, .int .i64 o.no, .slice cQ o.nq pQ] 28)).alloc (.cells #[.slice none 0 0, .slice none 0 0, .int .i64 0, .int .i64 0, .int .i64 0, .slice none 0 0] 45)).alloc (.cells #[.slice none 0 0, .slice none 0 0, .int .i64 0, .int .i64 0, .int .i64 0, .slice none 0 0] 45) = W0 at R0 R1 R2 K0 HZ ⊢
  clear hW
  have x0 : _ = some (.slice cR o.nr pR : Value) := R0.out.cell (i := 0) (by omega)
  have z0 := R0.out.lt
  refine (toExtSS_d cR o.nr pR o.rl o.rf o.rg _ (hik (h.out.1.keep K0.out)) (hik hs.out.1)).mono ?_
  rintro e W1 ⟨c1, p1, rfl, o1, k1⟩
  have O1 := hik o1
  have LL := hik (show W0.heap.size ≤ W1.heap.size from k1.size)
  replace R0 := hik (rowIs_keep R0.out k1)
  replace R1 := hik (rowIs_keep R1.out k1)
  replace R2 := hik (rowIs_keep R2.out k1)
  replace K0 := hik (K0.out.trans k1)
  clear k1 o1 x0 z0
  have y0 : _ = some (.slice none 0 0 : Value) := R2.out.cell (i := 0) (by omega)
  have v0 := R2.out.frozen 0
  have z2 := R2.out.lt
  replace R0 := hik (R0.out.setOther (a := ⟨w.heap.size + 1 + 1, 0, none⟩) (show w.heap.size ≠ w.heap.size + 1 + 1 by omega) (.slice c1 o.nr p1))
  replace R1 := hik (R1.out.setOther (a := ⟨w.heap.size + 1 + 1, 0, none⟩) (show w.heap.size + 1 ≠ w.heap.size + 1 + 1 by omega) (.slice c1 o.nr p1))
  replace R2 := hik ((R2.out.set 0 (.slice c1 o.nr p1)).congr (g := (fun i => (#[.slice c1 o.nr p1, .slice none 0 0, .int .i64 0, .int .i64 0, .int .i64 0, .slice none 0 0] : Array Value).getD i undef)) (fun i hi => by
    have hi' : i < 6 := hi
    rcases (show i = 0 ∨ i = 1 ∨ i = 2 ∨ i = 3 ∨ i = 4 ∨ i = 5 by omega) with rfl | rfl | rfl | rfl | rfl | rfl <;> rfl))
  have kS := hik ((Chg.refl (fun y => y = w.heap.size + 1 + 1) W1).setCell (p := ⟨w.heap.size + 1 + 1, 0, none⟩) (fun _ => rfl) (.slice c1 o.nr p1))
  replace O1 := hik (O1.out.chg kS.out (fun y h1 h2 e => by have := HZ.out; have := LL.out; omega))
  replace K0 := hik (K0.out.setCell (p := ⟨w.heap.size + 1 + 1, 0, none⟩) (fun l => absurd l (by simp; omega)) (.slice c1 o.nr p1))
  have SS := hik (show (W1.setCell ⟨w.heap.size + 1 + 1, 0, none⟩ (.slice c1 o.nr p1)).heap.size = W1.heap.size by simp)
  clear kS
  have x1 : _ = some (.slice cT o.nt pT : Value) := R0.out.cell (i := 1) (by omega)
  have z0 := R0.out.lt
  go_wp2_with fail
  generalize hW : W1.setCell ⟨w.heap.size + 1 + 1, 0, none⟩ (.slice c1 o.nr p1) = W2 at R0 R1 R2 K0 SS O1 x1 z0 ⊢
  clear hW y0 v0 z2
  have S2 := hik SS.out
  clear SS
  obtain ⟨c', cap', e', hTT⟩ := h.out.2.1
  cases e'
  refine (toStringB_any cT o.nt pT o.ts _ (hik (hTT.keep K0.out)) (by have : o.nt ≤ 1048576 := hst.out.1; omega)).mono ?_
  rintro e W3 ⟨rfl, r3, k3⟩
  have O2 := hik (show o.S.Own W3 W2.heap.size W3.heap.size (.slice (some ⟨W2.heap.size, 0, none⟩) o.nt o.nt) from ⟨_, _, rfl, .inr ⟨_, rfl, Nat.le_refl _, r3.lt, WRow.of r3⟩⟩)
  replace O1 := hik (O1.out.keep k3)
  have L3 := hik (show W2.heap.size ≤ W3.heap.size from k3.size)
  replace LL := hik (show W0.heap.size ≤ W2.heap.size by have := LL.out; have := S2.out; omega)
  replace R0 := hik (rowIs_keep R0.out k3)
  replace R1 := hik (rowIs_keep R1.out k3)
  replace R2 := hik (rowIs_keep R2.out k3)
  replace K0 := hik (K0.out.trans k3)
  clear k3 r3 x1 z0 hTT
  have y1 : _ = some (.slice none 0 0 : Value) := R2.out.cell (i := 1) (by omega)
  have v1 := R2.out.frozen 1
  have z2 := R2.out.lt
  replace R0 := hik (R0.out.setOther (a := ⟨w.heap.size + 1 + 1, 1, none⟩) (show w.heap.size ≠ w.heap.size + 1 + 1 by omega) (.slice (some ⟨W2.heap.size, 0, none⟩) o.nt o.nt))
  replace R1 := hik (R1.out.setOther (a := ⟨w.heap.size + 1 + 1, 1, none⟩) (show w.heap.size + 1 ≠ w.heap.size + 1 + 1 by omega) (.slice (some ⟨W2.heap.size, 0, none⟩) o.nt o.nt))
  replace R2 := hik ((R2.out.set 1 (.slice (some ⟨W2.heap.size, 0, none⟩) o.nt o.nt)).congr (g := (fun i => (#[.slice c1 o.nr p1, .slice (some ⟨W2.heap.size, 0, none⟩) o.nt o.nt, .int .i64 0, .int .i64 0, .int .i64 0, .slice none 0 0] : Array Value).getD i undef)) (fun i hi => by
    have hi' : i < 6 := hi
    rcases (show i = 0 ∨ i = 1 ∨ i = 2 ∨ i = 3 ∨ i = 4 ∨ i = 5 by omega) with rfl | rfl | rfl | rfl | rfl | rfl <;> rfl))
  have kS := hik ((Chg.refl (fun y => y = w.heap.size + 1 + 1) W3).setCell (p := ⟨w.heap.size + 1 + 1, 1, none⟩) (fun _ => rfl) (.slice (some ⟨W2.heap.size, 0, none⟩) o.nt o.nt))
  replace O1 := hik (O1.out.chg kS.out (fun y h1 h2 e => by have := HZ.out; have := LL.out; omega))
  replace O2 := hik (O2.out.chg kS.out (fun y h1 h2 e => by have := HZ.out; have := LL.out; omega))
  replace K0 := hik (K0.out.setCell (p := ⟨w.heap.size + 1 + 1, 1, none⟩) (fun l => absurd l (by simp; omega)) (.slice (some ⟨W2.heap.size, 0, none⟩) o.nt o.nt))
  have SS := hik (show (W3.setCell ⟨w.heap.size + 1 + 1, 1, none⟩ (.slice (some ⟨W2.heap.size, 0, none⟩) o.nt o.nt)).heap.size = W3.heap.size by simp)
  clear kS
  have x2 : _ = some (.int .i64 o.la : Value) := R0.out.cell (i := 2) (by omega)
  have x3 : _ = some (.int .i64 o.lb : Value) := R0.out.cell (i := 3) (by omega)
  have z0 := R0.out.lt
  go_wp2_with fail
  generalize hW : W3.setCell ⟨w.heap.size + 1 + 1, 1, none⟩ (.slice (some ⟨W2.heap.size, 0, none⟩) o.nt o.nt) = W4 at R0 R1 R2 K0 SS O1 O2 x2 x3 z0 ⊢
  clear hW y1 v1 z2
  have S4 := hik SS.out
  clear SS
  refine (toExt_any o.la o.lb _).mono ?_
  rintro e W5 ⟨rfl, k5⟩
  replace O1 := hik (O1.out.keep k5)
  replace O2 := hik (O2.out.keep k5)
  have L5 := hik (show W4.heap.size ≤ W5.heap.size from k5.size)
  replace R0 := hik (rowIs_keep R0.out k5)
  replace R1 := hik (rowIs_keep R1.out k5)
  replace R2 := hik (rowIs_keep R2.out k5)
  replace K0 := hik (K0.out.trans k5)
  clear k5 x2 x3 z0
  have y2 : _ = some (.int .i64 0 : Value) := R2.out.cell (i := 2) (by omega)
  have v2 := R2.out.frozen 2
  have y3 : _ = some (.int .i64 0 : Value) := R2.out.cell (i := 3) (by omega)
  have v3 := R2.out.frozen 3
  have z2 := R2.out.lt
  replace R0 := hik ((R0.out.setOther (a := ⟨w.heap.size + 1 + 1, 2, none⟩) (show w.heap.size ≠ w.heap.size + 1 + 1 by omega) (.int .i64 o.la)).setOther (a := ⟨w.heap.size + 1 + 1, 3, none⟩) (show w.heap.size ≠ w.heap.size + 1 + 1 by omega) (.int .i64 o.lb))
  replace R1 := hik ((R1.out.setOther (a := ⟨w.heap.size + 1 + 1, 2, none⟩) (show w.heap.size + 1 ≠ w.heap.size + 1 + 1 by omega) (.int .i64 o.la)).setOther (a := ⟨w.heap.size + 1 + 1, 3, none⟩) (show w.heap.size + 1 ≠ w.heap.size + 1 + 1 by omega) (.int .i64 o.lb))
  replace R2 := hik (((R2.out.set 2 (.int .i64 o.la)).set 3 (.int .i64 o.lb)).congr (g := (fun i => (#[.slice c1 o.nr p1, .slice (some ⟨W2.heap.size, 0, none⟩) o.nt o.nt, .int .i64 o.la, .int .i64 o.lb, .int .i64 0, .slice none 0 0] : Array Value).getD i undef)) (fun i hi => by
    have hi' : i < 6 := hi
    rcases (show i = 0 ∨ i = 1 ∨ i = 2 ∨ i = 3 ∨ i = 4 ∨ i = 5 by omega) with rfl | rfl | rfl | rfl | rfl | rfl <;> rfl))
  have kS := hik (((Chg.refl (fun y => y = w.heap.size + 1 + 1) W5).setCell (p := ⟨w.heap.size + 1 + 1, 2, none⟩) (fun _ => rfl) (.int .i64 o.la)).setCell (p := ⟨w.heap.size + 1 + 1, 3, none⟩) (fun _ => rfl) (.int .i64 o.lb))
  replace O1 := hik (O1.out.chg kS.out (fun y h1 h2 e => by have := HZ.out; have := LL.out; omega))
  replace O2 := hik (O2.out.chg kS.out (fun y h1 h2 e => by have := HZ.out; have := LL.out; omega))
  replace K0 := hik ((K0.out.setCell (p := ⟨w.heap.size + 1 + 1, 2, none⟩) (fun l => absurd l (by simp; omega)) (.int .i64 o.la)).setCell (p := ⟨w.heap.size + 1 + 1, 3, none⟩) (fun l => absurd l (by simp; omega)) (.int .i64 o.lb))
  have SS := hik (show ((W5.setCell ⟨w.heap.size + 1 + 1, 2, none⟩ (.int .i64 o.la)).setCell ⟨w.heap.size + 1 + 1, 3, none⟩ (.int .i64 o.lb)).heap.size = W5.heap.size by simp)
  clear kS
  have S5 := hik SS.out
  clear SS
  have x4 : _ = some (.int .i64 o.no : Value) := R0.out.cell (i := 4) (by omega)
  have z0 := R0.out.lt
  have y4 : _ = some (.int .i64 0 : Value) := R2.out.cell (i := 4) (by omega)
  have v4 := R2.out.frozen 4
  have z2 := R2.out.lt
  replace R0 := hik (R0.out.setOther (a := ⟨w.heap.size + 1 + 1, 4, none⟩) (show w.heap.size ≠ w.heap.size + 1 + 1 by omega) (.int .i64 o.no))
  replace R1 := hik (R1.out.setOther (a := ⟨w.heap.size + 1 + 1, 4, none⟩) (show w.heap.size + 1 ≠ w.heap.size + 1 + 1 by omega) (.int .i64 o.no))
  replace R2 := hik ((R2.out.set 4 (.int .i64 o.no)).congr (g := (fun i => (#[.slice c1 o.nr p1, .slice (some ⟨W2.heap.size, 0, none⟩) o.nt o.nt, .int .i64 o.la, .int .i64 o.lb, .int .i64 o.no, .slice none 0 0] : Array Value).getD i undef)) (fun i hi => by
    have hi' : i < 6 := hi
    rcases (show i = 0 ∨ i = 1 ∨ i = 2 ∨ i = 3 ∨ i = 4 ∨ i = 5 by omega) with rfl | rfl | rfl | rfl | rfl | rfl <;> rfl))
  have kS := hik ((Chg.refl (fun y => y = w.heap.size + 1 + 1) ((W5.setCell ⟨w.heap.size + 1 + 1, 2, none⟩ (.int .i64 o.la)).setCell ⟨w.heap.size + 1 + 1, 3, none⟩ (.int .i64 o.lb))).setCell (p := ⟨w.heap.size + 1 + 1, 4, none⟩) (fun _ => rfl) (.int .i64 o.no))
  replace O1 := hik (O1.out.chg kS.out (fun y h1 h2 e => by have := HZ.out; have := LL.out; omega))
  replace O2 := hik (O2.out.chg kS.out (fun y h1 h2 e => by have := HZ.out; have := LL.out; omega))
  replace K0 := hik (K0.out.setCell (p := ⟨w.heap.size + 1 + 1, 4, none⟩) (fun l => absurd l (by simp; omega)) (.int .i64 o.no))
  have SS := hik (show (((W5.setCell ⟨w.heap.size + 1 + 1, 2, none⟩ (.int .i64 o.la)).setCell ⟨w.heap.size + 1 + 1, 3, none⟩ (.int .i64 o.lb)).setCell ⟨w.heap.size + 1 + 1, 4, none⟩ (.int .i64 o.no)).heap.size = ((W5.setCell ⟨w.heap.size + 1 + 1, 2, none⟩ (.int .i64 o.la)).setCell ⟨w.heap.size + 1 + 1, 3, none⟩ (.int .i64 o.lb)).heap.size by simp)
  clear kS
  have S6 := hik (SS.out.trans S5.out)
  clear SS
  have x5 : _ = some (.slice cQ o.nq pQ : Value) := R0.out.cell (i := 5) (by omega)
  go_wp2_with fail
  generalize hW : ((W5.setCell ⟨w.heap.size + 1 + 1, 2, none⟩ (.int .i64 o.la)).setCell ⟨w.heap.size + 1 + 1, 3, none⟩ (.int .i64 o.lb)).setCell ⟨w.heap.size + 1 + 1, 4, none⟩ (.int .i64 o.no) = W6 at R0 R1 R2 K0 S6 O1 O2 x5 z0 ⊢
  clear hW x4 y2 v2 y3 v3 y4 v4 z2
  refine (toQueryS_d cQ o.nq pQ o.q _ (hik (h.out.2.2.keep K0.out)) (hik hs.out.2.2)).mono ?_
  rintro e W7 ⟨c7, p7, rfl, o7, k7⟩
  have O3 := hik o7
  replace O1 := hik (O1.out.keep k7)
  replace O2 := hik (O2.out.keep k7)
  have L7 := hik (show W6.heap.size ≤ W7.heap.size from k7.size)
  replace R0 := hik (rowIs_keep R0.out k7)
  replace R1 := hik (rowIs_keep R1.out k7)
  replace R2 := hik (rowIs_keep R2.out k7)
  replace K0 := hik (K0.out.trans k7)
  clear k7 o7 x5 z0
  have y0 : _ = some (.slice c1 o.nr p1 : Value) := R2.out.cell (i := 0) (by omega)
  have y1 : _ = some (.slice (some ⟨W2.heap.size, 0, none⟩) o.nt o.nt : Value) := R2.out.cell (i := 1) (by omega)
  have y2 : _ = some (.int .i64 o.la : Value) := R2.out.cell (i := 2) (by omega)
  have y3 : _ = some (.int .i64 o.lb : Value) := R2.out.cell (i := 3) (by omega)
  have y4 : _ = some (.int .i64 o.no : Value) := R2.out.cell (i := 4) (by omega)
  have u0 : _ = some (.slice none 0 0 : Value) := R1.out.cell (i := 0) (by omega)
  have f0 := R1.out.frozen 0
  have u1 : _ = some (.slice none 0 0 : Value) := R1.out.cell (i := 1) (by omega)
  have f1 := R1.out.frozen 1
  have u2 : _ = some (.int .i64 0 : Value) := R1.out.cell (i := 2) (by omega)
  have f2 := R1.out.frozen 2
  have u3 : _ = some (.int .i64 0 : Value) := R1.out.cell (i := 3) (by omega)
  have f3 := R1.out.frozen 3
  have u4 : _ = some (.int .i64 0 : Value) := R1.out.cell (i := 4) (by omega)
  have f4 := R1.out.frozen 4
  have u5 : _ = some (.slice none 0 0 : Value) := R1.out.cell (i := 5) (by omega)
  have f5 := R1.out.frozen 5
  have z1 := R1.out.lt
  have y5 : _ = some (.slice none 0 0 : Value) := R2.out.cell (i := 5) (by omega)
  have v5 := R2.out.frozen 5
  have z2 := R2.out.lt
  replace R0 := hik (R0.out.setOther (a := ⟨w.heap.size + 1 + 1, 5, none⟩) (show w.heap.size ≠ w.heap.size + 1 + 1 by omega) (.slice c7 o.nq p7))
  replace R1 := hik (R1.out.setOther (a := ⟨w.heap.size + 1 + 1, 5, none⟩) (show w.heap.size + 1 ≠ w.heap.size + 1 + 1 by omega) (.slice c7 o.nq p7))
  replace R2 := hik ((R2.out.set 5 (.slice c7 o.nq p7)).congr (g := (fun i => (#[.slice c1 o.nr p1, .slice (some ⟨W2.heap.size, 0, none⟩) o.nt o.nt, .int .i64 o.la, .int .i64 o.lb, .int .i64 o.no, .slice c7 o.nq p7] : Array Value).getD i undef)) (fun i hi => by
    have hi' : i < 6 := hi
    rcases (show i = 0 ∨ i = 1 ∨ i = 2 ∨ i = 3 ∨ i = 4 ∨ i = 5 by omega) with rfl | rfl | rfl | rfl | rfl | rfl <;> rfl))
  have kS := hik ((Chg.refl (fun y => y = w.heap.size + 1 + 1) W7).setCell (p := ⟨w.heap.size + 1 + 1, 5, none⟩) (fun _ => rfl) (.slice c7 o.nq p7))
  replace O1 := hik (O1.out.chg kS.out (fun y h1 h2 e => by have := HZ.out; have := LL.out; have := S4.out; have := S6.out; have := L3.out; have := L5.out; have := L7.out; omega))
  replace O2 := hik (O2.out.chg kS.out (fun y h1 h2 e => by have := HZ.out; have := LL.out; have := S4.out; have := S6.out; have := L3.out; have := L5.out; have := L7.out; omega))
  replace O3 := hik (O3.out.chg kS.out (fun y h1 h2 e => by have := HZ.out; have := LL.out; have := S4.out; have := S6.out; have := L3.out; have := L5.out; have := L7.out; omega))
  replace K0 := hik (K0.out.setCell (p := ⟨w.heap.size + 1 + 1, 5, none⟩) (fun l => absurd l (by simp; omega)) (.slice c7 o.nq p7))
  have SS := hik (show (W7.setCell ⟨w.heap.size + 1 + 1, 5, none⟩ (.slice c7 o.nq p7)).heap.size = W7.heap.size by simp)
  clear kS
  have d0 : ((W7.setCell ⟨w.heap.size + 1 + 1, 5, none⟩ (.slice c7 o.nq p7)).setCell ⟨w.heap.size + 1, 0, none⟩ (.slice c1 o.nr p1)).cell? ⟨w.heap.size + 1, 0, none⟩ = some (.slice c1 o.nr p1) := by have q := (R1.out.set 0 (.slice c1 o.nr p1)).cell (i := 0) (by omega); simpa using q
  have d1 : (((W7.setCell ⟨w.heap.size + 1 + 1, 5, none⟩ (.slice c7 o.nq p7)).setCell ⟨w.heap.size + 1, 0, none⟩ (.slice c1 o.nr p1)).setCell ⟨w.heap.size + 1, 1, none⟩ (.slice (some ⟨W2.heap.size, 0, none⟩) o.nt o.nt)).cell? ⟨w.heap.size + 1, 1, none⟩ = some (.slice (some ⟨W2.heap.size, 0, none⟩) o.nt o.nt) := by have q := ((R1.out.set 0 (.slice c1 o.nr p1)).set 1 (.slice (some ⟨W2.heap.size, 0, none⟩) o.nt o.nt)).cell (i := 1) (by omega); simpa using q
  have d2 : ((((W7.setCell ⟨w.heap.size + 1 + 1, 5, none⟩ (.slice c7 o.nq p7)).setCell ⟨w.heap.size + 1, 0, none⟩ (.slice c1 o.nr p1)).setCell ⟨w.heap.size + 1, 1, none⟩ (.slice (some ⟨W2.heap.size, 0, none⟩) o.nt o.nt)).setCell ⟨w.heap.size + 1, 2, none⟩ (.int .i64 o.la)).cell? ⟨w.heap.size + 1, 2, none⟩ = some (.int .i64 o.la) := by have q := (((R1.out.set 0 (.slice c1 o.nr p1)).set 1 (.slice (some ⟨W2.heap.size, 0, none⟩) o.nt o.nt)).set 2 (.int .i64 o.la)).cell (i := 2) (by omega); simpa using q
  have d3 : (((((W7.setCell ⟨w.heap.size + 1 + 1, 5, none⟩ (.slice c7 o.nq p7)).setCell ⟨w.heap.size + 1, 0, none⟩ (.slice c1 o.nr p1)).setCell ⟨w.heap.size + 1, 1, none⟩ (.slice (some ⟨W2.heap.size, 0, none⟩) o.nt o.nt)).setCell ⟨w.heap.size + 1, 2, none⟩ (.int .i64 o.la)).setCell ⟨w.heap.size + 1, 3, none⟩ (.int .i64 o.lb)).cell? ⟨w.heap.size + 1, 3, none⟩ = some (.int .i64 o.lb) := by have q := ((((R1.out.set 0 (.slice c1 o.nr p1)).set 1 (.slice (some ⟨W2.heap.size, 0, none⟩) o.nt o.nt)).set 2 (.int .i64 o.la)).set 3 (.int .i64 o.lb)).cell (i := 3) (by omega); simpa using q
  have d4 : ((((((W7.setCell ⟨w.heap.size + 1 + 1, 5, none⟩ (.slice c7 o.nq p7)).setCell ⟨w.heap.size + 1, 0, none⟩ (.slice c1 o.nr p1)).setCell ⟨w.heap.size + 1, 1, none⟩ (.slice (some ⟨W2.heap.size, 0, none⟩) o.nt o.nt)).setCell ⟨w.heap.size + 1, 2, none⟩ (.int .i64 o.la)).setCell ⟨w.heap.size + 1, 3, none⟩ (.int .i64 o.lb)).setCell ⟨w.heap.size + 1, 4, none⟩ (.int .i64 o.no)).cell? ⟨w.heap.size + 1, 4, none⟩ = some (.int .i64 o.no) := by have q := (((((R1.out.set 0 (.slice c1 o.nr p1)).set 1 (.slice (some ⟨W2.heap.size, 0, none⟩) o.nt o.nt)).set 2 (.int .i64 o.la)).set 3 (.int .i64 o.lb)).set 4 (.int .i64 o.no)).cell (i := 4) (by omega); simpa using q
  have d5 : (((((((W7.setCell ⟨w.heap.size + 1 + 1, 5, none⟩ (.slice c7 o.nq p7)).setCell ⟨w.heap.size + 1, 0, none⟩ (.slice c1 o.nr p1)).setCell ⟨w.heap.size + 1, 1, none⟩ (.slice (some ⟨W2.heap.size, 0, none⟩) o.nt o.nt)).setCell ⟨w.heap.size + 1, 2, none⟩ (.int .i64 o.la)).setCell ⟨w.heap.size + 1, 3, none⟩ (.int .i64 o.lb)).setCell ⟨w.heap.size + 1, 4, none⟩ (.int .i64 o.no)).setCell ⟨w.heap.size + 1, 5, none⟩ (.slice c7 o.nq p7)).cell? ⟨w.heap.size + 1, 5, none⟩ = some (.slice c7 o.nq p7) := by have q := ((((((R1.out.set 0 (.slice c1 o.nr p1)).set 1 (.slice (some ⟨W2.heap.size, 0, none⟩) o.nt o.nt)).set 2 (.int .i64 o.la)).set 3 (.int .i64 o.lb)).set 4 (.int .i64 o.no)).set 5 (.slice c7 o.nq p7)).cell (i := 5) (by omega); simpa using q
  have kS := hik (((((((Chg.refl (fun y => y = w.heap.size + 1) (W7.setCell ⟨w.heap.size + 1 + 1, 5, none⟩ (.slice c7 o.nq p7))).setCell (p := ⟨w.heap.size + 1, 0, none⟩) (fun _ => rfl) (.slice c1 o.nr p1)).setCell (p := ⟨w.heap.size + 1, 1, none⟩) (fun _ => rfl) (.slice (some ⟨W2.heap.size, 0, none⟩) o.nt o.nt)).setCell (p := ⟨w.heap.size + 1, 2, none⟩) (fun _ => rfl) (.int .i64 o.la)).setCell (p := ⟨w.heap.size + 1, 3, none⟩) (fun _ => rfl) (.int .i64 o.lb)).setCell (p := ⟨w.heap.size + 1, 4, none⟩) (fun _ => rfl) (.int .i64 o.no)).setCell (p := ⟨w.heap.size + 1, 5, none⟩) (fun _ => rfl) (.slice c7 o.nq p7))
  replace O1 := hik (O1.out.chg kS.out (fun y h1 h2 e => by have := HZ.out; have := LL.out; have := S4.out; have := S6.out; have := L3.out; have := L5.out; have := L7.out; omega))
  replace O2 := hik (O2.out.chg kS.out (fun y h1 h2 e => by have := HZ.out; have := LL.out; have := S4.out; have := S6.out; have := L3.out; have := L5.out; have := L7.out; omega))
  replace O3 := hik (O3.out.chg kS.out (fun y h1 h2 e => by have := HZ.out; have := LL.out; have := S4.out; have := S6.out; have := L3.out; have := L5.out; have := L7.out; omega))
  replace K0 := hik ((((((K0.out.setCell (p := ⟨w.heap.size + 1, 0, none⟩) (fun l => absurd l (by simp)) (.slice c1 o.nr p1)).setCell (p := ⟨w.heap.size + 1, 1, none⟩) (fun l => absurd l (by simp)) (.slice (some ⟨W2.heap.size, 0, none⟩) o.nt o.nt)).setCell (p := ⟨w.heap.size + 1, 2, none⟩) (fun l => absurd l (by simp)) (.int .i64 o.la)).setCell (p := ⟨w.heap.size + 1, 3, none⟩) (fun l => absurd l (by simp)) (.int .i64 o.lb)).setCell (p := ⟨w.heap.size + 1, 4, none⟩) (fun l => absurd l (by simp)) (.int .i64 o.no)).setCell (p := ⟨w.heap.size + 1, 5, none⟩) (fun l => absurd l (by simp)) (.slice c7 o.nq p7))
  have SZ := hik (show (((((((W7.setCell ⟨w.heap.size + 1 + 1, 5, none⟩ (.slice c7 o.nq p7)).setCell ⟨w.heap.size + 1, 0, none⟩ (.slice c1 o.nr p1)).setCell ⟨w.heap.size + 1, 1, none⟩ (.slice (some ⟨W2.heap.size, 0, none⟩) o.nt o.nt)).setCell ⟨w.heap.size + 1, 2, none⟩ (.int .i64 o.la)).setCell ⟨w.heap.size + 1, 3, none⟩ (.int .i64 o.lb)).setCell ⟨w.heap.size + 1, 4, none⟩ (.int .i64 o.no)).setCell ⟨w.heap.size + 1, 5, none⟩ (.slice c7 o.nq p7)).heap.size = W7.heap.size by simp)
  clear kS SS R0 R1 R2
  go_wp2
  exact bodyPost_ret (v := .agg #[.slice c1 o.nr p1, .slice (some ⟨W2.heap.size, 0, none⟩) o.nt o.nt, .int .i64 o.la, .int .i64 o.lb, .int .i64 o.no, .slice c7 o.nq p7]) (by simp [results, Tryz.results25, go_sem, d0, d1, d2, d3, d4, d5]) rfl ⟨_, _, _, _, _, _, W2.heap.size, W4.heap.size, rfl, by have := HZ.out; have := LL.out; omega, by have := S4.out; have := L3.out; omega, by rw [SZ.out]; have := S6.out; have := L5.out; have := L7.out; omega, O1.out.wide (by have := HZ.out; omega) (by have := S2.out; omega), O2.out.wide (Nat.le_refl _) (by have := S4.out; omega), by rw [SZ.out]; exact O3.out.wide (by have := S6.out; have := L5.out; omega) (Nat.le_refl _), K0.out⟩

end Go.Proofs.YtfbjlohnbpienaaGreat

namespace Go.Proofs.YtfbjlohnbpienaaGreat
open Go.ChangeShapes Go.WideShapes Go.ChangeAt Go.RowKit
set_option linter.unusedVariables false
set_option maxRecDepth 100000
set_option linter.unusedSimpArgs false

/-- If it is not below 0, then nothing is long. -/
def SzD (d : Prop) (m : Nat) (left : Int) (w : World) (e : Ending) (w' : World) : Prop := ∃ r : Int, e = .returned (.int .i64 r) ∧ -1 ≤ r ∧ r ≤ left ∧ (0 ≤ r → d ∧ (m : Int) + r ≤ left) ∧ Chg nob w w'
/-- What szStringS answers: if it is not below 0, then nothing is long, and what is left. -/
def SzAnsN (n : Nat) (L : Nat → ByteArray) (left : Int) (w : World) (e : Ending) (w' : World) : Prop := w' = w ∧ ∃ r : Int, e = .returned (.int .i64 r) ∧ -1 ≤ r ∧ r ≤ left ∧ (0 ≤ r → (n : Int) + r ≤ left ∧ ∀ i, i < n → ((L i).size : Int) ≤ left)

set_option maxHeartbeats 1000000 in
theorem szStringN_any (c : Option Addr) (n cap : Nat) (L : Nat → ByteArray) (left : Int) (w : World) (h : Hid (RowV w c n (sb L))) (hz : Hid (∀ i, i < n → (L i).size ≤ 9223372036854775807)) (h0 : 0 ≤ left) (h1 : left ≤ 1048576) (hn : (n : Int) ≤ 9223372036854775807) :
    Calls Tryz.prog 39 #[.slice c n cap, .int .i64 left] w fun e w' => SzAnsN n L left w e w' := by
  by_cases hl : left - (n : Int) < 0
  · go_enter Tryz.func39, Tryz.ntmps39
    go_wp2
    go_ret
    exact ⟨rfl, -1, rfl, by omega, by omega, fun q => by omega⟩
  · have hl' : 0 ≤ left - (n : Int) := by omega
    go_enter Tryz.func39, Tryz.ntmps39
    go_wp2
    go_loop [1, 5] (fun v i => ∃ (k : Nat) (r : Int), k ≤ n ∧ i = .int .i64 k ∧ v = .int .i64 r ∧ 0 ≤ r ∧ r ≤ left - n ∧ Hid (∀ j, j < k → ((L j).size : Int) ≤ left)) (fun _ i => n - (intOf i).toNat)
    case atStart => exact ⟨0, _, Nat.zero_le _, rfl, rfl, hl', by omega, hik (fun j hj => absurd hj (by omega))⟩
    case round =>
      obtain ⟨k, r, hk, rfl, rfl, r0, r1, HL⟩ := hrel
      by_cases hlt : k < n
      · obtain ⟨xb, xo, rfl, hxb, hcell⟩ := h.out k hlt
        have hx : _ = some (Value.string (L k)) := hcell
        have hzk := hz.out k hlt
        clear hcell
        by_cases hs : r - ((L k).size : Int) < 0
        · go_wp2
          go_ret
          exact ⟨rfl, -1, rfl, by omega, by omega, fun q => by omega⟩
        · have hs' : 0 ≤ r - ((L k).size : Int) := by omega
          go_wp2
          go_round
          case rel => exact ⟨k + 1, _, by omega, by go_num, rfl, hs', by omega, hik (fun j hj => by
            by_cases e : j = k
            · subst e; omega
            · exact HL.out j (by omega))⟩
          case measure => simp [intOf]; omega
      · obtain rfl : k = n := by omega
        go_wp2
        go_ret
        exact ⟨rfl, r, rfl, by omega, by omega, fun _ => ⟨by omega, HL.out⟩⟩

/-- Lengths that an int can have. -/
def Dt.big (d : Dt) : Prop := d.small 9223372036854775807

theorem szExtS_d (c : Option Addr) (n cap : Nat) (f g : Nat → Int) (left : Int) (w : World) (hb : Hid ((Dt.exts n f g).big)) (h0 : 0 ≤ left) (h1 : left ≤ 1048576) :
    Calls Tryz.prog 38 #[.slice c n cap, .int .i64 left] w fun e w' => SzD ((Dt.exts n f g).small 1048576) n left w e w' := by
  have hn : n ≤ 9223372036854775807 := hb.out
  by_cases hl : left < (n : Int)
  · refine (szExtS_no c n cap left w hl h0 (by omega)).mono ?_
    rintro e w' ⟨rfl, rfl⟩
    exact ⟨-1, rfl, by omega, by omega, fun q => by omega, Chg.refl _ _⟩
  · refine (szExtS_ok c n cap left w (by omega) h1).mono ?_
    rintro e w' ⟨rfl, rfl⟩
    exact ⟨_, rfl, by omega, by omega, fun q => ⟨by show n ≤ 1048576; omega, by omega⟩, Chg.refl _ _⟩
theorem szStringS_d (c : Option Addr) (n cap : Nat) (L : Nat → ByteArray) (left : Int) (w : World) (h : Hid ((Dt.texts n L).Rep w (.slice c n cap))) (hb : Hid ((Dt.texts n L).big)) (h0 : 0 ≤ left) (h1 : left ≤ 1048576) :
    Calls Tryz.prog 39 #[.slice c n cap, .int .i64 left] w fun e w' => SzD ((Dt.texts n L).small 1048576) n left w e w' := by
  have hn : n ≤ 9223372036854775807 := hb.out.1
  obtain ⟨c', cap', e', hr⟩ := h.out
  cases e'
  refine (szStringN_any c n cap L left w (hik hr) (hik hb.out.2) h0 h1 (by omega)).mono ?_
  rintro e w' ⟨rfl, r, rfl, q1, q2, q3⟩
  exact ⟨r, rfl, q1, q2, fun q => ⟨⟨by have := (q3 q).1; omega, fun i hi => by have := (q3 q).2 i hi; omega⟩, (q3 q).1⟩, Chg.refl _ _⟩

set_option maxHeartbeats 2000000 in
theorem szStringSS_d (c : Option Addr) (n cap : Nat) (l : Nat → Nat) (T : Nat → Nat → ByteArray) (left : Int) (w : World) (h : Hid ((dSS n l T).Rep w (.slice c n cap))) (hb : Hid ((dSS n l T).big)) (h0 : 0 ≤ left) (h1 : left ≤ 1048576) :
    Calls Tryz.prog 87 #[.slice c n cap, .int .i64 left] w fun e w' => SzD ((dSS n l T).small 1048576) (sumN (fun j => l j) n) left w e w' := by
  have hn : n ≤ 9223372036854775807 := hb.out.1
  by_cases hl : left - (n : Int) < 0
  · go_enter Tryz.func87, Tryz.ntmps87
    go_wp2
    go_ret
    exact ⟨-1, rfl, by omega, by omega, fun q => by omega, Chg.refl _ _⟩
  · have hl' : 0 ≤ left - (n : Int) := by omega
    go_enter Tryz.func87, Tryz.ntmps87
    go_wp2
    go_loopw [1, 5] (fun v i W => ∃ (k : Nat) (r : Int), k ≤ n ∧ i = .int .i64 (k : Int) ∧ v = .int .i64 r ∧ 0 ≤ r ∧ r ≤ left - n ∧ Hid (∀ j, j < k → (Dt.texts (l j) (T j)).small 1048576) ∧ Hid ((sumN (fun j => l j) k : Int) + r ≤ left) ∧ Hid (Chg nob w W)) (fun _ i _ => n - (intOf i).toNat)
    case atStart => exact ⟨0, _, Nat.zero_le _, rfl, rfl, hl', by omega, hik (fun j hj => absurd hj (by omega)), hik (by simp only [sumN]; omega), hik (Chg.refl _ _)⟩
    case round =>
      obtain ⟨k, r, hk, rfl, rfl, r0, r1, HL, HS, HG⟩ := hrel
      rename World => wi
      by_cases hlt : k < n
      · have hk1 : (k : Int) < (n : Int) := by omega
        have hk0 : (0 : Int) ≤ (k : Int) := by omega
        obtain ⟨xb, xo, ec, hxb, hcc⟩ := (rep_list (h.out.keep HG.out)).2 k hlt
        obtain ⟨u, hc, hu⟩ := hcc 0 (by omega)
        have hu0 := hu
        obtain ⟨c1, cap1, rfl, hP⟩ := hu
        subst ec
        rw [show xo + (k * 1 + 0) = xo + k by omega] at hc
        have PJ := hik hu0
        have BK := hik (show (Dt.texts (l k) (T k)).big from hb.out.2 k 0 hlt (by omega))
        clear hP hcc hu0
        go_wp2_with fail
        refine (szStringS_d c1 (l k) cap1 (T k) r _ PJ BK r0 (by omega)).mono ?_
        rintro e W1 ⟨r', rfl, q1, q2, q3, k1⟩
        have G1 := hik (HG.out.trans k1)
        have Q3 := hik q3
        clear k1 q3 hc PJ
        by_cases hs : r' < 0
        · go_wp2
          go_ret
          exact ⟨-1, rfl, by omega, by omega, fun q => by omega, G1.out⟩
        · go_wp2
          go_roundw
          case rel => exact ⟨k + 1, r', by omega, by go_num, rfl, by omega, by omega, hik (fun j hj => by
            by_cases e : j = k
            · subst e; exact (Q3.out (by omega)).1
            · exact HL.out j (by omega)), hik (by have q4 := (Q3.out (by omega)).2; have q5 := HS.out; simp only [sumN] at q4 ⊢; omega), G1⟩
          case measure => simp [intOf]; omega
      · obtain rfl : n = k := by omega
        have hcc : ¬ (n : Int) < (n : Int) := by omega
        go_wp2
        go_ret
        exact ⟨r, rfl, by omega, by omega, fun _ => ⟨⟨by omega, fun i j hi hj => HL.out i hi⟩, HS.out⟩, HG.out⟩

set_option maxHeartbeats 2000000 in
theorem szExtSS_d (c : Option Addr) (n cap : Nat) (l : Nat → Nat) (f g : Nat → Nat → Int) (left : Int) (w : World) (h : Hid ((dEE n l f g).Rep w (.slice c n cap))) (hb : Hid ((dEE n l f g).big)) (h0 : 0 ≤ left) (h1 : left ≤ 1048576) :
    Calls Tryz.prog 18 #[.slice c n cap, .int .i64 left] w fun e w' => SzD ((dEE n l f g).small 1048576) (sumN (fun j => l j) n) left w e w' := by
  have hn : n ≤ 9223372036854775807 := hb.out.1
  by_cases hl : left - (n : Int) < 0
  · go_enter Tryz.func18, Tryz.ntmps18
    go_wp2
    go_ret
    exact ⟨-1, rfl, by omega, by omega, fun q => by omega, Chg.refl _ _⟩
  · have hl' : 0 ≤ left - (n : Int) := by omega
    go_enter Tryz.func18, Tryz.ntmps18
    go_wp2
    go_loopw [1, 5] (fun v i W => ∃ (k : Nat) (r : Int), k ≤ n ∧ i = .int .i64 (k : Int) ∧ v = .int .i64 r ∧ 0 ≤ r ∧ r ≤ left - n ∧ Hid (∀ j, j < k → (Dt.exts (l j) (f j) (g j)).small 1048576) ∧ Hid ((sumN (fun j => l j) k : Int) + r ≤ left) ∧ Hid (Chg nob w W)) (fun _ i _ => n - (intOf i).toNat)
    case atStart => exact ⟨0, _, Nat.zero_le _, rfl, rfl, hl', by omega, hik (fun j hj => absurd hj (by omega)), hik (by simp only [sumN]; omega), hik (Chg.refl _ _)⟩
    case round =>
      obtain ⟨k, r, hk, rfl, rfl, r0, r1, HL, HS, HG⟩ := hrel
      rename World => wi
      by_cases hlt : k < n
      · have hk1 : (k : Int) < (n : Int) := by omega
        have hk0 : (0 : Int) ≤ (k : Int) := by omega
        obtain ⟨xb, xo, ec, hxb, hcc⟩ := (rep_list (h.out.keep HG.out)).2 k hlt
        obtain ⟨u, hc, hu⟩ := hcc 0 (by omega)
        have hu0 := hu
        obtain ⟨c1, cap1, rfl, hP⟩ := hu
        subst ec
        rw [show xo + (k * 1 + 0) = xo + k by omega] at hc
        have PJ := hik hu0
        have BK := hik (show (Dt.exts (l k) (f k) (g k)).big from hb.out.2 k 0 hlt (by omega))
        clear hP hcc hu0
        go_wp2_with fail
        refine (szExtS_d c1 (l k) cap1 (f k) (g k) r _ BK r0 (by omega)).mono ?_
        rintro e W1 ⟨r', rfl, q1, q2, q3, k1⟩
        have G1 := hik (HG.out.trans k1)
        have Q3 := hik q3
        clear k1 q3 hc PJ
        by_cases hs : r' < 0
        · go_wp2
          go_ret
          exact ⟨-1, rfl, by omega, by omega, fun q => by omega, G1.out⟩
        · go_wp2
          go_roundw
          case rel => exact ⟨k + 1, r', by omega, by go_num, rfl, by omega, by omega, hik (fun j hj => by
            by_cases e : j = k
            · subst e; exact (Q3.out (by omega)).1
            · exact HL.out j (by omega)), hik (by have q4 := (Q3.out (by omega)).2; have q5 := HS.out; simp only [sumN] at q4 ⊢; omega), G1⟩
          case measure => simp [intOf]; omega
      · obtain rfl : n = k := by omega
        have hcc : ¬ (n : Int) < (n : Int) := by omega
        go_wp2
        go_ret
        exact ⟨r, rfl, by omega, by omega, fun _ => ⟨⟨by omega, fun i j hi hj => HL.out i hi⟩, HS.out⟩, HG.out⟩

/-- How many items a query has; an opening. -/
def QD.cnt (q : QD) : Nat := q.np + sumN (fun j => q.l j) q.nq
def OD.cnt (o : OD) : Nat := sumN (fun j => o.rl j) o.nr + o.nt + sumN (fun j => (o.q j).cnt) o.nq

set_option maxHeartbeats 2000000 in
theorem szQuery_d (c : Option Addr) (cap : Nat) (c' : Option Addr) (cap' : Nat) (q : QD) (left : Int) (w : World) (h' : Hid (q.S.Rep w (.slice c' q.nq cap'))) (hb : Hid q.P.big) (hb' : Hid q.S.big) (h0 : 0 ≤ left) (h1 : left ≤ 1048576) :
    Calls Tryz.prog 66 #[.agg #[.slice c q.np cap, .slice c' q.nq cap'], .int .i64 left] w fun e w' => SzD (q.P.small 1048576 ∧ q.S.small 1048576) q.cnt left w e w' := by
  have R0 := hik (row2_new w (.slice c q.np cap) (.slice c' q.nq cap') 115)
  have K0 := hik ((Chg.refl nob w).alloc (.cells #[.slice c q.np cap, .slice c' q.nq cap'] 115))
  go_enter Tryz.func66, Tryz.ntmps66
  go_wp2_with fail
  generalize hW : w.alloc (.cells #[.slice c q.np cap, .slice c' q.nq cap'] 115) = W0 at R0 K0 ⊢
  clear hW
  refine (szExtS_d c q.np cap q.f q.g left _ hb h0 h1).mono ?_
  rintro e W1 ⟨r, rfl, q1, q2, q3, k1⟩
  have G1 := hik (K0.out.trans k1)
  have Q3 := hik q3
  replace R0 := hik (rowIs_keep R0.out k1)
  clear k1 q3
  by_cases hs : r < 0
  · go_wp2
    go_ret
    exact ⟨-1, rfl, by omega, by omega, fun q => by omega, G1.out⟩
  · have x1 := row2_c1 R0.out
    go_wp2_with fail
    refine (szStringSS_d c' q.nq cap' q.l q.T r _ (hik (h'.out.keep G1.out)) hb' (by omega) (by omega)).mono ?_
    rintro e W2 ⟨r2, rfl, p1, p2, p3, k2⟩
    have G2 := hik (G1.out.trans k2)
    have P3 := hik p3
    clear k2 p3 x1
    by_cases hs2 : r2 < 0
    · go_wp2
      go_ret
      exact ⟨-1, rfl, by omega, by omega, fun q => by omega, G2.out⟩
    · go_wp2
      go_ret
      exact ⟨r2, rfl, by omega, by omega, fun _ => ⟨⟨(Q3.out (by omega)).1, (P3.out (by omega)).1⟩, by have q4 := (Q3.out (by omega)).2; have q5 := (P3.out (by omega)).2; show ((q.np + sumN (fun j => q.l j) q.nq : Nat) : Int) + r2 ≤ left; omega⟩, G2.out⟩

set_option maxHeartbeats 2000000 in
theorem szQueryS_d (c : Option Addr) (n cap : Nat) (q : Nat → QD) (left : Int) (w : World) (h : Hid ((dQs n q).Rep w (.slice c n cap))) (hb : Hid ((dQs n q).big)) (h0 : 0 ≤ left) (h1 : left ≤ 1048576) :
    Calls Tryz.prog 40 #[.slice c n cap, .int .i64 left] w fun e w' => SzD ((dQs n q).small 1048576) (sumN (fun j => (q j).cnt) n) left w e w' := by
  have hn : n ≤ 9223372036854775807 := hb.out.1
  by_cases hl : left - (n : Int) < 0
  · go_enter Tryz.func40, Tryz.ntmps40
    go_wp2
    go_ret
    exact ⟨-1, rfl, by omega, by omega, fun q => by omega, Chg.refl _ _⟩
  · have hl' : 0 ≤ left - (n : Int) := by omega
    go_enter Tryz.func40, Tryz.ntmps40
    go_wp2
    go_loopw [1, 5] (fun v i W => ∃ (k : Nat) (r : Int), k ≤ n ∧ i = .int .i64 (k : Int) ∧ v = .int .i64 r ∧ 0 ≤ r ∧ r ≤ left - n ∧ Hid (∀ j, j < k → (q j).P.small 1048576 ∧ (q j).S.small 1048576) ∧ Hid ((sumN (fun j => (q j).cnt) k : Int) + r ≤ left) ∧ Hid (Chg nob w W)) (fun _ i _ => n - (intOf i).toNat)
    case atStart => exact ⟨0, _, Nat.zero_le _, rfl, rfl, hl', by omega, hik (fun j hj => absurd hj (by omega)), hik (by simp only [sumN]; omega), hik (Chg.refl _ _)⟩
    case round =>
      obtain ⟨k, r, hk, rfl, rfl, r0, r1, HL, HS, HG⟩ := hrel
      rename World => wi
      by_cases hlt : k < n
      · have hk1 : (k : Int) < (n : Int) := by omega
        have hk0 : (0 : Int) ≤ (k : Int) := by omega
        obtain ⟨xb, xo, ca, pa, cb, pb, ec, hxb, hc0, hc1, hP, hS⟩ := dQs_at (h.out.keep HG.out) hlt
        subst ec
        have SJ := hik hS
        have B0 := hik (show (q k).P.big from hb.out.2 k 0 hlt (by omega))
        have B1 := hik (show (q k).S.big from hb.out.2 k 1 hlt (by omega))
        clear hP hS
        go_wp2_with fail
        refine (szQuery_d ca pa cb pb (q k) r _ SJ B0 B1 r0 (by omega)).mono ?_
        rintro e W1 ⟨r', rfl, q1, q2, q3, k1⟩
        have G1 := hik (HG.out.trans k1)
        have Q3 := hik q3
        clear k1 q3 hc0 hc1 SJ
        by_cases hs : r' < 0
        · go_wp2
          go_ret
          exact ⟨-1, rfl, by omega, by omega, fun q => by omega, G1.out⟩
        · go_wp2
          go_roundw
          case rel => exact ⟨k + 1, r', by omega, by go_num, rfl, by omega, by omega, hik (fun j hj => by
            by_cases e : j = k
            · subst e; exact (Q3.out (by omega)).1
            · exact HL.out j (by omega)), hik (by have q4 := (Q3.out (by omega)).2; have q5 := HS.out; simp only [sumN] at q4 ⊢; omega), G1⟩
          case measure => simp [intOf]; omega
      · obtain rfl : n = k := by omega
        have hcc : ¬ (n : Int) < (n : Int) := by omega
        go_wp2
        go_ret
        exact ⟨r, rfl, by omega, by omega, fun _ => ⟨⟨by omega, fun i j hi hj => by
          rcases (show j = 0 ∨ j = 1 by omega) with rfl | rfl
          · exact (HL.out i hi).1
          · exact (HL.out i hi).2⟩, HS.out⟩, HG.out⟩

/-- Lengths that an int can have. -/
def OD.big (o : OD) : Prop := o.R.big ∧ o.S.big ∧ o.Q.big

set_option maxHeartbeats 2000000 in
theorem szOpening_d (o : OD) (cR : Option Addr) (pR : Nat) (cT : Option Addr) (pT : Nat) (cQ : Option Addr) (pQ : Nat) (left : Int) (w : World) (h : Hid (OpV w o cR pR cT pT cQ pQ)) (hb : Hid o.big) (h0 : 0 ≤ left) (h1 : left ≤ 1048576) :
    Calls Tryz.prog 19 #[.agg #[.slice cR o.nr pR, .slice cT o.nt pT, .int .i64 o.la, .int .i64 o.lb, .int .i64 o.no, .slice cQ o.nq pQ], .int .i64 left] w fun e w' => SzD o.small o.cnt left w e w' := by
  have R0 := hik (rowN_new w 6 #[.slice cR o.nr pR, .slice cT o.nt pT, .int .i64 o.la, .int .i64 o.lb, .int .i64 o.no, .slice cQ o.nq pQ] 28 rfl)
  have K0 := hik ((Chg.refl nob w).alloc (.cells #[.slice cR o.nr pR, .slice cT o.nt pT, .int .i64 o.la, .int .i64 o.lb, .int .i64 o.no, .slice cQ o.nq pQ] 28))
  go_enter Tryz.func19, Tryz.ntmps19
  go_wp2_with fail
  generalize hW : w.alloc (.cells #[.slice cR o.nr pR, .slice cT o.nt pT, .int .i64 o.la, .int .i64 o.lb, .int .i64 o.no, .slice cQ o.nq pQ] 28) = W0 at R0 K0 ⊢
  clear hW
  refine (szExtSS_d cR o.nr pR o.rl o.rf o.rg left _ (hik (h.out.1.keep K0.out)) (hik hb.out.1) h0 h1).mono ?_
  rintro e W1 ⟨r, rfl, q1, q2, q3, k1⟩
  have G1 := hik (K0.out.trans k1)
  have Q3 := hik q3
  replace R0 := hik (rowIs_keep R0.out k1)
  clear k1 q3
  by_cases hs : r < 0
  · go_wp2
    go_ret
    exact ⟨-1, rfl, by omega, by omega, fun q => by omega, G1.out⟩
  · have x1 : _ = some (.slice cT o.nt pT : Value) := R0.out.cell (i := 1) (by omega)
    go_wp2_with fail
    refine (szStringS_d cT o.nt pT o.ts r _ (hik (h.out.2.1.keep G1.out)) (hik hb.out.2.1) (by omega) (by omega)).mono ?_
    rintro e W2 ⟨r2, rfl, p1, p2, p3, k2⟩
    have G2 := hik (G1.out.trans k2)
    have P3 := hik p3
    replace R0 := hik (rowIs_keep R0.out k2)
    clear k2 p3 x1
    by_cases hs2 : r2 < 0
    · go_wp2
      go_ret
      exact ⟨-1, rfl, by omega, by omega, fun q => by omega, G2.out⟩
    · have x5 : _ = some (.slice cQ o.nq pQ : Value) := R0.out.cell (i := 5) (by omega)
      go_wp2_with fail
      refine (szQueryS_d cQ o.nq pQ o.q r2 _ (hik (h.out.2.2.keep G2.out)) (hik hb.out.2.2) (by omega) (by omega)).mono ?_
      rintro e W3 ⟨r3, rfl, t1, t2, t3, k3⟩
      have G3 := hik (G2.out.trans k3)
      have T3 := hik t3
      clear k3 t3 x5
      by_cases hs3 : r3 < 0
      · go_wp2
        go_ret
        exact ⟨-1, rfl, by omega, by omega, fun q => by omega, G3.out⟩
      · go_wp2
        go_ret
        exact ⟨r3, rfl, by omega, by omega, fun _ => ⟨⟨(Q3.out (by omega)).1, (P3.out (by omega)).1, (T3.out (by omega)).1⟩, by have q4 := (Q3.out (by omega)).2; have q5 := (P3.out (by omega)).2; have q6 := (T3.out (by omega)).2; show ((sumN (fun j => o.rl j) o.nr + o.nt + sumN (fun j => (o.q j).cnt) o.nq : Nat) : Int) + r3 ≤ left; omega⟩, G3.out⟩

end Go.Proofs.YtfbjlohnbpienaaGreat
