/- Several texts in one: Words on memory: which blocks have turned; a row that can be read; a row of the call's own. No program is named here. · Words on memory, two cells an element: a block of two cells; a row of pairs. No program is named here. · Blocks of four cells: laws. No program is named here. · Words on memory: what is there stays there. No program is named here. · Steps of a region that draws its order, taken by hand: laws. No program is named here. · Regions that draw their order and end in a store into a cell that they read: laws. No program is named here; no condition but those that each theorem states. · Bytes of texts, and what is converted: words and laws. No condition. · Rows of bytes that grow by append, out of a converted string too: words and laws. No program is named here. · What the laws' helpers on slices of strings do: contracts. Conditions: rows that can be read, lengths of at most 2 to the 40. -/
import Derived.Below
import Derived.WalkSmall
import Derived.Deep.OwnRows
import Derived.Deep.Draws
import Derived.OwnWalk
import Derived.OpenShut
import Derived.WalkKit
import Derived.Deep.RegionHeld
import Derived.Test.YtgiefpipflcbgadGreatDoorRows
import Derived.ProofKit
import Derived.Laws.BytesArg
import Derived.ArgAppend
import Derived.Lib.ConvBytes
import Derived.Deep.QuietTactic
import Derived.BigQuiet
namespace Go.Proofs.YtgiefpipflcbgadGreatDoor
open Go.RowKit

theorem hik {p : Prop} (h : p) : Hid p := h
/-- From w to w' none but blocks of P have turned; there may be new ones. -/
structure Chg (P : Nat → Prop) (w w' : World) : Prop where
  os : w'.os = w.os
  tape : w'.tape = w.tape
  output : w'.output = w.output
  size : w.heap.size ≤ w'.heap.size
  block : ∀ k, k < w.heap.size → ¬ P k → w'.heap[k]? = w.heap[k]?
/-- No block. -/
def nob (_ : Nat) : Prop := False
theorem Chg.refl (P : Nat → Prop) (w : World) : Chg P w w := ⟨rfl, rfl, rfl, Nat.le_refl _, fun _ _ _ => rfl⟩
theorem Chg.trans {P : Nat → Prop} {a b c : World} (h : Chg P a b) (k : Chg P b c) : Chg P a c :=
  ⟨k.os.trans h.os, k.tape.trans h.tape, k.output.trans h.output, Nat.le_trans h.size k.size, fun i hi hp => (k.block i (Nat.lt_of_lt_of_le hi h.size) hp).trans (h.block i hi hp)⟩
theorem Chg.mono {P Q : Nat → Prop} {a b : World} (h : Chg P a b) (k : ∀ i, i < a.heap.size → P i → Q i) : Chg Q a b :=
  ⟨h.os, h.tape, h.output, h.size, fun i hi hp => h.block i hi (fun x => hp (k i hi x))⟩
theorem Chg.wide {P : Nat → Prop} {a b : World} (h : Chg nob a b) : Chg P a b := h.mono (fun _ _ x => x.elim)
theorem Chg.drewN {P : Nat → Prop} {a b : World} (h : Chg P a b) (n : Nat) : Chg P a (b.drewN n) := ⟨h.os, h.tape, h.output, h.size, h.block⟩
theorem Chg.below {B : Nat} {a b : World} (h : Chg (fun k => B ≤ k) a b) (hB : B ≤ a.heap.size) : Below B a b :=
  ⟨h.os, h.tape, h.output, h.size, fun k hk => h.block k (Nat.lt_of_lt_of_le hk hB) (by omega)⟩
theorem Chg.of_below {a b : World} (h : Below a.heap.size a b) : Chg nob a b := ⟨h.os, h.tape, h.output, h.size, fun k hk _ => h.block k hk⟩
theorem Chg.alloc {P : Nat → Prop} {a b : World} (h : Chg P a b) (o : Obj) : Chg P a (b.alloc o) :=
  ⟨h.os, h.tape, h.output, by simp; have := h.size; omega, fun k hk hp => (Below.heap_alloc b o k (Nat.lt_of_lt_of_le hk h.size)).trans (h.block k hk hp)⟩
theorem Chg.setCell {P : Nat → Prop} {a b : World} (h : Chg P a b) {p : Addr} (hp : p.block < a.heap.size → P p.block) (u : Value) : Chg P a (b.setCell p u) :=
  ⟨h.os, h.tape, h.output, by simp; exact h.size, fun k hk hq => (Below.heap_setCell b p u k (fun e => hq (e ▸ hp (e ▸ hk)))).trans (h.block k hk hq)⟩
theorem Chg.grown {P : Nat → Prop} {a b c : World} {row : Option Nat} (h : Chg P a b) (hg : b.grownBy c row) (hr : ∀ k, row = some k → k < a.heap.size → P k) : Chg P a c :=
  ⟨hg.os.trans h.os, hg.tape.trans h.tape, hg.output.trans h.output, Nat.le_trans h.size hg.size, fun k hk hp => (hg.block k (Nat.lt_of_lt_of_le hk h.size) (fun e => hp (hr k e.symm hk))).trans (h.block k hk hp)⟩
theorem Chg.cell {P : Nat → Prop} {w w' : World} (h : Chg P w w') {p : Addr} (hp : p.block < w.heap.size) (hq : ¬ P p.block) : w'.cell? p = w.cell? p := World.cell?_of_block (h.block _ hp hq)

/-- n values that can be read behind c. -/
def RowV (w : World) (c : Option Addr) (n : Nat) (f : Nat → Value) : Prop :=
  ∀ i, i < n → ∃ xb xo : Nat, c = some ⟨xb, xo, none⟩ ∧ xb < w.heap.size ∧ w.cell? ⟨xb, xo + i, none⟩ = some (f i)
theorem RowV.chg {P : Nat → Prop} {w w' : World} {c : Option Addr} {n : Nat} {f : Nat → Value} (h : RowV w c n f) (k : Chg P w w') (hp : ∀ xb xo, c = some ⟨xb, xo, none⟩ → xb < w.heap.size → ¬ P xb) : RowV w' c n f := by
  intro i hi
  obtain ⟨xb, xo, e, l, hc⟩ := h i hi
  exact ⟨xb, xo, e, Nat.lt_of_lt_of_le l k.size, by rw [k.cell l (hp xb xo e l), hc]⟩
theorem RowV.keep {w w' : World} {c : Option Addr} {n : Nat} {f : Nat → Value} (h : RowV w c n f) (k : Chg nob w w') : RowV w' c n f := h.chg k (fun _ _ _ _ x => x)
theorem RowV.of_row {w : World} {g : Nat} {t : TypeId} {n m : Nat} {f : Nat → Value} (h : w.rowIs g t m f) (hm : n ≤ m) : RowV w (some ⟨g, 0, none⟩) n f := by
  intro i hi
  exact ⟨g, 0, rfl, h.lt, by rw [Nat.zero_add]; exact h.cell (by omega)⟩
theorem RowV.congr {w : World} {c : Option Addr} {n : Nat} {f g : Nat → Value} (h : RowV w c n f) (k : ∀ i, i < n → f i = g i) : RowV w c n g := by
  intro i hi
  obtain ⟨xb, xo, e, l, hc⟩ := h i hi
  exact ⟨xb, xo, e, l, by rw [hc, k i hi]⟩
theorem rowIs_chg {P : Nat → Prop} {w w' : World} {g : Nat} {t : TypeId} {n : Nat} {f : Nat → Value} (h : w.rowIs g t n f) (k : Chg P w w') (hp : ¬ P g) : w'.rowIs g t n f := h.of_block (k.block g h.lt hp)
theorem rowIs_keep {w w' : World} {g : Nat} {t : TypeId} {n : Nat} {f : Nat → Value} (h : w.rowIs g t n f) (k : Chg nob w w') : w'.rowIs g t n f := rowIs_chg h k (fun x => x)
theorem ret_of {u v : Value} (h : u = v) : Ending.returned u = .returned v := by rw [h]
theorem Chg.see {w w' : World} (h : Chg nob w w') {b o : Nat} {v : Value} (c : w.cell? ⟨b, o, none⟩ = some v) : w'.cell? ⟨b, o, none⟩ = some v :=
  (h.cell (p := ⟨b, o, none⟩) (World.block_lt_of_cell? w _ c) (fun x => x)).trans c

theorem Chg.near {P : Nat → Prop} {w W W' : World} (h : Chg nob w W) (k : Chg P W W') (hp : ∀ i, P i → w.heap.size ≤ i) : Chg nob w W' :=
  ⟨k.os.trans h.os, k.tape.trans h.tape, k.output.trans h.output, Nat.le_trans h.size k.size, fun i hi _ => (k.block i (Nat.lt_of_lt_of_le hi h.size) (fun x => by have := hp i x; omega)).trans (h.block i hi (fun x => x))⟩
theorem Chg.drew1 {P : Nat → Prop} {a b : World} (h : Chg P a b) : Chg P a b.drew := ⟨h.os, h.tape, h.output, h.size, h.block⟩
theorem Chg.belowAll {w w' : World} (h : Chg nob w w') : Below w.heap.size w w' := ⟨h.os, h.tape, h.output, h.size, fun k hk => h.block k hk (fun x => x)⟩

end Go.Proofs.YtgiefpipflcbgadGreatDoor

namespace Go.Proofs.YtgiefpipflcbgadGreatDoor
open Go.RowKit

/-- Old cells read as before. -/
theorem kcell {W w1 : World} (h : Chg nob W w1) (N : Nat) (hN : N ≤ W.heap.size) : (∀ b o, b < N → w1.cell? ⟨b, o, none⟩ = W.cell? ⟨b, o, none⟩) ∧ (∀ b o, b < N → w1.frozen? ⟨b, o, none⟩ = W.frozen? ⟨b, o, none⟩) ∧ N ≤ w1.heap.size :=
  ⟨fun b o hb => h.cell (p := ⟨b, o, none⟩) (Nat.lt_of_lt_of_le hb hN) (fun x => x), fun b o hb => World.frozen?_of_block (a := ⟨b, o, none⟩) (h.block b (Nat.lt_of_lt_of_le hb hN) (fun x => x)), Nat.le_trans hN h.size⟩
theorem Chg.drew {P : Nat → Prop} {a b : World} (h : Chg P a b) : Chg P a b.drew := ⟨h.os, h.tape, h.output, h.size, h.block⟩
/-- n pairs of ints that can be read behind c. -/
def PairV (w : World) (c : Option Addr) (n : Nat) (f g : Nat → Int) : Prop :=
  ∀ i, i < n → ∃ xb xo : Nat, c = some ⟨xb, xo, none⟩ ∧ xb < w.heap.size ∧ w.cell? ⟨xb, xo + i * 2, none⟩ = some (.int .i64 (f i)) ∧ w.cell? ⟨xb, xo + i * 2 + 1, none⟩ = some (.int .i64 (g i))
theorem PairV.chg {P : Nat → Prop} {w w' : World} {c : Option Addr} {n : Nat} {f g : Nat → Int} (h : PairV w c n f g) (k : Chg P w w') (hp : ∀ xb xo, c = some ⟨xb, xo, none⟩ → xb < w.heap.size → ¬ P xb) : PairV w' c n f g := by
  intro i hi
  obtain ⟨xb, xo, e, l, h1, h2⟩ := h i hi
  exact ⟨xb, xo, e, Nat.lt_of_lt_of_le l k.size, by rw [k.cell l (hp xb xo e l), h1], by rw [k.cell l (hp xb xo e l), h2]⟩
theorem PairV.keep {w w' : World} {c : Option Addr} {n : Nat} {f g : Nat → Int} (h : PairV w c n f g) (k : Chg nob w w') : PairV w' c n f g := h.chg k (fun _ _ _ _ x => x)
/-- Two values. -/
def pv2 (u v : Value) (i : Nat) : Value := if i = 0 then u else v
/-- Two ints. -/
def pi2 (x y : Int) : Nat → Value := pv2 (.int .i64 x) (.int .i64 y)
theorem row2_set {W : World} {g : Nat} {t : TypeId} {f : Nat → Value} (h : W.rowIs g t 2 f) (u v : Value) : ((W.setCell ⟨g, 0, none⟩ u).setCell ⟨g, 1, none⟩ v).rowIs g t 2 (pv2 u v) :=
  ((h.set 0 u).set 1 v).congr (fun i hi => by
    match i, hi with
    | 0, _ => rfl
    | 1, _ => rfl)
theorem row2_other {W : World} {g g' : Nat} {t : TypeId} {n : Nat} {f : Nat → Value} (h : W.rowIs g' t n f) (hne : g' ≠ g) (u v : Value) : ((W.setCell ⟨g, 0, none⟩ u).setCell ⟨g, 1, none⟩ v).rowIs g' t n f :=
  (h.setOther (a := ⟨g, 0, none⟩) hne u).setOther (a := ⟨g, 1, none⟩) hne v
theorem row2_new (W : World) (u v : Value) (t : TypeId) : (W.alloc (.cells #[u, v] t)).rowIs W.heap.size t 2 (pv2 u v) :=
  W.rowIs_alloc #[u, v] t (pv2 u v) (fun i hi => by
    match i, hi with
    | 0, _ => rfl
    | 1, _ => rfl)
theorem row2_c0 {W : World} {g : Nat} {t : TypeId} {u v : Value} (h : W.rowIs g t 2 (pv2 u v)) : W.cell? ⟨g, 0, none⟩ = some u := h.cell (by omega)
theorem row2_c1 {W : World} {g : Nat} {t : TypeId} {u v : Value} (h : W.rowIs g t 2 (pv2 u v)) : W.cell? ⟨g, 1, none⟩ = some v := h.cell (by omega)
theorem chg2_set {P : Nat → Prop} {w W : World} (h : Chg P w W) (g : Nat) (hg : g < w.heap.size → P g) (u v : Value) : Chg P w ((W.setCell ⟨g, 0, none⟩ u).setCell ⟨g, 1, none⟩ v) :=
  (h.setCell (p := ⟨g, 0, none⟩) hg u).setCell (p := ⟨g, 1, none⟩) hg v

end Go.Proofs.YtgiefpipflcbgadGreatDoor

namespace Go.Proofs.YtgiefpipflcbgadGreatDoor
open Go.RowKit
set_option linter.unusedVariables false

/-- Four values. -/
def pv4 (u v x y : Value) (i : Nat) : Value := if i = 0 then u else if i = 1 then v else if i = 2 then x else y
theorem row4_new (W : World) (u v x y : Value) (t : TypeId) : (W.alloc (.cells #[u, v, x, y] t)).rowIs W.heap.size t 4 (pv4 u v x y) :=
  World.rowIs_alloc W #[u, v, x, y] t (pv4 u v x y) (fun i hi => by
    match i, hi with
    | 0, _ => rfl
    | 1, _ => rfl
    | 2, _ => rfl
    | 3, _ => rfl)
section
variable {W : World} {g : Nat} {ty : TypeId} {f : Nat → Value}
theorem row4_s0 (h : W.rowIs g ty 4 f) (u : Value) : (W.setCell ⟨g, 0, none⟩ u).cell? ⟨g, 0, none⟩ = some u := by
  have := (h.set 0 u).cell (show 0 < 4 by omega); simpa using this
theorem row4_s1 (h : W.rowIs g ty 4 f) (u v : Value) : ((W.setCell ⟨g, 0, none⟩ u).setCell ⟨g, 1, none⟩ v).cell? ⟨g, 1, none⟩ = some v := by
  have := ((h.set 0 u).set 1 v).cell (show 1 < 4 by omega); simpa using this
theorem row4_s2 (h : W.rowIs g ty 4 f) (u v x : Value) : (((W.setCell ⟨g, 0, none⟩ u).setCell ⟨g, 1, none⟩ v).setCell ⟨g, 2, none⟩ x).cell? ⟨g, 2, none⟩ = some x := by
  have := (((h.set 0 u).set 1 v).set 2 x).cell (show 2 < 4 by omega); simpa using this
theorem row4_s3 (h : W.rowIs g ty 4 f) (u v x y : Value) : ((((W.setCell ⟨g, 0, none⟩ u).setCell ⟨g, 1, none⟩ v).setCell ⟨g, 2, none⟩ x).setCell ⟨g, 3, none⟩ y).cell? ⟨g, 3, none⟩ = some y := by
  have := ((((h.set 0 u).set 1 v).set 2 x).set 3 y).cell (show 3 < 4 by omega); simpa using this
end
theorem chg4_set {P : Nat → Prop} {w W : World} (h : Chg P w W) (g : Nat) (hg : g < w.heap.size → P g) (u v x y : Value) : Chg P w ((((W.setCell ⟨g, 0, none⟩ u).setCell ⟨g, 1, none⟩ v).setCell ⟨g, 2, none⟩ x).setCell ⟨g, 3, none⟩ y) :=
  (((h.setCell (p := ⟨g, 0, none⟩) hg u).setCell (p := ⟨g, 1, none⟩) hg v).setCell (p := ⟨g, 2, none⟩) hg x).setCell (p := ⟨g, 3, none⟩) hg y

theorem row4_set {W : World} {g : Nat} {ty : TypeId} {f : Nat → Value} (h : W.rowIs g ty 4 f) (u v x y : Value) : ((((W.setCell ⟨g, 0, none⟩ u).setCell ⟨g, 1, none⟩ v).setCell ⟨g, 2, none⟩ x).setCell ⟨g, 3, none⟩ y).rowIs g ty 4 (pv4 u v x y) :=
  ((((h.set 0 u).set 1 v).set 2 x).set 3 y).congr (fun i hi => by
    match i, hi with
    | 0, _ => rfl
    | 1, _ => rfl
    | 2, _ => rfl
    | 3, _ => rfl)
theorem row4_other {W : World} {g g' : Nat} {t : TypeId} {n : Nat} {f : Nat → Value} (h : W.rowIs g' t n f) (hne : g' ≠ g) (u v x y : Value) : ((((W.setCell ⟨g, 0, none⟩ u).setCell ⟨g, 1, none⟩ v).setCell ⟨g, 2, none⟩ x).setCell ⟨g, 3, none⟩ y).rowIs g' t n f :=
  (((h.setOther (a := ⟨g, 0, none⟩) hne u).setOther (a := ⟨g, 1, none⟩) hne v).setOther (a := ⟨g, 2, none⟩) hne x).setOther (a := ⟨g, 3, none⟩) hne y
theorem rowIs_kind {W : World} {b : Nat} {t u : TypeId} {n m : Nat} {f g : Nat → Value} (h : W.rowIs b t n f) (k : W.rowIs b u m g) : t = u := by
  obtain ⟨c, h1, _⟩ := h
  obtain ⟨d, k1, _⟩ := k
  rw [h1] at k1
  cases k1
  rfl

end Go.Proofs.YtgiefpipflcbgadGreatDoor

namespace Go.Proofs.YtgiefpipflcbgadGreatDoor
open Go.RowKit

/-- What was there is there. -/
theorem Chg.look {w w' : World} (h : Chg nob w w') {b o : Nat} {v : Value} (c : w.cell? ⟨b, o, none⟩ = some v) : w'.cell? ⟨b, o, none⟩ = some v :=
  (h.cell (p := ⟨b, o, none⟩) (World.block_lt_of_cell? w _ c) (fun x => x)).trans c

end Go.Proofs.YtgiefpipflcbgadGreatDoor

namespace Go.Proofs.YtgiefpipflcbgadGreatDoor
open Go.RowKit
set_option linter.unusedVariables false

section
variable {P : Program} {ops : Array Oper} {o : Oper} {a : Act} {w : World} {K : Act → World → Prop} {Q : Exit → Act → World → Prop} {E : Prop}
/-- A conversion, a step of a region that draws its order. -/
theorem stepL_conv (src dst : TypeId) (x : Operand) (hop : o.op = .convert src dst x) (hw : Region.wanted o (yielded ops a.tmps) = true) (u v : Value) (W : World) (hx : a.eval x = u) (hrun : (convert src dst u).run P w = .ok v W) (hK : K (a.put o.dst v) W) :
    if Region.wanted o (yielded ops a.tmps) = true then Oper.wp P o a w K Q else E := by
  rw [if_pos hw]
  unfold Oper.wp
  have e1 : execOp a.eval o = (do pure (.value (← convert src dst (a.eval x)))) := by
    obtain ⟨dst', op, ty, pos, after, guard⟩ := o
    simp only at hop
    subst hop
    rfl
  rw [e1, hx]
  simp only [Sem.run_bind, hrun, Result.andThen, Sem.run_pure]
  exact hK
/-- The same with any arguments. -/
theorem stepL_callN (f : FuncId) (xs : Array Operand) (ats : Array TypeId) (hop : o.op = .call { callee := .value (.func f), args := xs, argTypes := ats }) (hw : Region.wanted o (yielded ops a.tmps) = true) (args : Array Value) (hargs : xs.map a.eval = args) (hcf : (callFunc f args).run P w = .ok (.enter f args) w) {R : Ending → World → Prop} (h : Calls P f args w R) (hR : ∀ e W, R e W → ∃ v, e = .returned v ∧ K (a.put o.dst v) W) :
    if Region.wanted o (yielded ops a.tmps) = true then Oper.wp P o a w K Q else E := by
  rw [if_pos hw]
  unfold Oper.wp
  have e1 : execOp a.eval o = callFunc f (#[] ++ xs.map a.eval ++ #[]) := by
    obtain ⟨dst', op, ty, pos, after, guard⟩ := o
    simp only at hop
    subst hop
    rfl
  rw [e1, show (#[] ++ xs.map a.eval ++ #[]) = args by rw [hargs]; simp, hcf, Oper.upon_enter]
  exact h.mono (fun e W r => by
    obtain ⟨v, rfl, k⟩ := hR e W r
    exact k)
end
theorem run_go {P : Program} {f : FuncId} {fn : Func} (hf : P.funcs[f]? = some fn) (hb : fn.body.isNone = false) (hn : (fn.name == "runtime.NumGoroutine") = false) (args : Array Value) (w : World) : (callFunc f args).run P w = .ok (.enter f args) w := by
  have hb' : ¬ fn.body = none := fun h => by rw [h] at hb; cases hb
  have hn' : ¬ fn.name = "runtime.NumGoroutine" := fun h => by rw [h] at hn; simp at hn
  simp [callFunc, hf, Result.andThen]
  rw [if_neg hn', if_neg hb']

end Go.Proofs.YtgiefpipflcbgadGreatDoor

namespace Go.Proofs.YtgiefpipflcbgadGreatDoor
open Go.RowKit
set_option linter.unusedVariables false

section
variable {P : Program} {ops : Array Oper} {Q : Exit → Act → World → Prop} {md : Region.Mode} {S : World → Prop} {L : Nat}
/-- Whatever order is picked from here on, and S holds behind every operation that is carried out while operation L has not come up. -/
def wpAnyL (P : Program) (md : Region.Mode) (ops : Array Oper) (Q : Exit → Act → World → Prop) (S : World → Prop) (L : Nat) : Nat → Array Bool → Act → World → Prop
  | 0, listed, a, w => Region.ready md ops listed = [] ∧ Q .normal a w
  | fuel + 1, listed, a, w =>
    (Region.ready md ops listed = [] → Q .normal a w) ∧
    ∀ i ∈ Region.ready md ops listed, wpOp P ops Q i (fun a' w' => ((listed.setIfInBounds i true).getD L true = false → S w') ∧ wpAnyL P md ops Q S L fuel (listed.setIfInBounds i true) a' w') a w
theorem wpAny_ofL : ∀ (fuel : Nat) (listed : Array Bool) (a : Act) (w : World), wpAnyL P md ops Q S L fuel listed a w → wpAny P md ops Q fuel listed a w
  | 0, _, _, _, h => h
  | fuel + 1, _, _, _, h => ⟨h.1, fun i hi => wpOp_mono (fun a' w' h' => wpAny_ofL fuel _ a' w' h'.2) (h.2 i hi)⟩
/-- Operation L waits for operation i. -/
def waitsL (md : Region.Mode) (ops : Array Oper) (L i : Nat) : Prop := ∃ oL, ops[L]? = some oL ∧ ∃ e ∈ oL.after, Region.binds md e = true ∧ e.on = i
theorem wpAnyL_first {T : World → Prop} {i : Nat} {oi : Oper} {v : Value} (hi : ops[i]? = some oi) (hsel : ∀ (j : Nat) (o : Oper) cs b, ops[j]? = some o → o.op ≠ .select cs b)
    (hQ : ∀ c a w, Q (.panic c) (a.put oi.dst v) w → Q (.panic c) a w) (hiL : i ≠ L) (hT : ∀ w, S w → T w) (hw : (∀ w, T w) ∨ waitsL md ops L i) :
    ∀ (fuel : Nat) (listed : Array Bool) (a : Act) (w : World),
      (∀ j oj, ops[j]? = some oj → j ≠ i → listed.getD j true = false → (∀ e ∈ oj.after, Region.binds md e = true → e.on ≠ i) → oi.apart ops oj = true) →
      i ∈ Region.ready md ops listed → YieldsIf P ops T oi v a → (listed.getD L true = false → S w) → ((∀ w, T w) ∨ listed.getD L true = false) →
      wpAnyL P md ops Q S L fuel (listed.setIfInBounds i true) (a.put oi.dst v) w → wpAnyL P md ops Q S L (fuel + 1) listed a w := by
  intro fuel
  induction fuel with
  | zero =>
    intro listed a w _ hr hy hS hl H
    refine ⟨fun h => (by rw [h] at hr; cases hr), fun j hj => ?_⟩
    by_cases hji : j = i
    · subst hji
      exact hy.wpOp hi (hl.elim (fun h => h w) (fun h => hT w (hS h))) ⟨fun h => hS (by rw [getD_set_ne true hiL] at h; exact h), H⟩
    · have := ready_mono hj hji
      rw [H.1] at this
      cases this
  | succ fuel ih =>
    intro listed a w hfree hr hy hS hl H
    refine ⟨fun h => (by rw [h] at hr; cases hr), fun j hj => ?_⟩
    by_cases hji : j = i
    · subst hji
      exact hy.wpOp hi (hl.elim (fun h => h w) (fun h => hT w (hS h))) ⟨fun h => hS (by rw [getD_set_ne true hiL] at h; exact h), H⟩
    · have h1 := H.2 j (ready_mono hj hji)
      obtain ⟨hjun, oj, hoj, hall⟩ := mem_ready.1 hj
      have hnot : ∀ e ∈ oj.after, Region.binds md e = true → e.on ≠ i := fun e he hb heq => by
        have h1 := hall e he hb
        have h0 := (mem_ready.1 hr).1
        rw [heq] at h1
        rcases Nat.lt_or_ge i listed.size with h' | h'
        · simp [h'] at h0 h1; rw [h0] at h1; cases h1
        · simp [Array.getElem?_eq_none h'] at h1
      have h2 := wpOp_putIf hoj (hfree j oj hoj hji hjun hnot) (fun cs b => hsel i oi cs b hi) (fun cs b => hsel j oj cs b hoj) hQ hy h1
      have hfree' : ∀ k ok, ops[k]? = some ok → k ≠ i → (listed.setIfInBounds j true).getD k true = false →
          (∀ e ∈ ok.after, Region.binds md e = true → e.on ≠ i) → oi.apart ops ok = true := fun k ok hk hki hun hno => by
        refine hfree k ok hk hki ?_ hno
        by_cases hjk : j = k
        · subst hjk; exact hjun
        · rw [getD_set_ne true hjk] at hun; exact hun
      have hl' : (∀ w, T w) ∨ (listed.setIfInBounds j true).getD L true = false := by
        rcases hw with h | ⟨oL, hoL, e, he, hb, heq⟩
        · exact .inl h
        · rcases hl with h | h
          · exact .inl h
          · right
            by_cases hjL : j = L
            · subst hjL
              rw [hoL] at hoj
              cases hoj
              exact absurd heq (hnot e he hb)
            · rw [getD_set_ne true hjL]; exact h
      have hc : ∀ (w' : World), (((listed.setIfInBounds i true).setIfInBounds j true).getD L true = false → S w') → ((listed.setIfInBounds j true).getD L true = false → S w') := fun w' h hu => by
        refine h ?_
        rw [Array.setIfInBounds_comm _ _ (Ne.symm hji), getD_set_ne true hiL]
        exact hu
      refine wpOp_mono (fun a' w' h3 => ⟨hc w' h3.2.1, ih (listed.setIfInBounds j true) a' w' hfree' (ready_mono hr (Ne.symm hji)) h3.1 (hc w' h3.2.1) hl' ?_⟩) h2
      rw [Array.setIfInBounds_comm _ _ hji]
      exact h3.2.2
/-- A load, or another operation that L waits for, is taken first. -/
theorem wpAnyL_take {i : Nat} {oi : Oper} {v : Value} {fuel : Nat} {listed : Array Bool} {a : Act} {w : World} (hi : ops[i]? = some oi)
    (hs : Region.noSelect ops = true) (hf : Region.free md ops listed i = true) (hr : (Region.ready md ops listed).contains i = true)
    (hQ : ∀ c a w, Q (.panic c) (a.put oi.dst v) w → Q (.panic c) a w) (hiL : (i == L) = false) (hw : ((ops[L]?.map (fun o => o.after.toList.any (fun e => Region.binds md e && e.on == i))) == some true) = true)
    (hl : listed.getD L true = false) (hy : YieldsIf P ops S oi v a) (hS : S w)
    (h : wpAnyL P md ops Q S L fuel (listed.setIfInBounds i true) (a.put oi.dst v) w) : wpAnyL P md ops Q S L (fuel + 1) listed a w :=
  wpAnyL_first (T := S) hi (Region.noSelect_spec hs) hQ (by simpa using hiL) (fun _ h => h) (.inr (by
    cases ho : ops[L]? with
    | none => rw [ho] at hw; simp at hw
    | some oL =>
      rw [ho] at hw
      simp only [Option.map_some, beq_iff_eq, Option.some.injEq, List.any_eq_true, Bool.and_eq_true] at hw
      obtain ⟨e, he, hb, heq⟩ := hw
      exact ⟨oL, ho, e, Array.mem_toList_iff.1 he, hb, heq⟩)) fuel listed a w (Region.free_spec hi hf) (by simpa using hr) hy (fun _ => hS) (.inr hl) h
/-- One that yields its value in whatever world. -/
theorem wpAnyL_take0 {i : Nat} {oi : Oper} {v : Value} {fuel : Nat} {listed : Array Bool} {a : Act} {w : World} (hi : ops[i]? = some oi)
    (hs : Region.noSelect ops = true) (hf : Region.free md ops listed i = true) (hr : (Region.ready md ops listed).contains i = true)
    (hQ : ∀ c a w, Q (.panic c) (a.put oi.dst v) w → Q (.panic c) a w) (hiL : (i == L) = false)
    (hy : YieldsIf P ops (fun _ => True) oi v a) (hS : S w)
    (h : wpAnyL P md ops Q S L fuel (listed.setIfInBounds i true) (a.put oi.dst v) w) : wpAnyL P md ops Q S L (fuel + 1) listed a w :=
  wpAnyL_first (T := fun _ => True) hi (Region.noSelect_spec hs) hQ (by simpa using hiL) (fun _ _ => trivial) (.inl (fun _ => trivial)) fuel listed a w (Region.free_spec hi hf) (by simpa using hr) hy (fun _ => hS) (.inl (fun _ => trivial)) h
/-- The same behind L. -/
theorem wpAnyL_take1 {i : Nat} {oi : Oper} {v : Value} {fuel : Nat} {listed : Array Bool} {a : Act} {w : World} (hi : ops[i]? = some oi)
    (hs : Region.noSelect ops = true) (hf : Region.free md ops listed i = true) (hr : (Region.ready md ops listed).contains i = true)
    (hQ : ∀ c a w, Q (.panic c) (a.put oi.dst v) w → Q (.panic c) a w) (hiL : (i == L) = false)
    (hl : listed.getD L true = true) (hy : YieldsIf P ops (fun _ => True) oi v a)
    (h : wpAnyL P md ops Q S L fuel (listed.setIfInBounds i true) (a.put oi.dst v) w) : wpAnyL P md ops Q S L (fuel + 1) listed a w :=
  wpAnyL_first (T := fun _ => True) hi (Region.noSelect_spec hs) hQ (by simpa using hiL) (fun _ _ => trivial) (.inl (fun _ => trivial)) fuel listed a w (Region.free_spec hi hf) (by simpa using hr) hy (fun hu => (by rw [hl] at hu; cases hu)) (.inl (fun _ => trivial)) h
def AllReadyL (P : Program) (md : Region.Mode) (ops : Array Oper) (Q : Exit → Act → World → Prop) (S : World → Prop) (L : Nat) (fuel : Nat) (listed : Array Bool) (a : Act) (w : World) (rs : List Nat) : Prop :=
  ∀ i ∈ rs, wpOp P ops Q i (fun a' w' => ((listed.setIfInBounds i true).getD L true = false → S w') ∧ wpAnyL P md ops Q S L fuel (listed.setIfInBounds i true) a' w') a w
theorem AllReadyL.nil {fuel : Nat} {listed : Array Bool} {a : Act} {w : World} : AllReadyL P md ops Q S L fuel listed a w [] := fun _ h => by cases h
theorem AllReadyL.cons {fuel : Nat} {listed : Array Bool} {a : Act} {w : World} {i : Nat} {o : Oper} {rs : List Nat} (ho : ops[i]? = some o)
    (h : ∀ K' : Act → World → Prop, Shut (∀ a w, S w → (S w → wpAnyL P md ops Q S L fuel (listed.setIfInBounds i true) a w) → K' a w) → if Region.wanted o (yielded ops a.tmps) = true then Oper.wp P o a w K' Q else K' (a.put o.dst undef) w)
    (hs : AllReadyL P md ops Q S L fuel listed a w rs) : AllReadyL P md ops Q S L fuel listed a w (i :: rs) := fun j hj => by
  rcases List.mem_cons.1 hj with rfl | hj
  · exact wpOp_step ho (fun K' hK => h K' (fun a w hS hW => hK a w ⟨fun _ => hS, hW hS⟩))
  · exact hs j hj
/-- The last one: S is not asked for behind it. -/
theorem AllReadyL.last {fuel : Nat} {listed : Array Bool} {a : Act} {w : World} {i : Nat} {o : Oper} (ho : ops[i]? = some o) (hl : (listed.setIfInBounds i true).getD L true = true)
    (h : ∀ K' : Act → World → Prop, Shut (∀ a w, wpAnyL P md ops Q S L fuel (listed.setIfInBounds i true) a w → K' a w) → if Region.wanted o (yielded ops a.tmps) = true then Oper.wp P o a w K' Q else K' (a.put o.dst undef) w) : AllReadyL P md ops Q S L fuel listed a w [i] := fun j hj => by
  rcases List.mem_cons.1 hj with rfl | hj
  · exact wpOp_step ho (fun K' hK => h K' (fun a w hW => hK a w ⟨fun hu => (by rw [hl] at hu; cases hu), hW⟩))
  · cases hj
theorem wpAnyL_ready {rs : List Nat} {fuel : Nat} {listed : Array Bool} {a : Act} {w : World} (hr : Region.ready md ops listed = rs) (hne : rs ≠ [])
    (h : AllReadyL P md ops Q S L fuel listed a w rs) : wpAnyL P md ops Q S L (fuel + 1) listed a w := ⟨fun h0 => absurd (hr ▸ h0) hne, hr ▸ h⟩
theorem wpAnyL_done {listed : Array Bool} {a : Act} {w : World} (hr : Region.ready md ops listed = []) (h : Q .normal a w) :
    ∀ fuel, wpAnyL P md ops Q S L fuel listed a w
  | 0 => ⟨hr, h⟩
  | _ + 1 => ⟨fun _ => h, by rw [hr]; simp⟩
theorem wp_regionL {id : Nat} {a : Act} {w : World} {L : Nat} (hm : P.follows .mixedOrders = true) (hS : S w.drew)
    (h : S w.drew → wpAnyL P .any ops Q S L ops.size (Array.replicate ops.size false) a w.drew) : (Code.region id ops true).wp P Q a w :=
  wp_region_any hm (wpAny_ofL _ _ _ _ (h hS))
end

end Go.Proofs.YtgiefpipflcbgadGreatDoor

namespace Go.Proofs.YtgiefpipflcbgadGreatDoor
open Go.ChangeShapes Go.WideShapes Go.ChangeAt Go.RowKit
set_option linter.unusedVariables false
set_option linter.unusedSimpArgs false

/-- Byte i of a string. -/
def zs (s : ByteArray) (i : Nat) : Int := ((s.data.toList[i]?.getD 0).toNat : Int)
theorem zs_lo (s : ByteArray) (i : Nat) : 0 ≤ zs s i := by unfold zs; omega
theorem zs_hi (s : ByteArray) (i : Nat) : zs s i < 256 := by unfold zs; have := UInt8.toNat_lt (s.data.toList[i]?.getD 0); omega
theorem zs_at (s : ByteArray) (i : Nat) (h : i < s.size) : (s[i].toNat : Int) = zs s i := by
  unfold zs
  have e : s.data.toList[i]? = some s[i] := by
    rw [List.getElem?_eq_getElem (by simpa using h)]
    rfl
  rw [e]
  rfl
/-- Bytes as values. -/
def bb (z : Nat → Int) (i : Nat) : Value := .int .u8 (z i)
/-- Numbers as a text. -/
def bt (z : Nat → Int) (n : Nat) : ByteArray := strOfNums ((List.range n).map z)
theorem bt_size (z : Nat → Int) (n : Nat) : (bt z n).size = n := by unfold bt; rw [strOfNums_size]; simp
theorem bt_zs (z : Nat → Int) (n i : Nat) (hi : i < n) (h0 : 0 ≤ z i) (h1 : z i < 256) : zs (bt z n) i = z i := by
  unfold zs bt
  rw [strOfNums_data, List.getElem?_map, List.getElem?_map, List.getElem?_range hi]
  simp
  omega
theorem bt_congr {y z : Nat → Int} {n : Nat} (h : ∀ i, i < n → y i = z i) : bt y n = bt z n := by
  unfold bt
  congr 1
  exact List.map_congr_left (fun i hi => h i (by simpa using hi))
theorem RowV.all {w : World} {c : Option Addr} {n : Nat} {f : Nat → Value} (h : RowV w c n f) (hn : 0 < n) : ∃ xb xo : Nat, c = some ⟨xb, xo, none⟩ ∧ xb < w.heap.size ∧ ∀ i, i < n → w.cell? ⟨xb, xo + i, none⟩ = some (f i) := by
  obtain ⟨xb, xo, e, l, _⟩ := h 0 hn
  refine ⟨xb, xo, e, l, fun i hi => ?_⟩
  obtain ⟨xb', xo', e', _, hc⟩ := h i hi
  rw [e] at e'
  obtain ⟨rfl, rfl⟩ : xb = xb' ∧ xo = xo' := by simpa using e'
  exact hc
theorem convB (c : Option Addr) (n cap : Nat) (z : Nat → Int) (w : World) (h : RowV w c n (bb z)) :
    (convert 22 9 (.slice c n cap)).run Tryz.prog w = .ok (.string (bt z n)) w := by
  by_cases hn : n = 0
  · subst hn
    cases c with
    | none =>
      rw [run_convert_bytes_nil w 22 5 Tryz.underlying22 Tryz.underlying5 0 cap 9 Tryz.underlying9]
      rfl
    | some a =>
      rw [run_convert_bytes_string w 22 9 5 _ 0 cap Tryz.underlying22 Tryz.underlying5 Tryz.underlying9, run_bytesToString w a 0 cap [] (by simp [loadCells, loadCellsFrom])]
      rfl
  · obtain ⟨xb, xo, rfl, hxb, hc⟩ := h.all (by omega)
    exact run_convert_bytes_arg w 22 5 Tryz.underlying22 Tryz.underlying5 xb xo n cap ((List.range n).map z) (by simp) (fun i hi => by rw [hc i hi]; simp [bb, List.getD, List.getElem?_map, List.getElem?_range hi]) 9 Tryz.underlying9

theorem infoB : (Tryz.prog.info? 5).map (fun i => (i.zero, i.size, i.bytes)) = some (some (.int .u8 0), 1, 1) := by kernel_rfl

theorem owns_new (w : World) (B : Nat) (t : TypeId) (z : Nat) (hB : B ≤ w.heap.size) : (w.alloc (.cells #[] t)).ownsRow B t z (.slice (some ⟨w.heap.size, 0, none⟩) 0 0) 0 [] :=
  ⟨by simp, .inr ⟨w.heap.size, 0, #[], rfl, hB, Array.getElem?_push_size, Nat.le_refl _, Nat.zero_le _, by simp, by simp⟩⟩
theorem bytes_snoc (z : Nat → Int) (k : Nat) : (List.range k).map (bb z) ++ [.int .u8 (z k)] = (List.range (k + 1)).map (bb z) := by
  rw [List.range_succ, List.map_append]; rfl
/-- What is owned can be read. -/
theorem rowV_of_owns {w : World} {B n : Nat} {t : TypeId} {v : Value} {h : Nat → Value} (ho : w.ownsRow B t 1 v n ((List.range n).map h)) (hn : 0 < n) : ∃ (b cap : Nat), v = .slice (some ⟨b, 0, none⟩) n cap ∧ B ≤ b ∧ b < w.heap.size ∧ RowV w (some ⟨b, 0, none⟩) n h := by
  rcases ho.2 with ⟨_, h0⟩ | ⟨g, cap, cur, rfl, hb, hcur, _⟩
  · exact absurd h0 (by omega)
  · refine ⟨g, cap, rfl, hb, (Array.getElem?_eq_some_iff.1 hcur).1, fun i hi => ⟨g, 0, rfl, (Array.getElem?_eq_some_iff.1 hcur).1, ?_⟩⟩
    have := ho.cells rfl i (h i) (by simp [List.getElem?_map, List.getElem?_range hi])
    rw [Go.WideShapes.add_plain] at this
    exact this

end Go.Proofs.YtgiefpipflcbgadGreatDoor

namespace Go.Proofs.YtgiefpipflcbgadGreatDoor
open Go.RowKit
set_option linter.unusedVariables false

/-- n bytes in a block from B on, all its places to be written. -/
structure BRow (W : World) (B : Nat) (g n cap : Nat) (z : Nat → Int) : Prop where
  lo : B ≤ g
  lt : g < W.heap.size
  le : n ≤ cap
  at_ : ∀ i, i < n → W.cell? ⟨g, i, none⟩ = some (.int .u8 (z i))
  there : ∀ i, i < cap → (W.cell? ⟨g, i, none⟩).isSome = true ∧ W.frozen? ⟨g, i, none⟩ = false
theorem BRow.row {W : World} {B g n cap : Nat} {z : Nat → Int} (h : BRow W B g n cap z) : RowV W (some ⟨g, 0, none⟩) n (bb z) :=
  fun i hi => ⟨g, 0, rfl, h.lt, by rw [Nat.zero_add]; exact h.at_ i hi⟩
theorem BRow.chg {P : Nat → Prop} {W W' : World} {B g n cap : Nat} {z : Nat → Int} (h : BRow W B g n cap z) (k : Chg P W W') (hp : ¬ P g) : BRow W' B g n cap z :=
  ⟨h.lo, Nat.lt_of_lt_of_le h.lt k.size, h.le, fun i hi => by rw [k.cell (p := ⟨g, i, none⟩) h.lt hp]; exact h.at_ i hi, fun i hi => by
    rw [k.cell (p := ⟨g, i, none⟩) h.lt hp, World.frozen?_of_block (a := ⟨g, i, none⟩) (k.block g h.lt hp)]; exact h.there i hi⟩
theorem BRow.keep {W W' : World} {B g n cap : Nat} {z : Nat → Int} (h : BRow W B g n cap z) (k : Chg nob W W') : BRow W' B g n cap z := h.chg k (fun x => x)
theorem BRow.alike {W : World} {B g n cap : Nat} {z y : Nat → Int} (h : BRow W B g n cap z) (e : ∀ i, i < n → z i = y i) : BRow W B g n cap y :=
  ⟨h.lo, h.lt, h.le, fun i hi => by rw [← e i hi]; exact h.at_ i hi, h.there⟩
theorem BRow.set {W : World} {B g n cap : Nat} {z : Nat → Int} (h : BRow W B g n cap z) (i : Nat) (hi : i < n) (u : Int) : BRow (W.setCell ⟨g, i, none⟩ (.int .u8 u)) B g n cap (fun j => if j = i then u else z j) := by
  have hh := h.le
  refine ⟨h.lo, by simpa using h.lt, h.le, fun j hj => ?_, fun j hj => ?_⟩
  · by_cases e : j = i
    · subst e
      rw [World.cell?_setCell_same W _ _ (h.at_ j hj)]
      simp
    · rw [World.cell?_setCell_other _ _ _ _ (by simp)]
      simp [e, h.at_ j hj]
  · refine ⟨?_, by rw [World.frozen?_setCell]; exact (h.there j hj).2⟩
    by_cases e : j = i
    · subst e
      rw [World.cell?_setCell_same W _ _ (h.at_ j hi)]
      rfl
    · rw [World.cell?_setCell_other _ _ _ _ (by simp)]
      exact (h.there j hj).1
theorem BRow.of_owns {W : World} {B n : Nat} {t : TypeId} {v : Value} {z : Nat → Int} (ho : W.ownsRow B t 1 v n ((List.range n).map (bb z))) (hn : 0 < n) : ∃ g cap, v = .slice (some ⟨g, 0, none⟩) n cap ∧ BRow W B g n cap z := by
  rcases ho.2 with ⟨_, h0⟩ | ⟨g, cap, cur, rfl, hb, hcur, hl, _, hsz, _⟩
  · exact absurd h0 (by omega)
  · refine ⟨g, cap, rfl, hb, (Array.getElem?_eq_some_iff.1 hcur).1, hl, fun i hi => ?_, fun i hi => ?_⟩
    · have := ho.cells rfl i (bb z i) (by simp [List.getElem?_map, List.getElem?_range hi])
      rw [Go.WideShapes.add_plain, Nat.zero_add] at this
      exact this
    · simp [World.cell?, World.frozen?, hcur]
      omega
/-- Bytes of a string, converted. -/
theorem BRow.of_string (w : World) (t : TypeId) (s : ByteArray) : BRow (Go.Lib.bytesWorld w t s) w.heap.size w.heap.size s.size (grownCap w s.size 0 t) (zs s) := by
  have hge := grownCap_ge w s.size 0 t
  have hat := Go.Lib.bytesWorld_at_new w t s
  have hsz : (Go.Lib.bytesCells w t s).size = grownCap w s.size 0 t := by
    unfold Go.Lib.bytesCells
    have : s.data.size = s.size := rfl
    simp [this]
    omega
  refine ⟨Nat.le_refl _, by rw [Go.Lib.bytesWorld_size]; omega, hge, fun i hi => ?_, fun i hi => ?_⟩
  · rw [Go.Lib.bytesWorld_cell w t s i hi]
    unfold zs
    rw [List.getD_eq_getElem?_getD]
  · simp [World.cell?, World.frozen?, hat, hsz]
    omega
theorem chg_string (w : World) (t : TypeId) (s : ByteArray) : Chg nob w (Go.Lib.bytesWorld w t s) :=
  ⟨rfl, rfl, rfl, by rw [Go.Lib.bytesWorld_size]; omega, fun k hk _ => Go.Lib.bytesWorld_at_old w t s k hk⟩

section
variable {P : Program}
/-- One byte more. -/
theorem wpList_append_brow (w : World) {ops : Array Oper} {rest : List Oper} {o : Oper} {a : Act} {Q : Exit → Act → World → Prop}
    (s x : Operand) (t : TypeId) (hg : o.guard = none) (hop : o.op = Op.call { callee := Callee.builtin Builtin.append, args := #[s, x], argTypes := #[t, t] })
    (e : TypeId) (i : TypeInfo) (z0 : Value) (h1 : P.underlying t = some (.slice e)) (h2 : P.info? e = some i) (h3 : i.zero = some z0) (h4 : i.size = 1) (h5 : i.bytes = 1) (h6 : z0.cells.size = 1)
    (B g n cap : Nat) (z : Nat → Int) (hB : B ≤ w.heap.size) (hs : a.eval s = .slice (some ⟨g, 0, none⟩) n cap) (hb : BRow w B g n cap z)
    (ad : Addr) (c : Nat) (u : Int) (hx : a.eval x = .slice (some ad) 1 c) (hc : w.cell? ad = some (.int .u8 u))
    (hn : n ≤ 1099511627776)
    (hK : ∀ g' cap' w', BRow w' B g' (n + 1) cap' (fun j => if j = n then u else z j) → Chg (fun b => B ≤ b) w w' → wpList P ops Q rest (a.put o.dst (.slice (some ⟨g', 0, none⟩) (n + 1) cap')) w') :
    wpList P ops Q (o :: rest) a w := by
  refine wpList_append_arg w hg s x t hop e i z0 1 1 h1 h2 h3 h4 h5 h6 (by decide) g 0 n cap ((List.range n).map (bb z)) hs (by simp) ?olds ad 1 c [.int .u8 u] hx rfl ?news (by intro v hv; simp at hv; subst hv; rfl) ?spare (by unfold maxLen; omega) (by omega) ?room ?grow
  case olds =>
    intro j v hj
    by_cases hjn : j < n
    · rw [List.getElem?_map, List.getElem?_range hjn] at hj
      simp at hj
      subst hj
      rw [Nat.zero_add]
      exact hb.at_ j hjn
    · rw [List.getElem?_eq_none (by simp; omega)] at hj
      cases hj
  case news =>
    intro j v hj
    match j, hj with
    | 0, hj =>
      simp at hj
      subst hj
      have : ad.add 0 = ad := by unfold Addr.add; simp
      rw [this]
      exact hc
    | j + 1, hj => simp at hj
  case spare =>
    intro hr j hj
    simp at hj
    subst hj
    simpa using hb.there n (by omega)
  case room =>
    intro hr
    refine hK g cap _ ⟨hb.lo, ?_, hr, fun j hj => ?_, fun j hj => ?_⟩ ?_
    · simpa [World.setCells] using hb.lt
    · by_cases ejn : j = n
      · subst ejn
        have := World.cell?_setCells_in g [.int .u8 u] (0 + j * 1) w (by intro k hk; simp at hk; subst hk; simpa using (hb.there j (by omega)).1) 0 (by simp)
        simpa using this
      · rw [World.cell?_setCells_out g [.int .u8 u] (0 + n * 1) w _ (by intro _ _; simp; omega)]
        simp [ejn]
        exact hb.at_ j (by omega)
    · refine ⟨?_, by rw [World.frozen?_setCells]; exact (hb.there j hj).2⟩
      by_cases ejn : j = n
      · subst ejn
        have := World.cell?_setCells_in g [.int .u8 u] (0 + j * 1) w (by intro k hk; simp at hk; subst hk; simpa using (hb.there j (by omega)).1) 0 (by simp)
        simp at this
        simp [this]
      · rw [World.cell?_setCells_out g [.int .u8 u] (0 + n * 1) w _ (by intro _ _; simp; omega)]
        exact (hb.there j hj).1
    · have : w.setCells g (0 + n * 1) [.int .u8 u] = w.setCell ⟨g, 0 + n * 1, none⟩ (.int .u8 u) := rfl
      rw [this]
      exact (Chg.refl _ _).setCell (p := ⟨g, 0 + n * 1, none⟩) (fun _ => hb.lo) _
  case grow =>
    intro hr v' w' hown hgr
    have ho : w'.ownsRow w.heap.size e 1 v' (n + 1) ((List.range (n + 1)).map (bb (fun j => if j = n then u else z j))) := by
      have e1 : (List.range (n + 1)).map (bb (fun j => if j = n then u else z j)) = (List.range n).map (bb z) ++ [.int .u8 u] := by
        rw [List.range_succ, List.map_append]
        congr 1
        · apply List.map_congr_left
          intro j hj
          have : j < n := by simpa using hj
          simp [bb, show ¬ j = n by omega]
        · simp [bb]
      rw [e1]
      exact hown
    obtain ⟨g', cap', rfl, hb'⟩ := BRow.of_owns ho (by omega)
    exact hK g' cap' w' ⟨Nat.le_trans hB hb'.lo, hb'.lt, hb'.le, hb'.at_, hb'.there⟩ ((Chg.refl _ _).grown hgr (fun k e => by cases e))
end

end Go.Proofs.YtgiefpipflcbgadGreatDoor

namespace Go.Proofs.YtgiefpipflcbgadGreatDoor
open Go.ChangeShapes Go.WideShapes Go.ChangeAt Go.RowKit
set_option linter.unusedVariables false
set_option maxRecDepth 100000
set_option linter.unusedSimpArgs false

/-- Texts as values. -/
def sb (L : Nat → ByteArray) (i : Nat) : Value := .string (L i)

end Go.Proofs.YtgiefpipflcbgadGreatDoor
