/- Several texts in one: Plain facts: what tables are combined to, sums over all places, rounds. No program is named here; no condition but those that each theorem states. · Tables by value in rows: words on memory; calls through function values: a law. No condition but those that each theorem states. · What the model's looks at kinds of sums, its combinations and its sums answer: contracts. Conditions: elements of the greater field, lists that can be read. · Plain facts: rounds of a sum are values of a polynomial function; a round's first two values add up to the sum; the function's value at r is the sum with variable 0 bound to r. No program is named here; no condition but those that each theorem states. -/
import Derived.Test.YtgiefpipflcbgadGreatDoorBzap
import Derived.Test.YtgiefpipflcbgadGreatDoorBzbb
import Derived.Test.YtgiefpipflcbgadGreatDoorBzay
import Derived.Test.YtgiefpipflcbgadGreatDoorBzac
import Derived.Deep.MidRow
import Derived.Laws.EntriesVeiled
import Derived.Test.YtgiefpipflcbgadGreatDoorBzba
import Derived.Deep.DeepCutAuto
namespace Go.Proofs.YtgiefpipflcbgadGreatDoor
set_option linter.unusedVariables false
set_option linter.unusedSimpArgs false

/-- What values are combined to: a product of two (kind 1), or the first times what the product of the next two is more than the fourth. -/
def cmb (k : Nat) (v : Nat → El) : El := if k = 1 then El.ml (v 0) (v 1) else El.ml (v 0) (El.sb (El.ml (v 1) (v 2)) (v 3))
theorem cmb_congr {k : Nat} {v u : Nat → El} (hk : k = 1 ∨ k = 2) (h : ∀ i, i < 2 * k → v i = u i) : cmb k v = cmb k u := by
  unfold cmb
  rcases hk with rfl | rfl
  · rw [if_pos rfl, if_pos rfl, h 0 (by omega), h 1 (by omega)]
  · rw [if_neg (by decide), if_neg (by decide), h 0 (by omega), h 1 (by omega), h 2 (by omega), h 3 (by omega)]
/-- The sum over N places. -/
def sms (k : Nat) (t : Nat → Nat → El) (N : Nat) : El := El.sm (fun i => cmb k (fun j => t j i)) N
theorem sms_congr {k : Nat} {t u : Nat → Nat → El} {N : Nat} (hk : k = 1 ∨ k = 2) (h : ∀ j i, j < 2 * k → i < N → t j i = u j i) : sms k t N = sms k u N :=
  El.sm_congr (fun i hi => cmb_congr hk (fun j hj => h j i hj hi))
/-- Variable 0 of all tables bound. -/
def bdT (t : Nat → Nat → El) (r : El) (j : Nat) : Nat → El := El.fldE (t j) r
/-- A round's values. -/
def rdE (k : Nat) (t : Nat → Nat → El) (H x : Nat) : El := sms k (bdT t (El.nb x)) H

end Go.Proofs.YtgiefpipflcbgadGreatDoor

namespace Go.Proofs.YtgiefpipflcbgadGreatDoor
open Go.ChangeShapes Go.WideShapes Go.ChangeAt Go.RowKit
set_option linter.unusedVariables false
set_option maxRecDepth 100000
set_option linter.unusedSimpArgs false

/-- Table i of a row has size S i and the elements T i: its cells. -/
def cvs (S : Nat → Nat) (T : Nat → Nat → El) (i : Nat) : Value := cv (S (i / 129)) (T (i / 129)) (i % 129)
theorem cvs_at (S : Nat → Nat) (T : Nat → Nat → El) (k j : Nat) (hj : j < 129) : cvs S T (k * 129 + j) = cv (S k) (T k) j := by
  unfold cvs
  rw [show (k * 129 + j) / 129 = k by omega, show (k * 129 + j) % 129 = j by omega]
theorem cv_congr {s i : Nat} {t u : Nat → El} (hi : i < 129) (e : ∀ j, j < 64 → t j = u j) : cv s t i = cv s u i := by
  unfold cv
  by_cases h0 : i = 0
  · rw [if_pos h0, if_pos h0]
  · rw [if_neg h0, if_neg h0, e (i / 2 - 1) (by omega)]
    by_cases h1 : i % 2 = 1
    · rw [if_pos h1, if_pos h1, e (i / 2) (by omega)]
    · rw [if_neg h1, if_neg h1]
/-- n tables by value in block b. -/
def Cbs (w : World) (b n : Nat) (S : Nat → Nat) (T : Nat → Nat → El) : Prop := w.rowIs b 66 (n * 129) (cvs S T)
section
variable {w w' : World} {b n : Nat} {S S' : Nat → Nat} {T T' : Nat → Nat → El}
theorem Cbs.keep (h : Cbs w b n S T) (k : Chg nob w w') : Cbs w' b n S T := rowIs_keep h k
theorem Cbs.chg {P : Nat → Prop} (h : Cbs w b n S T) (k : Chg P w w') (hp : ¬ P b) : Cbs w' b n S T := rowIs_chg h k hp
theorem Cbs.lt (h : Cbs w b n S T) : b < w.heap.size := World.rowIs.lt h
theorem Cbs.fz (h : Cbs w b n S T) (o : Nat) : w.frozen? ⟨b, o, none⟩ = false := World.rowIs.frozen h o
theorem Cbs.cell (h : Cbs w b n S T) {k j : Nat} (hk : k < n) (hj : j < 129) : w.cell? ⟨b, k * 129 + j, none⟩ = some (cv (S k) (T k) j) := by
  rw [World.rowIs.cell h (by omega), cvs_at S T k j hj]
theorem Cbs.c (h : Cbs w b n S T) {k : Nat} (hk : k < n) : w.cell? ⟨b, k * 129, none⟩ = some (.int .i64 (S k : Int)) := by
  have q := h.cell (j := 0) hk (by omega)
  rw [Nat.add_zero, cv_0] at q
  exact q
theorem Cbs.c0 (h : Cbs w b n S T) {k j : Nat} (hk : k < n) (hj : j < 64) : w.cell? ⟨b, k * 129 + 1 + j * 2, none⟩ = some (.int .i64 (T k j).v.1) := by
  rw [Nat.add_assoc, h.cell hk (by omega), cv_a]
theorem Cbs.c1 (h : Cbs w b n S T) {k j : Nat} (hk : k < n) (hj : j < 64) : w.cell? ⟨b, k * 129 + 1 + j * 2 + 1, none⟩ = some (.int .i64 (T k j).v.2) := by
  rw [Nat.add_assoc, Nat.add_assoc, ← Nat.add_assoc 1, h.cell hk (by omega), cv_b]
theorem Cbs.congr (h : Cbs w b n S T) (e1 : ∀ i, i < n → S i = S' i) (e2 : ∀ i, i < n → ∀ j, j < 64 → T i j = T' i j) : Cbs w b n S' T' :=
  World.rowIs.congr h (fun i hi => by
    unfold cvs
    have hi' : i / 129 < n := by omega
    rw [e1 _ hi', cv_congr (Nat.mod_lt i (by omega)) (e2 _ hi')])
theorem Cbs.range (h : Cbs w b n S T) {k : Nat} (hk : k < n) : w.rangeAt b (k * 129) (cb (S k) (T k)).toList := fun j v hv => by
  have hj : j < 129 := by
    have := (List.getElem?_eq_some_iff.1 hv).1
    rw [Array.length_toList, cb, rowA_size] at this
    exact this
  rw [h.cell hk hj]
  rw [Array.getElem?_toList, cb, rowA_at 129 _ j hj] at hv
  exact hv
theorem Cbs.there (h : Cbs w b n S T) {k : Nat} (hk : k < n) (s : Nat) (t : Nat → El) : w.there b (k * 129) (cb s t).size := fun j hj => by
  rw [cb, rowA_size] at hj
  exact ⟨by rw [h.cell hk hj]; rfl, h.fz _⟩
theorem cb_len (s : Nat) (t : Nat → El) : (cb s t).toList.length = 129 := by rw [Array.length_toList, cb, rowA_size]
theorem rowIs_cells {b : Nat} {t : TypeId} {n : Nat} : ∀ (vs : List Value) (o : Nat) (w : World) (f : Nat → Value), w.rowIs b t n f → (w.setCells b o vs).rowIs b t n (fun j => if o ≤ j ∧ j < o + vs.length then vs[j - o]?.getD undef else f j)
  | [], o, w, f, h => World.rowIs.congr h (fun j _ => by rw [if_neg (by simp)])
  | v :: r, o, w, f, h => by
    refine World.rowIs.congr (rowIs_cells r (o + 1) _ _ (World.rowIs.set h o v)) (fun j _ => ?_)
    by_cases q : j = o
    · subst q
      rw [if_neg (by omega), if_pos rfl, if_pos (show j ≤ j ∧ j < j + (v :: r).length from ⟨Nat.le_refl _, by simp⟩), Nat.sub_self]
      rfl
    · by_cases q2 : o + 1 ≤ j ∧ j < o + 1 + r.length
      · rw [if_pos q2, if_pos ⟨by omega, by simp only [List.length_cons]; omega⟩, show j - o = (j - (o + 1)) + 1 by omega, List.getElem?_cons_succ]
      · rw [if_neg q2, if_neg q, if_neg (by simp only [List.length_cons]; omega)]
theorem chg_cells {P : Nat → Prop} {a : World} {b : Nat} : ∀ (vs : List Value) (o : Nat) (w : World), Chg P a w → (b < a.heap.size → P b) → Chg P a (w.setCells b o vs)
  | [], _, _, h, _ => h
  | v :: r, o, w, h, hp => chg_cells r (o + 1) _ (h.setCell (p := ⟨b, o, none⟩) hp v) hp
theorem Cbs.put (h : Cbs w b n S T) {k : Nat} (hk : k < n) (s : Nat) (t : Nat → El) : Cbs (w.setCells b (k * 129) (cb s t).toList) b n (fun i => if i = k then s else S i) (fun i => if i = k then t else T i) :=
  World.rowIs.congr (rowIs_cells _ _ _ _ h) (fun i hi => by
    rw [cb_len]
    unfold cvs
    dsimp only
    by_cases q : i / 129 = k
    · rw [if_pos (by omega), if_pos q, if_pos q, Array.getElem?_toList, cb, rowA_at 129 _ _ (by omega), show i - k * 129 = i % 129 by omega]
      rfl
    · rw [if_neg (by omega), if_neg q, if_neg q])
end
theorem infoC3 : (Tryz.prog.info? 66).map (fun i => (i.zero, i.size, i.bytes)) = some (some (.agg (cb 0 zE)), 129, 1032) := by kernel_rfl
theorem infoC_parts : ∃ i, Tryz.prog.info? 66 = some i ∧ i.zero = some (.agg (cb 0 zE)) ∧ i.size = 129 ∧ i.bytes = 1032 := by
  have h := infoC3
  cases q : Tryz.prog.info? 66 with
  | none => rw [q] at h; cases h
  | some i =>
    rw [q] at h
    simp only [Option.map_some, Option.some.injEq, Prod.mk.injEq] at h
    exact ⟨i, rfl, h.1, h.2.1, h.2.2⟩
section
variable {ops : Array Oper} {rest : List Oper} {o : Oper} {a : Act} {w : World} {Q : Exit → Act → World → Prop}
/-- make([]cube, n). -/
theorem wpList_make_cubes (w : World) (hg : o.guard = none) (l c : Operand) (hop : o.op = Op.makeSlice 56 l c)
    (n : Nat) (L C : Int) (hl : a.eval l = .int .i64 L) (hc : a.eval c = .int .i64 C) (hL : L = (n : Int)) (hC : C = (n : Int)) (hn : n ≤ 4096)
    (hK : ∀ w', Cbs w' w.heap.size n (fun _ => 0) (fun _ => zE) → Chg nob w w' → wpList Tryz.prog ops Q rest (a.put o.dst (.slice (some ⟨w.heap.size, 0, none⟩) n n)) w') :
    wpList Tryz.prog ops Q (o :: rest) a w := by
  obtain ⟨i, h2, h3, h4, h5⟩ := infoC_parts
  refine wpList_plain hg fun K hK' => ?_
  have hrun := run_make (P := Tryz.prog) w 56 66 i _ Tryz.underlying56 h2 h3 .i64 .i64 n n (by omega) (Int.le_refl _) (by rw [h5]; omega) (by omega)
  simp only [Int.toNat_natCast, h4] at hrun
  subst hL
  subst hC
  unfold Oper.wp
  simp [execOp, hop, hl, hc, hrun, Result.andThen]
  refine hK' _ _ (hK _ ⟨_, Go.Deep.blk_alloc_new _ _, size_madeCells _ _, fun j hj => ?_⟩ ((Chg.refl _ _).alloc _))
  have h9 : j % 129 < (cb 0 zE).size := by rw [cb, rowA_size]; exact Nat.mod_lt _ (by omega)
  have hs : (cb 0 zE).size = 129 := by rw [cb, rowA_size]
  simp only [madeCells, Value.cells, hs]
  rw [Array.getElem?_map, Array.getElem?_range, if_pos hj]
  simp only [Option.map_some, cvs]
  rw [getElem!_pos (cb 0 zE) (j % 129) h9]
  congr 1
  exact rowA_get 129 _ _ h9
/-- The same in a region that draws its order. -/
theorem yields_load_cbs {R : World → Prop} (hw : Region.wanted o (yielded ops a.tmps) = true) (x : Operand) (ho : o.op = .load 66 x) (b k s : Nat) (t : Nat → El) (hx : a.eval x = .pointer (some ⟨b, k * 129, none⟩)) (hS : ∀ w, R w → w.rangeAt b (k * 129) (cb s t).toList) : YieldsIf Tryz.prog ops R o (.agg (cb s t)) a := by
  have := yieldsIf_load_mid (P := Tryz.prog) hw 66 x ho b (k * 129) hx (cb s t).toList _ hS Tryz.underlying66 rfl (by rw [cb_len]; exact infoC1)
  rw [Array.toArray_toList] at this
  exact this
theorem cb_one (s : Nat) (t : Nat → El) : (cb s t).all (·.oneCell') = true := by
  rw [Array.all_eq_true_iff_forall_mem]
  intro v hv
  simp only [cb, rowA, List.mem_toArray, List.mem_map, List.mem_range] at hv
  obtain ⟨i, _, rfl⟩ := hv
  exact cv_one s t i
/-- A table into a row, a step of a region that draws its order. -/
theorem stepL_store_cbs {K : Act → World → Prop} {E : Prop} (x y : Operand) (ho : o.op = .store 66 x y) (hw : Region.wanted o (yielded ops a.tmps) = true) (b n k s : Nat) (t : Nat → El) (S : Nat → Nat) (T : Nat → Nat → El) (hx : a.eval x = .pointer (some ⟨b, k * 129, none⟩)) (hy : a.eval y = .agg (cb s t)) (hr : Cbs w b n S T) (hk : k < n)
    (h : ∀ w', Cbs w' b n (fun i => if i = k then s else S i) (fun i => if i = k then t else T i) → Chg (fun x => x = b) w w' → K (a.put o.dst undef) w') :
    if Region.wanted o (yielded ops a.tmps) = true then Oper.wp Tryz.prog o a w K Q else E := by
  rw [if_pos hw]
  exact wp_store_mid 66 x y ho b (k * 129) (cb s t) hx hy (hr.there hk s t) (by rw [cb, rowA_size]; exact infoC1) (cb_one s t) (h _ (hr.put hk s t) (chg_cells _ _ _ (Chg.refl _ _) (fun _ => rfl)))
/-- A table into a row. -/
theorem wpList_store_cbs (x y : Operand) (hgd : o.guard = none) (ho : o.op = .store 66 x y) (b n k s : Nat) (t : Nat → El) (S : Nat → Nat) (T : Nat → Nat → El) (hx : a.eval x = .pointer (some ⟨b, k * 129, none⟩)) (hy : a.eval y = .agg (cb s t)) (hr : Cbs w b n S T) (hk : k < n)
    (h : ∀ w', Cbs w' b n (fun i => if i = k then s else S i) (fun i => if i = k then t else T i) → Chg (fun x => x = b) w w' → wpList Tryz.prog ops Q rest (a.put o.dst undef) w') : wpList Tryz.prog ops Q (o :: rest) a w := by
  refine wpList_store_mid hgd 66 x y ho b (k * 129) (cb s t) hx hy (hr.there hk s t) (by rw [cb, rowA_size]; exact infoC1) ?_ (h _ (hr.put hk s t) (chg_cells _ _ _ (Chg.refl _ _) (fun _ => rfl)))
  rw [Array.all_eq_true_iff_forall_mem]
  intro v hv
  simp only [cb, rowA, List.mem_toArray, List.mem_map, List.mem_range] at hv
  obtain ⟨i, _, rfl⟩ := hv
  exact cv_one s t i
end
section
variable {P : Program} {ops : Array Oper} {o : Oper} {a : Act} {w : World} {K : Act → World → Prop} {Q : Exit → Act → World → Prop} {E : Prop}
/-- A call of a function value, a step of a region that draws its order. -/
theorem stepL_callV (f : FuncId) (x : Operand) (first cap : Array Value) (xs : Array Operand) (ats : Array TypeId) (hop : o.op = .call { callee := .value x, args := xs, argTypes := ats }) (hw : Region.wanted o (yielded ops a.tmps) = true) (hx : a.eval x = .func (.func f) first cap) (args : Array Value) (hargs : first ++ xs.map a.eval ++ cap = args) (hcf : (callFunc f args).run P w = .ok (.enter f args) w) {R : Ending → World → Prop} (h : Calls P f args w R) (hR : ∀ e W, R e W → ∃ v, e = .returned v ∧ K (a.put o.dst v) W) :
    if Region.wanted o (yielded ops a.tmps) = true then Oper.wp P o a w K Q else E := by
  rw [if_pos hw]
  unfold Oper.wp
  have e1 : execOp a.eval o = callFunc f (first ++ xs.map a.eval ++ cap) := by
    obtain ⟨dst', op, ty, pos, after, guard⟩ := o
    simp only at hop
    subst hop
    simp only [execOp, resolve, hx]
    rfl
  rw [e1, hargs, hcf, Oper.upon_enter]
  exact h.mono (fun e W r => by
    obtain ⟨v, rfl, k⟩ := hR e W r
    exact k)
end

end Go.Proofs.YtgiefpipflcbgadGreatDoor

namespace Go.Proofs.YtgiefpipflcbgadGreatDoor
open Go.ChangeShapes Go.WideShapes Go.ChangeAt Go.RowKit
set_option linter.unusedVariables false
set_option maxRecDepth 100000
set_option linter.unusedSimpArgs false

/-- A kind of sums. -/
def kdb (k : Int) : Bool := decide (k = 1 ∨ k = 2)
theorem kdb_nat {k : Int} (h : kdb k = true) : ∃ m : Nat, k = (m : Int) ∧ (m = 1 ∨ m = 2) := by
  unfold kdb at h
  rcases of_decide_eq_true h with rfl | rfl
  · exact ⟨1, rfl, .inl rfl⟩
  · exact ⟨2, rfl, .inr rfl⟩

set_option maxHeartbeats 1000000 in
theorem sKind_any (k : Int) (w : World) : Calls Tryz.prog 51 #[.int .i64 k] w fun e w' => e = .returned (.bool (kdb k)) ∧ w' = w := by
  by_cases h1 : k = 1
  · subst h1
    go_enter Tryz.func51, Tryz.ntmps51
    go_wp2
    go_ret
    exact ⟨rfl, rfl⟩
  · have hb1 : (k == 1) = false := by simpa using h1
    by_cases h2 : k = 2
    · subst h2
      go_enter Tryz.func51, Tryz.ntmps51
      go_wp2
      go_ret
      exact ⟨rfl, rfl⟩
    · have hb2 : (k == 2) = false := by simpa using h2
      have HK := hik (show kdb k = false from decide_eq_false (by omega))
      rw [HK.out]
      clear h1 h2
      go_enter Tryz.func51, Tryz.ntmps51
      go_wp2
      go_ret
      exact ⟨rfl, rfl⟩

set_option maxHeartbeats 400000 in
theorem sDeg_any (k d : Int) (hw : IntKind.i64.wrap (k + 1) = d) (w : World) : Calls Tryz.prog 86 #[.int .i64 k] w fun e w' => e = .returned (.int .i64 d) ∧ w' = w := by
  go_enter Tryz.func86, Tryz.ntmps86
  go_wp2
  go_ret
  exact ⟨rfl, rfl⟩

set_option maxHeartbeats 400000 in
theorem sTbl_any (k d : Int) (hw : IntKind.i64.wrap (2 * k) = d) (w : World) : Calls Tryz.prog 54 #[.int .i64 k] w fun e w' => e = .returned (.int .i64 d) ∧ w' = w := by
  go_enter Tryz.func54, Tryz.ntmps54
  go_wp2
  go_ret
  exact ⟨rfl, rfl⟩

set_option maxHeartbeats 2000000 in
theorem sCmb1_any (c : Option Addr) (cap : Nat) (v : Nat → El) (w : World) (h : Hid (PairE w c 2 v)) : Calls Tryz.prog 96 #[.int .i64 1, .slice c 2 cap] w fun e w' => e = .returned (.agg #[.int .i64 (El.ml (v 0) (v 1)).v.1, .int .i64 (El.ml (v 0) (v 1)).v.2]) ∧ Chg nob w w' := by
  obtain ⟨xb, xo, ec, hxb, _, _⟩ := PairE.at_ h.out (show 0 < 2 by omega)
  subst ec
  have HU := hik (PairE.keep h.out ((Chg.refl nob w).alloc (.cells #[.int .i64 0, .int .i64 0] 31)))
  have EZ := hik (ElB.zero w)
  have G0 := hik ((Chg.refl nob w).alloc (.cells #[.int .i64 0, .int .i64 0] 31))
  go_enter Tryz.func96, Tryz.ntmps96
  go_upto_region 2 with fail
  generalize hE : w.alloc (.cells #[.int .i64 0, .int .i64 0] 31) = W0 at HU EZ G0 ⊢
  clear hE
  have x0 : W0.cell? ⟨xb, xo, none⟩ = some (.int .i64 (v 0).v.1) := by have q := PairE.c0 HU.out (i := 0) (by omega); simpa using q
  have x1 : W0.cell? ⟨xb, xo + 1, none⟩ = some (.int .i64 (v 0).v.2) := by have q := PairE.c1 HU.out (i := 0) (by omega); simpa using q
  have y0 : W0.cell? ⟨xb, xo + 2, none⟩ = some (.int .i64 (v 1).v.1) := by have q := PairE.c0 HU.out (i := 1) (by omega); simpa using q
  have y1 : W0.cell? ⟨xb, xo + 2 + 1, none⟩ = some (.int .i64 (v 1).v.2) := by have q := PairE.c1 HU.out (i := 1) (by omega); simpa using q
  have KW := hik ((Chg.refl nob W0).drew1)
  have SA := hik (fun (WW : World) (kW : Chg nob W0 WW) => (show (WW.cell? ⟨xb, xo, none⟩ = some (.int .i64 (v 0).v.1) ∧ WW.cell? ⟨xb, xo + 1, none⟩ = some (.int .i64 (v 0).v.2) ∧ WW.cell? ⟨xb, xo + 2, none⟩ = some (.int .i64 (v 1).v.1) ∧ WW.cell? ⟨xb, xo + 2 + 1, none⟩ = some (.int .i64 (v 1).v.2)) from ⟨kW.see x0, kW.see x1, kW.see y0, kW.see y1⟩))
  refine wp_regionL (L := 7) (S := fun w' => w'.cell? ⟨xb, xo, none⟩ = some (.int .i64 (v 0).v.1) ∧ w'.cell? ⟨xb, xo + 1, none⟩ = some (.int .i64 (v 0).v.2) ∧ w'.cell? ⟨xb, xo + 2, none⟩ = some (.int .i64 (v 1).v.1) ∧ w'.cell? ⟨xb, xo + 2 + 1, none⟩ = some (.int .i64 (v 1).v.2)) (by kernel_rfl) ⟨x0, x1, y0, y1⟩ (fun hHeld => ?_)
  refine wpAnyL_take (i := 0) (v := ?_) rfl (by kernel_rfl) (by kernel_rfl) (by kernel_rfl) (fun _ _ _ h => h) (by rfl) (by kernel_rfl) (by kernel_rfl) (Or.inl ⟨by rfl, ?_⟩) (by assumption) ?_
  rotate_left 1
  · (intro w' hSw; (try dsimp only at hSw); go_simp; try with_reducible rfl)
  try simp only [Act.put, List.setIfInBounds_toArray, List.set_cons_zero, List.set_cons_succ, List.getElem_toArray, List.getElem_cons_zero, List.getElem_cons_succ]
  refine wpAnyL_take (i := 1) (v := ?_) rfl (by kernel_rfl) (by kernel_rfl) (by kernel_rfl) (fun _ _ _ h => h) (by rfl) (by kernel_rfl) (by kernel_rfl) (Or.inl ⟨by rfl, ?_⟩) (by assumption) ?_
  rotate_left 1
  · (intro w' hSw; (try dsimp only at hSw); go_simp; try with_reducible rfl)
  try simp only [Act.put, List.setIfInBounds_toArray, List.set_cons_zero, List.set_cons_succ, List.getElem_toArray, List.getElem_cons_zero, List.getElem_cons_succ]
  refine wpAnyL_take (i := 2) (v := ?_) rfl (by kernel_rfl) (by kernel_rfl) (by kernel_rfl) (fun _ _ _ h => h) (by rfl) (by kernel_rfl) (by kernel_rfl) (Or.inl ⟨by rfl, ?_⟩) (by assumption) ?_
  rotate_left 1
  · (intro w' hSw; (try dsimp only at hSw); go_simp; try with_reducible rfl)
  try simp only [Act.put, List.setIfInBounds_toArray, List.set_cons_zero, List.set_cons_succ, List.getElem_toArray, List.getElem_cons_zero, List.getElem_cons_succ]
  refine wpAnyL_take (i := 3) (v := ?_) rfl (by kernel_rfl) (by kernel_rfl) (by kernel_rfl) (fun _ _ _ h => h) (by rfl) (by kernel_rfl) (by kernel_rfl) (Or.inl ⟨by rfl, ?_⟩) (by assumption) ?_
  rotate_left 1
  · (intro w' hSw; (try dsimp only at hSw); go_simp; try with_reducible rfl)
  try simp only [Act.put, List.setIfInBounds_toArray, List.set_cons_zero, List.set_cons_succ, List.getElem_toArray, List.getElem_cons_zero, List.getElem_cons_succ]
  refine wpAnyL_take (i := 4) (v := ?_) rfl (by kernel_rfl) (by kernel_rfl) (by kernel_rfl) (fun _ _ _ h => h) (by rfl) (by kernel_rfl) (by kernel_rfl) (Or.inl ⟨by rfl, ?_⟩) (by assumption) ?_
  rotate_left 1
  · (intro w' hSw; (try dsimp only at hSw); go_simp; try with_reducible rfl)
  try simp only [Act.put, List.setIfInBounds_toArray, List.set_cons_zero, List.set_cons_succ, List.getElem_toArray, List.getElem_cons_zero, List.getElem_cons_succ]
  refine wpAnyL_take (i := 5) (v := ?_) rfl (by kernel_rfl) (by kernel_rfl) (by kernel_rfl) (fun _ _ _ h => h) (by rfl) (by kernel_rfl) (by kernel_rfl) (Or.inl ⟨by rfl, ?_⟩) (by assumption) ?_
  rotate_left 1
  · (intro w' hSw; (try dsimp only at hSw); go_simp; try with_reducible rfl)
  try simp only [Act.put, List.setIfInBounds_toArray, List.set_cons_zero, List.set_cons_succ, List.getElem_toArray, List.getElem_cons_zero, List.getElem_cons_succ]
  refine wpAnyL_ready (rs := [6]) (by kernel_rfl) (by simp) ?_
  refine AllReadyL.cons rfl (fun K hK => ?_) AllReadyL.nil
  refine stepL_callN 109 #[.tmp 9, .tmp 12] #[31, 31] (by rfl) (by rfl) #[.agg #[.int .i64 (v 0).v.1, .int .i64 (v 0).v.2], .agg #[.int .i64 (v 1).v.1, .int .i64 (v 1).v.2]] (by simp only [List.map_toArray, List.map_cons, List.map_nil] <;> rfl) (run_go Tryz.func109 (by kernel_rfl) (by kernel_rfl) _ _) (sMl_el (v 0) (v 1) _) ?_
  rintro e U1 ⟨he, kk⟩
  refine ⟨_, he, ?_⟩
  replace KW := hik (KW.out.trans kk)
  refine hK.out _ _ (SA.out _ KW.out) (fun hHeld => ?_)
  clear hK K
  try simp only [Act.put, List.setIfInBounds_toArray, List.set_cons_zero, List.set_cons_succ, List.getElem_toArray, List.getElem_cons_zero, List.getElem_cons_succ]
  clear he kk
  refine wpAnyL_ready (rs := [7]) (by kernel_rfl) (by simp) ?_
  refine AllReadyL.last rfl (by kernel_rfl) (fun K hK => ?_)
  have EN := hik (EZ.out.keep KW.out)
  have g0 : U1.cell? ⟨w.heap.size, 0, none⟩ = some (.int .i64 0) := EN.out.c0
  have g1 : U1.cell? ⟨w.heap.size, 1, none⟩ = some (.int .i64 0) := EN.out.c1
  have f0 := EN.out.fz 0
  have f1 := EN.out.fz 1
  have ln : w.heap.size < U1.heap.size := EN.out.lt
  simp only [List.getElem_toArray, List.getElem_cons_zero, List.getElem_cons_succ]
  go_simp
  refine hK.out _ _ ?_
  clear hK K
  try simp only [Act.put, List.setIfInBounds_toArray, List.set_cons_zero, List.set_cons_succ, List.getElem_toArray, List.getElem_cons_zero, List.getElem_cons_succ]
  clear g0 g1 f0 f1 ln
  refine wpAnyL_done (by kernel_rfl) ?_ _
  have u0 := (EN.out.set (El.ml (v 0) (v 1))).c0
  have u1 := (EN.out.set (El.ml (v 0) (v 1))).c1
  have GE := hik (chg2_at (G0.out.trans KW.out) w.heap.size (fun l => absurd l (by omega)) 0 1 (.int .i64 (El.ml (v 0) (v 1)).v.1) (.int .i64 (El.ml (v 0) (v 1)).v.2))
  go_wp2
  exact bodyPost_ret (v := .agg #[.int .i64 (El.ml (v 0) (v 1)).v.1, .int .i64 (El.ml (v 0) (v 1)).v.2]) (by simp [results, Tryz.results96, go_sem, u0, u1]) rfl ⟨rfl, GE.out⟩

set_option maxHeartbeats 2000000 in
theorem sCmb2_any (c : Option Addr) (cap : Nat) (v : Nat → El) (w : World) (h : Hid (PairE w c 4 v)) : Calls Tryz.prog 96 #[.int .i64 2, .slice c 4 cap] w fun e w' => e = .returned (.agg #[.int .i64 (El.ml (v 0) (El.sb (El.ml (v 1) (v 2)) (v 3))).v.1, .int .i64 (El.ml (v 0) (El.sb (El.ml (v 1) (v 2)) (v 3))).v.2]) ∧ Chg nob w w' := by
  obtain ⟨xb, xo, ec, hxb, _, _⟩ := PairE.at_ h.out (show 0 < 4 by omega)
  subst ec
  have HU := hik (PairE.keep h.out ((Chg.refl nob w).alloc (.cells #[.int .i64 0, .int .i64 0] 31)))
  have EZ := hik (ElB.zero w)
  have G0 := hik ((Chg.refl nob w).alloc (.cells #[.int .i64 0, .int .i64 0] 31))
  go_enter Tryz.func96, Tryz.ntmps96
  go_upto_region 3 with fail
  generalize hE : w.alloc (.cells #[.int .i64 0, .int .i64 0] 31) = W0 at HU EZ G0 ⊢
  clear hE
  have a0 : W0.cell? ⟨xb, xo, none⟩ = some (.int .i64 (v 0).v.1) := by have q := PairE.c0 HU.out (i := 0) (by omega); simpa using q
  have a1 : W0.cell? ⟨xb, xo + 1, none⟩ = some (.int .i64 (v 0).v.2) := by have q := PairE.c1 HU.out (i := 0) (by omega); simpa using q
  have b0 : W0.cell? ⟨xb, xo + 2, none⟩ = some (.int .i64 (v 1).v.1) := by have q := PairE.c0 HU.out (i := 1) (by omega); simpa using q
  have b1 : W0.cell? ⟨xb, xo + 2 + 1, none⟩ = some (.int .i64 (v 1).v.2) := by have q := PairE.c1 HU.out (i := 1) (by omega); simpa using q
  have c0 : W0.cell? ⟨xb, xo + 4, none⟩ = some (.int .i64 (v 2).v.1) := by have q := PairE.c0 HU.out (i := 2) (by omega); simpa using q
  have c1 : W0.cell? ⟨xb, xo + 4 + 1, none⟩ = some (.int .i64 (v 2).v.2) := by have q := PairE.c1 HU.out (i := 2) (by omega); simpa using q
  have d0 : W0.cell? ⟨xb, xo + 6, none⟩ = some (.int .i64 (v 3).v.1) := by have q := PairE.c0 HU.out (i := 3) (by omega); simpa using q
  have d1 : W0.cell? ⟨xb, xo + 6 + 1, none⟩ = some (.int .i64 (v 3).v.2) := by have q := PairE.c1 HU.out (i := 3) (by omega); simpa using q
  have KW := hik ((Chg.refl nob W0).drew1)
  have SA := hik (fun (WW : World) (kW : Chg nob W0 WW) => (show (WW.cell? ⟨xb, xo, none⟩ = some (.int .i64 (v 0).v.1) ∧ WW.cell? ⟨xb, xo + 1, none⟩ = some (.int .i64 (v 0).v.2) ∧ WW.cell? ⟨xb, xo + 2, none⟩ = some (.int .i64 (v 1).v.1) ∧ WW.cell? ⟨xb, xo + 2 + 1, none⟩ = some (.int .i64 (v 1).v.2) ∧ WW.cell? ⟨xb, xo + 4, none⟩ = some (.int .i64 (v 2).v.1) ∧ WW.cell? ⟨xb, xo + 4 + 1, none⟩ = some (.int .i64 (v 2).v.2) ∧ WW.cell? ⟨xb, xo + 6, none⟩ = some (.int .i64 (v 3).v.1) ∧ WW.cell? ⟨xb, xo + 6 + 1, none⟩ = some (.int .i64 (v 3).v.2)) from ⟨kW.see a0, kW.see a1, kW.see b0, kW.see b1, kW.see c0, kW.see c1, kW.see d0, kW.see d1⟩))
  refine wp_regionL (L := 15) (S := fun w' => w'.cell? ⟨xb, xo, none⟩ = some (.int .i64 (v 0).v.1) ∧ w'.cell? ⟨xb, xo + 1, none⟩ = some (.int .i64 (v 0).v.2) ∧ w'.cell? ⟨xb, xo + 2, none⟩ = some (.int .i64 (v 1).v.1) ∧ w'.cell? ⟨xb, xo + 2 + 1, none⟩ = some (.int .i64 (v 1).v.2) ∧ w'.cell? ⟨xb, xo + 4, none⟩ = some (.int .i64 (v 2).v.1) ∧ w'.cell? ⟨xb, xo + 4 + 1, none⟩ = some (.int .i64 (v 2).v.2) ∧ w'.cell? ⟨xb, xo + 6, none⟩ = some (.int .i64 (v 3).v.1) ∧ w'.cell? ⟨xb, xo + 6 + 1, none⟩ = some (.int .i64 (v 3).v.2)) (by kernel_rfl) ⟨a0, a1, b0, b1, c0, c1, d0, d1⟩ (fun hHeld => ?_)
  refine wpAnyL_take (i := 0) (v := ?_) rfl (by kernel_rfl) (by kernel_rfl) (by kernel_rfl) (fun _ _ _ h => h) (by rfl) (by kernel_rfl) (by kernel_rfl) (Or.inl ⟨by rfl, ?_⟩) (by assumption) ?_
  rotate_left 1
  · (intro w' hSw; (try dsimp only at hSw); go_simp; try with_reducible rfl)
  try simp only [Act.put, List.setIfInBounds_toArray, List.set_cons_zero, List.set_cons_succ, List.getElem_toArray, List.getElem_cons_zero, List.getElem_cons_succ]
  refine wpAnyL_take (i := 1) (v := ?_) rfl (by kernel_rfl) (by kernel_rfl) (by kernel_rfl) (fun _ _ _ h => h) (by rfl) (by kernel_rfl) (by kernel_rfl) (Or.inl ⟨by rfl, ?_⟩) (by assumption) ?_
  rotate_left 1
  · (intro w' hSw; (try dsimp only at hSw); go_simp; try with_reducible rfl)
  try simp only [Act.put, List.setIfInBounds_toArray, List.set_cons_zero, List.set_cons_succ, List.getElem_toArray, List.getElem_cons_zero, List.getElem_cons_succ]
  refine wpAnyL_take (i := 2) (v := ?_) rfl (by kernel_rfl) (by kernel_rfl) (by kernel_rfl) (fun _ _ _ h => h) (by rfl) (by kernel_rfl) (by kernel_rfl) (Or.inl ⟨by rfl, ?_⟩) (by assumption) ?_
  rotate_left 1
  · (intro w' hSw; (try dsimp only at hSw); go_simp; try with_reducible rfl)
  try simp only [Act.put, List.setIfInBounds_toArray, List.set_cons_zero, List.set_cons_succ, List.getElem_toArray, List.getElem_cons_zero, List.getElem_cons_succ]
  refine wpAnyL_take (i := 3) (v := ?_) rfl (by kernel_rfl) (by kernel_rfl) (by kernel_rfl) (fun _ _ _ h => h) (by rfl) (by kernel_rfl) (by kernel_rfl) (Or.inl ⟨by rfl, ?_⟩) (by assumption) ?_
  rotate_left 1
  · (intro w' hSw; (try dsimp only at hSw); go_simp; try with_reducible rfl)
  try simp only [Act.put, List.setIfInBounds_toArray, List.set_cons_zero, List.set_cons_succ, List.getElem_toArray, List.getElem_cons_zero, List.getElem_cons_succ]
  refine wpAnyL_take (i := 4) (v := ?_) rfl (by kernel_rfl) (by kernel_rfl) (by kernel_rfl) (fun _ _ _ h => h) (by rfl) (by kernel_rfl) (by kernel_rfl) (Or.inl ⟨by rfl, ?_⟩) (by assumption) ?_
  rotate_left 1
  · (intro w' hSw; (try dsimp only at hSw); go_simp; try with_reducible rfl)
  try simp only [Act.put, List.setIfInBounds_toArray, List.set_cons_zero, List.set_cons_succ, List.getElem_toArray, List.getElem_cons_zero, List.getElem_cons_succ]
  refine wpAnyL_take (i := 5) (v := ?_) rfl (by kernel_rfl) (by kernel_rfl) (by kernel_rfl) (fun _ _ _ h => h) (by rfl) (by kernel_rfl) (by kernel_rfl) (Or.inl ⟨by rfl, ?_⟩) (by assumption) ?_
  rotate_left 1
  · (intro w' hSw; (try dsimp only at hSw); go_simp; try with_reducible rfl)
  try simp only [Act.put, List.setIfInBounds_toArray, List.set_cons_zero, List.set_cons_succ, List.getElem_toArray, List.getElem_cons_zero, List.getElem_cons_succ]
  refine wpAnyL_take (i := 6) (v := ?_) rfl (by kernel_rfl) (by kernel_rfl) (by kernel_rfl) (fun _ _ _ h => h) (by rfl) (by kernel_rfl) (by kernel_rfl) (Or.inl ⟨by rfl, ?_⟩) (by assumption) ?_
  rotate_left 1
  · (intro w' hSw; (try dsimp only at hSw); go_simp; try with_reducible rfl)
  try simp only [Act.put, List.setIfInBounds_toArray, List.set_cons_zero, List.set_cons_succ, List.getElem_toArray, List.getElem_cons_zero, List.getElem_cons_succ]
  refine wpAnyL_take (i := 7) (v := ?_) rfl (by kernel_rfl) (by kernel_rfl) (by kernel_rfl) (fun _ _ _ h => h) (by rfl) (by kernel_rfl) (by kernel_rfl) (Or.inl ⟨by rfl, ?_⟩) (by assumption) ?_
  rotate_left 1
  · (intro w' hSw; (try dsimp only at hSw); go_simp; try with_reducible rfl)
  try simp only [Act.put, List.setIfInBounds_toArray, List.set_cons_zero, List.set_cons_succ, List.getElem_toArray, List.getElem_cons_zero, List.getElem_cons_succ]
  refine wpAnyL_take (i := 8) (v := ?_) rfl (by kernel_rfl) (by kernel_rfl) (by kernel_rfl) (fun _ _ _ h => h) (by rfl) (by kernel_rfl) (by kernel_rfl) (Or.inl ⟨by rfl, ?_⟩) (by assumption) ?_
  rotate_left 1
  · (intro w' hSw; (try dsimp only at hSw); go_simp; try with_reducible rfl)
  try simp only [Act.put, List.setIfInBounds_toArray, List.set_cons_zero, List.set_cons_succ, List.getElem_toArray, List.getElem_cons_zero, List.getElem_cons_succ]
  refine wpAnyL_take (i := 10) (v := ?_) rfl (by kernel_rfl) (by kernel_rfl) (by kernel_rfl) (fun _ _ _ h => h) (by rfl) (by kernel_rfl) (by kernel_rfl) (Or.inl ⟨by rfl, ?_⟩) (by assumption) ?_
  rotate_left 1
  · (intro w' hSw; (try dsimp only at hSw); go_simp; try with_reducible rfl)
  try simp only [Act.put, List.setIfInBounds_toArray, List.set_cons_zero, List.set_cons_succ, List.getElem_toArray, List.getElem_cons_zero, List.getElem_cons_succ]
  refine wpAnyL_take (i := 11) (v := ?_) rfl (by kernel_rfl) (by kernel_rfl) (by kernel_rfl) (fun _ _ _ h => h) (by rfl) (by kernel_rfl) (by kernel_rfl) (Or.inl ⟨by rfl, ?_⟩) (by assumption) ?_
  rotate_left 1
  · (intro w' hSw; (try dsimp only at hSw); go_simp; try with_reducible rfl)
  try simp only [Act.put, List.setIfInBounds_toArray, List.set_cons_zero, List.set_cons_succ, List.getElem_toArray, List.getElem_cons_zero, List.getElem_cons_succ]
  refine wpAnyL_take (i := 12) (v := ?_) rfl (by kernel_rfl) (by kernel_rfl) (by kernel_rfl) (fun _ _ _ h => h) (by rfl) (by kernel_rfl) (by kernel_rfl) (Or.inl ⟨by rfl, ?_⟩) (by assumption) ?_
  rotate_left 1
  · (intro w' hSw; (try dsimp only at hSw); go_simp; try with_reducible rfl)
  try simp only [Act.put, List.setIfInBounds_toArray, List.set_cons_zero, List.set_cons_succ, List.getElem_toArray, List.getElem_cons_zero, List.getElem_cons_succ]
  refine wpAnyL_ready (rs := [9]) (by kernel_rfl) (by simp) ?_
  refine AllReadyL.cons rfl (fun K hK => ?_) AllReadyL.nil
  refine stepL_callN 109 #[.tmp 19, .tmp 22] #[31, 31] (by rfl) (by rfl) #[.agg #[.int .i64 (v 1).v.1, .int .i64 (v 1).v.2], .agg #[.int .i64 (v 2).v.1, .int .i64 (v 2).v.2]] (by simp only [List.map_toArray, List.map_cons, List.map_nil] <;> rfl) (run_go Tryz.func109 (by kernel_rfl) (by kernel_rfl) _ _) (sMl_el (v 1) (v 2) _) ?_
  rintro e U1 ⟨he, kk⟩
  refine ⟨_, he, ?_⟩
  replace KW := hik (KW.out.trans kk)
  refine hK.out _ _ (SA.out _ KW.out) (fun hHeld => ?_)
  clear hK K
  try simp only [Act.put, List.setIfInBounds_toArray, List.set_cons_zero, List.set_cons_succ, List.getElem_toArray, List.getElem_cons_zero, List.getElem_cons_succ]
  clear he kk
  refine wpAnyL_ready (rs := [13]) (by kernel_rfl) (by simp) ?_
  refine AllReadyL.cons rfl (fun K hK => ?_) AllReadyL.nil
  refine stepL_callN 110 #[.tmp 23, .tmp 26] #[31, 31] (by rfl) (by rfl) #[.agg #[.int .i64 (El.ml (v 1) (v 2)).v.1, .int .i64 (El.ml (v 1) (v 2)).v.2], .agg #[.int .i64 (v 3).v.1, .int .i64 (v 3).v.2]] (by simp only [List.map_toArray, List.map_cons, List.map_nil] <;> rfl) (run_go Tryz.func110 (by kernel_rfl) (by kernel_rfl) _ _) (sSb_el (El.ml (v 1) (v 2)) (v 3) _) ?_
  rintro e U2 ⟨he, kk⟩
  refine ⟨_, he, ?_⟩
  replace KW := hik (KW.out.trans kk)
  refine hK.out _ _ (SA.out _ KW.out) (fun hHeld => ?_)
  clear hK K
  try simp only [Act.put, List.setIfInBounds_toArray, List.set_cons_zero, List.set_cons_succ, List.getElem_toArray, List.getElem_cons_zero, List.getElem_cons_succ]
  clear he kk
  refine wpAnyL_ready (rs := [14]) (by kernel_rfl) (by simp) ?_
  refine AllReadyL.cons rfl (fun K hK => ?_) AllReadyL.nil
  refine stepL_callN 109 #[.tmp 16, .tmp 27] #[31, 31] (by rfl) (by rfl) #[.agg #[.int .i64 (v 0).v.1, .int .i64 (v 0).v.2], .agg #[.int .i64 (El.sb (El.ml (v 1) (v 2)) (v 3)).v.1, .int .i64 (El.sb (El.ml (v 1) (v 2)) (v 3)).v.2]] (by simp only [List.map_toArray, List.map_cons, List.map_nil] <;> rfl) (run_go Tryz.func109 (by kernel_rfl) (by kernel_rfl) _ _) (sMl_el (v 0) (El.sb (El.ml (v 1) (v 2)) (v 3)) _) ?_
  rintro e U3 ⟨he, kk⟩
  refine ⟨_, he, ?_⟩
  replace KW := hik (KW.out.trans kk)
  refine hK.out _ _ (SA.out _ KW.out) (fun hHeld => ?_)
  clear hK K
  try simp only [Act.put, List.setIfInBounds_toArray, List.set_cons_zero, List.set_cons_succ, List.getElem_toArray, List.getElem_cons_zero, List.getElem_cons_succ]
  clear he kk
  refine wpAnyL_ready (rs := [15]) (by kernel_rfl) (by simp) ?_
  refine AllReadyL.last rfl (by kernel_rfl) (fun K hK => ?_)
  have EN := hik (EZ.out.keep KW.out)
  have g0 : U3.cell? ⟨w.heap.size, 0, none⟩ = some (.int .i64 0) := EN.out.c0
  have g1 : U3.cell? ⟨w.heap.size, 1, none⟩ = some (.int .i64 0) := EN.out.c1
  have f0 := EN.out.fz 0
  have f1 := EN.out.fz 1
  have ln : w.heap.size < U3.heap.size := EN.out.lt
  simp only [List.getElem_toArray, List.getElem_cons_zero, List.getElem_cons_succ]
  go_simp
  refine hK.out _ _ ?_
  clear hK K
  try simp only [Act.put, List.setIfInBounds_toArray, List.set_cons_zero, List.set_cons_succ, List.getElem_toArray, List.getElem_cons_zero, List.getElem_cons_succ]
  clear g0 g1 f0 f1 ln
  refine wpAnyL_done (by kernel_rfl) ?_ _
  have u0 := (EN.out.set (El.ml (v 0) (El.sb (El.ml (v 1) (v 2)) (v 3)))).c0
  have u1 := (EN.out.set (El.ml (v 0) (El.sb (El.ml (v 1) (v 2)) (v 3)))).c1
  have GE := hik (chg2_at (G0.out.trans KW.out) w.heap.size (fun l => absurd l (by omega)) 0 1 (.int .i64 (El.ml (v 0) (El.sb (El.ml (v 1) (v 2)) (v 3))).v.1) (.int .i64 (El.ml (v 0) (El.sb (El.ml (v 1) (v 2)) (v 3))).v.2))
  go_wp2
  exact bodyPost_ret (v := .agg #[.int .i64 (El.ml (v 0) (El.sb (El.ml (v 1) (v 2)) (v 3))).v.1, .int .i64 (El.ml (v 0) (El.sb (El.ml (v 1) (v 2)) (v 3))).v.2]) (by simp [results, Tryz.results96, go_sem, u0, u1]) rfl ⟨rfl, GE.out⟩

theorem sCmb_any {k : Nat} (hk : k = 1 ∨ k = 2) (c : Option Addr) (n cap : Nat) (hn : n = 2 * k) (v : Nat → El) (w : World) (h : Hid (PairE w c n v)) : Calls Tryz.prog 96 #[.int .i64 (k : Int), .slice c n cap] w fun e w' => e = .returned (.agg #[.int .i64 (cmb k v).v.1, .int .i64 (cmb k v).v.2]) ∧ Chg nob w w' := by
  subst hn
  rcases hk with rfl | rfl
  · exact sCmb1_any c cap v w h
  · exact sCmb2_any c cap v w h

set_option maxHeartbeats 2000000 in
theorem sAt8_any {k : Nat} (hk : k = 1 ∨ k = 2) (c : Option Addr) (n N p cap : Nat) (hn : n = 2 * k) (t : Nat → Nat → El) (w : World) (h : Hid (RowsE w c n N t)) (hp : p < N) (hN : N ≤ 4096) : Calls Tryz.prog 67 #[.int .i64 (k : Int), .slice c n cap, .int .i64 (p : Int)] w fun e w' => e = .returned (.agg #[.int .i64 (cmb k (fun j => t j p)).v.1, .int .i64 (cmb k (fun j => t j p)).v.2]) ∧ Chg nob w w' := by
  obtain ⟨i0, hi, hz0, hz1, hz2⟩ := info_parts infoExt
  have HI := hik hi
  have HZ0 := hik hz0
  have HZ1 := hik hz1
  have HZ2 := hik hz2
  clear hi hz0 hz1 hz2
  have hn4 : n ≤ 4 := by rcases hk with rfl | rfl <;> omega
  have HNK := hik hn
  have HKK := hik hk
  have hp1 : (p : Int) < (N : Int) := by omega
  have hp0 : (0 : Int) ≤ (p : Int) := by omega
  obtain ⟨v, hv⟩ : ∃ v, v = fun j => t j p := ⟨_, rfl⟩
  rw [← hv]
  have HV := hik (show ∀ j, t j p = v j from fun j => by rw [hv])
  have EZ := hik (ElB.zero w)
  have HU := hik (RowsE.keep h.out ((Chg.refl nob w).alloc (.cells #[.int .i64 0, .int .i64 0] 31)))
  have G0 := hik ((Chg.refl nob w).alloc (.cells #[.int .i64 0, .int .i64 0] 31))
  have H0E := hik (show (w.alloc (.cells #[.int .i64 0, .int .i64 0] 31)).heap.size = w.heap.size + 1 by simp)
  clear hv hn hk
  go_enter Tryz.func67, Tryz.ntmps67
  go_wp2
  generalize hE : w.alloc (.cells #[.int .i64 0, .int .i64 0] 31) = W0 at EZ HU G0 H0E ⊢
  clear hE
  go_loopw [7, 8] (fun u i W => ∃ j : Nat, j ≤ n ∧ i = .int .i64 (j : Int) ∧ Hid (W.ownsRow W0.heap.size 31 2 u j ((List.range (j * 2)).map (pf (cA v) (cB v)))) ∧ Hid (Chg nob W0 W)) (fun _ i _ => n - (intOf i).toNat)
  case atStart => exact ⟨0, Nat.zero_le _, rfl, hik (by rw [← H0E.out]; exact flNone W0 W0.heap.size 31 2 (Nat.le_refl _)), hik ((Chg.refl _ _).alloc _)⟩
  case round =>
    obtain ⟨j, hj, rfl, HW, HG⟩ := hrel
    rename World => wi
    by_cases hlt : j < n
    · have hj1 : (j : Int) < (n : Int) := by omega
      have hj0 : (0 : Int) ≤ (j : Int) := by omega
      obtain ⟨xb, xo, A, Cp, ec, hxb, hc, hP⟩ := (RowsE.keep HU.out HG.out) j hlt
      subst ec
      obtain ⟨ab, ao, ea, hab, y0, y1⟩ := PairE.at_ hP hp
      subst ea
      rw [HV.out j] at y0 y1
      clear hP
      have hsz := HG.out.size
      go_wp2_with (at_builtin; refine wpList_append_own _ rfl (.tmp 16) (.tmp 24) 26 rfl W0.heap.size 31 i0 (.agg #[.int .i64 0, .int .i64 0]) 2 16 Tryz.underlying26 HI.out HZ0.out HZ1.out HZ2.out rfl (by decide) _ j _ rfl (HW.out.alloc _) ⟨_, 0, none⟩ 1 1 [.int .i64 (v j).v.1, .int .i64 (v j).v.2] rfl rfl ?c1 ?c2 ?c3 ?c4 ?c5 ?c6)
      case c1 => exact flNews _ _ _ _
      case c2 => exact flOne _ _
      case c3 => unfold maxLen; omega
      case c4 => omega
      case c5 => simp; omega
      case c6 =>
        intro v' w2 hown hgr _
        have HW2 : Hid (w2.ownsRow W0.heap.size 31 2 v' (j + 1) ((List.range ((j + 1) * 2)).map (pf (cA v) (cB v)))) := hik (by rw [← flPair]; exact hown)
        have HG2 := hik ((HG.out.alloc _).grown hgr (fun i e l => absurd (HW.out.lt i e).1 (by omega)))
        clear hown hgr HW HG y0 y1 hc
        go_wp2
        go_roundw
        case rel => exact ⟨j + 1, by omega, by go_num, HW2, HG2⟩
        case measure => simp [intOf]; omega
    · obtain rfl : n = j := by omega
      have hcc : ¬ (n : Int) < (n : Int) := by omega
      obtain ⟨cv, capv, ev, hle, ov⟩ := OwnE.of_owns HW.out
      subst ev
      have V1 := hik (show PairE wi cv n v from OwnE.pairs ov)
      have E1 := hik (EZ.out.keep HG.out)
      have G1 := hik (G0.out.trans HG.out)
      clear ov HW HG
      go_wp2_with fail
      refine (sCmb_any HKK.out cv n capv HNK.out v _ V1).mono ?_
      rintro e W2 ⟨rfl, k2⟩
      have E2 := hik (E1.out.keep k2)
      have G2 := hik (G1.out.trans k2)
      clear k2 E1 G1 V1
      have c0 : W2.cell? ⟨w.heap.size, 0, none⟩ = some (.int .i64 0) := E2.out.c0
      have c1 : W2.cell? ⟨w.heap.size, 1, none⟩ = some (.int .i64 0) := E2.out.c1
      have f0 := E2.out.fz 0
      have f1 := E2.out.fz 1
      go_wp2
      have u0 := (E2.out.set (cmb k v)).c0
      have u1 := (E2.out.set (cmb k v)).c1
      exact bodyPost_ret (v := .agg #[.int .i64 (cmb k v).v.1, .int .i64 (cmb k v).v.2]) (by simp [results, Tryz.results67, go_sem, u0, u1]) rfl ⟨rfl, chg2_at G2.out w.heap.size (fun l => absurd l (by omega)) 0 1 _ _⟩

set_option maxHeartbeats 2000000 in
theorem sSum8_any {k : Nat} (hk : k = 1 ∨ k = 2) (c : Option Addr) (n N cap : Nat) (hn : n = 2 * k) (t : Nat → Nat → El) (w : World) (h : Hid (RowsE w c n N t)) (hN : N ≤ 4096) : Calls Tryz.prog 28 #[.int .i64 (k : Int), .slice c n cap] w fun e w' => e = .returned (.agg #[.int .i64 (sms k t N).v.1, .int .i64 (sms k t N).v.2]) ∧ Chg nob w w' := by
  have HNK := hik hn
  have HKK := hik hk
  have hn0 : 0 < n := by rcases hk with rfl | rfl <;> omega
  have hn0' : (0 : Int) < (n : Int) := by omega
  obtain ⟨xb, xo, A, Cp, ec, hxb, _, _⟩ := h.out 0 hn0
  subst ec
  obtain ⟨F, hF⟩ : ∃ F, F = fun i => cmb k (fun j => t j i) := ⟨_, rfl⟩
  have HF := hik (show ∀ i, cmb k (fun j => t j i) = F i from fun i => by rw [hF])
  have HS := hik (show sms k t N = El.sm F N by rw [hF]; rfl)
  rw [HS.out]
  clear hn hk hF
  have Z0 := hik ((ElB.zero w).keep ((Chg.refl nob _).alloc (.cells #[.int .i64 0, .int .i64 0] 31)))
  have Y0 := hik (by simpa using ElB.zero (w.alloc (.cells #[.int .i64 0, .int .i64 0] 31)) : ElB ((w.alloc (.cells #[.int .i64 0, .int .i64 0] 31)).alloc (.cells #[.int .i64 0, .int .i64 0] 31)) (w.heap.size + 1) El.zr)
  have G0 := hik (((Chg.refl nob w).alloc (.cells #[.int .i64 0, .int .i64 0] 31)).alloc (.cells #[.int .i64 0, .int .i64 0] 31))
  go_enter Tryz.func28, Tryz.ntmps28
  go_wp2
  generalize hE : (w.alloc (.cells #[.int .i64 0, .int .i64 0] 31)).alloc (.cells #[.int .i64 0, .int .i64 0] 31) = W0 at Z0 Y0 G0 ⊢
  clear hE
  go_loopw [6] (fun i W => ∃ j : Nat, j ≤ N ∧ i = .int .i64 (j : Int) ∧ Hid (ElB W (w.heap.size + 1) (El.sm F j)) ∧ Hid (ElB W w.heap.size El.zr) ∧ Hid (Chg nob w W)) (fun i _ => N - (intOf i).toNat)
  case atStart => exact ⟨0, Nat.zero_le _, rfl, Y0, Z0, G0⟩
  case round =>
    clear Z0 Y0 G0
    obtain ⟨j, hj, rfl, HY, HZ, HG⟩ := hrel
    rename World => wi
    have HU := hik (RowsE.keep h.out HG.out)
    obtain ⟨xb', xo', A0, C0, ec, _, hc0, _⟩ := HU.out 0 hn0
    cases ec
    have hc1 : wi.cell? ⟨xb, xo, none⟩ = some (.slice A0 N C0) := by simpa using hc0
    clear hc0
    by_cases hlt : j < N
    · have hj1 : (j : Int) < (N : Int) := by omega
      have y0 := HY.out.c0
      have y1 := HY.out.c1
      have hyl : w.heap.size + 1 < wi.heap.size := HY.out.lt
      go_wp2
      have KW := hik ((Chg.refl nob wi).drew1)
      have SA := hik (fun (WW : World) (kW : Chg nob wi WW) => (show (WW.cell? ⟨w.heap.size + 1, 0, none⟩ = some (.int .i64 (El.sm F j).v.1) ∧ WW.cell? ⟨w.heap.size + 1, 1, none⟩ = some (.int .i64 (El.sm F j).v.2)) from ⟨kW.see y0, kW.see y1⟩))
      refine wp_regionL (L := 6) (S := fun w' => w'.cell? ⟨w.heap.size + 1, 0, none⟩ = some (.int .i64 (El.sm F j).v.1) ∧ w'.cell? ⟨w.heap.size + 1, 1, none⟩ = some (.int .i64 (El.sm F j).v.2)) (by kernel_rfl) ⟨y0, y1⟩ (fun hHeld => ?_)
      refine wpAnyL_take (i := 0) (v := ?_) rfl (by kernel_rfl) (by kernel_rfl) (by kernel_rfl) (fun _ _ _ h => h) (by rfl) (by kernel_rfl) (by kernel_rfl) (Or.inl ⟨by rfl, ?_⟩) (by assumption) ?_
      rotate_left 1
      · (intro w' hSw; (try dsimp only at hSw); go_simp; try with_reducible rfl)
      try simp only [Act.put, List.setIfInBounds_toArray, List.set_cons_zero, List.set_cons_succ, List.getElem_toArray, List.getElem_cons_zero, List.getElem_cons_succ]
      refine wpAnyL_take (i := 1) (v := ?_) rfl (by kernel_rfl) (by kernel_rfl) (by kernel_rfl) (fun _ _ _ h => h) (by rfl) (by kernel_rfl) (by kernel_rfl) (Or.inl ⟨by rfl, ?_⟩) (by assumption) ?_
      rotate_left 1
      · (intro w' hSw; (try dsimp only at hSw); go_simp; try with_reducible rfl)
      try simp only [Act.put, List.setIfInBounds_toArray, List.set_cons_zero, List.set_cons_succ, List.getElem_toArray, List.getElem_cons_zero, List.getElem_cons_succ]
      refine wpAnyL_take (i := 2) (v := ?_) rfl (by kernel_rfl) (by kernel_rfl) (by kernel_rfl) (fun _ _ _ h => h) (by rfl) (by kernel_rfl) (by kernel_rfl) (Or.inl ⟨by rfl, ?_⟩) (by assumption) ?_
      rotate_left 1
      · (intro w' hSw; (try dsimp only at hSw); go_simp; try with_reducible rfl)
      try simp only [Act.put, List.setIfInBounds_toArray, List.set_cons_zero, List.set_cons_succ, List.getElem_toArray, List.getElem_cons_zero, List.getElem_cons_succ]
      refine wpAnyL_take (i := 3) (v := ?_) rfl (by kernel_rfl) (by kernel_rfl) (by kernel_rfl) (fun _ _ _ h => h) (by rfl) (by kernel_rfl) (by kernel_rfl) (Or.inl ⟨by rfl, ?_⟩) (by assumption) ?_
      rotate_left 1
      · (intro w' hSw; (try dsimp only at hSw); go_simp; try with_reducible rfl)
      try simp only [Act.put, List.setIfInBounds_toArray, List.set_cons_zero, List.set_cons_succ, List.getElem_toArray, List.getElem_cons_zero, List.getElem_cons_succ]
      refine wpAnyL_ready (rs := [4]) (by kernel_rfl) (by simp) ?_
      refine AllReadyL.cons rfl (fun K hK => ?_) AllReadyL.nil
      refine stepL_callN 67 #[.tmp 17, .tmp 18, .tmp 19] #[3, 24, 3] (by rfl) (by rfl) #[.int .i64 (k : Int), .slice (some ⟨xb, xo, none⟩) n cap, .int .i64 (j : Int)] (by simp only [List.map_toArray, List.map_cons, List.map_nil] <;> rfl) (run_go Tryz.func67 (by kernel_rfl) (by kernel_rfl) _ _) (sAt8_any HKK.out (some ⟨xb, xo, none⟩) n N j cap HNK.out t _ (hik (HU.out.keep KW.out)) hlt hN) ?_
      rintro e U1 ⟨he, kk⟩
      rw [HF.out j] at he
      refine ⟨_, he, ?_⟩
      replace KW := hik (KW.out.trans kk)
      refine hK.out _ _ (SA.out _ KW.out) (fun hHeld => ?_)
      clear hK K
      try simp only [Act.put, List.setIfInBounds_toArray, List.set_cons_zero, List.set_cons_succ, List.getElem_toArray, List.getElem_cons_zero, List.getElem_cons_succ]
      clear he kk
      refine wpAnyL_ready (rs := [5]) (by kernel_rfl) (by simp) ?_
      refine AllReadyL.cons rfl (fun K hK => ?_) AllReadyL.nil
      refine stepL_callN 66 #[.tmp 16, .tmp 20] #[31, 31] (by rfl) (by rfl) #[.agg #[.int .i64 (El.sm F j).v.1, .int .i64 (El.sm F j).v.2], .agg #[.int .i64 (F j).v.1, .int .i64 (F j).v.2]] (by simp only [List.map_toArray, List.map_cons, List.map_nil] <;> rfl) (run_go Tryz.func66 (by kernel_rfl) (by kernel_rfl) _ _) (sAd_el (El.sm F j) (F j) _) ?_
      rintro e U2 ⟨he, kk⟩
      refine ⟨_, he, ?_⟩
      replace KW := hik (KW.out.trans kk)
      refine hK.out _ _ (SA.out _ KW.out) (fun hHeld => ?_)
      clear hK K
      try simp only [Act.put, List.setIfInBounds_toArray, List.set_cons_zero, List.set_cons_succ, List.getElem_toArray, List.getElem_cons_zero, List.getElem_cons_succ]
      clear he kk
      refine wpAnyL_ready (rs := [6]) (by kernel_rfl) (by simp) ?_
      refine AllReadyL.last rfl (by kernel_rfl) (fun K hK => ?_)
      have EN := hik (HY.out.keep KW.out)
      have g0 := EN.out.c0
      have g1 := EN.out.c1
      have f0 := EN.out.fz 0
      have f1 := EN.out.fz 1
      have ln : w.heap.size + 1 < U2.heap.size := EN.out.lt
      simp only [List.getElem_toArray, List.getElem_cons_zero, List.getElem_cons_succ]
      go_simp
      refine hK.out _ _ ?_
      clear hK K
      try simp only [Act.put, List.setIfInBounds_toArray, List.set_cons_zero, List.set_cons_succ, List.getElem_toArray, List.getElem_cons_zero, List.getElem_cons_succ]
      clear g0 g1 f0 f1 ln
      refine wpAnyL_done (by kernel_rfl) ?_ _
      have E2 := hik (show ElB ((U2.setCell ⟨w.heap.size + 1, 0, none⟩ (.int .i64 (El.ad (El.sm F j) (F j)).v.1)).setCell ⟨w.heap.size + 1, 1, none⟩ (.int .i64 (El.ad (El.sm F j) (F j)).v.2)) (w.heap.size + 1) (El.sm F (j + 1)) from EN.out.set (El.ad (El.sm F j) (F j)))
      have Z2 := hik (ElB.other (HZ.out.keep KW.out) (g := w.heap.size + 1) (by omega) 0 1 (.int .i64 (El.ad (El.sm F j) (F j)).v.1) (.int .i64 (El.ad (El.sm F j) (F j)).v.2))
      have G2 := hik (chg2_at (HG.out.trans KW.out) (w.heap.size + 1) (fun l => absurd l (by omega)) 0 1 (.int .i64 (El.ad (El.sm F j) (F j)).v.1) (.int .i64 (El.ad (El.sm F j) (F j)).v.2))
      generalize hE : ((U2.setCell ⟨w.heap.size + 1, 0, none⟩ (.int .i64 (El.ad (El.sm F j) (F j)).v.1)).setCell ⟨w.heap.size + 1, 1, none⟩ (.int .i64 (El.ad (El.sm F j) (F j)).v.2)) = W5 at E2 Z2 G2 ⊢
      clear hE EN KW SA hHeld y0 y1 HY HZ HG HU hc1
      go_wp2
      go_roundw
      case rel => exact ⟨j + 1, by omega, by go_num, E2, Z2, G2⟩
      case measure => simp [intOf]; omega
    · obtain rfl : N = j := by omega
      have y0 := HY.out.c0
      have y1 := HY.out.c1
      have c0 : wi.cell? ⟨w.heap.size, 0, none⟩ = some (.int .i64 0) := HZ.out.c0
      have c1 : wi.cell? ⟨w.heap.size, 1, none⟩ = some (.int .i64 0) := HZ.out.c1
      have f0 := HZ.out.fz 0
      have f1 := HZ.out.fz 1
      go_wp2
      have u0 := (HZ.out.set (El.sm F N)).c0
      have u1 := (HZ.out.set (El.sm F N)).c1
      exact bodyPost_ret (v := .agg #[.int .i64 (El.sm F N).v.1, .int .i64 (El.sm F N).v.2]) (by simp [results, Tryz.results28, go_sem, u0, u1]) rfl ⟨rfl, chg2_at HG.out w.heap.size (fun l => absurd l (by omega)) 0 1 _ _⟩

end Go.Proofs.YtgiefpipflcbgadGreatDoor

namespace Go.Proofs.YtgiefpipflcbgadGreatDoor
set_option linter.unusedVariables false
set_option linter.unusedSimpArgs false

theorem line_isP (a b : El) : El.IsP 2 (fun x => El.ad a (El.ml x b)) := ⟨a, fun _ => b, El.IsP.const b, fun x => rfl⟩
theorem isP_line {n : Nat} {f : El → El} (h : El.IsP n f) (a b : El) : El.IsP (n + 1) (fun x => El.ml (El.ad a (El.ml x b)) (f x)) :=
  El.IsP.congr (El.IsP.add (El.IsP.up (El.IsP.scale h a)) (El.IsP.times (El.IsP.scale h b))) (fun x => by rw [El.ad_ml, El.ml_assoc])
theorem bd_isP (t : Nat → Nat → El) (j i : Nat) : El.IsP 2 (fun x => bdT t x j i) := line_isP _ _
theorem cmb_isP {k : Nat} (hk : k = 1 ∨ k = 2) (t : Nat → Nat → El) (i : Nat) : El.IsP (k + 2) (fun x => cmb k (fun j => bdT t x j i)) := by
  rcases hk with rfl | rfl
  · exact El.IsP.congr (isP_line (bd_isP t 1 i) _ _) (fun x => rfl)
  · exact El.IsP.congr (isP_line (El.IsP.sub (isP_line (bd_isP t 2 i) _ _) (El.IsP.up (bd_isP t 3 i))) _ _) (fun x => rfl)
theorem sms_isP {k : Nat} (hk : k = 1 ∨ k = 2) (t : Nat → Nat → El) (H : Nat) : El.IsP (k + 2) (fun x => sms k (bdT t x) H) :=
  El.IsP.sum (fun i _ => cmb_isP hk t i)

theorem bd_zr (t : Nat → Nat → El) (j i : Nat) : bdT t (El.nb 0) j i = t j (2 * i) := by
  show El.ad (t j (2 * i)) (El.ml (El.nb 0) _) = _
  rw [show El.nb 0 = El.zr from rfl, El.ml_comm, El.ml_zr, El.ad_zr]
theorem bd_on (t : Nat → Nat → El) (j i : Nat) : bdT t (El.nb 1) j i = t j (2 * i + 1) := by
  show El.ad (t j (2 * i)) (El.ml (El.nb 1) _) = _
  rw [show El.nb 1 = El.on from rfl, El.ml_comm, El.ml_on, El.ad_sb']
/-- A round's values at 0 and 1 add up to the sum. -/
theorem rd_sum {k : Nat} (hk : k = 1 ∨ k = 2) (t : Nat → Nat → El) (H : Nat) : El.ad (rdE k t H 0) (rdE k t H 1) = sms k t (2 * H) := by
  have e0 : rdE k t H 0 = El.sm (fun i => cmb k (fun j => t j (2 * i))) H := El.sm_congr (fun i _ => cmb_congr hk (fun j _ => bd_zr t j i))
  have e1 : rdE k t H 1 = El.sm (fun i => cmb k (fun j => t j (2 * i + 1))) H := El.sm_congr (fun i _ => cmb_congr hk (fun j _ => bd_on t j i))
  rw [e0, e1]
  unfold sms
  rw [El.sm_pairs, El.sm_ad]
/-- A round's function at r is the sum with variable 0 bound to r. -/
theorem rd_lag {k : Nat} (hk : k = 1 ∨ k = 2) (t : Nat → Nat → El) (H : Nat) (r : El) : El.lag (rdE k t H) r (k + 2) = sms k (bdT t r) H :=
  El.IsP.unique (El.lag_isP (rdE k t H) (k + 2)) (sms_isP hk t H) El.nb (fun i j hi hj hne => El.nb_inj (by omega) (by omega) hne) (fun i hi => El.lag_at (rdE k t H) hi (by omega)) r

end Go.Proofs.YtgiefpipflcbgadGreatDoor
