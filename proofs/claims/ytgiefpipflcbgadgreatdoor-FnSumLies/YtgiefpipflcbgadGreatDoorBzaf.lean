/- Several texts in one: Plain facts: what tables are combined to, sums over all places, rounds. No program is named here; no condition but those that each theorem states. · Tables by value in rows: words on memory; calls through function values: a law. No condition but those that each theorem states. · What the model's looks at kinds of sums, its combinations and its sums answer: contracts. Conditions: elements of the greater field, lists that can be read. · Plain facts: rounds of a sum are values of a polynomial function; a round's first two values add up to the sum; the function's value at r is the sum with variable 0 bound to r. No program is named here; no condition but those that each theorem states. -/
import Derived.Test.YtgiefpipflcbgadGreatDoorBzaq
import Derived.Test.YtgiefpipflcbgadGreatDoorBzbc
import Derived.Test.YtgiefpipflcbgadGreatDoorBzae
import Derived.Test.YtgiefpipflcbgadGreatDoorBzac
import Derived.Deep.MidRow
import Derived.Laws.EntriesVeiled
import Derived.Test.YtgiefpipflcbgadGreatDoorBzbb
import Derived.Deep.DeepCutAuto
namespace Go.Proofs.YtgiefpipflcbgadGreatDoor
set_option linter.unusedVariables false
set_option linter.unusedSimpArgs false

/-- What values are combined to: a product of two (kind 1), or the first times what the product of the next two is more than the fourth. -/
def cmb (k : Nat) (v : Nat → El) : El := if k = 1 then El.ml (v 0) (v 1) else El.ml (v 0) (El.sb (El.ml (v 1) (v 2)) (v 3))
theorem cmb_congr {k : Nat} {v u : Nat → El} (hk : k = 1 ∨ k = 2) (h : ∀ i, i < 2 * k → v i = u i) : cmb k v = cmb k u := by
  unfold cmb
  rcases hk with rfl | rfl
  · rw [if_pos rfl, if_pos rfl, h 0 (by omega), h 1 (by omega)]
  · rw [if_neg (by decide), if_neg (by decide), h 0 (by omega), h 1 (by omega), h 2 (by omega), h 3 (by omega)]
/-- The sum over N places. -/
def sms (k : Nat) (t : Nat → Nat → El) (N : Nat) : El := El.sm (fun i => cmb k (fun j => t j i)) N
theorem sms_congr {k : Nat} {t u : Nat → Nat → El} {N : Nat} (hk : k = 1 ∨ k = 2) (h : ∀ j i, j < 2 * k → i < N → t j i = u j i) : sms k t N = sms k u N :=
  El.sm_congr (fun i hi => cmb_congr hk (fun j hj => h j i hj hi))
/-- Variable 0 of all tables bound. -/
def bdT (t : Nat → Nat → El) (r : El) (j : Nat) : Nat → El := El.fldE (t j) r
/-- A round's values. -/
def rdE (k : Nat) (t : Nat → Nat → El) (H x : Nat) : El := sms k (bdT t (El.nb x)) H

end Go.Proofs.YtgiefpipflcbgadGreatDoor

namespace Go.Proofs.YtgiefpipflcbgadGreatDoor
open Go.ChangeShapes Go.WideShapes Go.ChangeAt Go.RowKit
set_option linter.unusedVariables false
set_option maxRecDepth 100000
set_option linter.unusedSimpArgs false

/-- Table i of a row has size S i and the elements T i: its cells. -/
def cvs (S : Nat → Nat) (T : Nat → Nat → El) (i : Nat) : Value := cv (S (i / 129)) (T (i / 129)) (i % 129)
theorem cvs_at (S : Nat → Nat) (T : Nat → Nat → El) (k j : Nat) (hj : j < 129) : cvs S T (k * 129 + j) = cv (S k) (T k) j := by
  unfold cvs
  rw [show (k * 129 + j) / 129 = k by omega, show (k * 129 + j) % 129 = j by omega]
theorem cv_congr {s i : Nat} {t u : Nat → El} (hi : i < 129) (e : ∀ j, j < 64 → t j = u j) : cv s t i = cv s u i := by
  unfold cv
  by_cases h0 : i = 0
  · rw [if_pos h0, if_pos h0]
  · rw [if_neg h0, if_neg h0, e (i / 2 - 1) (by omega)]
    by_cases h1 : i % 2 = 1
    · rw [if_pos h1, if_pos h1, e (i / 2) (by omega)]
    · rw [if_neg h1, if_neg h1]
/-- n tables by value in block b. -/
def Cbs (w : World) (b n : Nat) (S : Nat → Nat) (T : Nat → Nat → El) : Prop := w.rowIs b 66 (n * 129) (cvs S T)
section
variable {w w' : World} {b n : Nat} {S S' : Nat → Nat} {T T' : Nat → Nat → El}
theorem Cbs.keep (h : Cbs w b n S T) (k : Chg nob w w') : Cbs w' b n S T := rowIs_keep h k
theorem Cbs.chg {P : Nat → Prop} (h : Cbs w b n S T) (k : Chg P w w') (hp : ¬ P b) : Cbs w' b n S T := rowIs_chg h k hp
theorem Cbs.lt (h : Cbs w b n S T) : b < w.heap.size := World.rowIs.lt h
theorem Cbs.fz (h : Cbs w b n S T) (o : Nat) : w.frozen? ⟨b, o, none⟩ = false := World.rowIs.frozen h o
theorem Cbs.cell (h : Cbs w b n S T) {k j : Nat} (hk : k < n) (hj : j < 129) : w.cell? ⟨b, k * 129 + j, none⟩ = some (cv (S k) (T k) j) := by
  rw [World.rowIs.cell h (by omega), cvs_at S T k j hj]
theorem Cbs.c (h : Cbs w b n S T) {k : Nat} (hk : k < n) : w.cell? ⟨b, k * 129, none⟩ = some (.int .i64 (S k : Int)) := by
  have q := h.cell (j := 0) hk (by omega)
  rw [Nat.add_zero, cv_0] at q
  exact q
theorem Cbs.c0 (h : Cbs w b n S T) {k j : Nat} (hk : k < n) (hj : j < 64) : w.cell? ⟨b, k * 129 + 1 + j * 2, none⟩ = some (.int .i64 (T k j).v.1) := by
  rw [Nat.add_assoc, h.cell hk (by omega), cv_a]
theorem Cbs.c1 (h : Cbs w b n S T) {k j : Nat} (hk : k < n) (hj : j < 64) : w.cell? ⟨b, k * 129 + 1 + j * 2 + 1, none⟩ = some (.int .i64 (T k j).v.2) := by
  rw [Nat.add_assoc, Nat.add_assoc, ← Nat.add_assoc 1, h.cell hk (by omega), cv_b]
theorem Cbs.congr (h : Cbs w b n S T) (e1 : ∀ i, i < n → S i = S' i) (e2 : ∀ i, i < n → ∀ j, j < 64 → T i j = T' i j) : Cbs w b n S' T' :=
  World.rowIs.congr h (fun i hi => by
    unfold cvs
    have hi' : i / 129 < n := by omega
    rw [e1 _ hi', cv_congr (Nat.mod_lt i (by omega)) (e2 _ hi')])
theorem Cbs.range (h : Cbs w b n S T) {k : Nat} (hk : k < n) : w.rangeAt b (k * 129) (cb (S k) (T k)).toList := fun j v hv => by
  have hj : j < 129 := by
    have := (List.getElem?_eq_some_iff.1 hv).1
    rw [Array.length_toList, cb, rowA_size] at this
    exact this
  rw [h.cell hk hj]
  rw [Array.getElem?_toList, cb, rowA_at 129 _ j hj] at hv
  exact hv
theorem Cbs.there (h : Cbs w b n S T) {k : Nat} (hk : k < n) (s : Nat) (t : Nat → El) : w.there b (k * 129) (cb s t).size := fun j hj => by
  rw [cb, rowA_size] at hj
  exact ⟨by rw [h.cell hk hj]; rfl, h.fz _⟩
theorem cb_len (s : Nat) (t : Nat → El) : (cb s t).toList.length = 129 := by rw [Array.length_toList, cb, rowA_size]
theorem rowIs_cells {b : Nat} {t : TypeId} {n : Nat} : ∀ (vs : List Value) (o : Nat) (w : World) (f : Nat → Value), w.rowIs b t n f → (w.setCells b o vs).rowIs b t n (fun j => if o ≤ j ∧ j < o + vs.length then vs[j - o]?.getD undef else f j)
  | [], o, w, f, h => World.rowIs.congr h (fun j _ => by rw [if_neg (by simp)])
  | v :: r, o, w, f, h => by
    refine World.rowIs.congr (rowIs_cells r (o + 1) _ _ (World.rowIs.set h o v)) (fun j _ => ?_)
    by_cases q : j = o
    · subst q
      rw [if_neg (by omega), if_pos rfl, if_pos (show j ≤ j ∧ j < j + (v :: r).length from ⟨Nat.le_refl _, by simp⟩), Nat.sub_self]
      rfl
    · by_cases q2 : o + 1 ≤ j ∧ j < o + 1 + r.length
      · rw [if_pos q2, if_pos ⟨by omega, by simp only [List.length_cons]; omega⟩, show j - o = (j - (o + 1)) + 1 by omega, List.getElem?_cons_succ]
      · rw [if_neg q2, if_neg q, if_neg (by simp only [List.length_cons]; omega)]
theorem chg_cells {P : Nat → Prop} {a : World} {b : Nat} : ∀ (vs : List Value) (o : Nat) (w : World), Chg P a w → (b < a.heap.size → P b) → Chg P a (w.setCells b o vs)
  | [], _, _, h, _ => h
  | v :: r, o, w, h, hp => chg_cells r (o + 1) _ (h.setCell (p := ⟨b, o, none⟩) hp v) hp
theorem Cbs.put (h : Cbs w b n S T) {k : Nat} (hk : k < n) (s : Nat) (t : Nat → El) : Cbs (w.setCells b (k * 129) (cb s t).toList) b n (fun i => if i = k then s else S i) (fun i => if i = k then t else T i) :=
  World.rowIs.congr (rowIs_cells _ _ _ _ h) (fun i hi => by
    rw [cb_len]
    unfold cvs
    dsimp only
    by_cases q : i / 129 = k
    · rw [if_pos (by omega), if_pos q, if_pos q, Array.getElem?_toList, cb, rowA_at 129 _ _ (by omega), show i - k * 129 = i % 129 by omega]
      rfl
    · rw [if_neg (by omega), if_neg q, if_neg q])
end
theorem infoC3 : (Tryz.prog.info? 66).map (fun i => (i.zero, i.size, i.bytes)) = some (some (.agg (cb 0 zE)), 129, 1032) := by kernel_rfl
theorem infoC_parts : ∃ i, Tryz.prog.info? 66 = some i ∧ i.zero = some (.agg (cb 0 zE)) ∧ i.size = 129 ∧ i.bytes = 1032 := by
  have h := infoC3
  cases q : Tryz.prog.info? 66 with
  | none => rw [q] at h; cases h
  | some i =>
    rw [q] at h
    simp only [Option.map_some, Option.some.injEq, Prod.mk.injEq] at h
    exact ⟨i, rfl, h.1, h.2.1, h.2.2⟩
section
variable {ops : Array Oper} {rest : List Oper} {o : Oper} {a : Act} {w : World} {Q : Exit → Act → World → Prop}
/-- make([]cube, n). -/
theorem wpList_make_cubes (w : World) (hg : o.guard = none) (l c : Operand) (hop : o.op = Op.makeSlice 56 l c)
    (n : Nat) (L C : Int) (hl : a.eval l = .int .i64 L) (hc : a.eval c = .int .i64 C) (hL : L = (n : Int)) (hC : C = (n : Int)) (hn : n ≤ 4096)
    (hK : ∀ w', Cbs w' w.heap.size n (fun _ => 0) (fun _ => zE) → Chg nob w w' → wpList Tryz.prog ops Q rest (a.put o.dst (.slice (some ⟨w.heap.size, 0, none⟩) n n)) w') :
    wpList Tryz.prog ops Q (o :: rest) a w := by
  obtain ⟨i, h2, h3, h4, h5⟩ := infoC_parts
  refine wpList_plain hg fun K hK' => ?_
  have hrun := run_make (P := Tryz.prog) w 56 66 i _ Tryz.underlying56 h2 h3 .i64 .i64 n n (by omega) (Int.le_refl _) (by rw [h5]; omega) (by omega)
  simp only [Int.toNat_natCast, h4] at hrun
  subst hL
  subst hC
  unfold Oper.wp
  simp [execOp, hop, hl, hc, hrun, Result.andThen]
  refine hK' _ _ (hK _ ⟨_, Go.Deep.blk_alloc_new _ _, size_madeCells _ _, fun j hj => ?_⟩ ((Chg.refl _ _).alloc _))
  have h9 : j % 129 < (cb 0 zE).size := by rw [cb, rowA_size]; exact Nat.mod_lt _ (by omega)
  have hs : (cb 0 zE).size = 129 := by rw [cb, rowA_size]
  simp only [madeCells, Value.cells, hs]
  rw [Array.getElem?_map, Array.getElem?_range, if_pos hj]
  simp only [Option.map_some, cvs]
  rw [getElem!_pos (cb 0 zE) (j % 129) h9]
  congr 1
  exact rowA_get 129 _ _ h9
/-- The same in a region that draws its order. -/
theorem yields_load_cbs {R : World → Prop} (hw : Region.wanted o (yielded ops a.tmps) = true) (x : Operand) (ho : o.op = .load 66 x) (b k s : Nat) (t : Nat → El) (hx : a.eval x = .pointer (some ⟨b, k * 129, none⟩)) (hS : ∀ w, R w → w.rangeAt b (k * 129) (cb s t).toList) : YieldsIf Tryz.prog ops R o (.agg (cb s t)) a := by
  have := yieldsIf_load_mid (P := Tryz.prog) hw 66 x ho b (k * 129) hx (cb s t).toList _ hS Tryz.underlying66 rfl (by rw [cb_len]; exact infoC1)
  rw [Array.toArray_toList] at this
  exact this
theorem cb_one (s : Nat) (t : Nat → El) : (cb s t).all (·.oneCell') = true := by
  rw [Array.all_eq_true_iff_forall_mem]
  intro v hv
  simp only [cb, rowA, List.mem_toArray, List.mem_map, List.mem_range] at hv
  obtain ⟨i, _, rfl⟩ := hv
  exact cv_one s t i
/-- A table into a row, a step of a region that draws its order. -/
theorem stepL_store_cbs {K : Act → World → Prop} {E : Prop} (x y : Operand) (ho : o.op = .store 66 x y) (hw : Region.wanted o (yielded ops a.tmps) = true) (b n k s : Nat) (t : Nat → El) (S : Nat → Nat) (T : Nat → Nat → El) (hx : a.eval x = .pointer (some ⟨b, k * 129, none⟩)) (hy : a.eval y = .agg (cb s t)) (hr : Cbs w b n S T) (hk : k < n)
    (h : ∀ w', Cbs w' b n (fun i => if i = k then s else S i) (fun i => if i = k then t else T i) → Chg (fun x => x = b) w w' → K (a.put o.dst undef) w') :
    if Region.wanted o (yielded ops a.tmps) = true then Oper.wp Tryz.prog o a w K Q else E := by
  rw [if_pos hw]
  exact wp_store_mid 66 x y ho b (k * 129) (cb s t) hx hy (hr.there hk s t) (by rw [cb, rowA_size]; exact infoC1) (cb_one s t) (h _ (hr.put hk s t) (chg_cells _ _ _ (Chg.refl _ _) (fun _ => rfl)))
/-- A table into a row. -/
theorem wpList_store_cbs (x y : Operand) (hgd : o.guard = none) (ho : o.op = .store 66 x y) (b n k s : Nat) (t : Nat → El) (S : Nat → Nat) (T : Nat → Nat → El) (hx : a.eval x = .pointer (some ⟨b, k * 129, none⟩)) (hy : a.eval y = .agg (cb s t)) (hr : Cbs w b n S T) (hk : k < n)
    (h : ∀ w', Cbs w' b n (fun i => if i = k then s else S i) (fun i => if i = k then t else T i) → Chg (fun x => x = b) w w' → wpList Tryz.prog ops Q rest (a.put o.dst undef) w') : wpList Tryz.prog ops Q (o :: rest) a w := by
  refine wpList_store_mid hgd 66 x y ho b (k * 129) (cb s t) hx hy (hr.there hk s t) (by rw [cb, rowA_size]; exact infoC1) ?_ (h _ (hr.put hk s t) (chg_cells _ _ _ (Chg.refl _ _) (fun _ => rfl)))
  rw [Array.all_eq_true_iff_forall_mem]
  intro v hv
  simp only [cb, rowA, List.mem_toArray, List.mem_map, List.mem_range] at hv
  obtain ⟨i, _, rfl⟩ := hv
  exact cv_one s t i
end
section
variable {P : Program} {ops : Array Oper} {o : Oper} {a : Act} {w : World} {K : Act → World → Prop} {Q : Exit → Act → World → Prop} {E : Prop}
/-- A call of a function value, a step of a region that draws its order. -/
theorem stepL_callV (f : FuncId) (x : Operand) (first cap : Array Value) (xs : Array Operand) (ats : Array TypeId) (hop : o.op = .call { callee := .value x, args := xs, argTypes := ats }) (hw : Region.wanted o (yielded ops a.tmps) = true) (hx : a.eval x = .func (.func f) first cap) (args : Array Value) (hargs : first ++ xs.map a.eval ++ cap = args) (hcf : (callFunc f args).run P w = .ok (.enter f args) w) {R : Ending → World → Prop} (h : Calls P f args w R) (hR : ∀ e W, R e W → ∃ v, e = .returned v ∧ K (a.put o.dst v) W) :
    if Region.wanted o (yielded ops a.tmps) = true then Oper.wp P o a w K Q else E := by
  rw [if_pos hw]
  unfold Oper.wp
  have e1 : execOp a.eval o = callFunc f (first ++ xs.map a.eval ++ cap) := by
    obtain ⟨dst', op, ty, pos, after, guard⟩ := o
    simp only at hop
    subst hop
    simp only [execOp, resolve, hx]
    rfl
  rw [e1, hargs, hcf, Oper.upon_enter]
  exact h.mono (fun e W r => by
    obtain ⟨v, rfl, k⟩ := hR e W r
    exact k)
end

end Go.Proofs.YtgiefpipflcbgadGreatDoor

namespace Go.Proofs.YtgiefpipflcbgadGreatDoor
open Go.ChangeShapes Go.WideShapes Go.ChangeAt Go.RowKit
set_option linter.unusedVariables false
set_option maxRecDepth 100000
set_option linter.unusedSimpArgs false

/-- A kind of sums. -/
def kdb (k : Int) : Bool := decide (k = 1 ∨ k = 2)
theorem kdb_nat {k : Int} (h : kdb k = true) : ∃ m : Nat, k = (m : Int) ∧ (m = 1 ∨ m = 2) := by
  unfold kdb at h
  rcases of_decide_eq_true h with rfl | rfl
  · exact ⟨1, rfl, .inl rfl⟩
  · exact ⟨2, rfl, .inr rfl⟩

set_option maxHeartbeats 1000000 in
theorem sKind_any (k : Int) (w : World) : Calls Tryz.prog 51 #[.int .i64 k] w fun e w' => e = .returned (.bool (kdb k)) ∧ w' = w := by
  by_cases h1 : k = 1
  · subst h1
    go_enter Tryz.func51, Tryz.ntmps51
    go_wp2
    go_ret
    exact ⟨rfl, rfl⟩
  · have hb1 : (k == 1) = false := by simpa using h1
    by_cases h2 : k = 2
    · subst h2
      go_enter Tryz.func51, Tryz.ntmps51
      go_wp2
      go_ret
      exact ⟨rfl, rfl⟩
    · have hb2 : (k == 2) = false := by simpa using h2
      have HK := hik (show kdb k = false from decide_eq_false (by omega))
      rw [HK.out]
      clear h1 h2
      go_enter Tryz.func51, Tryz.ntmps51
      go_wp2
      go_ret
      exact ⟨rfl, rfl⟩

set_option maxHeartbeats 400000 in
theorem sDeg_any (k d : Int) (hw : IntKind.i64.wrap (k + 1) = d) (w : World) : Calls Tryz.prog 86 #[.int .i64 k] w fun e w' => e = .returned (.int .i64 d) ∧ w' = w := by
  go_enter Tryz.func86, Tryz.ntmps86
  go_wp2
  go_ret
  exact ⟨rfl, rfl⟩

set_option maxHeartbeats 400000 in
theorem sTbl_any (k d : Int) (hw : IntKind.i64.wrap (2 * k) = d) (w : World) : Calls Tryz.prog 54 #[.int .i64 k] w fun e w' => e = .returned (.int .i64 d) ∧ w' = w := by
  go_enter Tryz.func54, Tryz.ntmps54
  go_wp2
  go_ret
  exact ⟨rfl, rfl⟩

end Go.Proofs.YtgiefpipflcbgadGreatDoor

namespace Go.Proofs.YtgiefpipflcbgadGreatDoor
set_option linter.unusedVariables false
set_option linter.unusedSimpArgs false

theorem bd_zr (t : Nat → Nat → El) (j i : Nat) : bdT t (El.nb 0) j i = t j (2 * i) := by
  show El.ad (t j (2 * i)) (El.ml (El.nb 0) _) = _
  rw [show El.nb 0 = El.zr from rfl, El.ml_comm, El.ml_zr, El.ad_zr]
theorem bd_on (t : Nat → Nat → El) (j i : Nat) : bdT t (El.nb 1) j i = t j (2 * i + 1) := by
  show El.ad (t j (2 * i)) (El.ml (El.nb 1) _) = _
  rw [show El.nb 1 = El.on from rfl, El.ml_comm, El.ml_on, El.ad_sb']
/-- A round's values at 0 and 1 add up to the sum. -/
theorem rd_sum {k : Nat} (hk : k = 1 ∨ k = 2) (t : Nat → Nat → El) (H : Nat) : El.ad (rdE k t H 0) (rdE k t H 1) = sms k t (2 * H) := by
  have e0 : rdE k t H 0 = El.sm (fun i => cmb k (fun j => t j (2 * i))) H := El.sm_congr (fun i _ => cmb_congr hk (fun j _ => bd_zr t j i))
  have e1 : rdE k t H 1 = El.sm (fun i => cmb k (fun j => t j (2 * i + 1))) H := El.sm_congr (fun i _ => cmb_congr hk (fun j _ => bd_on t j i))
  rw [e0, e1]
  unfold sms
  rw [El.sm_pairs, El.sm_ad]

end Go.Proofs.YtgiefpipflcbgadGreatDoor
