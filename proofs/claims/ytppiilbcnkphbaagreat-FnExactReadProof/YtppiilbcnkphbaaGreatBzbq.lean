/- Several texts in one: Regions that draw their order, in which two new boxes may come up at any time beside a chain of calls: a law. No program is named here; no condition but those that each theorem states. · Regions that draw their order, in which new boxes come up at any time beside a chain of other operations: laws, by which each operation is walked once. No program is named here; no condition but those that each theorem states. -/
import Derived.Test.YtppiilbcnkphbaaGreatBzal
namespace Go.Proofs.YtppiilbcnkphbaaGreat
open Go.RowKit
set_option linter.unusedVariables false

section
variable {P : Program} {ops : Array Oper} {Q : Exit → Act → World → Prop} {md : Region.Mode} {S : World → Prop}
theorem put_put {a : Act} {d : Nat} {v u : Value} : (a.put (some d) v).put (some d) u = a.put (some d) u := by simp [Act.put]
theorem put_comm {a : Act} {d t : Nat} {v u : Value} (h : d ≠ t) : (a.put (some d) v).put (some t) u = (a.put (some t) u).put (some d) v := by
  simp only [Act.put]
  rw [Array.setIfInBounds_comm _ _ h]
theorem put_same {a : Act} {d : Nat} (h : d < a.tmps.size) : a.put (some d) (a.eval (.tmp d)) = a := by
  cases a with
  | mk tmps defers =>
    simp only [Act.put, Act.eval]
    congr 1
    apply Array.ext_getElem?
    intro i
    simp only [Array.getElem?_setIfInBounds]
    split
    · rename_i e
      subst e
      have h' : d < tmps.size := h
      simp [h']
    · rfl
theorem stepA_alloc {o : Oper} {a : Act} {w : World} {K : Act → World → Prop} {E : Prop} (t : TypeId) (ho : o.op = .alloc t) (hw : Region.wanted o (yielded ops a.tmps) = true) {v : Value} {w2 : World} (hr : (Instr.alloc t true (.tuple #[])).run P w = .ok v w2) (h : K (a.put o.dst v) w2) :
    if Region.wanted o (yielded ops a.tmps) = true then Oper.wp P o a w K Q else E := by
  rw [if_pos hw]
  obtain ⟨dst', op, ty, pos, after, guard⟩ := o
  simp only at ho
  subst ho
  unfold Oper.wp
  simp only [execOp, Sem.run_bind, Sem.run_pure, hr, Result.andThen_ok]
  exact h
theorem wpAnyH_as {fuel fuel' : Nat} {listed listed' : Array Bool} {a : Act} {w : World} (hf : fuel = fuel') (hl : listed = listed') (h : wpAnyH P md ops Q S fuel' listed' a w) : wpAnyH P md ops Q S fuel listed a w := by
  rw [hf, hl]; exact h
end

end Go.Proofs.YtppiilbcnkphbaaGreat

namespace Go.Proofs.YtppiilbcnkphbaaGreat
open Go.RowKit
set_option linter.unusedVariables false

/-- An operation that makes a block and waits for nothing: its number, its slot, what it makes, its value by the block. -/
structure Flo where
  idx : Nat
  slot : Nat
  obj : Obj
  val : Nat → Value
/-- The slots of floats, by u. -/
def putF : List Flo → Nat → (Nat → Value) → Act → Act
  | [], _, _, a => a
  | f :: fs, k, u, a => putF fs (k + 1) u (a.put (some f.slot) (u k))
/-- What is listed: the chain's operations, and the floats by their bits. -/
def lstOf (n : Nat) (cs : List Nat) (fl : List Nat) (b : List Bool) : Array Bool :=
  ((List.range n).map fun i => cs.contains i || ((fl.zip b).any fun p => p.1 == i && p.2)).toArray
/-- All lists of n bits. -/
def allB : Nat → List (List Bool)
  | 0 => [[]]
  | n + 1 => (allB n).flatMap fun l => [false :: l, true :: l]
theorem mem_allB : ∀ (l : List Bool), l ∈ allB l.length
  | [] => by simp [allB]
  | b :: l => by
    simp only [List.length_cons, allB, List.mem_flatMap]
    exact ⟨l, mem_allB l, by cases b <;> simp⟩

theorem putF_congr : ∀ (fs : List Flo) (k : Nat) (u u' : Nat → Value) (a : Act), (∀ i, k ≤ i → u i = u' i) → putF fs k u a = putF fs k u' a
  | [], _, _, _, _, _ => rfl
  | f :: fs, k, u, u', a, h => by
    simp only [putF]
    rw [h k (Nat.le_refl _)]
    exact putF_congr fs (k + 1) u u' _ (fun i hi => h i (by omega))
theorem putF_ne : ∀ (fs : List Flo) (k : Nat) (u : Nat → Value) (a : Act) (d : Nat) (v : Value), (fs.all fun f => f.slot != d) = true → (putF fs k u a).put (some d) v = putF fs k u (a.put (some d) v)
  | [], _, _, _, _, _, _ => rfl
  | f :: fs, k, u, a, d, v, h => by
    simp only [List.all_cons, Bool.and_eq_true, bne_iff_ne, ne_eq] at h
    simp only [putF]
    rw [putF_ne fs (k + 1) u _ d v h.2, put_comm h.1]
theorem putF_dst {fs : List Flo} {k : Nat} {u : Nat → Value} {a : Act} {dst : Option Tmp} {v : Value} (h : (match dst with | some d => fs.all fun f => f.slot != d | none => true) = true) : (putF fs k u a).put dst v = putF fs k u (a.put dst v) := by
  cases dst with
  | none => rfl
  | some d => exact putF_ne fs k u a d v h
/-- The slots of floats are other ones. -/
def apartF : List Flo → Bool
  | [] => true
  | f :: fs => (fs.all fun g => g.slot != f.slot && g.idx != f.idx) && apartF fs
theorem putF_set : ∀ (fs : List Flo) (k j : Nat) (u : Nat → Value) (a : Act) (f : Flo) (v : Value), apartF fs = true → fs[j]? = some f → (putF fs k u a).put (some f.slot) v = putF fs k (fun i => if i = k + j then v else u i) a
  | [], _, _, _, _, _, _, _, h => by simp at h
  | g :: fs, k, 0, u, a, f, v, ha, h => by
    simp only [List.getElem?_cons_zero, Option.some.injEq] at h
    subst h
    simp only [apartF, Bool.and_eq_true] at ha
    simp only [putF]
    rw [putF_ne fs (k + 1) u _ g.slot v (by rw [List.all_eq_true]; intro x hx; have := List.all_eq_true.1 ha.1 x hx; simp only [Bool.and_eq_true] at this; exact this.1), put_put]
    simp only [Nat.add_zero, if_true]
    exact putF_congr fs (k + 1) _ _ _ (fun i hi => by rw [if_neg (by omega)])
  | g :: fs, k, j + 1, u, a, f, v, ha, h => by
    simp only [List.getElem?_cons_succ] at h
    simp only [apartF, Bool.and_eq_true] at ha
    simp only [putF]
    rw [putF_set fs (k + 1) j u _ f v ha.2 h]
    rw [if_neg (show ¬ k = k + (j + 1) by omega)]
    exact putF_congr fs (k + 1) _ _ _ (fun i hi => by
      by_cases e : i = k + 1 + j
      · rw [if_pos e, if_pos (by omega)]
      · rw [if_neg e, if_neg (by omega)])
theorem putF_same : ∀ (fs : List Flo) (k : Nat) (u : Nat → Value) (a : Act), (∀ j f, fs[j]? = some f → u (k + j) = a.eval (.tmp f.slot) ∧ f.slot < a.tmps.size) → putF fs k u a = a
  | [], _, _, _, _ => rfl
  | f :: fs, k, u, a, h => by
    simp only [putF]
    have h0 := h 0 f (by simp)
    rw [Nat.add_zero] at h0
    rw [h0.1, put_same h0.2]
    exact putF_same fs (k + 1) u a (fun j g hg => by
      have := h (j + 1) g (by simpa using hg)
      rw [show k + 1 + j = k + (j + 1) by omega]
      exact this)

theorem rowN_at {w : World} {g n : Nat} {a : Array Value} {t : TypeId} (h : w.heap[g]? = some (.cells a t)) (hn : a.size = n) : w.rowIs g t n (fun i => a.getD i undef) :=
  ⟨a, h, hn, fun i hi => by simp [hn, hi]⟩
section
variable {P : Program} {ops : Array Oper} {Q : Exit → Act → World → Prop} {W0 : World} {fl : List Flo}
/-- Blocks of the floats that have come up: other ones, none below B, none of A, each as it was made. -/
def Bx (fl : List Flo) (B : Nat) (A : Nat → Prop) (b : List Bool) (g : Nat → Nat) (u : Nat → Value) (w : World) : Prop :=
  ∀ k f, fl[k]? = some f → b[k]? = some true → u k = f.val (g k) ∧ B ≤ g k ∧ g k < w.heap.size ∧ w.heap[g k]? = some f.obj ∧ ¬ A (g k) ∧ ∀ j, j < k → b[j]? = some true → g j ≠ g k
theorem Bx.keep {B : Nat} {A : Nat → Prop} {b : List Bool} {g : Nat → Nat} {u : Nat → Value} {w w' : World} (h : Bx fl B A b g u w) (k : Chg nob w w') : Bx fl B (fun x => A x ∨ (w.heap.size ≤ x ∧ x < w'.heap.size)) b g u w' := fun i f hf hb => by
  obtain ⟨h1, h2, h3, h4, h0, h5⟩ := h i f hf hb
  refine ⟨h1, h2, Nat.lt_of_lt_of_le h3 k.size, by rw [k.block _ h3 (fun x => x)]; exact h4, fun x => ?_, h5⟩
  rcases x with x | x
  · exact h0 x
  · omega
/-- A float comes up. -/
theorem Bx.add {B : Nat} {A : Nat → Prop} {b : List Bool} {g : Nat → Nat} {u : Nat → Value} {w : World} (h : Bx fl B A b g u w) (hA : ∀ x, A x → x < w.heap.size) (hB : B ≤ w.heap.size) {j : Nat} {f : Flo} (hj : fl[j]? = some f) (hb : b[j]? = some false) :
    Bx fl B A (b.set j true) (fun i => if i = j then w.heap.size else g i) (fun i => if i = j then f.val w.heap.size else u i) (w.alloc f.obj) := fun k f' hf hk => by
  have hlt : j < b.length := by
    rcases Nat.lt_or_ge j b.length with h' | h'
    · exact h'
    · rw [List.getElem?_eq_none h'] at hb; cases hb
  by_cases e : k = j
  · subst e
    rw [hj] at hf
    cases hf
    refine ⟨by simp, by simpa using hB, by simp, by show (w.heap.push f.obj)[_]? = _; simp, fun x => by simp only [if_true] at x; exact absurd (hA _ x) (Nat.lt_irrefl _), fun i hi hbi => ?_⟩
    rw [List.getElem?_set_ne (by omega)] at hbi
    simp only [show ¬ i = k by omega, if_false, if_true]
    obtain ⟨fi, hfi⟩ : ∃ fi, fl[i]? = some fi := by
      rcases Nat.lt_or_ge i fl.length with h' | h'
      · exact ⟨_, List.getElem?_eq_getElem h'⟩
      · exfalso
        rcases Nat.lt_or_ge k fl.length with h2 | h2
        · omega
        · rw [List.getElem?_eq_none h2] at hj; cases hj
    have := (h i fi hfi hbi).2.2.1
    omega
  · rw [List.getElem?_set_ne (fun x => e x.symm)] at hk
    obtain ⟨h1, h2, h3, h4, h0, h5⟩ := h k f' hf hk
    simp only [e, if_false]
    refine ⟨h1, h2, by simp; omega, by rw [Below.heap_alloc w f.obj (g k) h3]; exact h4, h0, fun i hi hbi => ?_⟩
    by_cases e2 : i = j
    · simp only [e2, if_true]
      omega
    · simp only [e2, if_false]
      rw [List.getElem?_set_ne (fun x => e2 x.symm)] at hbi
      exact h5 i hi hbi
/-- Whatever order is picked from here on: the chain's operations cs have come up, floats at any time. -/
def wpC (P : Program) (ops : Array Oper) (Q : Exit → Act → World → Prop) (W0 : World) (fl : List Flo) (W : World) (A : Nat → Prop) (cs : List Nat) (fuel : Nat) (a : Act) : Prop :=
  (∀ x, A x → x < W.heap.size) → ∀ (b : List Bool) (g : Nat → Nat) (u : Nat → Value) (w : World), b.length = fl.length → Bx fl W0.heap.size A b g u w → Chg nob W0 w → Chg nob W w →
    wpAnyH P .any ops Q (fun w' => Chg nob W0 w') (fuel + b.count false) (lstOf ops.size cs (fl.map (·.idx)) b) (putF fl 0 u a) w
/-- A float's operation does what is said of it. -/
def FloOK (P : Program) (ops : Array Oper) (Q : Exit → Act → World → Prop) (f : Flo) : Prop :=
  ∃ o, ops[f.idx]? = some o ∧ ∀ (a : Act) (w : World) (K : Act → World → Prop), K (a.put (some f.slot) (f.val w.heap.size)) (w.alloc f.obj) → if Region.wanted o (yielded ops a.tmps) = true then Oper.wp P o a w K Q else K (a.put o.dst undef) w
theorem FloOK.alloc {f : Flo} {o : Oper} (ho : ops[f.idx]? = some o) (t : TypeId) (hop : o.op = .alloc t) (hd : o.dst = some f.slot) (hg : o.guard = none) (hr : ∀ w : World, (Instr.alloc t true (.tuple #[])).run P w = .ok (f.val w.heap.size) (w.alloc f.obj)) : FloOK P ops Q f :=
  ⟨o, ho, fun a w K h => stepA_alloc t hop (by simp [Region.wanted, hg]) (hr w) (by rw [hd]; exact h)⟩
theorem wp_regionC {id : Nat} {a : Act} {w : World} (fl : List Flo) (fuel : Nat) (hm : P.follows .mixedOrders = true) (hn : fuel + fl.length = ops.size) (hs : (fl.all fun f => decide (f.slot < a.tmps.size)) = true)
    (hl : lstOf ops.size [] (fl.map (·.idx)) (List.replicate fl.length false) = Array.replicate ops.size false)
    (h : wpC P ops Q w fl w.drew (fun _ => False) [] fuel a) : (Code.region id ops true).wp P Q a w := by
  refine wp_region_held_drew (S := fun w' => Chg nob w w') hm ((Chg.refl nob w).drew1) (fun _ => ?_)
  have q := h (fun _ x => x.elim) (List.replicate fl.length false) (fun _ => 0) (fun k => a.eval (.tmp ((fl.map (·.slot)).getD k 0))) w.drew (by simp) (fun k f _ hb => by
    rw [List.getElem?_replicate] at hb
    split at hb <;> cases hb) ((Chg.refl nob w).drew1) (Chg.refl _ _)
  rw [hl, show fuel + (List.replicate fl.length false).count false = ops.size by rw [List.count_replicate_self]; exact hn] at q
  rw [putF_same fl 0 _ a (fun j f hf => ⟨by simp [hf], by have := List.all_eq_true.1 hs f (List.mem_of_getElem? hf); simpa using this⟩)] at q
  exact q
/-- What may come up beside the floats: i alone, or nothing. -/
def chkC (ops : Array Oper) (fl : List Nat) (cs : List Nat) (i : Nat) : Bool :=
  (allB fl.length).all fun b => let l := lstOf ops.size cs fl b; let r := Region.ready .any ops l
    !r.isEmpty && r.all fun j => (j == i && l.setIfInBounds j true == lstOf ops.size (i :: cs) fl b) || ((List.range fl.length).any fun k => fl[k]? == some j && b[k]? == some false && l.setIfInBounds j true == lstOf ops.size cs fl (b.set k true))
def chkT (ops : Array Oper) (fl : List Nat) (cs : List Nat) (i : Nat) : Bool :=
  (allB fl.length).all fun b => let l := lstOf ops.size cs fl b
    Region.free .any ops l i && (Region.ready .any ops l).contains i && l.setIfInBounds i true == lstOf ops.size (i :: cs) fl b
def chkA (ops : Array Oper) (fl : List Nat) (cs : List Nat) : Bool :=
  (allB fl.length).all fun b => !b.contains false || (let l := lstOf ops.size cs fl b; let r := Region.ready .any ops l
    !r.isEmpty && r.all fun j => (List.range fl.length).any fun k => fl[k]? == some j && b[k]? == some false && l.setIfInBounds j true == lstOf ops.size cs fl (b.set k true))
/-- What yields its value in every such world is taken first. -/
theorem wpC_take {W : World} {A : Nat → Prop} {cs : List Nat} {fuel : Nat} {a : Act} {i : Nat} {oi : Oper} {v : Value} (hi : ops[i]? = some oi) (hs : Region.noSelect ops = true) (hc : chkT ops (fl.map (·.idx)) cs i = true)
    (hd : (match oi.dst with | some d => fl.all fun f => f.slot != d | none => true) = true)
    (hQ : ∀ c a w, Q (.panic c) (a.put oi.dst v) w → Q (.panic c) a w) (hy : ∀ u, YieldsIf P ops (fun w' => Chg nob W0 w') oi v (putF fl 0 u a))
    (h : wpC P ops Q W0 fl W A (i :: cs) fuel (a.put oi.dst v)) : wpC P ops Q W0 fl W A cs (fuel + 1) a := by
  intro hA b g u w hb hB k0 kW
  have hm := List.all_eq_true.1 hc b (by have := mem_allB b; rw [hb] at this; simpa using this)
  simp only [Bool.and_eq_true, beq_iff_eq] at hm
  rw [show fuel + 1 + b.count false = fuel + b.count false + 1 by omega]
  refine wpAnyH_take hi hs hm.1.1 hm.1.2 hQ (hy u) k0 ?_
  rw [hm.2, putF_dst hd]
  exact h hA b g u w hb hB k0 kW
theorem count_set_false {b : List Bool} {k : Nat} (h : b[k]? = some false) : b.count false = (b.set k true).count false + 1 := by
  induction b generalizing k with
  | nil => simp at h
  | cons x b ih =>
    cases k with
    | zero =>
      simp only [List.getElem?_cons_zero, Option.some.injEq] at h
      subst h
      simp
    | succ k =>
      simp only [List.getElem?_cons_succ] at h
      have := ih h
      simp only [List.set_cons_succ, List.count_cons]
      omega
theorem float_step {W : World} {A : Nat → Prop} (hA : ∀ x, A x → x < W.heap.size) {fuel : Nat} {a : Act} {b : List Bool} {g : Nat → Nat} {u : Nat → Value} {w : World} {j k : Nat} (ha : apartF fl = true) (hF : ∀ f ∈ fl, FloOK P ops Q f)
    (hk : (fl.map (·.idx))[k]? = some j) (hbk : b[k]? = some false) (hB : Bx fl W0.heap.size A b g u w) (k0 : Chg nob W0 w) (kW : Chg nob W w) {L : Array Bool}
    (ih : ∀ g u w, Bx fl W0.heap.size A (b.set k true) g u w → Chg nob W0 w → Chg nob W w → wpAnyH P .any ops Q (fun w' => Chg nob W0 w') fuel L (putF fl 0 u a) w) :
    wpOp P ops Q j (fun a' w' => Chg nob W0 w' ∧ wpAnyH P .any ops Q (fun w' => Chg nob W0 w') fuel L a' w') (putF fl 0 u a) w := by
  rw [List.getElem?_map] at hk
  cases hf : fl[k]? with
  | none => rw [hf] at hk; cases hk
  | some f =>
    rw [hf] at hk
    simp only [Option.map_some, Option.some.injEq] at hk
    subst hk
    obtain ⟨o, ho, hstep⟩ := hF f (List.mem_of_getElem? hf)
    refine wpOp_step ho (fun K' hK => hstep _ _ _ (hK _ _ ⟨k0.alloc _, ?_⟩))
    rw [putF_set fl 0 k u a f _ ha hf]
    have := ih _ _ _ (hB.add (fun x hx => Nat.lt_of_lt_of_le (hA x hx) kW.size) k0.size hf hbk) (k0.alloc f.obj) (kW.alloc f.obj)
    simp only [Nat.zero_add]
    exact this
/-- An operation of the chain comes up. -/
theorem wpC_step {W : World} {A : Nat → Prop} {cs : List Nat} {fuel : Nat} {a : Act} {i : Nat} {oi : Oper} (hi : ops[i]? = some oi) (hc : chkC ops (fl.map (·.idx)) cs i = true) (ha : apartF fl = true) (hF : ∀ f ∈ fl, FloOK P ops Q f)
    (hd : (match oi.dst with | some d => fl.all fun f => f.slot != d | none => true) = true)
    (h : ∀ (b : List Bool) (g : Nat → Nat) (u : Nat → Value) (w : World), (Region.ready .any ops (lstOf ops.size cs (fl.map (·.idx)) b)).contains i = true → Bx fl W0.heap.size A b g u w → Chg nob W0 w → Chg nob W w → ∀ K' : Act → World → Prop, Shut (∀ v w', Chg nob w w' → wpC P ops Q W0 fl w' (fun x => A x ∨ (w.heap.size ≤ x ∧ x < w'.heap.size)) (i :: cs) fuel (a.put oi.dst v) → K' ((putF fl 0 u a).put oi.dst v) w') →
      if Region.wanted oi (yielded ops (putF fl 0 u a).tmps) = true then Oper.wp P oi (putF fl 0 u a) w K' Q else K' ((putF fl 0 u a).put oi.dst undef) w) :
    wpC P ops Q W0 fl W A cs (fuel + 1) a := by
  intro hA b
  generalize hn : b.count false = n
  induction n generalizing b with
  | zero =>
    intro g u w hb hB k0 kW
    have hm := List.all_eq_true.1 hc b (by have := mem_allB b; rw [hb] at this; simpa using this)
    simp only [Bool.and_eq_true, Bool.not_eq_true', List.all_eq_true, Bool.or_eq_true, beq_iff_eq, List.any_eq_true] at hm
    refine ⟨fun e => by rw [e] at hm; simp at hm, fun j hj => ?_⟩
    rcases hm.2 j hj with ⟨rfl, e⟩ | ⟨k, _, ⟨hk, hbk⟩, _⟩
    · refine wpOp_step hi (fun K' hK => h b g u w (by simpa using hj) hB k0 kW K' (fun v w' kk hw => hK _ _ ⟨k0.trans kk, ?_⟩))
      rw [e, putF_dst hd]
      have q := hw (fun x hx => hx.elim (fun y => Nat.lt_of_lt_of_le (hA x y) (kW.trans kk).size) (fun y => y.2)) b g u w' hb (hB.keep kk) (k0.trans kk) (Chg.refl _ _)
      rw [hn] at q
      exact q
    · have := count_set_false hbk
      omega
  | succ n ih =>
    intro g u w hb hB k0 kW
    have hm := List.all_eq_true.1 hc b (by have := mem_allB b; rw [hb] at this; simpa using this)
    simp only [Bool.and_eq_true, Bool.not_eq_true', List.all_eq_true, Bool.or_eq_true, beq_iff_eq, List.any_eq_true] at hm
    rw [show fuel + 1 + (n + 1) = fuel + (n + 1) + 1 by omega]
    refine ⟨fun e => by rw [e] at hm; simp at hm, fun j hj => ?_⟩
    rcases hm.2 j hj with ⟨rfl, e⟩ | ⟨k, _, ⟨hk, hbk⟩, e⟩
    · refine wpOp_step hi (fun K' hK => h b g u w (by simpa using hj) hB k0 kW K' (fun v w' kk hw => hK _ _ ⟨k0.trans kk, ?_⟩))
      rw [e, putF_dst hd]
      have q := hw (fun x hx => hx.elim (fun y => Nat.lt_of_lt_of_le (hA x y) (kW.trans kk).size) (fun y => y.2)) b g u w' hb (hB.keep kk) (k0.trans kk) (Chg.refl _ _)
      rw [hn] at q
      exact q
    · have hcn := count_set_false hbk
      refine float_step (W := W) hA ha hF hk hbk hB k0 kW (fun g u w hB' k0' kW' => ?_)
      rw [e]
      have q := ih (b.set k true) (by omega) g u w (by simpa using hb) hB' k0' kW'
      rw [show fuel + (n + 1) = fuel + 1 + n by omega]
      exact q
/-- All floats have come up. -/
theorem wpC_all {W : World} {A : Nat → Prop} {cs : List Nat} {fuel : Nat} {a : Act} (hc : chkA ops (fl.map (·.idx)) cs = true) (ha : apartF fl = true) (hF : ∀ f ∈ fl, FloOK P ops Q f)
    (h : ∀ (g : Nat → Nat) (u : Nat → Value) (w : World), Bx fl W0.heap.size A (List.replicate fl.length true) g u w → Chg nob W0 w → Chg nob W w →
      wpAnyH P .any ops Q (fun w' => Chg nob W0 w') fuel (lstOf ops.size cs (fl.map (·.idx)) (List.replicate fl.length true)) (putF fl 0 u a) w) :
    wpC P ops Q W0 fl W A cs fuel a := by
  intro hA b
  generalize hn : b.count false = n
  induction n generalizing b with
  | zero =>
    intro g u w hb hB k0 kW
    have hb' : b = List.replicate fl.length true := by
      rw [← hb, List.eq_replicate_iff]
      refine ⟨rfl, fun x hx => ?_⟩
      cases x with
      | true => rfl
      | false => have := List.count_pos_iff.2 hx; omega
    rw [hb'] at hB ⊢
    exact h g u w hB k0 kW
  | succ n ih =>
    intro g u w hb hB k0 kW
    have hm := List.all_eq_true.1 hc b (by have := mem_allB b; rw [hb] at this; simpa using this)
    have hmem : false ∈ b := List.count_pos_iff.1 (by omega)
    simp only [Bool.and_eq_true, Bool.not_eq_true', List.all_eq_true, Bool.or_eq_true, beq_iff_eq, List.any_eq_true] at hm
    rcases hm with h' | hm
    · have : b.contains false = true := by simpa using hmem
      rw [h'] at this
      cases this
    · rw [show fuel + (n + 1) = fuel + n + 1 by omega]
      refine ⟨fun e => by rw [e] at hm; simp at hm, fun j hj => ?_⟩
      obtain ⟨k, _, ⟨hk, hbk⟩, e⟩ := hm.2 j hj
      have hcn := count_set_false hbk
      refine float_step (W := W) hA ha hF hk hbk hB k0 kW (fun g u w hB' k0' kW' => ?_)
      rw [e]
      exact ih (b.set k true) (by omega) g u w (by simpa using hb) hB' k0' kW'
end

end Go.Proofs.YtppiilbcnkphbaaGreat
