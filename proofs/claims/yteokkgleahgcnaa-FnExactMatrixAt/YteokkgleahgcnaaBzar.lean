/- Several texts in one: Regions that draw their order and end in a store into a cell that they read: laws. No program is named here; no condition but those that each theorem states. · Tables by value (a size and 64 elements): words on memory and laws. No condition but those that each theorem states. -/
import Derived.Test.YteokkgleahgcnaaBzap
import Derived.Test.YteokkgleahgcnaaElR
import Derived.Test.YteokkgleahgcnaaRowA
import Derived.Laws.CopyRow
import Derived.Laws.CopyOwn
namespace Go.Proofs.Yteokkgleahgcnaa
open Go.RowKit
set_option linter.unusedVariables false

section
variable {P : Program} {ops : Array Oper} {Q : Exit → Act → World → Prop} {md : Region.Mode} {S : World → Prop} {L : Nat}
/-- Whatever order is picked from here on, and S holds behind every operation that is carried out while operation L has not come up. -/
def wpAnyL (P : Program) (md : Region.Mode) (ops : Array Oper) (Q : Exit → Act → World → Prop) (S : World → Prop) (L : Nat) : Nat → Array Bool → Act → World → Prop
  | 0, listed, a, w => Region.ready md ops listed = [] ∧ Q .normal a w
  | fuel + 1, listed, a, w =>
    (Region.ready md ops listed = [] → Q .normal a w) ∧
    ∀ i ∈ Region.ready md ops listed, wpOp P ops Q i (fun a' w' => ((listed.setIfInBounds i true).getD L true = false → S w') ∧ wpAnyL P md ops Q S L fuel (listed.setIfInBounds i true) a' w') a w
theorem wpAny_ofL : ∀ (fuel : Nat) (listed : Array Bool) (a : Act) (w : World), wpAnyL P md ops Q S L fuel listed a w → wpAny P md ops Q fuel listed a w
  | 0, _, _, _, h => h
  | fuel + 1, _, _, _, h => ⟨h.1, fun i hi => wpOp_mono (fun a' w' h' => wpAny_ofL fuel _ a' w' h'.2) (h.2 i hi)⟩
/-- Operation L waits for operation i. -/
def waitsL (md : Region.Mode) (ops : Array Oper) (L i : Nat) : Prop := ∃ oL, ops[L]? = some oL ∧ ∃ e ∈ oL.after, Region.binds md e = true ∧ e.on = i
theorem wpAnyL_first {T : World → Prop} {i : Nat} {oi : Oper} {v : Value} (hi : ops[i]? = some oi) (hsel : ∀ (j : Nat) (o : Oper) cs b, ops[j]? = some o → o.op ≠ .select cs b)
    (hQ : ∀ c a w, Q (.panic c) (a.put oi.dst v) w → Q (.panic c) a w) (hiL : i ≠ L) (hT : ∀ w, S w → T w) (hw : (∀ w, T w) ∨ waitsL md ops L i) :
    ∀ (fuel : Nat) (listed : Array Bool) (a : Act) (w : World),
      (∀ j oj, ops[j]? = some oj → j ≠ i → listed.getD j true = false → (∀ e ∈ oj.after, Region.binds md e = true → e.on ≠ i) → oi.apart ops oj = true) →
      i ∈ Region.ready md ops listed → YieldsIf P ops T oi v a → (listed.getD L true = false → S w) → ((∀ w, T w) ∨ listed.getD L true = false) →
      wpAnyL P md ops Q S L fuel (listed.setIfInBounds i true) (a.put oi.dst v) w → wpAnyL P md ops Q S L (fuel + 1) listed a w := by
  intro fuel
  induction fuel with
  | zero =>
    intro listed a w _ hr hy hS hl H
    refine ⟨fun h => (by rw [h] at hr; cases hr), fun j hj => ?_⟩
    by_cases hji : j = i
    · subst hji
      exact hy.wpOp hi (hl.elim (fun h => h w) (fun h => hT w (hS h))) ⟨fun h => hS (by rw [getD_set_ne true hiL] at h; exact h), H⟩
    · have := ready_mono hj hji
      rw [H.1] at this
      cases this
  | succ fuel ih =>
    intro listed a w hfree hr hy hS hl H
    refine ⟨fun h => (by rw [h] at hr; cases hr), fun j hj => ?_⟩
    by_cases hji : j = i
    · subst hji
      exact hy.wpOp hi (hl.elim (fun h => h w) (fun h => hT w (hS h))) ⟨fun h => hS (by rw [getD_set_ne true hiL] at h; exact h), H⟩
    · have h1 := H.2 j (ready_mono hj hji)
      obtain ⟨hjun, oj, hoj, hall⟩ := mem_ready.1 hj
      have hnot : ∀ e ∈ oj.after, Region.binds md e = true → e.on ≠ i := fun e he hb heq => by
        have h1 := hall e he hb
        have h0 := (mem_ready.1 hr).1
        rw [heq] at h1
        rcases Nat.lt_or_ge i listed.size with h' | h'
        · simp [h'] at h0 h1; rw [h0] at h1; cases h1
        · simp [Array.getElem?_eq_none h'] at h1
      have h2 := wpOp_putIf hoj (hfree j oj hoj hji hjun hnot) (fun cs b => hsel i oi cs b hi) (fun cs b => hsel j oj cs b hoj) hQ hy h1
      have hfree' : ∀ k ok, ops[k]? = some ok → k ≠ i → (listed.setIfInBounds j true).getD k true = false →
          (∀ e ∈ ok.after, Region.binds md e = true → e.on ≠ i) → oi.apart ops ok = true := fun k ok hk hki hun hno => by
        refine hfree k ok hk hki ?_ hno
        by_cases hjk : j = k
        · subst hjk; exact hjun
        · rw [getD_set_ne true hjk] at hun; exact hun
      have hl' : (∀ w, T w) ∨ (listed.setIfInBounds j true).getD L true = false := by
        rcases hw with h | ⟨oL, hoL, e, he, hb, heq⟩
        · exact .inl h
        · rcases hl with h | h
          · exact .inl h
          · right
            by_cases hjL : j = L
            · subst hjL
              rw [hoL] at hoj
              cases hoj
              exact absurd heq (hnot e he hb)
            · rw [getD_set_ne true hjL]; exact h
      have hc : ∀ (w' : World), (((listed.setIfInBounds i true).setIfInBounds j true).getD L true = false → S w') → ((listed.setIfInBounds j true).getD L true = false → S w') := fun w' h hu => by
        refine h ?_
        rw [Array.setIfInBounds_comm _ _ (Ne.symm hji), getD_set_ne true hiL]
        exact hu
      refine wpOp_mono (fun a' w' h3 => ⟨hc w' h3.2.1, ih (listed.setIfInBounds j true) a' w' hfree' (ready_mono hr (Ne.symm hji)) h3.1 (hc w' h3.2.1) hl' ?_⟩) h2
      rw [Array.setIfInBounds_comm _ _ hji]
      exact h3.2.2
/-- A load, or another operation that L waits for, is taken first. -/
theorem wpAnyL_take {i : Nat} {oi : Oper} {v : Value} {fuel : Nat} {listed : Array Bool} {a : Act} {w : World} (hi : ops[i]? = some oi)
    (hs : Region.noSelect ops = true) (hf : Region.free md ops listed i = true) (hr : (Region.ready md ops listed).contains i = true)
    (hQ : ∀ c a w, Q (.panic c) (a.put oi.dst v) w → Q (.panic c) a w) (hiL : (i == L) = false) (hw : ((ops[L]?.map (fun o => o.after.toList.any (fun e => Region.binds md e && e.on == i))) == some true) = true)
    (hl : listed.getD L true = false) (hy : YieldsIf P ops S oi v a) (hS : S w)
    (h : wpAnyL P md ops Q S L fuel (listed.setIfInBounds i true) (a.put oi.dst v) w) : wpAnyL P md ops Q S L (fuel + 1) listed a w :=
  wpAnyL_first (T := S) hi (Region.noSelect_spec hs) hQ (by simpa using hiL) (fun _ h => h) (.inr (by
    cases ho : ops[L]? with
    | none => rw [ho] at hw; simp at hw
    | some oL =>
      rw [ho] at hw
      simp only [Option.map_some, beq_iff_eq, Option.some.injEq, List.any_eq_true, Bool.and_eq_true] at hw
      obtain ⟨e, he, hb, heq⟩ := hw
      exact ⟨oL, ho, e, Array.mem_toList_iff.1 he, hb, heq⟩)) fuel listed a w (Region.free_spec hi hf) (by simpa using hr) hy (fun _ => hS) (.inr hl) h
/-- One that yields its value in whatever world. -/
theorem wpAnyL_take0 {i : Nat} {oi : Oper} {v : Value} {fuel : Nat} {listed : Array Bool} {a : Act} {w : World} (hi : ops[i]? = some oi)
    (hs : Region.noSelect ops = true) (hf : Region.free md ops listed i = true) (hr : (Region.ready md ops listed).contains i = true)
    (hQ : ∀ c a w, Q (.panic c) (a.put oi.dst v) w → Q (.panic c) a w) (hiL : (i == L) = false)
    (hy : YieldsIf P ops (fun _ => True) oi v a) (hS : S w)
    (h : wpAnyL P md ops Q S L fuel (listed.setIfInBounds i true) (a.put oi.dst v) w) : wpAnyL P md ops Q S L (fuel + 1) listed a w :=
  wpAnyL_first (T := fun _ => True) hi (Region.noSelect_spec hs) hQ (by simpa using hiL) (fun _ _ => trivial) (.inl (fun _ => trivial)) fuel listed a w (Region.free_spec hi hf) (by simpa using hr) hy (fun _ => hS) (.inl (fun _ => trivial)) h
def AllReadyL (P : Program) (md : Region.Mode) (ops : Array Oper) (Q : Exit → Act → World → Prop) (S : World → Prop) (L : Nat) (fuel : Nat) (listed : Array Bool) (a : Act) (w : World) (rs : List Nat) : Prop :=
  ∀ i ∈ rs, wpOp P ops Q i (fun a' w' => ((listed.setIfInBounds i true).getD L true = false → S w') ∧ wpAnyL P md ops Q S L fuel (listed.setIfInBounds i true) a' w') a w
theorem AllReadyL.nil {fuel : Nat} {listed : Array Bool} {a : Act} {w : World} : AllReadyL P md ops Q S L fuel listed a w [] := fun _ h => by cases h
theorem AllReadyL.cons {fuel : Nat} {listed : Array Bool} {a : Act} {w : World} {i : Nat} {o : Oper} {rs : List Nat} (ho : ops[i]? = some o)
    (h : ∀ K' : Act → World → Prop, Shut (∀ a w, S w → (S w → wpAnyL P md ops Q S L fuel (listed.setIfInBounds i true) a w) → K' a w) → if Region.wanted o (yielded ops a.tmps) = true then Oper.wp P o a w K' Q else K' (a.put o.dst undef) w)
    (hs : AllReadyL P md ops Q S L fuel listed a w rs) : AllReadyL P md ops Q S L fuel listed a w (i :: rs) := fun j hj => by
  rcases List.mem_cons.1 hj with rfl | hj
  · exact wpOp_step ho (fun K' hK => h K' (fun a w hS hW => hK a w ⟨fun _ => hS, hW hS⟩))
  · exact hs j hj
/-- The last one: S is not asked for behind it. -/
theorem AllReadyL.last {fuel : Nat} {listed : Array Bool} {a : Act} {w : World} {i : Nat} {o : Oper} (ho : ops[i]? = some o) (hl : (listed.setIfInBounds i true).getD L true = true)
    (h : ∀ K' : Act → World → Prop, Shut (∀ a w, wpAnyL P md ops Q S L fuel (listed.setIfInBounds i true) a w → K' a w) → if Region.wanted o (yielded ops a.tmps) = true then Oper.wp P o a w K' Q else K' (a.put o.dst undef) w) : AllReadyL P md ops Q S L fuel listed a w [i] := fun j hj => by
  rcases List.mem_cons.1 hj with rfl | hj
  · exact wpOp_step ho (fun K' hK => h K' (fun a w hW => hK a w ⟨fun hu => (by rw [hl] at hu; cases hu), hW⟩))
  · cases hj
theorem wpAnyL_ready {rs : List Nat} {fuel : Nat} {listed : Array Bool} {a : Act} {w : World} (hr : Region.ready md ops listed = rs) (hne : rs ≠ [])
    (h : AllReadyL P md ops Q S L fuel listed a w rs) : wpAnyL P md ops Q S L (fuel + 1) listed a w := ⟨fun h0 => absurd (hr ▸ h0) hne, hr ▸ h⟩
theorem wpAnyL_done {listed : Array Bool} {a : Act} {w : World} (hr : Region.ready md ops listed = []) (h : Q .normal a w) :
    ∀ fuel, wpAnyL P md ops Q S L fuel listed a w
  | 0 => ⟨hr, h⟩
  | _ + 1 => ⟨fun _ => h, by rw [hr]; simp⟩
theorem wp_regionL {id : Nat} {a : Act} {w : World} {L : Nat} (hm : P.follows .mixedOrders = true) (hS : S w.drew)
    (h : S w.drew → wpAnyL P .any ops Q S L ops.size (Array.replicate ops.size false) a w.drew) : (Code.region id ops true).wp P Q a w :=
  wp_region_any hm (wpAny_ofL _ _ _ _ (h hS))
end

end Go.Proofs.Yteokkgleahgcnaa

namespace Go.Proofs.Yteokkgleahgcnaa
open Go.ChangeShapes Go.WideShapes Go.ChangeAt Go.RowKit
set_option linter.unusedVariables false
set_option maxRecDepth 100000
set_option linter.unusedSimpArgs false

/-- The cells of a table by value: its size, then its elements. -/
def cv (s : Nat) (t : Nat → El) (i : Nat) : Value := if i = 0 then .int .i64 (s : Int) else if i % 2 = 1 then .int .i64 (t (i / 2)).v.1 else .int .i64 (t (i / 2 - 1)).v.2
theorem cv_one (s : Nat) (t : Nat → El) (i : Nat) : (cv s t i).oneCell' = true := by
  unfold cv
  by_cases h : i = 0
  · rw [if_pos h]; rfl
  · rw [if_neg h]
    by_cases h2 : i % 2 = 1
    · rw [if_pos h2]; rfl
    · rw [if_neg h2]; rfl
theorem cv_a (s : Nat) (t : Nat → El) (k : Nat) : cv s t (1 + k * 2) = .int .i64 (t k).v.1 := by
  unfold cv
  rw [if_neg (by omega), if_pos (by omega), show (1 + k * 2) / 2 = k by omega]
theorem cv_b (s : Nat) (t : Nat → El) (k : Nat) : cv s t (1 + k * 2 + 1) = .int .i64 (t k).v.2 := by
  unfold cv
  rw [if_neg (by omega), if_neg (by omega), show (1 + k * 2 + 1) / 2 - 1 = k by omega]
def cb (s : Nat) (t : Nat → El) : Array Value := rowA 129 (cv s t)
theorem infoQb : (Try.prog.info? 53).map (fun i => (i.zero, i.size)) = some (some (.agg (cb 0 zE)), 129) := by kernel_rfl
theorem infoC1 : (Try.prog.info? 53).map (·.size) = some 129 := by kernel_rfl
/-- A table by value in block b. -/
def Cub (w : World) (b s : Nat) (t : Nat → El) : Prop := w.rowIs b 53 129 (cv s t)
theorem Cub.new (w : World) (s : Nat) (t : Nat → El) : Cub (w.alloc (.cells (cb s t) 53)) w.heap.size s t := rowIs_new w 129 (cv s t) _
theorem Cub.at_ (w : World) (g : Nat) (hg : g = w.heap.size) (s : Nat) (t : Nat → El) : Cub (w.alloc (.cells (cb s t) 53)) g s t := by subst hg; exact Cub.new w s t
theorem Cub.keep {w w' : World} {b s : Nat} {t : Nat → El} (h : Cub w b s t) (k : Chg nob w w') : Cub w' b s t := rowIs_keep h k
theorem Cub.chg {P : Nat → Prop} {w w' : World} {b s : Nat} {t : Nat → El} (h : Cub w b s t) (k : Chg P w w') (hp : ¬ P b) : Cub w' b s t := rowIs_chg h k hp
theorem Cub.lt {w : World} {b s : Nat} {t : Nat → El} (h : Cub w b s t) : b < w.heap.size := World.rowIs.lt h
theorem Cub.c {w : World} {b s : Nat} {t : Nat → El} (h : Cub w b s t) : w.cell? ⟨b, 0, none⟩ = some (.int .i64 (s : Int)) := World.rowIs.cell h (by omega)
theorem Cub.c0 {w : World} {b s : Nat} {t : Nat → El} (h : Cub w b s t) {k : Nat} (hk : k < 64) : w.cell? ⟨b, 1 + k * 2, none⟩ = some (.int .i64 (t k).v.1) := by rw [World.rowIs.cell h (by omega), cv_a]
theorem Cub.c1 {w : World} {b s : Nat} {t : Nat → El} (h : Cub w b s t) {k : Nat} (hk : k < 64) : w.cell? ⟨b, 1 + k * 2 + 1, none⟩ = some (.int .i64 (t k).v.2) := by rw [World.rowIs.cell h (by omega), cv_b]
theorem Cub.fz {w : World} {b s : Nat} {t : Nat → El} (h : Cub w b s t) (o : Nat) : w.frozen? ⟨b, o, none⟩ = false := World.rowIs.frozen h o
theorem Cub.congr {w : World} {b s : Nat} {t u : Nat → El} (h : Cub w b s t) (e : ∀ i, i < 64 → t i = u i) : Cub w b s u :=
  World.rowIs.congr h (fun i hi => by
    unfold cv
    by_cases h0 : i = 0
    · rw [if_pos h0, if_pos h0]
    · rw [if_neg h0, if_neg h0, e (i / 2 - 1) (by omega)]
      by_cases h1 : i % 2 = 1
      · rw [if_pos h1, if_pos h1, e (i / 2) (by omega)]
      · rw [if_neg h1, if_neg h1])
theorem Cub.set {w : World} {b s : Nat} {t : Nat → El} (h : Cub w b s t) (k : Nat) (x : El) : Cub ((w.setCell ⟨b, 1 + k * 2, none⟩ (.int .i64 x.v.1)).setCell ⟨b, 1 + k * 2 + 1, none⟩ (.int .i64 x.v.2)) b s (upE t k x) :=
  World.rowIs.congr (World.rowIs.set (World.rowIs.set h (1 + k * 2) _) (1 + k * 2 + 1) _) (fun i hi => by
    by_cases e1 : i = 1 + k * 2 + 1
    · subst e1; rw [if_pos rfl, cv_b]; unfold upE; rw [if_pos rfl]
    · rw [if_neg e1]
      by_cases e2 : i = 1 + k * 2
      · subst e2; rw [if_pos rfl, cv_a]; unfold upE; rw [if_pos rfl]
      · rw [if_neg e2]
        unfold cv upE
        by_cases h0 : i = 0
        · rw [if_pos h0, if_pos h0]
        · rw [if_neg h0, if_neg h0]
          by_cases h1 : i % 2 = 1
          · rw [if_pos h1, if_pos h1, if_neg (by omega)]
          · rw [if_neg h1, if_neg h1, if_neg (by omega)])
theorem Cub.size {w : World} {b s : Nat} {t : Nat → El} (h : Cub w b s t) (s' : Nat) : Cub (w.setCell ⟨b, 0, none⟩ (.int .i64 (s' : Int))) b s' t :=
  World.rowIs.congr (World.rowIs.set h 0 _) (fun i hi => by
    unfold cv
    by_cases h0 : i = 0
    · rw [if_pos h0, if_pos h0]
    · rw [if_neg h0, if_neg h0, if_neg h0])
theorem Cub.pairs {w : World} {b s : Nat} {t : Nat → El} (h : Cub w b s t) {n : Nat} (hn : n ≤ 64) : PairE w (some ⟨b, 1, none⟩) n t := fun i hi =>
  ⟨b, 1, rfl, h.lt, h.c0 (by omega), h.c1 (by omega)⟩

theorem Cub.other {w : World} {b g s : Nat} {t : Nat → El} (h : Cub w b s t) (hne : b ≠ g) (o o' : Nat) (u v : Value) : Cub ((w.setCell ⟨g, o, none⟩ u).setCell ⟨g, o', none⟩ v) b s t :=
  World.rowIs.setOther (a := ⟨g, o', none⟩) (World.rowIs.setOther (a := ⟨g, o, none⟩) h hne u) hne v

section
variable {ops : Array Oper} {rest : List Oper} {o : Oper} {a : Act} {w : World} {Q : Exit → Act → World → Prop}
/-- A whole table out of its block. -/
theorem wpList_load_cub (x : Operand) (hgd : o.guard = none) (ho : o.op = .load 53 x) (g : Nat) (hx : a.eval x = .pointer (some ⟨g, 0, none⟩)) {s : Nat} {t : Nat → El} (hr : Cub w g s t)
    (h : wpList Try.prog ops Q rest (a.put o.dst (.agg (cb s t))) w) : wpList Try.prog ops Q (o :: rest) a w :=
  wpList_load_row hgd 53 x ho g hx 53 (cb s t) (0, 0) _ (rowA_of hr) Try.underlying53 rfl (by rw [cb, rowA_size]; exact infoC1) h
/-- And into it. -/
theorem wpList_store_cub (x y : Operand) (hgd : o.guard = none) (ho : o.op = .store 53 x y) (g : Nat) {s : Nat} {t : Nat → El} (hx : a.eval x = .pointer (some ⟨g, 0, none⟩)) (hy : a.eval y = .agg (cb s t)) {s0 : Nat} {t0 : Nat → El} (hr : Cub w g s0 t0)
    (h : ∀ w', Cub w' g s t → Chg (fun b => b = g) w w' → wpList Try.prog ops Q rest (a.put o.dst undef) w') : wpList Try.prog ops Q (o :: rest) a w :=
  wpList_store_all 53 x y hgd ho g 129 (cv s t) hx hy 53 (cv s0 t0) hr infoC1 (fun i _ => cv_one s t i) h
theorem results_cub {fn : Func} {p : Tmp} (h : fn.results = #[.cell p 53]) (tmps : Array Value) (w : World) (g : Nat) (hp : tmps.getD p undef = .pointer (some ⟨g, 0, none⟩)) {s : Nat} {t : Nat → El} (hr : Cub w g s t) : (results fn tmps).run Try.prog w = .ok (.agg (cb s t)) w :=
  results_cell_row h tmps w g 53 (cb s t) (0, 0) _ hp (rowA_of hr) Try.underlying53 rfl (by rw [cb, rowA_size]; exact infoC1)
/-- A table of no element but a size. -/
theorem wpList_build_cub (x : Operand) (hgd : o.guard = none) (ho : o.op = .build 53 #[(0, x)]) (s : Nat) (hx : a.eval x = .int .i64 (s : Int))
    (h : wpList Try.prog ops Q rest (a.put o.dst (.agg (cb s zE))) w) : wpList Try.prog ops Q (o :: rest) a w := by
  have e : Try.prog.built 53 (#[(0, x)].map fun (i, x) => (i, a.eval x)).toList = some (cb s zE) := by
    simp only [List.map_toArray, List.map_cons, List.map_nil, hx]
    kernel_rfl
  refine wpList_build hgd 53 #[(0, x)] ho (by rw [e]; rfl) ?_
  rw [e]
  exact h
end

end Go.Proofs.Yteokkgleahgcnaa
