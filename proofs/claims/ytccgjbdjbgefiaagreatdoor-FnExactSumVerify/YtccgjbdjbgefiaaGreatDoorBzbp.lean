/- Several texts in one: Rounds and a point that a call is telling: words on memory. No condition but those that each theorem states. · Tables of integers as data: they read alike in every world; what reads as the tables holds them. Conditions: those of each theorem. -/
import Derived.Test.YtccgjbdjbgefiaaGreatDoorBzaw
import Derived.Test.YtccgjbdjbgefiaaGreatDoorBzbo
import Derived.Test.YtccgjbdjbgefiaaGreatDoorBzah
import Derived.Test.YtccgjbdjbgefiaaGreatDoorBzan
import Derived.Lib.LaidTab
namespace Go.Proofs.YtccgjbdjbgefiaaGreatDoor
open Go.ChangeShapes Go.WideShapes Go.ChangeAt Go.RowKit
set_option linter.unusedVariables false
set_option maxRecDepth 100000
set_option linter.unusedSimpArgs false

section
variable {w w' : World} {B B' : Nat} {t t' : TypeId} {z z' : Nat} {v v' : Value} {n n' : Nat} {xs xs' : List Value}
theorem owns_kind (h : w.ownsRow B t z v n xs) {g : Nat} (hg : v.ownBlock = some g) {N : Nat} {f : Nat → Value} (r : w.rowIs g t' N f) : t = t' := by
  rcases h.2 with ⟨rfl, _⟩ | ⟨g', cap, cur, rfl, _, hc, _⟩
  · cases hg
  · cases hg
    obtain ⟨c, hb, _⟩ := r
    have q := hc.symm.trans hb
    cases q
    rfl
theorem owns_apart (h : w.ownsRow B t z v n xs) (h' : w.ownsRow B' t' z' v' n' xs') (hne : t ≠ t') {g : Nat} (e : v.ownBlock = some g) : v'.ownBlock ≠ some g := fun e' => by
  rcases h.2 with ⟨rfl, _⟩ | ⟨g1, cap, cur, rfl, _, hc, _⟩
  · cases e
  · cases e
    rcases h'.2 with ⟨rfl, _⟩ | ⟨g2, cap', cur', rfl, _, hc', _⟩
    · cases e'
    · cases e'
      have q := hc.symm.trans hc'
      cases q
      exact hne rfl
theorem grown_chg (hg : w.grownBy w' v.ownBlock) : Chg (fun x => v.ownBlock = some x) w w' := (Chg.refl _ w).grown hg (fun k e _ => e)
end
/-- iR rounds of m elements, round j in block H j, and a point of iP elements that are being told. -/
structure RdI (B : Nat) (W : World) (m iR iP : Nat) (rr pp : Value) (H : Nat → Nat) (G : Nat → Nat → El) (R : Nat → El) : Prop where
  oR : W.ownsRow B 30 1 rr iR ((List.range iR).map (fun j => Value.slice (some ⟨H j, 0, none⟩) m m))
  oP : W.ownsRow B 31 2 pp iP ((List.range (iP * 2)).map (pf (cA R) (cB R)))
  inn : ∀ j, j < iR → B ≤ H j ∧ RowE W (H j) m (G j) ∧ pp.ownBlock ≠ some (H j)
  dis : ∀ i j, i < iR → j < iR → i ≠ j → H i ≠ H j
namespace RdI
variable {B : Nat} {W W' : World} {m iR iP : Nat} {rr pp : Value} {H : Nat → Nat} {G : Nat → Nat → El} {R : Nat → El}
theorem nil (B : Nat) (W : World) (m : Nat) (H : Nat → Nat) (G : Nat → Nat → El) (R : Nat → El) : RdI B W m 0 0 (.slice none 0 0) (.slice none 0 0) H G R :=
  ⟨World.ownsRow_nil _ _ _ _, World.ownsRow_nil _ _ _ _, fun j hj => absurd hj (by omega), fun i j hi => absurd hi (by omega)⟩
theorem chg {P : Nat → Prop} (h : RdI B W m iR iP rr pp H G R) (k : Chg P W W') (hp : ∀ b, B ≤ b → ¬ P b) : RdI B W' m iR iP rr pp H G R :=
  ⟨owns_far h.oR k hp, owns_far h.oP k hp, fun j hj => ⟨(h.inn j hj).1, (h.inn j hj).2.1.chg k (hp _ (h.inn j hj).1), (h.inn j hj).2.2⟩, h.dis⟩
theorem keep (h : RdI B W m iR iP rr pp H G R) (k : Chg nob W W') : RdI B W' m iR iP rr pp H G R := h.chg k (fun _ _ x => x)
theorem low (h : RdI B W m iR iP rr pp H G R) (g : Nat) (e : rr.ownBlock = some g ∨ pp.ownBlock = some g) : B ≤ g ∧ g < W.heap.size := by
  rcases e with e | e
  · exact h.oR.lt g e
  · exact h.oP.lt g e
/-- A round more. -/
theorem round {g' cap' b : Nat} (h : RdI B W m iR iP rr pp H G R) (hb : B ≤ b) (hr : RowE W b m (G iR)) (hne : pp.ownBlock ≠ some b) (hf : ∀ j, j < iR → H j ≠ b) (hg : W.grownBy W' rr.ownBlock)
    (ho : W'.ownsRow B 30 1 (.slice (some ⟨g', 0, none⟩) (iR + 1) cap') (iR + 1) ((List.range iR).map (fun j => Value.slice (some ⟨H j, 0, none⟩) m m) ++ [.slice (some ⟨b, 0, none⟩) m m])) :
    RdI B W' m (iR + 1) iP (.slice (some ⟨g', 0, none⟩) (iR + 1) cap') pp (fun j => if j = iR then b else H j) G R := by
  have k := grown_chg hg
  have hk : ∀ {x : Nat} {N : Nat} {t : Nat → El}, RowE W x N t → ¬ rr.ownBlock = some x := fun r e => absurd (owns_kind h.oR e r) (by decide)
  refine ⟨?_, h.oP.kept hg ?_, fun j hj => ?_, fun i j hi hj hij => ?_⟩
  · have e : (List.range (iR + 1)).map (fun j => Value.slice (some ⟨if j = iR then b else H j, 0, none⟩) m m) = (List.range iR).map (fun j => Value.slice (some ⟨H j, 0, none⟩) m m) ++ [.slice (some ⟨b, 0, none⟩) m m] := by
      rw [List.range_succ, List.map_append]
      congr 1
      · apply List.map_congr_left
        intro j hj
        have : j < iR := by simpa using hj
        rw [if_neg (by omega)]
      · simp
    rw [e]
    exact ho
  · cases q : pp.ownBlock with
    | none => exact .inl rfl
    | some g => exact .inr (fun e => owns_apart h.oP h.oR (by decide) q e.symm)
  · by_cases q : j = iR
    · subst q
      rw [if_pos rfl]
      exact ⟨hb, hr.chg k (hk hr), hne⟩
    · rw [if_neg q]
      obtain ⟨q1, q2, q3⟩ := h.inn j (by omega)
      exact ⟨q1, q2.chg k (hk q2), q3⟩
  · by_cases qi : i = iR
    · by_cases qj : j = iR
      · omega
      · rw [if_pos qi, if_neg qj]; exact fun e => hf j (by omega) e.symm
    · by_cases qj : j = iR
      · rw [if_neg qi, if_pos qj]; exact hf i (by omega)
      · rw [if_neg qi, if_neg qj]; exact h.dis i j (by omega) (by omega) hij
/-- An element of the point more. -/
theorem point {g' cap' : Nat} (h : RdI B W m iR iP rr pp H G R) (hg : W.grownBy W' pp.ownBlock) (hat : pp.ownBlock = some g' ∨ g' = W.heap.size)
    (ho : W'.ownsRow B 31 2 (.slice (some ⟨g', 0, none⟩) (iP + 1) cap') (iP + 1) ((List.range (iP * 2)).map (pf (cA R) (cB R)) ++ [.int .i64 (R iP).v.1, .int .i64 (R iP).v.2])) :
    RdI B W' m iR (iP + 1) rr (.slice (some ⟨g', 0, none⟩) (iP + 1) cap') H G R := by
  have k := grown_chg hg
  refine ⟨h.oR.kept hg ?_, by rw [← flPair]; exact ho, fun j hj => ?_, h.dis⟩
  · cases q : rr.ownBlock with
    | none => exact .inl rfl
    | some g => exact .inr (fun e => owns_apart h.oR h.oP (by decide) q e.symm)
  · obtain ⟨q1, q2, q3⟩ := h.inn j hj
    refine ⟨q1, q2.chg k q3, fun e => ?_⟩
    have e' : g' = H j := by simpa [Value.ownBlock] using e
    rcases hat with q | q
    · exact q3 (by rw [q, e'])
    · have := q2.lt
      omega
/-- What is told, as lists of the call's own. -/
theorem told {B0 : Nat} (h : RdI B W m iR iP rr pp H G R) (hB : B0 ≤ B) (hm : 1 ≤ m) : ∃ cR capR cP capP, rr = .slice cR iR capR ∧ pp = .slice cP iP capP ∧ OwnSS W B0 cR iR m H (fun _ => m) (fun i => cA (G i)) (fun i => cB (G i)) ∧ OwnE W B0 cP iP (cA R) (cB R) ∧ (∀ b, BlkS cR iR H b → ¬ BlkE cP b) ∧ (∀ b, BlkS cR iR H b → B ≤ b ∧ b < W.heap.size) ∧ (∀ b, BlkE cP b → B ≤ b ∧ b < W.heap.size) := by
  obtain ⟨cP, capP, eP, _, oE⟩ := OwnE.of_owns h.oP
  have hform : ∃ cR capR, rr = .slice cR iR capR := by
    rcases h.oR.2 with ⟨e, e0⟩ | ⟨g, cap, cur, e, _⟩
    · exact ⟨none, 0, by rw [e, e0]⟩
    · exact ⟨_, cap, e⟩
  obtain ⟨cR, capR, eR⟩ := hform
  have hP : ∀ b, BlkE cP b → pp.ownBlock = some b := fun b ⟨o, e⟩ => by rw [eP, e]; rfl
  have hR : ∀ b o, cR = some ⟨b, o, none⟩ → rr.ownBlock = some b := fun b o e => by rw [eR, e]; rfl
  refine ⟨cR, capR, cP, capP, eR, eP, ⟨fun i hi => ?_, fun i hi => ?_, h.dis⟩, oE.low hB, fun b hb he => ?_, fun b hb => ?_, fun b hb => h.oP.lt b (hP b hb)⟩
  · rcases h.oR.2 with ⟨e, e0⟩ | ⟨g, cap, cur, e, hb, hc, _⟩
    · omega
    · have ec : cR = some ⟨g, 0, none⟩ := by rw [eR] at e; simp at e; exact e.1
      have hlt := h.oR.lt g (hR g 0 ec)
      have hcell := h.oR.cells (g := g) (hR g 0 ec) i (.slice (some ⟨H i, 0, none⟩) m m) (by rw [List.getElem?_map, List.getElem?_range hi]; rfl)
      rw [Go.WideShapes.add_plain] at hcell
      exact ⟨g, 0, ec, Nat.le_trans hB hb, hlt.2, hcell, fun j hj e2 => absurd (owns_kind h.oR (hR g 0 ec) (e2 ▸ (h.inn j hj).2.1)) (by decide)⟩
  · exact (h.inn i hi).2.1.own (Nat.le_trans hB (h.inn i hi).1)
  · rcases hb with ⟨o, e⟩ | ⟨i, hi, e⟩
    · exact owns_apart h.oR h.oP (by decide) (hR b o e) (hP b he)
    · subst e
      exact (h.inn i hi).2.2 (hP _ he)
  · rcases hb with ⟨o, e⟩ | ⟨i, hi, e⟩
    · exact h.oR.lt b (hR b o e)
    · subst e
      exact ⟨(h.inn i hi).1, (h.inn i hi).2.1.lt⟩
end RdI

end Go.Proofs.YtccgjbdjbgefiaaGreatDoor

namespace Go.Proofs.YtccgjbdjbgefiaaGreatDoor
open Go.RowKit

section
variable {H : Type} {enc : TypeId × Value → H} {P : Program} {w w' : World} {base : Nat} {sp sp' : Nat → Bool} {held held' : Bool} {t e : TypeId} {k : IntKind}
theorem int_indep {fuel : Nat} {cs : List Value} (he : P.underlying e = some (.int k)) : DataW.trod enc P w' base sp' held' fuel e cs = DataW.trod enc P w base sp held fuel e cs := by
  cases fuel with
  | zero => simp [DataW.trod]
  | succ m =>
    by_cases h : ∃ n, cs = [Value.int k n]
    · obtain ⟨n, rfl⟩ := h
      simp [DataW.trod, he]
    · have no : ∀ (u : World) (sp : Nat → Bool) (hd : Bool), DataW.trod enc P u base sp hd (m + 1) e cs = none := by
        intro u sp hd
        cases hx : DataW.trod enc P u base sp hd (m + 1) e cs with
        | none => rfl
        | some x =>
          obtain ⟨n, hs, _⟩ := DataW.trod_int he hx
          exact absurd ⟨n, hs⟩ h
      rw [no, no]
theorem ints_indep {fuel n : Nat} {cs : List Value} (ht : P.underlying t = some (.array n e)) (he : P.underlying e = some (.int k)) : DataW.trod enc P w' base sp' held' fuel t cs = DataW.trod enc P w base sp held fuel t cs := by
  cases fuel with
  | zero => simp [DataW.trod]
  | succ m =>
    simp only [DataW.trod, ht]
    have e1 : (fun i => DataW.trod enc P w' base sp' held' m e ((cs.drop (i * P.cellsOf e)).take (P.cellsOf e))) = fun i => DataW.trod enc P w base sp held m e ((cs.drop (i * P.cellsOf e)).take (P.cellsOf e)) := funext fun i => int_indep he
    rw [e1]
end
/-- The tables' numbers. -/
def shz : List Int := shl.map (fun n : Nat => (n : Int))
def rcz : List Int := rcl.map (fun n : Nat => (n : Int))
theorem shz_at (i : Nat) (h : i < 25) : (shz.map fun z => Value.int .u64 z)[i]? = some (.int .u64 (sh i : Int)) := by
  have : ∀ i : Fin 25, shl[i.val]? = some (sh i.val) := by decide
  unfold shz
  rw [List.map_map, List.getElem?_map, this ⟨i, h⟩]
  rfl
theorem rcz_at (i : Nat) (h : i < 24) : (rcz.map fun z => Value.int .u64 z)[i]? = some (.int .u64 (rcn i : Int)) := by
  have : ∀ i : Fin 24, rcl[i.val]? = some (rcn i.val) := by decide
  unfold rcz
  rw [List.map_map, List.getElem?_map, this ⟨i, h⟩]
  rfl
theorem cellsU : Tryz.prog.cellsOf 107 = 1 := by kernel_rfl
theorem cellsU64 : Tryz.prog.cellsOf 97 = 1 := by kernel_rfl
theorem cellsSh : Tryz.prog.cellsOf 116 = 25 := by kernel_rfl
theorem cellsRc : Tryz.prog.cellsOf 114 = 24 := by kernel_rfl

end Go.Proofs.YtccgjbdjbgefiaaGreatDoor
