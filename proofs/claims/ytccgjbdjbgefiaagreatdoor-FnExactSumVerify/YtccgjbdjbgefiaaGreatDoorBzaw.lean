/- Several texts in one: What the model's proof of a sum answers: a contract. Conditions: right tables of one length that can be read, a right source with draws left. · What the model's proof of a sum answers: a contract. Conditions: right tables of one length that can be read, a right source with draws left. -/
import Derived.Test.YtccgjbdjbgefiaaGreatDoorBzak
namespace Go.Proofs.YtccgjbdjbgefiaaGreatDoor
open Go.ChangeShapes Go.WideShapes Go.ChangeAt Go.RowKit
set_option linter.unusedVariables false
set_option maxRecDepth 100000
set_option linter.unusedSimpArgs false

theorem Chg.seeP {P : Nat → Prop} {w w' : World} (h : Chg P w w') {b o : Nat} {v : Value} (c : w.cell? ⟨b, o, none⟩ = some v) (hp : ¬ P b) : w'.cell? ⟨b, o, none⟩ = some v :=
  (h.cell (p := ⟨b, o, none⟩) (World.block_lt_of_cell? w _ c) hp).trans c
theorem owns_far {P : Nat → Prop} {w w' : World} {B : Nat} {t : TypeId} {z : Nat} {v : Value} {n : Nat} {xs : List Value} (h : w.ownsRow B t z v n xs) (k : Chg P w w') (hp : ∀ i, B ≤ i → ¬ P i) : w'.ownsRow B t z v n xs := by
  obtain ⟨hl, h⟩ := h
  refine ⟨hl, ?_⟩
  rcases h with h | ⟨g, cap, cur, e, hb, hc, r⟩
  · exact .inl h
  · exact .inr ⟨g, cap, cur, e, hb, (k.block g (Array.getElem?_eq_some_iff.1 hc).1 (hp g hb)).trans hc, r⟩
theorem owns_at {P : Nat → Prop} {w w' : World} {B : Nat} {t : TypeId} {z g m cap : Nat} {n : Nat} {xs : List Value} (h : w.ownsRow B t z (.slice (some ⟨g, 0, none⟩) m cap) n xs) (k : Chg P w w') (hp : ¬ P g) : w'.ownsRow B t z (.slice (some ⟨g, 0, none⟩) m cap) n xs := by
  obtain ⟨hl, h⟩ := h
  refine ⟨hl, ?_⟩
  rcases h with h | ⟨g', cap', cur, e, hb, hc, r⟩
  · exact .inl h
  · have eg : g = g' := by simp at e; exact e.1
    subst eg
    exact .inr ⟨g, cap', cur, e, hb, (k.block g (Array.getElem?_eq_some_iff.1 hc).1 hp).trans hc, r⟩
/-- Rounds and a point that are being told, rounds iR, point iP: their blocks gR and gP. -/
structure PvI (B : Nat) (W : World) (m iR iP gR cR gP cP : Nat) (A : Nat → Option Addr) (C : Nat → Nat) (G : Nat → Nat → El) (R : Nat → El) : Prop where
  oR : W.ownsRow B 30 1 (.slice (some ⟨gR, 0, none⟩) iR cR) iR ((List.range iR).map (fun j => Value.slice (A j) m (C j)))
  oP : W.ownsRow B 31 2 (.slice (some ⟨gP, 0, none⟩) iP cP) iP ((List.range (iP * 2)).map (pf (cA R) (cB R)))
  tR : TbsO W B gR iR m A G
  tP : TbsO W B gP iR m A G
  ne : gR ≠ gP
namespace PvI
variable {B : Nat} {W W' : World} {m iR iP gR cR gP cP : Nat} {A : Nat → Option Addr} {C : Nat → Nat} {G : Nat → Nat → El} {R : Nat → El}
theorem chg {P : Nat → Prop} (h : PvI B W m iR iP gR cR gP cP A C G R) (k : Chg P W W') (hp : ∀ b, B ≤ b → ¬ P b) : PvI B W' m iR iP gR cR gP cP A C G R :=
  ⟨owns_at h.oR k (hp _ (h.oR.lt gR rfl).1), owns_at h.oP k (hp _ (h.oP.lt gP rfl).1), h.tR.chg k (fun i b hi e => by
    obtain ⟨b', e', hb, _⟩ := h.tR i hi
    rw [e] at e'
    cases e'
    exact hp b hb), h.tP.chg k (fun i b hi e => by
    obtain ⟨b', e', hb, _⟩ := h.tP i hi
    rw [e] at e'
    cases e'
    exact hp b hb), h.ne⟩
theorem keep (h : PvI B W m iR iP gR cR gP cP A C G R) (k : Chg nob W W') : PvI B W' m iR iP gR cR gP cP A C G R := h.chg k (fun _ _ x => x)
theorem ltR (h : PvI B W m iR iP gR cR gP cP A C G R) : B ≤ gR ∧ gR < W.heap.size := h.oR.lt gR rfl
theorem ltP (h : PvI B W m iR iP gR cR gP cP A C G R) : B ≤ gP ∧ gP < W.heap.size := h.oP.lt gP rfl
/-- A round more. -/
theorem round {gR' cR' b Cb : Nat} (h : PvI B W m iR iP gR cR gP cP A C G R) (hb : B ≤ b) (hl : b < W.heap.size) (hR : b ≠ gR) (hP : b ≠ gP) (hp : PairE W (some ⟨b, 0, none⟩) m (G iR)) (hg : W.grownBy W' (some gR)) (hat : gR = gR' ∨ gR' = W.heap.size)
    (ho : W'.ownsRow B 30 1 (.slice (some ⟨gR', 0, none⟩) (iR + 1) cR') (iR + 1) ((List.range iR).map (fun j => Value.slice (A j) m (C j)) ++ [.slice (some ⟨b, 0, none⟩) m Cb])) :
    PvI B W' m (iR + 1) iP gR' cR' gP cP (fun i => if i = iR then some ⟨b, 0, none⟩ else A i) (fun i => if i = iR then Cb else C i) G R := by
  have k : Chg (fun x => x = gR) W W' := (Chg.refl _ W).grown hg (fun k e _ => by cases e; rfl)
  have e1 := h.tR.ext hb hR hl hp
  refine ⟨by rw [← rwExt]; exact ho, owns_at h.oP k (fun e => h.ne e.symm), e1.grown hg hat, (h.tP.ext hb hP hl hp).chg k (fun i x hi e ex => ?_), ?_⟩
  · obtain ⟨b', e', _, hne, _⟩ := e1 i hi
    have q := e.symm.trans e'
    cases q
    exact hne ex
  · rcases hat with rfl | rfl
    · exact h.ne
    · have := h.ltP; omega
/-- An element of the point more. -/
theorem point {gP' cP' : Nat} (h : PvI B W m iR iP gR cR gP cP A C G R) (hg : W.grownBy W' (some gP)) (hat : gP = gP' ∨ gP' = W.heap.size)
    (ho : W'.ownsRow B 31 2 (.slice (some ⟨gP', 0, none⟩) (iP + 1) cP') (iP + 1) ((List.range (iP * 2)).map (pf (cA R) (cB R)) ++ [.int .i64 (R iP).v.1, .int .i64 (R iP).v.2])) :
    PvI B W' m iR (iP + 1) gR cR gP' cP' A C G R := by
  have k : Chg (fun x => x = gP) W W' := (Chg.refl _ W).grown hg (fun k e _ => by cases e; rfl)
  refine ⟨owns_at h.oR k h.ne, by rw [← flPair]; exact ho, h.tR.chg k (fun i x hi e ex => ?_), h.tP.grown hg hat, ?_⟩
  · obtain ⟨b', e', _, hne, _⟩ := h.tP i hi
    rw [e] at e'
    cases e'
    exact hne ex
  · rcases hat with rfl | rfl
    · exact h.ne
    · have := h.ltR; omega
end PvI

end Go.Proofs.YtccgjbdjbgefiaaGreatDoor

namespace Go.Proofs.YtccgjbdjbgefiaaGreatDoor
open Go.ChangeShapes Go.WideShapes Go.ChangeAt Go.RowKit
set_option linter.unusedVariables false
set_option maxRecDepth 100000
set_option linter.unusedSimpArgs false


end Go.Proofs.YtccgjbdjbgefiaaGreatDoor
