/- Several texts in one: Lists of lists of elements that a call made: what marks leave, what is held. No condition but those that each theorem states. · What the laws' helpers on sources do: contracts. Conditions: rows that can be read, lengths of at most 2 to the 40. · What a program's SumProve and SumVerify are asked for: answers of their own, in blocks of their own. No condition but those that each theorem states. · Rounds and a point that a call is telling: words on memory. No condition but those that each theorem states. -/
import Derived.Test.YtgiefpipflcbgadGreatDoorBzah
import Derived.Test.YtgiefpipflcbgadGreatDoorBzab
import Derived.Test.YtgiefpipflcbgadGreatDoorBzac
import Derived.Deep.QuietTactic
import Derived.Deep.RegionHeld3
import Derived.BigQuiet
import Derived.Test.YtgiefpipflcbgadGreatDoorBzar
import Derived.Test.YtgiefpipflcbgadGreatDoorBzaq
import Derived.Test.YtgiefpipflcbgadGreatDoorBzao
import Derived.Test.YtgiefpipflcbgadGreatDoorBzai
namespace Go.Proofs.YtgiefpipflcbgadGreatDoor
open Go.ChangeShapes Go.WideShapes Go.ChangeAt Go.RowKit
set_option linter.unusedVariables false
set_option maxRecDepth 100000
set_option linter.unusedSimpArgs false

/-- n lists of m elements each, list i in block H i, all blocks other ones, none below B. -/
structure OwnSS (w : World) (B : Nat) (c : Option Addr) (n m : Nat) (H C : Nat → Nat) (f g : Nat → Nat → Int) : Prop where
  top : ∀ i, i < n → ∃ xb xo : Nat, c = some ⟨xb, xo, none⟩ ∧ B ≤ xb ∧ xb < w.heap.size ∧ w.cell? ⟨xb, xo + i, none⟩ = some (.slice (some ⟨H i, 0, none⟩) m (C i)) ∧ ∀ j, j < n → xb ≠ H j
  inn : ∀ i, i < n → OwnE w B (some ⟨H i, 0, none⟩) m (f i) (g i)
  dis : ∀ i j, i < n → j < n → i ≠ j → H i ≠ H j
namespace OwnSS
variable {w w' : World} {B : Nat} {c : Option Addr} {n m : Nat} {H C : Nat → Nat} {f g : Nat → Nat → Int}
theorem chg {P : Nat → Prop} (h : OwnSS w B c n m H C f g) (k : Chg P w w') (ht : ∀ xb xo, c = some ⟨xb, xo, none⟩ → 0 < n → B ≤ xb → xb < w.heap.size → ¬ P xb) (hi : ∀ i, i < n → ¬ P (H i)) : OwnSS w' B c n m H C f g := by
  refine ⟨fun i hn => ?_, fun i hn => (h.inn i hn).chg k (fun b _ e => by cases e; exact hi i hn), h.dis⟩
  obtain ⟨xb, xo, e, hb, hl, hc, ha⟩ := h.top i hn
  exact ⟨xb, xo, e, hb, Nat.lt_of_lt_of_le hl k.size, by rw [k.cell (p := ⟨xb, xo + i, none⟩) hl (ht xb xo e (by omega) hb hl)]; exact hc, ha⟩
theorem keep (h : OwnSS w B c n m H C f g) (k : Chg nob w w') : OwnSS w' B c n m H C f g := h.chg k (fun _ _ _ _ _ _ x => x) (fun _ _ x => x)
theorem low {B' : Nat} (h : OwnSS w B c n m H C f g) (hB : B' ≤ B) : OwnSS w B' c n m H C f g := by
  refine ⟨fun i hn => ?_, fun i hn => (h.inn i hn).low hB, h.dis⟩
  obtain ⟨xb, xo, e, hb, r⟩ := h.top i hn
  exact ⟨xb, xo, e, Nat.le_trans hB hb, r⟩
theorem rows (h : OwnSS w B c n m H C f g) : RowsV w c n (fun i => some ⟨H i, 0, none⟩) (fun _ => m) C f g := by
  intro i hn
  obtain ⟨xb, xo, e, hb, hl, hc, ha⟩ := h.top i hn
  exact ⟨xb, xo, e, hl, hc, (h.inn i hn).pairs⟩
theorem nil (w : World) (B : Nat) (c : Option Addr) (m : Nat) (H C : Nat → Nat) (f g : Nat → Nat → Int) : OwnSS w B c 0 m H C f g :=
  ⟨fun i hi => absurd hi (by omega), fun i hi => absurd hi (by omega), fun i j hi => absurd hi (by omega)⟩
theorem congr {f' g' : Nat → Nat → Int} (h : OwnSS w B c n m H C f g) (e : ∀ i, i < n → f i = f' i ∧ g i = g' i) : OwnSS w B c n m H C f' g' :=
  ⟨h.top, fun i hi => by rw [← (e i hi).1, ← (e i hi).2]; exact h.inn i hi, h.dis⟩
/-- A list's block lies above B. -/
theorem above (h : OwnSS w B c n m H C f g) (hm : 1 ≤ m) (i : Nat) (hi : i < n) : B ≤ H i ∧ H i < w.heap.size := by
  rcases h.inn i hi with h0 | ⟨b, N, h', e, hB, hr, _⟩
  · omega
  · cases e
    exact ⟨hB, hr.lt⟩
end OwnSS

end Go.Proofs.YtgiefpipflcbgadGreatDoor

namespace Go.Proofs.YtgiefpipflcbgadGreatDoor
open Go.ChangeShapes Go.WideShapes Go.ChangeAt Go.RowKit
set_option linter.unusedVariables false
set_option maxRecDepth 100000
set_option linter.unusedSimpArgs false

end Go.Proofs.YtgiefpipflcbgadGreatDoor

namespace Go.Proofs.YtgiefpipflcbgadGreatDoor
open Go.ChangeShapes Go.WideShapes Go.ChangeAt Go.RowKit
set_option linter.unusedVariables false
set_option maxRecDepth 100000
set_option linter.unusedSimpArgs false

/-- The blocks of lists of lists. -/
def BlkS (c : Option Addr) (n : Nat) (H : Nat → Nat) (b : Nat) : Prop := (∃ o, c = some ⟨b, o, none⟩) ∨ ∃ i, i < n ∧ b = H i
/-- A list's block. -/
def BlkE (c : Option Addr) (b : Nat) : Prop := ∃ o, c = some ⟨b, o, none⟩
/-- Four lists in blocks of their own. -/
def Apart (cR : Option Addr) (nR : Nat) (H : Nat → Nat) (cP cV cS : Option Addr) : Prop :=
  (∀ b, BlkS cR nR H b → ¬ BlkE cP b ∧ ¬ BlkE cV b ∧ ¬ BlkE cS b) ∧ (∀ b, BlkE cP b → ¬ BlkE cV b ∧ ¬ BlkE cS b) ∧ ∀ b, BlkE cV b → ¬ BlkE cS b
/-- Rounds, a point, values, a source and a code, of the call's own. -/
def PIAns (w : World) (q : Int) (nR m nV nS : Nat) (G : Nat → Nat → El) (R V : Nat → El) (fs gs : Nat → Int) (a : Int) (s : ByteArray) (c : Int) (e : Ending) (w' : World) : Prop :=
  ∃ (cR : Option Addr) (capR : Nat) (H C : Nat → Nat) (cP : Option Addr) (capP : Nat) (cV : Option Addr) (capV : Nat) (cS : Option Addr) (capS : Nat), e = .returned (.tuple #[.slice cR nR capR, .slice cP nR capP, .slice cV nV capV, .agg #[.slice cS nS capS, .int .i64 a, .string s, .int .i64 c], .int .i64 q]) ∧ OwnSS w' w.heap.size cR nR m H C (fun i => cA (G i)) (fun i => cB (G i)) ∧ OwnE w' w.heap.size cP nR (cA R) (cB R) ∧ OwnE w' w.heap.size cV nV (cA V) (cB V) ∧ OwnE w' w.heap.size cS nS fs gs ∧ Apart cR nR H cP cV cS ∧ Chg nob w w'
/-- A point, a claim, a source and a code, of the call's own. -/
def VIAns (w : World) (q : Int) (nP nS : Nat) (R : Nat → El) (fs gs : Nat → Int) (y1 y2 a : Int) (s : ByteArray) (c : Int) (e : Ending) (w' : World) : Prop :=
  ∃ (cP : Option Addr) (capP : Nat) (cS : Option Addr) (capS : Nat), e = .returned (.tuple #[.slice cP nP capP, .agg #[.int .i64 y1, .int .i64 y2], .agg #[.slice cS nS capS, .int .i64 a, .string s, .int .i64 c], .int .i64 q]) ∧ OwnE w' w.heap.size cP nP (cA R) (cB R) ∧ OwnE w' w.heap.size cS nS fs gs ∧ (∀ b, BlkE cP b → ¬ BlkE cS b) ∧ Chg nob w w'
/-- Lists' blocks lie below the heap's end. -/
theorem RowsQ.lt {Q : Nat → Prop} {w : World} {c : Option Addr} {n N : Nat} {t : Nat → Nat → El} (h : RowsQ Q w c n N t) (hN : n = 0 ∨ 1 ≤ N) : RowsQ (fun b => b < w.heap.size) w c n N t := by
  intro i hi
  obtain ⟨xb, xo, A, C, e, l, hc, hp, q, qa⟩ := h i hi
  refine ⟨xb, xo, A, C, e, l, hc, hp, l, fun b o eA => ?_⟩
  obtain ⟨yb, yo, e2, hy, _, _⟩ := PairE.at_ hp (show 0 < N by omega)
  rw [eA] at e2
  cases e2
  exact hy
theorem RowsE.toV {w : World} {c : Option Addr} {n N : Nat} {t : Nat → Nat → El} (h : RowsE w c n N t) : ∃ A C, RowsV w c n A (fun _ => N) C (fun i => cA (t i)) (fun i => cB (t i)) := by
  have h' : ∀ i, ∃ q : Option Addr × Nat, i < n → ∃ xb xo : Nat, c = some ⟨xb, xo, none⟩ ∧ xb < w.heap.size ∧ w.cell? ⟨xb, xo + i, none⟩ = some (.slice q.1 N q.2) ∧ PairE w q.1 N (t i) := fun i => by
    by_cases hi : i < n
    · obtain ⟨xb, xo, A, C, e, l, hc, hp⟩ := h i hi
      exact ⟨(A, C), fun _ => ⟨xb, xo, e, l, hc, hp⟩⟩
    · exact ⟨(none, 0), fun hh => absurd hh hi⟩
  refine ⟨fun i => (Classical.choose (h' i)).1, fun i => (Classical.choose (h' i)).2, fun i hi => ?_⟩
  obtain ⟨xb, xo, e, l, hc, hp⟩ := Classical.choose_spec (h' i) hi
  exact ⟨xb, xo, e, l, hc, hp⟩

end Go.Proofs.YtgiefpipflcbgadGreatDoor

namespace Go.Proofs.YtgiefpipflcbgadGreatDoor
open Go.ChangeShapes Go.WideShapes Go.ChangeAt Go.RowKit
set_option linter.unusedVariables false
set_option maxRecDepth 100000
set_option linter.unusedSimpArgs false

section
variable {w w' : World} {B B' : Nat} {t t' : TypeId} {z z' : Nat} {v v' : Value} {n n' : Nat} {xs xs' : List Value}
theorem owns_kind (h : w.ownsRow B t z v n xs) {g : Nat} (hg : v.ownBlock = some g) {N : Nat} {f : Nat → Value} (r : w.rowIs g t' N f) : t = t' := by
  rcases h.2 with ⟨rfl, _⟩ | ⟨g', cap, cur, rfl, _, hc, _⟩
  · cases hg
  · cases hg
    obtain ⟨c, hb, _⟩ := r
    have q := hc.symm.trans hb
    cases q
    rfl
theorem owns_apart (h : w.ownsRow B t z v n xs) (h' : w.ownsRow B' t' z' v' n' xs') (hne : t ≠ t') {g : Nat} (e : v.ownBlock = some g) : v'.ownBlock ≠ some g := fun e' => by
  rcases h.2 with ⟨rfl, _⟩ | ⟨g1, cap, cur, rfl, _, hc, _⟩
  · cases e
  · cases e
    rcases h'.2 with ⟨rfl, _⟩ | ⟨g2, cap', cur', rfl, _, hc', _⟩
    · cases e'
    · cases e'
      have q := hc.symm.trans hc'
      cases q
      exact hne rfl
theorem owns_ln (h : w.ownsRow B t z v n xs) : lnOf v = n := by
  rcases h.2 with ⟨rfl, rfl⟩ | ⟨g, cap, cur, rfl, _⟩ <;> rfl
theorem grown_chg (hg : w.grownBy w' v.ownBlock) : Chg (fun x => v.ownBlock = some x) w w' := (Chg.refl _ w).grown hg (fun k e _ => e)
end
/-- iR rounds of m elements, round j in block H j, and a point of iP elements that are being told. -/
structure RdI (B : Nat) (W : World) (m iR iP : Nat) (rr pp : Value) (H : Nat → Nat) (G : Nat → Nat → El) (R : Nat → El) : Prop where
  oR : W.ownsRow B 26 1 rr iR ((List.range iR).map (fun j => Value.slice (some ⟨H j, 0, none⟩) m m))
  oP : W.ownsRow B 31 2 pp iP ((List.range (iP * 2)).map (pf (cA R) (cB R)))
  inn : ∀ j, j < iR → B ≤ H j ∧ RowE W (H j) m (G j) ∧ pp.ownBlock ≠ some (H j)
  dis : ∀ i j, i < iR → j < iR → i ≠ j → H i ≠ H j
namespace RdI
variable {B : Nat} {W W' : World} {m iR iP : Nat} {rr pp : Value} {H : Nat → Nat} {G : Nat → Nat → El} {R : Nat → El}
theorem nil (B : Nat) (W : World) (m : Nat) (H : Nat → Nat) (G : Nat → Nat → El) (R : Nat → El) : RdI B W m 0 0 (.slice none 0 0) (.slice none 0 0) H G R :=
  ⟨World.ownsRow_nil _ _ _ _, World.ownsRow_nil _ _ _ _, fun j hj => absurd hj (by omega), fun i j hi => absurd hi (by omega)⟩
theorem chg {P : Nat → Prop} (h : RdI B W m iR iP rr pp H G R) (k : Chg P W W') (hp : ∀ b, B ≤ b → ¬ P b) : RdI B W' m iR iP rr pp H G R :=
  ⟨owns_far h.oR k hp, owns_far h.oP k hp, fun j hj => ⟨(h.inn j hj).1, (h.inn j hj).2.1.chg k (hp _ (h.inn j hj).1), (h.inn j hj).2.2⟩, h.dis⟩
theorem keep (h : RdI B W m iR iP rr pp H G R) (k : Chg nob W W') : RdI B W' m iR iP rr pp H G R := h.chg k (fun _ _ x => x)
theorem low (h : RdI B W m iR iP rr pp H G R) (g : Nat) (e : rr.ownBlock = some g ∨ pp.ownBlock = some g) : B ≤ g ∧ g < W.heap.size := by
  rcases e with e | e
  · exact h.oR.lt g e
  · exact h.oP.lt g e
/-- A round more. -/
theorem round {g' cap' b : Nat} (h : RdI B W m iR iP rr pp H G R) (hb : B ≤ b) (hr : RowE W b m (G iR)) (hne : pp.ownBlock ≠ some b) (hf : ∀ j, j < iR → H j ≠ b) (hg : W.grownBy W' rr.ownBlock)
    (ho : W'.ownsRow B 26 1 (.slice (some ⟨g', 0, none⟩) (iR + 1) cap') (iR + 1) ((List.range iR).map (fun j => Value.slice (some ⟨H j, 0, none⟩) m m) ++ [.slice (some ⟨b, 0, none⟩) m m])) :
    RdI B W' m (iR + 1) iP (.slice (some ⟨g', 0, none⟩) (iR + 1) cap') pp (fun j => if j = iR then b else H j) G R := by
  have k := grown_chg hg
  have hk : ∀ {x : Nat} {N : Nat} {t : Nat → El}, RowE W x N t → ¬ rr.ownBlock = some x := fun r e => absurd (owns_kind h.oR e r) (by decide)
  refine ⟨?_, h.oP.kept hg ?_, fun j hj => ?_, fun i j hi hj hij => ?_⟩
  · have e : (List.range (iR + 1)).map (fun j => Value.slice (some ⟨if j = iR then b else H j, 0, none⟩) m m) = (List.range iR).map (fun j => Value.slice (some ⟨H j, 0, none⟩) m m) ++ [.slice (some ⟨b, 0, none⟩) m m] := by
      rw [List.range_succ, List.map_append]
      congr 1
      · apply List.map_congr_left
        intro j hj
        have : j < iR := by simpa using hj
        rw [if_neg (by omega)]
      · simp
    rw [e]
    exact ho
  · cases q : pp.ownBlock with
    | none => exact .inl rfl
    | some g => exact .inr (fun e => owns_apart h.oP h.oR (by decide) q e.symm)
  · by_cases q : j = iR
    · subst q
      rw [if_pos rfl]
      exact ⟨hb, hr.chg k (hk hr), hne⟩
    · rw [if_neg q]
      obtain ⟨q1, q2, q3⟩ := h.inn j (by omega)
      exact ⟨q1, q2.chg k (hk q2), q3⟩
  · by_cases qi : i = iR
    · by_cases qj : j = iR
      · omega
      · rw [if_pos qi, if_neg qj]; exact fun e => hf j (by omega) e.symm
    · by_cases qj : j = iR
      · rw [if_neg qi, if_pos qj]; exact hf i (by omega)
      · rw [if_neg qi, if_neg qj]; exact h.dis i j (by omega) (by omega) hij
/-- An element of the point more. -/
theorem point {g' cap' : Nat} (h : RdI B W m iR iP rr pp H G R) (hg : W.grownBy W' pp.ownBlock) (hat : pp.ownBlock = some g' ∨ g' = W.heap.size)
    (ho : W'.ownsRow B 31 2 (.slice (some ⟨g', 0, none⟩) (iP + 1) cap') (iP + 1) ((List.range (iP * 2)).map (pf (cA R) (cB R)) ++ [.int .i64 (R iP).v.1, .int .i64 (R iP).v.2])) :
    RdI B W' m iR (iP + 1) rr (.slice (some ⟨g', 0, none⟩) (iP + 1) cap') H G R := by
  have k := grown_chg hg
  refine ⟨h.oR.kept hg ?_, by rw [← flPair]; exact ho, fun j hj => ?_, h.dis⟩
  · cases q : rr.ownBlock with
    | none => exact .inl rfl
    | some g => exact .inr (fun e => owns_apart h.oR h.oP (by decide) q e.symm)
  · obtain ⟨q1, q2, q3⟩ := h.inn j hj
    refine ⟨q1, q2.chg k q3, fun e => ?_⟩
    have e' : g' = H j := by simpa [Value.ownBlock] using e
    rcases hat with q | q
    · exact q3 (by rw [q, e'])
    · have := q2.lt
      omega
/-- What is told, as lists of the call's own. -/
theorem told {B0 : Nat} (h : RdI B W m iR iP rr pp H G R) (hB : B0 ≤ B) (hm : 1 ≤ m) : ∃ cR capR cP capP, rr = .slice cR iR capR ∧ pp = .slice cP iP capP ∧ OwnSS W B0 cR iR m H (fun _ => m) (fun i => cA (G i)) (fun i => cB (G i)) ∧ OwnE W B0 cP iP (cA R) (cB R) ∧ (∀ b, BlkS cR iR H b → ¬ BlkE cP b) ∧ (∀ b, BlkS cR iR H b → B ≤ b ∧ b < W.heap.size) ∧ (∀ b, BlkE cP b → B ≤ b ∧ b < W.heap.size) := by
  obtain ⟨cP, capP, eP, _, oE⟩ := OwnE.of_owns h.oP
  have hform : ∃ cR capR, rr = .slice cR iR capR := by
    rcases h.oR.2 with ⟨e, e0⟩ | ⟨g, cap, cur, e, _⟩
    · exact ⟨none, 0, by rw [e, e0]⟩
    · exact ⟨_, cap, e⟩
  obtain ⟨cR, capR, eR⟩ := hform
  have hP : ∀ b, BlkE cP b → pp.ownBlock = some b := fun b ⟨o, e⟩ => by rw [eP, e]; rfl
  have hR : ∀ b o, cR = some ⟨b, o, none⟩ → rr.ownBlock = some b := fun b o e => by rw [eR, e]; rfl
  refine ⟨cR, capR, cP, capP, eR, eP, ⟨fun i hi => ?_, fun i hi => ?_, h.dis⟩, oE.low hB, fun b hb he => ?_, fun b hb => ?_, fun b hb => h.oP.lt b (hP b hb)⟩
  · rcases h.oR.2 with ⟨e, e0⟩ | ⟨g, cap, cur, e, hb, hc, _⟩
    · omega
    · have ec : cR = some ⟨g, 0, none⟩ := by rw [eR] at e; simp at e; exact e.1
      have hlt := h.oR.lt g (hR g 0 ec)
      have hcell := h.oR.cells (g := g) (hR g 0 ec) i (.slice (some ⟨H i, 0, none⟩) m m) (by rw [List.getElem?_map, List.getElem?_range hi]; rfl)
      rw [Go.WideShapes.add_plain] at hcell
      exact ⟨g, 0, ec, Nat.le_trans hB hb, hlt.2, hcell, fun j hj e2 => absurd (owns_kind h.oR (hR g 0 ec) (e2 ▸ (h.inn j hj).2.1)) (by decide)⟩
  · exact (h.inn i hi).2.1.own (Nat.le_trans hB (h.inn i hi).1)
  · rcases hb with ⟨o, e⟩ | ⟨i, hi, e⟩
    · exact owns_apart h.oR h.oP (by decide) (hR b o e) (hP b he)
    · subst e
      exact (h.inn i hi).2.2 (hP _ he)
  · rcases hb with ⟨o, e⟩ | ⟨i, hi, e⟩
    · exact h.oR.lt b (hR b o e)
    · subst e
      exact ⟨(h.inn i hi).1, (h.inn i hi).2.1.lt⟩
end RdI

end Go.Proofs.YtgiefpipflcbgadGreatDoor
