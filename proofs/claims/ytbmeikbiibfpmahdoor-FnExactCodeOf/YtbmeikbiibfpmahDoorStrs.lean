/- An array of strings as data: it reads alike in every world, and what reads as the words holds the words. No program is named here. -/
import Derived.OpenShut
import Derived.WalkSmall
namespace Go.Proofs.YtbmeikbiibfpmahDoor
open Go.RowKit

section
variable {H : Type} {enc : TypeId × Value → H} {P : Program} {w w' : World} {base : Nat} {sp sp' : Nat → Bool} {held held' : Bool} {t e : TypeId}
theorem str_indep {fuel : Nat} {cs : List Value} (he : P.underlying e = some .string) : DataW.trod enc P w' base sp' held' fuel e cs = DataW.trod enc P w base sp held fuel e cs := by
  cases fuel with
  | zero => simp [DataW.trod]
  | succ m =>
    by_cases h : ∃ s, cs = [Value.string s]
    · obtain ⟨s, rfl⟩ := h
      simp [DataW.trod, he]
    · have no : ∀ (u : World) (sp : Nat → Bool) (hd : Bool), DataW.trod enc P u base sp hd (m + 1) e cs = none := by
        intro u sp hd
        cases hx : DataW.trod enc P u base sp hd (m + 1) e cs with
        | none => rfl
        | some x =>
          obtain ⟨s, hs, _⟩ := DataW.trod_string he hx
          exact absurd ⟨s, hs⟩ h
      rw [no, no]
theorem strs_indep {fuel n : Nat} {cs : List Value} (ht : P.underlying t = some (.array n e)) (he : P.underlying e = some .string) : DataW.trod enc P w' base sp' held' fuel t cs = DataW.trod enc P w base sp held fuel t cs := by
  cases fuel with
  | zero => simp [DataW.trod]
  | succ m =>
    simp only [DataW.trod, ht]
    have e1 : (fun i => DataW.trod enc P w' base sp' held' m e ((cs.drop (i * P.cellsOf e)).take (P.cellsOf e))) = fun i => DataW.trod enc P w base sp held m e ((cs.drop (i * P.cellsOf e)).take (P.cellsOf e)) := funext fun i => str_indep he
    rw [e1]
/-- An array of strings that reads as the words holds the words, cell for cell. -/
theorem cells_of_strs {fuel n : Nat} {cs : List Value} {ws : List (List UInt8)} {p : List MemPlace} (ht : P.underlying t = some (.array n e)) (he : P.underlying e = some .string) (hce : P.cellsOf e = 1)
    (h : DataW.trod enc P w base sp held fuel t cs = some (.agg (ws.map fun l => .lit (.string l)), p)) (i : Nat) (hi : i < n) : ws.length = n ∧ cs[i]? = some (.string ⟨(ws.getD i []).toArray⟩) := by
  obtain ⟨xs, m, rfl, hx, _, hn, hel⟩ := DataW.trod_array ht h
  simp only [Prod.mk.injEq, DataW.agg.injEq] at hx
  have hl : ws.length = n := by have := congrArg List.length hx.1; simp at this; omega
  refine ⟨hl, ?_⟩
  have h0 := hel i hi
  rw [hce, Nat.mul_one, List.getElem?_eq_getElem (by omega)] at h0
  obtain ⟨s, hs, hy, _⟩ := DataW.trod_string he h0
  have h1 : cs[i]? = some (.string s) := by
    have := congrArg (·[0]?) hs
    simpa [List.getElem?_take, List.getElem?_drop] using this
  have h2 : (xs.map (·.1))[i]? = some (DataW.lit (.string s.data.toList) : DataW H) := by rw [List.getElem?_map, List.getElem?_eq_getElem (by omega), hy]; rfl
  rw [← hx.1, List.getElem?_map, List.getElem?_eq_getElem (by omega)] at h2
  simp only [Option.map_some, Option.some.injEq, DataW.lit.injEq, Lit.string.injEq] at h2
  rw [h1]
  have h3 : ws.getD i [] = s.data.toList := by rw [← h2]; simp [List.getD, List.getElem?_eq_getElem (show i < ws.length by omega)]
  rw [h3, Array.toArray_toList]
end
end Go.Proofs.YtbmeikbiibfpmahDoor
