/- Tables of integers as data: they read alike in every world; what reads as the tables holds them. Conditions: those of each theorem. -/
import Derived.Test.YtkpohajmcngjcaaDoorKecU
import Derived.Lib.LaidTab
namespace Go.Proofs.YtkpohajmcngjcaaDoor
open Go.RowKit

section
variable {H : Type} {enc : TypeId × Value → H} {P : Program} {w w' : World} {base : Nat} {sp sp' : Nat → Bool} {held held' : Bool} {t e : TypeId} {k : IntKind}
theorem int_indep {fuel : Nat} {cs : List Value} (he : P.underlying e = some (.int k)) : DataW.trod enc P w' base sp' held' fuel e cs = DataW.trod enc P w base sp held fuel e cs := by
  cases fuel with
  | zero => simp [DataW.trod]
  | succ m =>
    by_cases h : ∃ n, cs = [Value.int k n]
    · obtain ⟨n, rfl⟩ := h
      simp [DataW.trod, he]
    · have no : ∀ (u : World) (sp : Nat → Bool) (hd : Bool), DataW.trod enc P u base sp hd (m + 1) e cs = none := by
        intro u sp hd
        cases hx : DataW.trod enc P u base sp hd (m + 1) e cs with
        | none => rfl
        | some x =>
          obtain ⟨n, hs, _⟩ := DataW.trod_int he hx
          exact absurd ⟨n, hs⟩ h
      rw [no, no]
theorem ints_indep {fuel n : Nat} {cs : List Value} (ht : P.underlying t = some (.array n e)) (he : P.underlying e = some (.int k)) : DataW.trod enc P w' base sp' held' fuel t cs = DataW.trod enc P w base sp held fuel t cs := by
  cases fuel with
  | zero => simp [DataW.trod]
  | succ m =>
    simp only [DataW.trod, ht]
    have e1 : (fun i => DataW.trod enc P w' base sp' held' m e ((cs.drop (i * P.cellsOf e)).take (P.cellsOf e))) = fun i => DataW.trod enc P w base sp held m e ((cs.drop (i * P.cellsOf e)).take (P.cellsOf e)) := funext fun i => int_indep he
    rw [e1]
end
/-- The tables' numbers. -/
def shz : List Int := shl.map (fun n : Nat => (n : Int))
def rcz : List Int := rcl.map (fun n : Nat => (n : Int))
theorem shz_at (i : Nat) (h : i < 25) : (shz.map fun z => Value.int .u64 z)[i]? = some (.int .u64 (sh i : Int)) := by
  have : ∀ i : Fin 25, shl[i.val]? = some (sh i.val) := by decide
  unfold shz
  rw [List.map_map, List.getElem?_map, this ⟨i, h⟩]
  rfl
theorem rcz_at (i : Nat) (h : i < 24) : (rcz.map fun z => Value.int .u64 z)[i]? = some (.int .u64 (rcn i : Int)) := by
  have : ∀ i : Fin 24, rcl[i.val]? = some (rcn i.val) := by decide
  unfold rcz
  rw [List.map_map, List.getElem?_map, this ⟨i, h⟩]
  rfl
theorem cellsU : Tryd.prog.cellsOf 37 = 1 := by kernel_rfl
theorem cellsU64 : Tryd.prog.cellsOf 87 = 1 := by kernel_rfl
theorem cellsSh : Tryd.prog.cellsOf 105 = 25 := by kernel_rfl
theorem cellsRc : Tryd.prog.cellsOf 103 = 24 := by kernel_rfl

end Go.Proofs.YtkpohajmcngjcaaDoor
