/- Several texts in one: The vector of a system: plain. · The vector of a system: the program at every argument. -/
import Derived.Test.YtpndbkgjdnkmcaaDoorBzat
import Derived.Test.YtpndbkgjdnkmcaaDoorMulX
import Derived.Test.YtpndbkgjdnkmcaaDoorBzah
import Derived.Laws.CopyRow
import Derived.Laws.CopyOwn
namespace Go.Proofs.YtpndbkgjdnkmcaaDoor


end Go.Proofs.YtpndbkgjdnkmcaaDoor

namespace Go.Proofs.YtpndbkgjdnkmcaaDoor
open Go.ChangeShapes Go.WideShapes Go.ChangeAt Go.RowKit
set_option linter.unusedVariables false
set_option maxRecDepth 100000
set_option linter.unusedSimpArgs false

/-- n numbers put into a row from off on. -/
def spl (off n : Nat) (t u : Nat → Int) (i : Nat) : Int := if off ≤ i ∧ i < off + n then t (i - off) else u i
theorem row_spl (N off n : Nat) (t u : Nat → Int) (hl : off + n ≤ N) (i : Nat) (hi : i < N) : ((rowA N (iv u)).toList.take off ++ ((List.range n).map (iv t) ++ (rowA N (iv u)).toList.drop (off + n)))[i]? = some (iv (spl off n t u) i) := by
  have hlen : ((rowA N (iv u)).toList.take off).length = off := by simp [rowA]; omega
  by_cases h1 : i < off
  · rw [List.getElem?_append_left (by rw [hlen]; exact h1)]
    simp only [rowA, List.toList_toArray]
    rw [List.getElem?_take_of_lt h1, List.getElem?_map, List.getElem?_range hi]
    simp only [Option.map_some, Option.some.injEq, iv, spl]
    rw [if_neg (by omega)]
  · rw [List.getElem?_append_right (by rw [hlen]; omega), hlen]
    by_cases h2 : i < off + n
    · rw [List.getElem?_append_left (by simp; omega), List.getElem?_map, List.getElem?_range (by omega)]
      simp only [Option.map_some, Option.some.injEq, iv, spl]
      rw [if_pos (by omega)]
    · rw [List.getElem?_append_right (by simp; omega)]
      simp only [rowA, List.toList_toArray, List.length_map, List.length_range, List.getElem?_drop]
      rw [show off + n + (i - off - n) = i by omega, List.getElem?_map, List.getElem?_range hi]
      simp only [Option.map_some, Option.some.injEq, iv, spl]
      rw [if_neg (by omega)]

section
variable {ops : Array Oper} {rest : List Oper} {o : Oper} {a : Act} {Q : Exit → Act → World → Prop} {w : World}
end

/-- What a call makes, with room for it. -/
def MmAnsC (w : World) (code : Int) (N : Nat) (f : Nat → Int) (e : Ending) (w' : World) : Prop :=
  ∃ c cap, e = .returned (.tuple #[.slice c (if code = 0 then N else 0) cap, .int .i64 code]) ∧ (code = 0 → ∃ g, w.heap.size ≤ g ∧ c = some ⟨g, 0, none⟩ ∧ w'.rowIs g 3 N (iv f)) ∧ (code = 0 → N ≤ cap) ∧ Chg nob w w'
theorem MmAnsC.no {w w' : World} {code k : Int} {N : Nat} {f : Nat → Int} {e : Ending} {c : Option Addr} {cap : Nat} (h : code = k) (hk : k ≠ 0) (he : e = .returned (.tuple #[.slice c 0 cap, .int .i64 k])) (kk : Chg nob w w') : MmAnsC w code N f e w' :=
  ⟨c, cap, by rw [h, if_neg hk]; exact he, fun q => absurd (h.symm.trans q) hk, fun q => absurd (h.symm.trans q) hk, kk⟩
theorem MmAnsC.out {w w' : World} {code : Int} {N : Nat} {f : Nat → Int} {e : Ending} (h : MmAnsC w code N f e w') : MmAns w code N f e w' := by
  obtain ⟨c, cap, he, hr, _, k⟩ := h
  exact ⟨c, cap, he, hr, k⟩


end Go.Proofs.YtpndbkgjdnkmcaaDoor
