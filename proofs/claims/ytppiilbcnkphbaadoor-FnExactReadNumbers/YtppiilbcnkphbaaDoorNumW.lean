/- Words of a line, read byte by byte: plain. No condition but those that each theorem states. -/
import Derived.Test.YtppiilbcnkphbaaDoorNumM
namespace Go.Proofs.YtppiilbcnkphbaaDoor
set_option linter.unusedVariables false
set_option linter.unusedSimpArgs false
/-- What has been read up to byte k: the words that are done, the one that began at byte m. -/
def WdI (L : List UInt8) (k m : Nat) (D : List (List UInt8)) : Prop := m ≤ k ∧ k ≤ L.length ∧ D ++ wdG ((L.take k).drop m) (L.drop k) = wds L
theorem WdI.start (L : List UInt8) : WdI L 0 0 [] := ⟨Nat.le_refl _, Nat.zero_le _, rfl⟩
theorem piece_len {L : List UInt8} {k m : Nat} (hk : k ≤ L.length) : ((L.take k).drop m).length = k - m := by
  rw [List.length_drop, List.length_take, Nat.min_eq_left hk]
theorem piece_empty {L : List UInt8} {k m : Nat} (hk : k ≤ L.length) (hm : m ≤ k) : ((L.take k).drop m).isEmpty = decide (m = k) := by
  have h := piece_len (m := m) hk
  by_cases e : m = k
  · rw [decide_eq_true e]
    exact List.isEmpty_iff.2 (List.eq_nil_of_length_eq_zero (by omega))
  · rw [decide_eq_false e]
    cases hx : (L.take k).drop m with
    | nil => rw [hx] at h; simp at h; omega
    | cons _ _ => rfl
theorem drop_at {L : List UInt8} {k : Nat} (hk : k < L.length) : L.drop k = L[k] :: L.drop (k + 1) := List.drop_eq_getElem_cons hk
theorem WdI.skip {L : List UInt8} {k m : Nat} {D : List (List UInt8)} (h : WdI L k m D) (hk : k < L.length) (hb : L[k] ≠ 32) : WdI L (k + 1) m D := by
  obtain ⟨h1, h2, h3⟩ := h
  refine ⟨by omega, hk, ?_⟩
  rw [← h3, drop_at hk]
  congr 1
  conv => rhs; unfold wdG
  rw [if_neg hb, List.take_succ_eq_append_getElem hk, List.drop_append_of_le_length (by rw [List.length_take]; omega)]
theorem WdI.word {L : List UInt8} {k m : Nat} {D : List (List UInt8)} (h : WdI L k m D) (hk : k < L.length) (hb : L[k] = 32) (hm : m < k) : WdI L (k + 1) (k + 1) (D ++ [(L.take k).drop m]) := by
  obtain ⟨h1, h2, h3⟩ := h
  refine ⟨Nat.le_refl _, hk, ?_⟩
  rw [← h3, drop_at hk, List.append_assoc]
  congr 1
  conv => rhs; unfold wdG
  rw [if_pos hb, if_neg (by rw [piece_empty h2 h1]; simp; omega), List.drop_eq_nil_of_le (as := L.take (k + 1)) (by rw [List.length_take]; omega)]
  rfl
theorem WdI.gap {L : List UInt8} {k m : Nat} {D : List (List UInt8)} (h : WdI L k m D) (hk : k < L.length) (hb : L[k] = 32) (hm : ¬ m < k) : WdI L (k + 1) (k + 1) D := by
  obtain ⟨h1, h2, h3⟩ := h
  refine ⟨Nat.le_refl _, hk, ?_⟩
  rw [← h3, drop_at hk]
  congr 1
  conv => rhs; unfold wdG
  rw [if_pos hb, if_pos (by rw [piece_empty h2 h1]; simp; omega), List.drop_eq_nil_of_le (as := L.take (k + 1)) (by rw [List.length_take]; omega)]
theorem WdI.last {L : List UInt8} {m : Nat} {D : List (List UInt8)} (h : WdI L L.length m D) (hm : m < L.length) : D ++ [(L.take L.length).drop m] = wds L := by
  obtain ⟨h1, h2, h3⟩ := h
  rw [← h3, List.drop_eq_nil_of_le (Nat.le_refl _)]
  congr 1
  conv => rhs; unfold wdG
  rw [if_neg (by rw [piece_empty h2 h1]; simp; omega)]
theorem WdI.none {L : List UInt8} {m : Nat} {D : List (List UInt8)} (h : WdI L L.length m D) (hm : ¬ m < L.length) : D = wds L := by
  obtain ⟨h1, h2, h3⟩ := h
  rw [← h3, List.drop_eq_nil_of_le (Nat.le_refl _)]
  conv => rhs; unfold wdG
  rw [if_pos (by rw [piece_empty h2 h1]; simp; omega), List.append_nil]
theorem WdI.cnt {L : List UInt8} {k m : Nat} {D : List (List UInt8)} (h : WdI L k m D) : D.length ≤ L.length + 1 := by
  have h1 := wdG_len L []
  have h2 := congrArg List.length h.2.2
  rw [List.length_append] at h2
  have h3 : (wds L).length = (wdG [] L).length := rfl
  omega
theorem ext_list (s : ByteArray) (a b : Nat) (hb : b ≤ s.size) : s.extract a b = ⟨((s.data.toList.take b).drop a).toArray⟩ := by
  apply ByteArray.ext
  apply Array.ext'
  rw [ByteArray.data_extract, Array.toList_extract, List.toList_toArray]
  show (s.data.toList.drop a).take (b - a) = _
  rw [← List.drop_take]
theorem len_list (s : ByteArray) : s.data.toList.length = s.size := Array.length_toList

end Go.Proofs.YtppiilbcnkphbaaDoor
