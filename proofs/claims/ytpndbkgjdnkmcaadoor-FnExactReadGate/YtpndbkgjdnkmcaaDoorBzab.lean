/- Several texts in one: Numbers in a line: plain. No condition but those that each theorem states. · Words of a line, read byte by byte: plain. No condition but those that each theorem states. -/
import Derived.Test.YtpndbkgjdnkmcaaDoorBzaa
import Derived.Lib.AtoiAllCases
import Derived.Lib.Fields
namespace Go.Proofs.YtpndbkgjdnkmcaaDoor
set_option linter.unusedVariables false
set_option linter.unusedSimpArgs false
/-- A digit. -/
def dgb (b : UInt8) : Bool := decide (48 ≤ b.toNat ∧ b.toNat ≤ 57)
/-- Words, parted at blanks; cur: the word that is being read. -/
def wdG : List UInt8 → List UInt8 → List (List UInt8)
  | cur, [] => if cur.isEmpty then [] else [cur]
  | cur, b :: l => if b = 32 then (if cur.isEmpty then wdG [] l else cur :: wdG [] l) else wdG (cur ++ [b]) l
def wds (s : List UInt8) : List (List UInt8) := wdG [] s
/-- The value of digits behind acc. -/
def dvl : Nat → List UInt8 → Nat
  | acc, [] => acc
  | acc, c :: r => dvl (acc * 10 + (c.toNat - 48)) r
/-- No nought ahead of another digit. -/
def nlz (l : List UInt8) : Bool := decide (l.length = 1) || decide (l.head? ≠ some 48)
theorem wdG_ne : ∀ (l cur : List UInt8), ∀ x ∈ wdG cur l, x ≠ []
  | [], cur, x, hx => by
    unfold wdG at hx
    split at hx
    · cases hx
    · rename_i h
      obtain rfl := List.mem_singleton.1 hx
      intro e
      rw [e] at h
      exact h rfl
  | b :: l, cur, x, hx => by
    unfold wdG at hx
    split at hx
    · split at hx
      · exact wdG_ne l [] x hx
      · rename_i h
        rcases List.mem_cons.1 hx with rfl | hx
        · intro e
          rw [e] at h
          exact h rfl
        · exact wdG_ne l [] x hx
    · exact wdG_ne l _ x hx
theorem wdG_len : ∀ (l cur : List UInt8), (wdG cur l).length ≤ l.length + 1
  | [], cur => by
    unfold wdG
    split <;> simp
  | b :: l, cur => by
    have h1 := wdG_len l []
    have h2 := wdG_len l (cur ++ [b])
    unfold wdG
    split
    · split <;> simp <;> omega
    · simp
      omega
theorem wdG_size : ∀ (l cur : List UInt8), ∀ x ∈ wdG cur l, x.length ≤ cur.length + l.length
  | [], cur, x, hx => by
    unfold wdG at hx
    split at hx
    · cases hx
    · obtain rfl := List.mem_singleton.1 hx
      simp
  | b :: l, cur, x, hx => by
    unfold wdG at hx
    split at hx
    · split at hx
      · have := wdG_size l [] x hx
        simp at this ⊢
        omega
      · rcases List.mem_cons.1 hx with rfl | hx
        · omega
        · have := wdG_size l [] x hx
          simp at this ⊢
          omega
    · have := wdG_size l _ x hx
      simp at this ⊢
      omega
theorem dvl_ge : ∀ (l : List UInt8) (a : Nat), a ≤ dvl a l
  | [], a => Nat.le_refl _
  | c :: r, a => by
    have := dvl_ge r (a * 10 + (c.toNat - 48))
    show a ≤ dvl (a * 10 + (c.toNat - 48)) r
    omega
theorem dvl_app : ∀ (l : List UInt8) (a : Nat) (c : UInt8), dvl a (l ++ [c]) = dvl a l * 10 + (c.toNat - 48)
  | [], a, c => rfl
  | b :: r, a, c => by
    show dvl (a * 10 + (b.toNat - 48)) (r ++ [c]) = dvl (a * 10 + (b.toNat - 48)) r * 10 + _
    exact dvl_app r _ c
theorem dvl_lt : ∀ (l : List UInt8) (a : Nat), l.all dgb = true → dvl a l < (a + 1) * 10 ^ l.length
  | [], a, _ => by
    show a < (a + 1) * 10 ^ 0
    rw [Nat.pow_zero]
    omega
  | c :: r, a, h => by
    simp only [List.all_cons, Bool.and_eq_true] at h
    obtain ⟨h1, h2⟩ := h
    have hc := of_decide_eq_true h1
    have ih := dvl_lt r (a * 10 + (c.toNat - 48)) h2
    have e : (a * 10 + (c.toNat - 48) + 1) * 10 ^ r.length ≤ ((a + 1) * 10) * 10 ^ r.length := Nat.mul_le_mul_right _ (by omega)
    show dvl (a * 10 + (c.toNat - 48)) r < (a + 1) * 10 ^ (r.length + 1)
    rw [Nat.pow_succ, Nat.mul_comm (10 ^ r.length) 10, ← Nat.mul_assoc]
    omega
/-- The library's reading of digits. -/
theorem pu_dig : ∀ (l : List UInt8) (a : Nat), a < 18446744073709551616 → l.all dgb = true → Go.Lib.parseUint10 a l = if dvl a l < 18446744073709551616 then .ok (dvl a l) else .range
  | [], a, ha, _ => by
    show Go.Lib.NumEnd.ok a = _
    rw [if_pos (show dvl a [] < 18446744073709551616 from ha)]
    rfl
  | c :: r, a, ha, h => by
    simp only [List.all_cons, Bool.and_eq_true] at h
    obtain ⟨h1, h2⟩ := h
    have hc := of_decide_eq_true h1
    have hg := dvl_ge r (a * 10 + (c.toNat - 48))
    have ed : dvl a (c :: r) = dvl (a * 10 + (c.toNat - 48)) r := rfl
    unfold Go.Lib.parseUint10
    rw [if_pos hc, ed]
    by_cases e1 : 1844674407370955162 ≤ a
    · rw [if_pos e1, if_neg (by omega)]
    · rw [if_neg e1]
      by_cases e2 : 18446744073709551616 ≤ a * 10 + (c.toNat - 48)
      · rw [if_pos e2, if_neg (by omega)]
      · rw [if_neg e2]
        exact pu_dig r _ (by omega) h2
theorem atoi_dig {l : List UInt8} (hne : l ≠ []) (h : l.all dgb = true) : Go.Lib.atoiAll l = if dvl 0 l < 9223372036854775808 then .ok (dvl 0 l : Int) else .range := by
  obtain ⟨c, r, rfl⟩ := List.exists_cons_of_ne_nil hne
  have hc := h
  simp only [List.all_cons, Bool.and_eq_true] at hc
  have hc := of_decide_eq_true hc.1
  rw [Go.Lib.atoiAll_plain c r (by omega) (by omega)]
  unfold Go.Lib.parseMag
  rw [if_neg (by simp), pu_dig _ 0 (by decide) h]
  unfold Go.Lib.signless
  by_cases e1 : dvl 0 (c :: r) < 18446744073709551616
  · rw [if_pos e1]
    by_cases e2 : dvl 0 (c :: r) < 9223372036854775808
    · simp only [if_neg (show ¬ 9223372036854775808 ≤ dvl 0 (c :: r) by omega), if_pos e2]
    · simp only [if_pos (show 9223372036854775808 ≤ dvl 0 (c :: r) by omega), if_neg e2]
  · rw [if_neg e1, if_neg (show ¬ dvl 0 (c :: r) < 9223372036854775808 by omega)]
/-- A positive first digit. -/
theorem dvl_pos {l : List UInt8} (hne : l ≠ []) (h : l.all dgb = true) (hz : l.head? ≠ some 48) : 1 ≤ dvl 0 l := by
  obtain ⟨c, r, rfl⟩ := List.exists_cons_of_ne_nil hne
  have hc := h
  simp only [List.all_cons, Bool.and_eq_true] at hc
  have hc := of_decide_eq_true hc.1
  have hg := dvl_ge r (0 * 10 + (c.toNat - 48))
  have h48 : c.toNat ≠ 48 := fun e => hz (by simp; exact UInt8.toNat_inj.1 e)
  show 1 ≤ dvl (0 * 10 + (c.toNat - 48)) r
  omega
theorem ofNat_dg {c : UInt8} (h : dgb c = true) : UInt8.ofNat (48 + (c.toNat - 48)) = c := by
  have hc := of_decide_eq_true h
  rw [show 48 + (c.toNat - 48) = c.toNat by omega]
  exact UInt8.ofNat_toNat
theorem dec_app {a : Nat} {c : UInt8} (ha : 1 ≤ a) (h : dgb c = true) : Go.Lib.decDigits (a * 10 + (c.toNat - 48)) = Go.Lib.decDigits a ++ [c] := by
  have hc := of_decide_eq_true h
  rw [dec_big (by omega), show (a * 10 + (c.toNat - 48)) / 10 = a by omega, show (a * 10 + (c.toNat - 48)) % 10 = c.toNat - 48 by omega, ofNat_dg h]
/-- The text of a value is its digits just where no nought stands ahead. -/
theorem dec_back : ∀ (k : Nat) (l : List UInt8), l.length = k + 1 → l.all dgb = true → (Go.Lib.decDigits (dvl 0 l) = l ↔ nlz l = true)
  | 0, l, hk, h => by
    match l, hk with
    | [c], _ =>
      have hc1 : dgb c = true := by simpa using h
      have hc := of_decide_eq_true hc1
      have e : dvl 0 [c] = c.toNat - 48 := by show 0 * 10 + (c.toNat - 48) = _; omega
      rw [e, dec_small (by omega), ofNat_dg hc1]
      exact ⟨fun _ => rfl, fun _ => rfl⟩
  | k + 1, l, hk, h => by
    obtain ⟨m, c, rfl⟩ : ∃ m c, l = m ++ [c] := ⟨l.dropLast, l.getLast (fun e => by rw [e] at hk; simp at hk), (List.dropLast_concat_getLast _).symm⟩
    have hm : m.length = k + 1 := by simpa using hk
    have hne : m ≠ [] := fun e => by rw [e] at hm; simp at hm
    simp only [List.all_append, List.all_cons, List.all_nil, Bool.and_true, Bool.and_eq_true] at h
    obtain ⟨h1, h2⟩ := h
    have hc := of_decide_eq_true h2
    have ih := dec_back k m hm h1
    have hh : (m ++ [c]).head? = m.head? := by
      obtain ⟨x, r, rfl⟩ := List.exists_cons_of_ne_nil hne
      rfl
    have hz : nlz (m ++ [c]) = decide (m.head? ≠ some 48) := by
      unfold nlz
      rw [hh, hk]
      simp
    rw [hz, dvl_app]
    by_cases hp : 1 ≤ dvl 0 m
    · rw [dec_app hp h2]
      constructor
      · intro e
        have e1 := List.append_cancel_right e
        have e2 := ih.1 e1
        unfold nlz at e2
        simp only [Bool.or_eq_true, decide_eq_true_eq] at e2
        rcases e2 with e2 | e2
        · refine decide_eq_true (fun e3 => ?_)
          match m, e2, e3 with
          | [x], _, e3 =>
            have : x = 48 := by simpa using e3
            rw [this] at hp
            exact absurd hp (by decide)
        · exact decide_eq_true e2
      · intro e
        rw [ih.2 (by unfold nlz; rw [e]; simp)]
    · have e0 : dvl 0 m = 0 := by omega
      have hz0 : m.head? = some 48 := by
        refine Classical.byContradiction (fun e => ?_)
        have := dvl_pos hne h1 e
        omega
      rw [e0, hz0, dec_small (by omega)]
      constructor
      · intro e
        have e1 := congrArg List.length e
        simp at e1
        rw [e1] at hm
        simp at hm
      · intro e
        exact absurd e (by decide)
theorem itoa_dig {l : List UInt8} (hne : l ≠ []) (h : l.all dgb = true) : Go.Lib.itoa (dvl 0 l : Int) = l ↔ nlz l = true := by
  rw [ito_nat (by omega), Int.toNat_natCast]
  have h0 : l.length ≠ 0 := fun e => hne (List.eq_nil_of_length_eq_zero e)
  exact dec_back (l.length - 1) l (by omega) h
/-- The model's reader of a number. -/
def nms (l : List UInt8) : List UInt8 := if l.head? = some 45 then l.tail else l
def nmg (l : List UInt8) : Int := if l.head? = some 45 then -1 else 1
/-- What the model looks at ahead of the digits. -/
def nmo (t : List UInt8) (g : Int) : Bool := !(decide (t.length = 0) || decide (18 < t.length) || (decide (t.head? = some 48) && (decide (1 < t.length) || decide (g < 0))))
def nmb (l : List UInt8) : Bool := nmo (nms l) (nmg l) && (nms l).all dgb
def nmv (l : List UInt8) : Int := if nmb l = true then nmg l * (dvl 0 (nms l) : Int) else 0

end Go.Proofs.YtpndbkgjdnkmcaaDoor

namespace Go.Proofs.YtpndbkgjdnkmcaaDoor
set_option linter.unusedVariables false
set_option linter.unusedSimpArgs false
/-- What has been read up to byte k: the words that are done, the one that began at byte m. -/
def WdI (L : List UInt8) (k m : Nat) (D : List (List UInt8)) : Prop := m ≤ k ∧ k ≤ L.length ∧ D ++ wdG ((L.take k).drop m) (L.drop k) = wds L
theorem WdI.start (L : List UInt8) : WdI L 0 0 [] := ⟨Nat.le_refl _, Nat.zero_le _, rfl⟩
theorem piece_len {L : List UInt8} {k m : Nat} (hk : k ≤ L.length) : ((L.take k).drop m).length = k - m := by
  rw [List.length_drop, List.length_take, Nat.min_eq_left hk]
theorem piece_empty {L : List UInt8} {k m : Nat} (hk : k ≤ L.length) (hm : m ≤ k) : ((L.take k).drop m).isEmpty = decide (m = k) := by
  have h := piece_len (m := m) hk
  by_cases e : m = k
  · rw [decide_eq_true e]
    exact List.isEmpty_iff.2 (List.eq_nil_of_length_eq_zero (by omega))
  · rw [decide_eq_false e]
    cases hx : (L.take k).drop m with
    | nil => rw [hx] at h; simp at h; omega
    | cons _ _ => rfl
theorem drop_at {L : List UInt8} {k : Nat} (hk : k < L.length) : L.drop k = L[k] :: L.drop (k + 1) := List.drop_eq_getElem_cons hk
theorem WdI.skip {L : List UInt8} {k m : Nat} {D : List (List UInt8)} (h : WdI L k m D) (hk : k < L.length) (hb : L[k] ≠ 32) : WdI L (k + 1) m D := by
  obtain ⟨h1, h2, h3⟩ := h
  refine ⟨by omega, hk, ?_⟩
  rw [← h3, drop_at hk]
  congr 1
  conv => rhs; unfold wdG
  rw [if_neg hb, List.take_succ_eq_append_getElem hk, List.drop_append_of_le_length (by rw [List.length_take]; omega)]
theorem WdI.word {L : List UInt8} {k m : Nat} {D : List (List UInt8)} (h : WdI L k m D) (hk : k < L.length) (hb : L[k] = 32) (hm : m < k) : WdI L (k + 1) (k + 1) (D ++ [(L.take k).drop m]) := by
  obtain ⟨h1, h2, h3⟩ := h
  refine ⟨Nat.le_refl _, hk, ?_⟩
  rw [← h3, drop_at hk, List.append_assoc]
  congr 1
  conv => rhs; unfold wdG
  rw [if_pos hb, if_neg (by rw [piece_empty h2 h1]; simp; omega), List.drop_eq_nil_of_le (as := L.take (k + 1)) (by rw [List.length_take]; omega)]
  rfl
theorem WdI.gap {L : List UInt8} {k m : Nat} {D : List (List UInt8)} (h : WdI L k m D) (hk : k < L.length) (hb : L[k] = 32) (hm : ¬ m < k) : WdI L (k + 1) (k + 1) D := by
  obtain ⟨h1, h2, h3⟩ := h
  refine ⟨Nat.le_refl _, hk, ?_⟩
  rw [← h3, drop_at hk]
  congr 1
  conv => rhs; unfold wdG
  rw [if_pos hb, if_pos (by rw [piece_empty h2 h1]; simp; omega), List.drop_eq_nil_of_le (as := L.take (k + 1)) (by rw [List.length_take]; omega)]
theorem WdI.last {L : List UInt8} {m : Nat} {D : List (List UInt8)} (h : WdI L L.length m D) (hm : m < L.length) : D ++ [(L.take L.length).drop m] = wds L := by
  obtain ⟨h1, h2, h3⟩ := h
  rw [← h3, List.drop_eq_nil_of_le (Nat.le_refl _)]
  congr 1
  conv => rhs; unfold wdG
  rw [if_neg (by rw [piece_empty h2 h1]; simp; omega)]
theorem WdI.none {L : List UInt8} {m : Nat} {D : List (List UInt8)} (h : WdI L L.length m D) (hm : ¬ m < L.length) : D = wds L := by
  obtain ⟨h1, h2, h3⟩ := h
  rw [← h3, List.drop_eq_nil_of_le (Nat.le_refl _)]
  conv => rhs; unfold wdG
  rw [if_pos (by rw [piece_empty h2 h1]; simp; omega), List.append_nil]
theorem WdI.cnt {L : List UInt8} {k m : Nat} {D : List (List UInt8)} (h : WdI L k m D) : D.length ≤ L.length + 1 := by
  have h1 := wdG_len L []
  have h2 := congrArg List.length h.2.2
  rw [List.length_append] at h2
  have h3 : (wds L).length = (wdG [] L).length := rfl
  omega
theorem ext_list (s : ByteArray) (a b : Nat) (hb : b ≤ s.size) : s.extract a b = ⟨((s.data.toList.take b).drop a).toArray⟩ := by
  apply ByteArray.ext
  apply Array.ext'
  rw [ByteArray.data_extract, Array.toList_extract, List.toList_toArray]
  show (s.data.toList.drop a).take (b - a) = _
  rw [← List.drop_take]
theorem len_list (s : ByteArray) : s.data.toList.length = s.size := Array.length_toList

end Go.Proofs.YtpndbkgjdnkmcaaDoor
