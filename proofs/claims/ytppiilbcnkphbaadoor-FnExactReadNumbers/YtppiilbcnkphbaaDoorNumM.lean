/- Numbers in a line: plain. No condition but those that each theorem states. -/
import Derived.Test.YtppiilbcnkphbaaDoorGteM
import Derived.Lib.AtoiAllCases
import Derived.Lib.Fields
namespace Go.Proofs.YtppiilbcnkphbaaDoor
set_option linter.unusedVariables false
set_option linter.unusedSimpArgs false
/-- A digit. -/
def dgb (b : UInt8) : Bool := decide (48 ≤ b.toNat ∧ b.toNat ≤ 57)
/-- Words, parted at blanks; cur: the word that is being read. -/
def wdG : List UInt8 → List UInt8 → List (List UInt8)
  | cur, [] => if cur.isEmpty then [] else [cur]
  | cur, b :: l => if b = 32 then (if cur.isEmpty then wdG [] l else cur :: wdG [] l) else wdG (cur ++ [b]) l
def wds (s : List UInt8) : List (List UInt8) := wdG [] s
/-- The value of digits behind acc. -/
def dvl : Nat → List UInt8 → Nat
  | acc, [] => acc
  | acc, c :: r => dvl (acc * 10 + (c.toNat - 48)) r
/-- No nought ahead of another digit. -/
def nlz (l : List UInt8) : Bool := decide (l.length = 1) || decide (l.head? ≠ some 48)
/-- A number's text, below the prime. -/
def nokb (l : List UInt8) : Bool := l.all dgb && nlz l && decide (dvl 0 l < 2130706433)
def rnb (s : List UInt8) : Bool := (wds s).all nokb
def rnn (s : List UInt8) : Nat := (wds s).length
/-- ReadNumbers' code. -/
def rnc (s : List UInt8) : Int := if 65536 < s.length then 2 else if rnb s = true then (if 4096 < rnn s then 6 else 0) else 3
theorem wdG_ne : ∀ (l cur : List UInt8), ∀ x ∈ wdG cur l, x ≠ []
  | [], cur, x, hx => by
    unfold wdG at hx
    split at hx
    · cases hx
    · rename_i h
      obtain rfl := List.mem_singleton.1 hx
      intro e
      rw [e] at h
      exact h rfl
  | b :: l, cur, x, hx => by
    unfold wdG at hx
    split at hx
    · split at hx
      · exact wdG_ne l [] x hx
      · rename_i h
        rcases List.mem_cons.1 hx with rfl | hx
        · intro e
          rw [e] at h
          exact h rfl
        · exact wdG_ne l [] x hx
    · exact wdG_ne l _ x hx
theorem wdG_len : ∀ (l cur : List UInt8), (wdG cur l).length ≤ l.length + 1
  | [], cur => by
    unfold wdG
    split <;> simp
  | b :: l, cur => by
    have h1 := wdG_len l []
    have h2 := wdG_len l (cur ++ [b])
    unfold wdG
    split
    · split <;> simp <;> omega
    · simp
      omega
theorem wdG_size : ∀ (l cur : List UInt8), ∀ x ∈ wdG cur l, x.length ≤ cur.length + l.length
  | [], cur, x, hx => by
    unfold wdG at hx
    split at hx
    · cases hx
    · obtain rfl := List.mem_singleton.1 hx
      simp
  | b :: l, cur, x, hx => by
    unfold wdG at hx
    split at hx
    · split at hx
      · have := wdG_size l [] x hx
        simp at this ⊢
        omega
      · rcases List.mem_cons.1 hx with rfl | hx
        · omega
        · have := wdG_size l [] x hx
          simp at this ⊢
          omega
    · have := wdG_size l _ x hx
      simp at this ⊢
      omega
/-- All words are of digits just if all bytes are digits or blanks. -/
theorem wdG_dig : ∀ (l cur : List UInt8), (∀ x ∈ wdG cur l, x.all dgb = true) ↔ (cur.all dgb = true ∧ ∀ b ∈ l, dgb b = true ∨ b = 32)
  | [], cur => by
    unfold wdG
    split
    · rename_i h
      rw [List.isEmpty_iff.1 h]
      simp
    · simp
  | b :: l, cur => by
    have h1 := wdG_dig l []
    have h2 := wdG_dig l (cur ++ [b])
    unfold wdG
    split
    · rename_i hb
      split
      · rename_i h
        rw [h1, List.isEmpty_iff.1 h]
        simp [hb]
      · simp only [List.mem_cons, forall_eq_or_imp, h1, List.all_nil, true_and]
        simp [hb]
    · rename_i hb
      rw [h2]
      simp only [List.all_append, List.all_cons, List.all_nil, Bool.and_true, Bool.and_eq_true, List.mem_cons, forall_eq_or_imp]
      constructor
      · rintro ⟨⟨a, d⟩, c⟩
        exact ⟨a, .inl d, c⟩
      · rintro ⟨a, d | d, c⟩
        · exact ⟨⟨a, d⟩, c⟩
        · exact absurd d hb
theorem isSp_dg {b : UInt8} (h : dgb b = true ∨ b = 32) : Go.Lib.isSp b = decide (b = 32) := by
  rcases h with h | rfl
  · unfold dgb at h
    have h' := of_decide_eq_true h
    have n9 : b ≠ 9 := fun e => by rw [e] at h'; exact absurd h'.1 (by decide)
    have n10 : b ≠ 10 := fun e => by rw [e] at h'; exact absurd h'.1 (by decide)
    have n11 : b ≠ 11 := fun e => by rw [e] at h'; exact absurd h'.1 (by decide)
    have n12 : b ≠ 12 := fun e => by rw [e] at h'; exact absurd h'.1 (by decide)
    have n13 : b ≠ 13 := fun e => by rw [e] at h'; exact absurd h'.1 (by decide)
    have n32 : b ≠ 32 := fun e => by rw [e] at h'; exact absurd h'.1 (by decide)
    unfold Go.Lib.isSp
    simp [n9, n10, n11, n12, n13, n32]
  · rfl
/-- On digits and blanks the library's fields are these words. -/
theorem fieldsGo_wdG : ∀ (l cur : List UInt8), (∀ b ∈ l, dgb b = true ∨ b = 32) → Go.Lib.fieldsGo cur l = wdG cur l
  | [], cur, _ => rfl
  | b :: l, cur, h => by
    have hb := h b (List.mem_cons_self)
    have hl := fun x hx => h x (List.mem_cons_of_mem b hx)
    unfold Go.Lib.fieldsGo wdG
    rw [isSp_dg hb, fieldsGo_wdG l [] hl, fieldsGo_wdG l (cur ++ [b]) hl]
    by_cases e : b = 32
    · simp [e]
    · simp [e]
theorem dvl_ge : ∀ (l : List UInt8) (a : Nat), a ≤ dvl a l
  | [], a => Nat.le_refl _
  | c :: r, a => by
    have := dvl_ge r (a * 10 + (c.toNat - 48))
    show a ≤ dvl (a * 10 + (c.toNat - 48)) r
    omega
theorem dvl_app : ∀ (l : List UInt8) (a : Nat) (c : UInt8), dvl a (l ++ [c]) = dvl a l * 10 + (c.toNat - 48)
  | [], a, c => rfl
  | b :: r, a, c => by
    show dvl (a * 10 + (b.toNat - 48)) (r ++ [c]) = dvl (a * 10 + (b.toNat - 48)) r * 10 + _
    exact dvl_app r _ c
theorem dvl_lt : ∀ (l : List UInt8) (a : Nat), l.all dgb = true → dvl a l < (a + 1) * 10 ^ l.length
  | [], a, _ => by
    show a < (a + 1) * 10 ^ 0
    rw [Nat.pow_zero]
    omega
  | c :: r, a, h => by
    simp only [List.all_cons, Bool.and_eq_true] at h
    obtain ⟨h1, h2⟩ := h
    have hc := of_decide_eq_true h1
    have ih := dvl_lt r (a * 10 + (c.toNat - 48)) h2
    have e : (a * 10 + (c.toNat - 48) + 1) * 10 ^ r.length ≤ ((a + 1) * 10) * 10 ^ r.length := Nat.mul_le_mul_right _ (by omega)
    show dvl (a * 10 + (c.toNat - 48)) r < (a + 1) * 10 ^ (r.length + 1)
    rw [Nat.pow_succ, Nat.mul_comm (10 ^ r.length) 10, ← Nat.mul_assoc]
    omega
/-- The library's reading of digits. -/
theorem pu_dig : ∀ (l : List UInt8) (a : Nat), a < 18446744073709551616 → l.all dgb = true → Go.Lib.parseUint10 a l = if dvl a l < 18446744073709551616 then .ok (dvl a l) else .range
  | [], a, ha, _ => by
    show Go.Lib.NumEnd.ok a = _
    rw [if_pos (show dvl a [] < 18446744073709551616 from ha)]
    rfl
  | c :: r, a, ha, h => by
    simp only [List.all_cons, Bool.and_eq_true] at h
    obtain ⟨h1, h2⟩ := h
    have hc := of_decide_eq_true h1
    have hg := dvl_ge r (a * 10 + (c.toNat - 48))
    have ed : dvl a (c :: r) = dvl (a * 10 + (c.toNat - 48)) r := rfl
    unfold Go.Lib.parseUint10
    rw [if_pos hc, ed]
    by_cases e1 : 1844674407370955162 ≤ a
    · rw [if_pos e1, if_neg (by omega)]
    · rw [if_neg e1]
      by_cases e2 : 18446744073709551616 ≤ a * 10 + (c.toNat - 48)
      · rw [if_pos e2, if_neg (by omega)]
      · rw [if_neg e2]
        exact pu_dig r _ (by omega) h2
theorem atoi_dig {l : List UInt8} (hne : l ≠ []) (h : l.all dgb = true) : Go.Lib.atoiAll l = if dvl 0 l < 9223372036854775808 then .ok (dvl 0 l : Int) else .range := by
  obtain ⟨c, r, rfl⟩ := List.exists_cons_of_ne_nil hne
  have hc := h
  simp only [List.all_cons, Bool.and_eq_true] at hc
  have hc := of_decide_eq_true hc.1
  rw [Go.Lib.atoiAll_plain c r (by omega) (by omega)]
  unfold Go.Lib.parseMag
  rw [if_neg (by simp), pu_dig _ 0 (by decide) h]
  unfold Go.Lib.signless
  by_cases e1 : dvl 0 (c :: r) < 18446744073709551616
  · rw [if_pos e1]
    by_cases e2 : dvl 0 (c :: r) < 9223372036854775808
    · simp only [if_neg (show ¬ 9223372036854775808 ≤ dvl 0 (c :: r) by omega), if_pos e2]
    · simp only [if_pos (show 9223372036854775808 ≤ dvl 0 (c :: r) by omega), if_neg e2]
  · rw [if_neg e1, if_neg (show ¬ dvl 0 (c :: r) < 9223372036854775808 by omega)]
/-- A positive first digit. -/
theorem dvl_pos {l : List UInt8} (hne : l ≠ []) (h : l.all dgb = true) (hz : l.head? ≠ some 48) : 1 ≤ dvl 0 l := by
  obtain ⟨c, r, rfl⟩ := List.exists_cons_of_ne_nil hne
  have hc := h
  simp only [List.all_cons, Bool.and_eq_true] at hc
  have hc := of_decide_eq_true hc.1
  have hg := dvl_ge r (0 * 10 + (c.toNat - 48))
  have h48 : c.toNat ≠ 48 := fun e => hz (by simp; exact UInt8.toNat_inj.1 e)
  show 1 ≤ dvl (0 * 10 + (c.toNat - 48)) r
  omega
theorem ofNat_dg {c : UInt8} (h : dgb c = true) : UInt8.ofNat (48 + (c.toNat - 48)) = c := by
  have hc := of_decide_eq_true h
  rw [show 48 + (c.toNat - 48) = c.toNat by omega]
  exact UInt8.ofNat_toNat
theorem dec_app {a : Nat} {c : UInt8} (ha : 1 ≤ a) (h : dgb c = true) : Go.Lib.decDigits (a * 10 + (c.toNat - 48)) = Go.Lib.decDigits a ++ [c] := by
  have hc := of_decide_eq_true h
  rw [dec_big (by omega), show (a * 10 + (c.toNat - 48)) / 10 = a by omega, show (a * 10 + (c.toNat - 48)) % 10 = c.toNat - 48 by omega, ofNat_dg h]
/-- The text of a value is its digits just where no nought stands ahead. -/
theorem dec_back : ∀ (k : Nat) (l : List UInt8), l.length = k + 1 → l.all dgb = true → (Go.Lib.decDigits (dvl 0 l) = l ↔ nlz l = true)
  | 0, l, hk, h => by
    match l, hk with
    | [c], _ =>
      have hc1 : dgb c = true := by simpa using h
      have hc := of_decide_eq_true hc1
      have e : dvl 0 [c] = c.toNat - 48 := by show 0 * 10 + (c.toNat - 48) = _; omega
      rw [e, dec_small (by omega), ofNat_dg hc1]
      exact ⟨fun _ => rfl, fun _ => rfl⟩
  | k + 1, l, hk, h => by
    obtain ⟨m, c, rfl⟩ : ∃ m c, l = m ++ [c] := ⟨l.dropLast, l.getLast (fun e => by rw [e] at hk; simp at hk), (List.dropLast_concat_getLast _).symm⟩
    have hm : m.length = k + 1 := by simpa using hk
    have hne : m ≠ [] := fun e => by rw [e] at hm; simp at hm
    simp only [List.all_append, List.all_cons, List.all_nil, Bool.and_true, Bool.and_eq_true] at h
    obtain ⟨h1, h2⟩ := h
    have hc := of_decide_eq_true h2
    have ih := dec_back k m hm h1
    have hh : (m ++ [c]).head? = m.head? := by
      obtain ⟨x, r, rfl⟩ := List.exists_cons_of_ne_nil hne
      rfl
    have hz : nlz (m ++ [c]) = decide (m.head? ≠ some 48) := by
      unfold nlz
      rw [hh, hk]
      simp
    rw [hz, dvl_app]
    by_cases hp : 1 ≤ dvl 0 m
    · rw [dec_app hp h2]
      constructor
      · intro e
        have e1 := List.append_cancel_right e
        have e2 := ih.1 e1
        unfold nlz at e2
        simp only [Bool.or_eq_true, decide_eq_true_eq] at e2
        rcases e2 with e2 | e2
        · refine decide_eq_true (fun e3 => ?_)
          match m, e2, e3 with
          | [x], _, e3 =>
            have : x = 48 := by simpa using e3
            rw [this] at hp
            exact absurd hp (by decide)
        · exact decide_eq_true e2
      · intro e
        rw [ih.2 (by unfold nlz; rw [e]; simp)]
    · have e0 : dvl 0 m = 0 := by omega
      have hz0 : m.head? = some 48 := by
        refine Classical.byContradiction (fun e => ?_)
        have := dvl_pos hne h1 e
        omega
      rw [e0, hz0, dec_small (by omega)]
      constructor
      · intro e
        have e1 := congrArg List.length e
        simp at e1
        rw [e1] at hm
        simp at hm
      · intro e
        exact absurd e (by decide)
theorem itoa_dig {l : List UInt8} (hne : l ≠ []) (h : l.all dgb = true) : Go.Lib.itoa (dvl 0 l : Int) = l ↔ nlz l = true := by
  rw [ito_nat (by omega), Int.toNat_natCast]
  have h0 : l.length ≠ 0 := fun e => hne (List.eq_nil_of_length_eq_zero e)
  exact dec_back (l.length - 1) l (by omega) h
theorem nokb_len {l : List UInt8} (hne : l ≠ []) (h : nokb l = true) : l.length ≤ 10 := by
  unfold nokb at h
  simp only [Bool.and_eq_true] at h
  obtain ⟨⟨h1, h2⟩, h3⟩ := h
  have h3 := of_decide_eq_true h3
  have e := (itoa_dig hne h1).2 h2
  rw [ito_nat (by omega), Int.toNat_natCast] at e
  have a := dec_len 9 (dvl 0 l) (by show dvl 0 l < 10000000000; omega)
  rw [e] at a
  omega
/-- The program's reader of a number, of digits. -/
def nfb (l : List UInt8) : Bool := nlz l && decide (dvl 0 l < 1000000000000000000)
theorem nok_nfb {l : List UInt8} (h : l.all dgb = true) : nokb l = (nfb l && decide (dvl 0 l < 2130706433)) := by
  unfold nokb nfb
  rw [h]
  by_cases e : dvl 0 l < 2130706433
  · simp [e, show dvl 0 l < 1000000000000000000 by omega]
  · simp [e]
/-- The model's reader of a number. -/
def nms (l : List UInt8) : List UInt8 := if l.head? = some 45 then l.tail else l
def nmg (l : List UInt8) : Int := if l.head? = some 45 then -1 else 1
/-- What the model looks at ahead of the digits. -/
def nmo (t : List UInt8) (g : Int) : Bool := !(decide (t.length = 0) || decide (18 < t.length) || (decide (t.head? = some 48) && (decide (1 < t.length) || decide (g < 0))))
def nmb (l : List UInt8) : Bool := nmo (nms l) (nmg l) && (nms l).all dgb
def nmv (l : List UInt8) : Int := if nmb l = true then nmg l * (dvl 0 (nms l) : Int) else 0
theorem nm_nok {l : List UInt8} (hne : l ≠ []) : (nmb l && decide (0 ≤ nmv l ∧ nmv l ≤ 2130706432)) = nokb l ∧ (nokb l = true → nmv l = (dvl 0 l : Int)) := by
  by_cases h45 : l.head? = some 45
  · have e0 : nokb l = false := by
      obtain ⟨c, r, rfl⟩ := List.exists_cons_of_ne_nil hne
      have : c = 45 := by simpa using h45
      subst this
      unfold nokb
      rfl
    refine ⟨?_, fun h => by rw [e0] at h; cases h⟩
    rw [e0]
    cases hb : nmb l
    · rfl
    · have hv : nmv l = -(dvl 0 (nms l) : Int) := by unfold nmv nmg; rw [if_pos hb, if_pos h45]; omega
      have hp : 1 ≤ dvl 0 (nms l) := by
        unfold nmb nmo nmg at hb
        rw [if_pos h45] at hb
        simp at hb
        obtain ⟨⟨⟨h1, h2⟩, h3⟩, h4⟩ := hb
        exact dvl_pos h1 (by simpa using h4) (fun e => h3 e)
      rw [hv]
      simp
      omega
  · have es : nms l = l := by unfold nms; rw [if_neg h45]
    have eg : nmg l = 1 := by unfold nmg; rw [if_neg h45]
    have ev : nmb l = true → nmv l = (dvl 0 l : Int) := fun h => by unfold nmv; rw [if_pos h, es, eg]; omega
    have eb : nmb l = true ↔ l.length ≤ 18 ∧ nlz l = true ∧ l.all dgb = true := by
      unfold nmb nmo nlz
      rw [es, eg]
      have h0 : l.length ≠ 0 := fun e => hne (List.eq_nil_of_length_eq_zero e)
      by_cases e1 : l.head? = some 48
      · by_cases e2 : l.length = 1
        · simp [e1, e2]
        · simp [e1, e2, h0]
          omega
      · simp [e1, h0]
    cases hn : nokb l
    · refine ⟨?_, fun h => by cases h⟩
      cases hb : nmb l
      · rfl
      · rw [ev hb]
        obtain ⟨b1, b2, b3⟩ := eb.1 hb
        unfold nokb at hn
        rw [b2, b3] at hn
        simp at hn
        simp
        omega
    · have h9 := nokb_len hne hn
      have hn' := hn
      unfold nokb at hn
      simp only [Bool.and_eq_true, decide_eq_true_eq] at hn
      obtain ⟨⟨h1, h2⟩, h3⟩ := hn
      have hb := eb.2 ⟨by omega, h2, h1⟩
      refine ⟨?_, fun _ => ev hb⟩
      rw [hb, ev hb]
      simp
      omega

end Go.Proofs.YtppiilbcnkphbaaDoor
