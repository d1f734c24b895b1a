/- Several texts in one: Numbers in a line: plain. No condition but those that each theorem states. · Words of a text, cut by the library; numbers of any sign: plain. No condition but those that each theorem states. -/
import Derived.Test.YtpndbkgjdnkmcaaDoorBzab
import Derived.Lib.AtoiAllCases
import Derived.Lib.Fields
import Derived.Lib.SplitLaws
namespace Go.Proofs.YtpndbkgjdnkmcaaDoor
set_option linter.unusedVariables false
set_option linter.unusedSimpArgs false
/-- A digit. -/
def dgb (b : UInt8) : Bool := decide (48 ≤ b.toNat ∧ b.toNat ≤ 57)
/-- Words, parted at blanks; cur: the word that is being read. -/
def wdG : List UInt8 → List UInt8 → List (List UInt8)
  | cur, [] => if cur.isEmpty then [] else [cur]
  | cur, b :: l => if b = 32 then (if cur.isEmpty then wdG [] l else cur :: wdG [] l) else wdG (cur ++ [b]) l
def wds (s : List UInt8) : List (List UInt8) := wdG [] s
/-- The value of digits behind acc. -/
def dvl : Nat → List UInt8 → Nat
  | acc, [] => acc
  | acc, c :: r => dvl (acc * 10 + (c.toNat - 48)) r
/-- No nought ahead of another digit. -/
def nlz (l : List UInt8) : Bool := decide (l.length = 1) || decide (l.head? ≠ some 48)
/-- A number's text, below the prime. -/
def nokb (l : List UInt8) : Bool := l.all dgb && nlz l && decide (dvl 0 l < 2130706433)
theorem wdG_ne : ∀ (l cur : List UInt8), ∀ x ∈ wdG cur l, x ≠ []
  | [], cur, x, hx => by
    unfold wdG at hx
    split at hx
    · cases hx
    · rename_i h
      obtain rfl := List.mem_singleton.1 hx
      intro e
      rw [e] at h
      exact h rfl
  | b :: l, cur, x, hx => by
    unfold wdG at hx
    split at hx
    · split at hx
      · exact wdG_ne l [] x hx
      · rename_i h
        rcases List.mem_cons.1 hx with rfl | hx
        · intro e
          rw [e] at h
          exact h rfl
        · exact wdG_ne l [] x hx
    · exact wdG_ne l _ x hx
theorem wdG_len : ∀ (l cur : List UInt8), (wdG cur l).length ≤ l.length + 1
  | [], cur => by
    unfold wdG
    split <;> simp
  | b :: l, cur => by
    have h1 := wdG_len l []
    have h2 := wdG_len l (cur ++ [b])
    unfold wdG
    split
    · split <;> simp <;> omega
    · simp
      omega
theorem wdG_size : ∀ (l cur : List UInt8), ∀ x ∈ wdG cur l, x.length ≤ cur.length + l.length
  | [], cur, x, hx => by
    unfold wdG at hx
    split at hx
    · cases hx
    · obtain rfl := List.mem_singleton.1 hx
      simp
  | b :: l, cur, x, hx => by
    unfold wdG at hx
    split at hx
    · split at hx
      · have := wdG_size l [] x hx
        simp at this ⊢
        omega
      · rcases List.mem_cons.1 hx with rfl | hx
        · omega
        · have := wdG_size l [] x hx
          simp at this ⊢
          omega
    · have := wdG_size l _ x hx
      simp at this ⊢
      omega
theorem dvl_ge : ∀ (l : List UInt8) (a : Nat), a ≤ dvl a l
  | [], a => Nat.le_refl _
  | c :: r, a => by
    have := dvl_ge r (a * 10 + (c.toNat - 48))
    show a ≤ dvl (a * 10 + (c.toNat - 48)) r
    omega
theorem dvl_app : ∀ (l : List UInt8) (a : Nat) (c : UInt8), dvl a (l ++ [c]) = dvl a l * 10 + (c.toNat - 48)
  | [], a, c => rfl
  | b :: r, a, c => by
    show dvl (a * 10 + (b.toNat - 48)) (r ++ [c]) = dvl (a * 10 + (b.toNat - 48)) r * 10 + _
    exact dvl_app r _ c
theorem dvl_lt : ∀ (l : List UInt8) (a : Nat), l.all dgb = true → dvl a l < (a + 1) * 10 ^ l.length
  | [], a, _ => by
    show a < (a + 1) * 10 ^ 0
    rw [Nat.pow_zero]
    omega
  | c :: r, a, h => by
    simp only [List.all_cons, Bool.and_eq_true] at h
    obtain ⟨h1, h2⟩ := h
    have hc := of_decide_eq_true h1
    have ih := dvl_lt r (a * 10 + (c.toNat - 48)) h2
    have e : (a * 10 + (c.toNat - 48) + 1) * 10 ^ r.length ≤ ((a + 1) * 10) * 10 ^ r.length := Nat.mul_le_mul_right _ (by omega)
    show dvl (a * 10 + (c.toNat - 48)) r < (a + 1) * 10 ^ (r.length + 1)
    rw [Nat.pow_succ, Nat.mul_comm (10 ^ r.length) 10, ← Nat.mul_assoc]
    omega
/-- The library's reading of digits. -/
theorem pu_dig : ∀ (l : List UInt8) (a : Nat), a < 18446744073709551616 → l.all dgb = true → Go.Lib.parseUint10 a l = if dvl a l < 18446744073709551616 then .ok (dvl a l) else .range
  | [], a, ha, _ => by
    show Go.Lib.NumEnd.ok a = _
    rw [if_pos (show dvl a [] < 18446744073709551616 from ha)]
    rfl
  | c :: r, a, ha, h => by
    simp only [List.all_cons, Bool.and_eq_true] at h
    obtain ⟨h1, h2⟩ := h
    have hc := of_decide_eq_true h1
    have hg := dvl_ge r (a * 10 + (c.toNat - 48))
    have ed : dvl a (c :: r) = dvl (a * 10 + (c.toNat - 48)) r := rfl
    unfold Go.Lib.parseUint10
    rw [if_pos hc, ed]
    by_cases e1 : 1844674407370955162 ≤ a
    · rw [if_pos e1, if_neg (by omega)]
    · rw [if_neg e1]
      by_cases e2 : 18446744073709551616 ≤ a * 10 + (c.toNat - 48)
      · rw [if_pos e2, if_neg (by omega)]
      · rw [if_neg e2]
        exact pu_dig r _ (by omega) h2
theorem atoi_dig {l : List UInt8} (hne : l ≠ []) (h : l.all dgb = true) : Go.Lib.atoiAll l = if dvl 0 l < 9223372036854775808 then .ok (dvl 0 l : Int) else .range := by
  obtain ⟨c, r, rfl⟩ := List.exists_cons_of_ne_nil hne
  have hc := h
  simp only [List.all_cons, Bool.and_eq_true] at hc
  have hc := of_decide_eq_true hc.1
  rw [Go.Lib.atoiAll_plain c r (by omega) (by omega)]
  unfold Go.Lib.parseMag
  rw [if_neg (by simp), pu_dig _ 0 (by decide) h]
  unfold Go.Lib.signless
  by_cases e1 : dvl 0 (c :: r) < 18446744073709551616
  · rw [if_pos e1]
    by_cases e2 : dvl 0 (c :: r) < 9223372036854775808
    · simp only [if_neg (show ¬ 9223372036854775808 ≤ dvl 0 (c :: r) by omega), if_pos e2]
    · simp only [if_pos (show 9223372036854775808 ≤ dvl 0 (c :: r) by omega), if_neg e2]
  · rw [if_neg e1, if_neg (show ¬ dvl 0 (c :: r) < 9223372036854775808 by omega)]
/-- A positive first digit. -/
theorem dvl_pos {l : List UInt8} (hne : l ≠ []) (h : l.all dgb = true) (hz : l.head? ≠ some 48) : 1 ≤ dvl 0 l := by
  obtain ⟨c, r, rfl⟩ := List.exists_cons_of_ne_nil hne
  have hc := h
  simp only [List.all_cons, Bool.and_eq_true] at hc
  have hc := of_decide_eq_true hc.1
  have hg := dvl_ge r (0 * 10 + (c.toNat - 48))
  have h48 : c.toNat ≠ 48 := fun e => hz (by simp; exact UInt8.toNat_inj.1 e)
  show 1 ≤ dvl (0 * 10 + (c.toNat - 48)) r
  omega
theorem ofNat_dg {c : UInt8} (h : dgb c = true) : UInt8.ofNat (48 + (c.toNat - 48)) = c := by
  have hc := of_decide_eq_true h
  rw [show 48 + (c.toNat - 48) = c.toNat by omega]
  exact UInt8.ofNat_toNat
theorem dec_app {a : Nat} {c : UInt8} (ha : 1 ≤ a) (h : dgb c = true) : Go.Lib.decDigits (a * 10 + (c.toNat - 48)) = Go.Lib.decDigits a ++ [c] := by
  have hc := of_decide_eq_true h
  rw [dec_big (by omega), show (a * 10 + (c.toNat - 48)) / 10 = a by omega, show (a * 10 + (c.toNat - 48)) % 10 = c.toNat - 48 by omega, ofNat_dg h]
/-- The text of a value is its digits just where no nought stands ahead. -/
theorem dec_back : ∀ (k : Nat) (l : List UInt8), l.length = k + 1 → l.all dgb = true → (Go.Lib.decDigits (dvl 0 l) = l ↔ nlz l = true)
  | 0, l, hk, h => by
    match l, hk with
    | [c], _ =>
      have hc1 : dgb c = true := by simpa using h
      have hc := of_decide_eq_true hc1
      have e : dvl 0 [c] = c.toNat - 48 := by show 0 * 10 + (c.toNat - 48) = _; omega
      rw [e, dec_small (by omega), ofNat_dg hc1]
      exact ⟨fun _ => rfl, fun _ => rfl⟩
  | k + 1, l, hk, h => by
    obtain ⟨m, c, rfl⟩ : ∃ m c, l = m ++ [c] := ⟨l.dropLast, l.getLast (fun e => by rw [e] at hk; simp at hk), (List.dropLast_concat_getLast _).symm⟩
    have hm : m.length = k + 1 := by simpa using hk
    have hne : m ≠ [] := fun e => by rw [e] at hm; simp at hm
    simp only [List.all_append, List.all_cons, List.all_nil, Bool.and_true, Bool.and_eq_true] at h
    obtain ⟨h1, h2⟩ := h
    have hc := of_decide_eq_true h2
    have ih := dec_back k m hm h1
    have hh : (m ++ [c]).head? = m.head? := by
      obtain ⟨x, r, rfl⟩ := List.exists_cons_of_ne_nil hne
      rfl
    have hz : nlz (m ++ [c]) = decide (m.head? ≠ some 48) := by
      unfold nlz
      rw [hh, hk]
      simp
    rw [hz, dvl_app]
    by_cases hp : 1 ≤ dvl 0 m
    · rw [dec_app hp h2]
      constructor
      · intro e
        have e1 := List.append_cancel_right e
        have e2 := ih.1 e1
        unfold nlz at e2
        simp only [Bool.or_eq_true, decide_eq_true_eq] at e2
        rcases e2 with e2 | e2
        · refine decide_eq_true (fun e3 => ?_)
          match m, e2, e3 with
          | [x], _, e3 =>
            have : x = 48 := by simpa using e3
            rw [this] at hp
            exact absurd hp (by decide)
        · exact decide_eq_true e2
      · intro e
        rw [ih.2 (by unfold nlz; rw [e]; simp)]
    · have e0 : dvl 0 m = 0 := by omega
      have hz0 : m.head? = some 48 := by
        refine Classical.byContradiction (fun e => ?_)
        have := dvl_pos hne h1 e
        omega
      rw [e0, hz0, dec_small (by omega)]
      constructor
      · intro e
        have e1 := congrArg List.length e
        simp at e1
        rw [e1] at hm
        simp at hm
      · intro e
        exact absurd e (by decide)
theorem itoa_dig {l : List UInt8} (hne : l ≠ []) (h : l.all dgb = true) : Go.Lib.itoa (dvl 0 l : Int) = l ↔ nlz l = true := by
  rw [ito_nat (by omega), Int.toNat_natCast]
  have h0 : l.length ≠ 0 := fun e => hne (List.eq_nil_of_length_eq_zero e)
  exact dec_back (l.length - 1) l (by omega) h
theorem nokb_len {l : List UInt8} (hne : l ≠ []) (h : nokb l = true) : l.length ≤ 10 := by
  unfold nokb at h
  simp only [Bool.and_eq_true] at h
  obtain ⟨⟨h1, h2⟩, h3⟩ := h
  have h3 := of_decide_eq_true h3
  have e := (itoa_dig hne h1).2 h2
  rw [ito_nat (by omega), Int.toNat_natCast] at e
  have a := dec_len 9 (dvl 0 l) (by show dvl 0 l < 10000000000; omega)
  rw [e] at a
  omega
/-- The model's reader of a number. -/
def nms (l : List UInt8) : List UInt8 := if l.head? = some 45 then l.tail else l
def nmg (l : List UInt8) : Int := if l.head? = some 45 then -1 else 1
/-- What the model looks at ahead of the digits. -/
def nmo (t : List UInt8) (g : Int) : Bool := !(decide (t.length = 0) || decide (18 < t.length) || (decide (t.head? = some 48) && (decide (1 < t.length) || decide (g < 0))))
def nmb (l : List UInt8) : Bool := nmo (nms l) (nmg l) && (nms l).all dgb
def nmv (l : List UInt8) : Int := if nmb l = true then nmg l * (dvl 0 (nms l) : Int) else 0
theorem nm_nok {l : List UInt8} (hne : l ≠ []) : (nmb l && decide (0 ≤ nmv l ∧ nmv l ≤ 2130706432)) = nokb l ∧ (nokb l = true → nmv l = (dvl 0 l : Int)) := by
  by_cases h45 : l.head? = some 45
  · have e0 : nokb l = false := by
      obtain ⟨c, r, rfl⟩ := List.exists_cons_of_ne_nil hne
      have : c = 45 := by simpa using h45
      subst this
      unfold nokb
      rfl
    refine ⟨?_, fun h => by rw [e0] at h; cases h⟩
    rw [e0]
    cases hb : nmb l
    · rfl
    · have hv : nmv l = -(dvl 0 (nms l) : Int) := by unfold nmv nmg; rw [if_pos hb, if_pos h45]; omega
      have hp : 1 ≤ dvl 0 (nms l) := by
        unfold nmb nmo nmg at hb
        rw [if_pos h45] at hb
        simp at hb
        obtain ⟨⟨⟨h1, h2⟩, h3⟩, h4⟩ := hb
        exact dvl_pos h1 (by simpa using h4) (fun e => h3 e)
      rw [hv]
      simp
      omega
  · have es : nms l = l := by unfold nms; rw [if_neg h45]
    have eg : nmg l = 1 := by unfold nmg; rw [if_neg h45]
    have ev : nmb l = true → nmv l = (dvl 0 l : Int) := fun h => by unfold nmv; rw [if_pos h, es, eg]; omega
    have eb : nmb l = true ↔ l.length ≤ 18 ∧ nlz l = true ∧ l.all dgb = true := by
      unfold nmb nmo nlz
      rw [es, eg]
      have h0 : l.length ≠ 0 := fun e => hne (List.eq_nil_of_length_eq_zero e)
      by_cases e1 : l.head? = some 48
      · by_cases e2 : l.length = 1
        · simp [e1, e2]
        · simp [e1, e2, h0]
          omega
      · simp [e1, h0]
    cases hn : nokb l
    · refine ⟨?_, fun h => by cases h⟩
      cases hb : nmb l
      · rfl
      · rw [ev hb]
        obtain ⟨b1, b2, b3⟩ := eb.1 hb
        unfold nokb at hn
        rw [b2, b3] at hn
        simp at hn
        simp
        omega
    · have h9 := nokb_len hne hn
      have hn' := hn
      unfold nokb at hn
      simp only [Bool.and_eq_true, decide_eq_true_eq] at hn
      obtain ⟨⟨h1, h2⟩, h3⟩ := hn
      have hb := eb.2 ⟨by omega, h2, h1⟩
      refine ⟨?_, fun _ => ev hb⟩
      rw [hb, ev hb]
      simp
      omega

end Go.Proofs.YtpndbkgjdnkmcaaDoor

namespace Go.Proofs.YtpndbkgjdnkmcaaDoor
set_option linter.unusedVariables false
set_option linter.unusedSimpArgs false
theorem wdG_run : ∀ (a cur b : List UInt8), (∀ x ∈ a, x ≠ 32) → wdG cur (a ++ 32 :: b) = if (cur ++ a).isEmpty then wdG [] b else (cur ++ a) :: wdG [] b
  | [], cur, b, _ => by
    rw [List.nil_append, List.append_nil]
    conv => lhs; unfold wdG
    rw [if_pos rfl]
  | x :: a, cur, b, h => by
    have ih := wdG_run a (cur ++ [x]) b (fun y hy => h y (List.mem_cons_of_mem x hy))
    rw [List.cons_append]
    conv => lhs; unfold wdG
    rw [if_neg (h x List.mem_cons_self), ih, List.append_assoc]
    rfl
theorem wdG_end : ∀ (a cur : List UInt8), (∀ x ∈ a, x ≠ 32) → wdG cur a = if (cur ++ a).isEmpty then [] else [cur ++ a]
  | [], cur, _ => by
    rw [List.append_nil]
    rfl
  | x :: a, cur, h => by
    have ih := wdG_end a (cur ++ [x]) (fun y hy => h y (List.mem_cons_of_mem x hy))
    conv => lhs; unfold wdG
    rw [if_neg (h x List.mem_cons_self), ih, List.append_assoc]
    rfl
/-- Where the first blank stands. -/
theorem idx1 : ∀ s : List UInt8, (Go.Lib.index s [32] = -1 ∧ ∀ x ∈ s, x ≠ 32) ∨ ∃ i : Nat, Go.Lib.index s [32] = (i : Int) ∧ s = s.take i ++ 32 :: s.drop (i + 1) ∧ ∀ x ∈ s.take i, x ≠ 32
  | [] => .inl ⟨by simp [Go.Lib.index], fun x hx => by cases hx⟩
  | b :: l => by
    by_cases hb : b = 32
    · refine .inr ⟨0, ?_, ?_, fun x hx => by simp at hx⟩
      · rw [Go.Lib.index]
        simp [List.isPrefixOf, hb]
      · simp [hb]
    · have hp : ([32] : List UInt8).isPrefixOf (b :: l) = false := by simp [List.isPrefixOf, Ne.symm hb]
      rcases idx1 l with ⟨h1, h2⟩ | ⟨i, h1, h2, h3⟩
      · refine .inl ⟨?_, fun x hx => ?_⟩
        · rw [Go.Lib.index, hp, h1]
          simp
        · rcases List.mem_cons.1 hx with rfl | hx
          · exact hb
          · exact h2 x hx
      · refine .inr ⟨i + 1, ?_, ?_, fun x hx => ?_⟩
        · rw [Go.Lib.index, hp, h1, if_neg (by decide), if_neg (by simp)]
          omega
        · rw [List.take_succ_cons, List.drop_succ_cons, List.cons_append, ← h2]
        · rw [List.take_succ_cons] at hx
          rcases List.mem_cons.1 hx with rfl | hx
          · exact hb
          · exact h3 x hx
/-- What the library cuts at blanks: the pieces that are not empty are the words. -/
theorem split_wds : ∀ (k : Nat) (s : List UInt8), Go.Lib.count s [32] = k → (Go.Lib.splitK [32] 0 k s).filter (fun x => !x.isEmpty) = wds s
  | 0, s, h => by
    rw [Go.Lib.count_one] at h
    have hn : ∀ x ∈ s, x ≠ 32 := fun x hx e => by
      subst e
      have := List.count_pos_iff.2 hx
      omega
    show List.filter _ [s] = wdG [] s
    rw [wdG_end s [] hn, List.nil_append]
    cases s with
    | nil => rfl
    | cons a l => rfl
  | k + 1, s, h => by
    rcases idx1 s with ⟨h1, h2⟩ | ⟨i, h1, h2, h3⟩
    · rw [Go.Lib.count_one, List.count_eq_zero.2 (fun hx => h2 32 hx rfl)] at h
      cases h
    · have hc : Go.Lib.count (s.drop (i + 1)) [32] = k := by
        have e := congrArg (List.count 32) h2
        rw [List.count_append, List.count_cons_self, List.count_eq_zero.2 (fun hx => h3 32 hx rfl)] at e
        rw [Go.Lib.count_one] at h ⊢
        omega
      have ih := split_wds k (s.drop (i + 1)) hc
      unfold Go.Lib.splitK
      rw [if_neg (by rw [h1]; simp), h1, Int.toNat_natCast, Nat.add_zero, show ([32] : List UInt8).length = 1 from rfl]
      have e2 : wds s = if (s.take i).isEmpty then wdG [] (s.drop (i + 1)) else (s.take i) :: wdG [] (s.drop (i + 1)) := by
        have := wdG_run (s.take i) [] (s.drop (i + 1)) h3
        rw [← h2, List.nil_append] at this
        exact this
      rw [e2, List.filter_cons, ih]
      cases hx : (s.take i).isEmpty
      · simp [wds]
      · simp [wds]
theorem pu_bad : ∀ (l : List UInt8) (a : Nat) (v : Nat), l.all dgb = false → Go.Lib.parseUint10 a l ≠ .ok v
  | [], a, v, h => by cases h
  | c :: r, a, v, h => by
    intro e
    unfold Go.Lib.parseUint10 at e
    by_cases hc : 48 ≤ c.toNat ∧ c.toNat ≤ 57
    · rw [if_pos hc] at e
      have hr : r.all dgb = false := by
        have hd : dgb c = true := decide_eq_true hc
        rw [List.all_cons, hd, Bool.true_and] at h
        exact h
      by_cases e1 : 1844674407370955162 ≤ a
      · rw [if_pos e1] at e
        cases e
      · rw [if_neg e1] at e
        by_cases e2 : 18446744073709551616 ≤ a * 10 + (c.toNat - 48)
        · rw [if_pos e2] at e
          cases e
        · rw [if_neg e2] at e
          exact pu_bad r _ v hr e
    · rw [if_neg hc] at e
      cases e
theorem mag_bad {l : List UInt8} {v : Nat} (h : l.all dgb = false) : Go.Lib.parseMag l ≠ .ok v := by
  unfold Go.Lib.parseMag
  split
  · intro e
    cases e
  · exact pu_bad l 0 v h
theorem mag_dig {l : List UInt8} (hne : l ≠ []) (h : l.all dgb = true) : Go.Lib.parseMag l = if dvl 0 l < 18446744073709551616 then .ok (dvl 0 l) else .range := by
  unfold Go.Lib.parseMag
  rw [if_neg hne]
  exact pu_dig l 0 (by decide) h
/-- A number's text just where it is told so again, and below 10 to the 18. -/
def atk (l : List UInt8) (v : Int) : Prop := Go.Lib.itoa v = l ∧ -1000000000000000000 < v ∧ v < 1000000000000000000
theorem nlz_len {l : List UInt8} (hne : l ≠ []) (h : l.all dgb = true) (hz : nlz l = true) : dvl 0 l < 1000000000000000000 ↔ l.length ≤ 18 := by
  have e := (itoa_dig hne h).2 hz
  rw [ito_nat (by omega), Int.toNat_natCast] at e
  constructor
  · intro h1
    have a := dec_len 17 (dvl 0 l) (by show dvl 0 l < 1000000000000000000; exact h1)
    rw [e] at a
    exact a
  · intro h1
    have a := dvl_lt l 0 h
    have b : 10 ^ l.length ≤ 10 ^ 18 := Nat.pow_le_pow_right (by decide) h1
    have c : (10 : Nat) ^ 18 = 1000000000000000000 := by decide
    omega
theorem itoa_neg {v : Int} (h : v < 0) : Go.Lib.itoa v = 45 :: Go.Lib.decDigits v.natAbs := by
  unfold Go.Lib.itoa
  rw [if_pos h]
theorem dec_first : ∀ (k n : Nat), n < 10 ^ (k + 1) → ∃ c r, Go.Lib.decDigits n = c :: r ∧ dgb c = true
  | 0, n, h => by
    have h' : n < 10 := by simpa using h
    rw [dec_small h']
    refine ⟨_, _, rfl, decide_eq_true ?_⟩
    have : (UInt8.ofNat (48 + n)).toNat = 48 + n := by simp [UInt8.toNat_ofNat']; omega
    omega
  | k + 1, n, h => by
    by_cases q : n < 10
    · rw [dec_small q]
      refine ⟨_, _, rfl, decide_eq_true ?_⟩
      have : (UInt8.ofNat (48 + n)).toNat = 48 + n := by simp [UInt8.toNat_ofNat']; omega
      omega
    · obtain ⟨c, r, e, hc⟩ := dec_first k (n / 10) (by rw [Nat.pow_succ] at h; omega)
      rw [dec_big q, e]
      exact ⟨c, r ++ _, rfl, hc⟩
theorem nat_pow (n : Nat) : n < 10 ^ (n + 1) := by
  induction n with
  | zero => decide
  | succ k ih => rw [Nat.pow_succ]; omega
theorem nmo_key {l : List UInt8} (hne : l ≠ []) : nmo l 1 = true ↔ (l.length ≤ 18 ∧ nlz l = true) := by
  have h0 : l.length ≠ 0 := fun e => hne (List.eq_nil_of_length_eq_zero e)
  unfold nmo nlz
  by_cases e1 : l.head? = some 48
  · by_cases e2 : l.length = 1
    · simp [e1, e2]
    · simp [e1, e2, h0]
      omega
  · simp [e1, h0]
/-- The program's reading of a word that is a number for the library. -/
theorem nm_ok {l : List UInt8} (hne : l ≠ []) {v : Int} (h : Go.Lib.atoiAll l = .ok v) : (nmb l = true ↔ atk l v) ∧ (nmb l = true → nmv l = v) := by
  obtain ⟨c, r, rfl⟩ := List.exists_cons_of_ne_nil hne
  by_cases h43 : c.toNat = 43
  · have hc : c = 43 := UInt8.toNat_inj.1 h43
    subst hc
    have hb : nmb (43 :: r) = false := by
      unfold nmb nms
      rw [if_neg (by simp), show ((43 : UInt8) :: r).all dgb = false from by rw [List.all_cons]; rfl, Bool.and_false]
    refine ⟨⟨fun e => (by rw [hb] at e; cases e), fun e => ?_⟩, fun e => (by rw [hb] at e; cases e)⟩
    obtain ⟨e1, _, _⟩ := e
    by_cases hv : v < 0
    · rw [itoa_neg hv] at e1
      cases e1
    · rw [ito_nat (by omega)] at e1
      obtain ⟨x, y, e2, hx⟩ := dec_first v.toNat v.toNat (nat_pow _)
      rw [e2] at e1
      have : x = 43 := by simpa using (List.cons.inj e1).1
      subst this
      cases hx
  · by_cases h45 : c.toNat = 45
    · have hc : c = 45 := UInt8.toNat_inj.1 h45
      subst hc
      rw [Go.Lib.atoiAll_minus] at h
      have es : nms (45 :: r) = r := by unfold nms; rw [if_pos (show ((45 : UInt8) :: r).head? = some 45 from rfl)]; rfl
      have eg : nmg (45 :: r) = -1 := by unfold nmg; rw [if_pos (show ((45 : UInt8) :: r).head? = some 45 from rfl)]
      have hr : r ≠ [] := fun e => by
        rw [e] at h
        cases h
      cases hd : r.all dgb
      · exfalso
        rcases hm : Go.Lib.parseMag r with u | _ | _
        · exact mag_bad hd hm
        · rw [hm] at h; cases h
        · rw [hm] at h; cases h
      · rw [mag_dig hr hd] at h
        by_cases e1 : dvl 0 r < 18446744073709551616
        · rw [if_pos e1] at h
          unfold Go.Lib.signed at h
          by_cases e2 : 9223372036854775808 < dvl 0 r
          · simp only [if_pos e2] at h
            cases h
          · simp only [if_neg e2] at h
            have hv : v = -(dvl 0 r : Int) := by injection h with h; exact h.symm
            have key : nmb (45 :: r) = true ↔ (r.length ≤ 18 ∧ r.head? ≠ some 48) := by
              unfold nmb nmo
              rw [es, eg, hd]
              have h0 : r.length ≠ 0 := fun e => hr (List.eq_nil_of_length_eq_zero e)
              by_cases e3 : r.head? = some 48
              · simp [e3, h0]
              · simp [e3, h0]
            refine ⟨key.trans ⟨fun ⟨a, b⟩ => ?_, fun ⟨a, b, d⟩ => ?_⟩, fun e => ?_⟩
            · have hz : nlz r = true := by unfold nlz; rw [decide_eq_true b, Bool.or_true]
              have hp := dvl_pos hr hd b
              have hl := (nlz_len hr hd hz).2 a
              refine ⟨?_, by omega, by omega⟩
              rw [hv, itoa_neg (by omega)]
              have e4 := (itoa_dig hr hd).2 hz
              rw [ito_nat (by omega), Int.toNat_natCast] at e4
              rw [show (-(dvl 0 r : Int)).natAbs = dvl 0 r by omega, e4]
            · by_cases hn : v < 0
              · rw [itoa_neg hn] at a
                have e5 : Go.Lib.decDigits (dvl 0 r) = r := by
                  have := (List.cons.inj a).2
                  rw [show v.natAbs = dvl 0 r by omega] at this
                  exact this
                have hz : nlz r = true := (itoa_dig hr hd).1 (by rw [ito_nat (by omega), Int.toNat_natCast]; exact e5)
                refine ⟨(nlz_len hr hd hz).1 (by omega), fun e6 => ?_⟩
                unfold nlz at hz
                simp only [Bool.or_eq_true, decide_eq_true_eq] at hz
                rcases hz with hz | hz
                · match r, hz, e6 with
                  | [x], _, e6 =>
                    have : x = 48 := by simpa using e6
                    rw [this] at hv
                    have : (dvl 0 [48] : Nat) = 0 := rfl
                    omega
                · exact hz e6
              · exfalso
                rw [ito_nat (by omega)] at a
                obtain ⟨x, y, e2, hx⟩ := dec_first v.toNat v.toNat (nat_pow _)
                rw [e2] at a
                have : x = 45 := by simpa using (List.cons.inj a).1
                subst this
                cases hx
            · unfold nmv
              rw [if_pos e, es, eg, hv]
              omega
        · rw [if_neg e1] at h
          cases h
    · have hh : ¬ (c :: r).head? = some 45 := fun e => (by
        have h9 : c = 45 := by simpa using e
        exact h45 (by rw [h9]; rfl))
      have es : nms (c :: r) = c :: r := by unfold nms; rw [if_neg hh]
      have eg : nmg (c :: r) = 1 := by unfold nmg; rw [if_neg hh]
      cases hd : (c :: r).all dgb
      · exfalso
        rw [Go.Lib.atoiAll_plain c r h43 h45] at h
        rcases hm : Go.Lib.parseMag (c :: r) with u | _ | _
        · exact mag_bad hd hm
        · rw [hm] at h; cases h
        · rw [hm] at h; cases h
      · rw [atoi_dig hne hd] at h
        by_cases e1 : dvl 0 (c :: r) < 9223372036854775808
        · rw [if_pos e1] at h
          have hv : v = (dvl 0 (c :: r) : Int) := by injection h with h; exact h.symm
          have key : nmb (c :: r) = true ↔ ((c :: r).length ≤ 18 ∧ nlz (c :: r) = true) := by
            unfold nmb
            rw [es, eg, hd, Bool.and_true]
            exact nmo_key hne
          refine ⟨key.trans ⟨fun ⟨a, b⟩ => ⟨by rw [hv]; exact (itoa_dig hne hd).2 b, by omega, by have := (nlz_len hne hd b).2 a; omega⟩, fun ⟨a, b, d⟩ => ?_⟩, fun e => by unfold nmv; rw [if_pos e, es, eg, hv]; omega⟩
          rw [hv] at a
          have hz := (itoa_dig hne hd).1 a
          exact ⟨(nlz_len hne hd hz).1 (by omega), hz⟩
        · rw [if_neg e1] at h
          cases h
/-- A word that is no number for the library is none. -/
theorem nm_bad {l : List UInt8} (hne : l ≠ []) (h : ∀ v, Go.Lib.atoiAll l ≠ .ok v) : nmb l = false := by
  refine Bool.eq_false_iff.2 (fun hb => ?_)
  unfold nmb at hb
  simp only [Bool.and_eq_true] at hb
  obtain ⟨ho, hd⟩ := hb
  obtain ⟨c, r, rfl⟩ := List.exists_cons_of_ne_nil hne
  have hlen : (nms (c :: r)).length ≤ 18 ∧ nms (c :: r) ≠ [] := by
    unfold nmo at ho
    simp at ho
    refine ⟨by omega, fun e => ?_⟩
    have := ho.1.1
    exact this e
  have hb18 := dvl_lt (nms (c :: r)) 0 hd
  have b : 10 ^ (nms (c :: r)).length ≤ 10 ^ 18 := Nat.pow_le_pow_right (by decide) hlen.1
  have e18 : (10 : Nat) ^ 18 = 1000000000000000000 := by decide
  by_cases h45 : c.toNat = 45
  · have hc : c = 45 := UInt8.toNat_inj.1 h45
    subst hc
    have es : nms (45 :: r) = r := by unfold nms; rw [if_pos (show ((45 : UInt8) :: r).head? = some 45 from rfl)]; rfl
    rw [es] at hd hb18 b hlen
    refine h (-(dvl 0 r : Int)) ?_
    rw [Go.Lib.atoiAll_minus, mag_dig hlen.2 hd, if_pos (by omega)]
    unfold Go.Lib.signed
    simp only [if_neg (show ¬ 9223372036854775808 < dvl 0 r by omega)]
  · have hh : ¬ (c :: r).head? = some 45 := fun e => (by
        have h9 : c = 45 := by simpa using e
        exact h45 (by rw [h9]; rfl))
    have es : nms (c :: r) = c :: r := by unfold nms; rw [if_neg hh]
    rw [es] at hd hb18 b
    refine h (dvl 0 (c :: r) : Int) ?_
    rw [atoi_dig hne hd, if_pos (by omega)]

end Go.Proofs.YtpndbkgjdnkmcaaDoor
