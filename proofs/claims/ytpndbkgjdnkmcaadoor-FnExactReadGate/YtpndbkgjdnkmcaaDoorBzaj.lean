/- Several texts in one: Words of a text, cut by the library; numbers of any sign: plain. No condition but those that each theorem states. · What a gate's text tells: plain. No condition but those that each theorem states. -/
import Derived.Test.YtpndbkgjdnkmcaaDoorBzab
import Derived.Lib.SplitLaws
import Derived.Test.YtpndbkgjdnkmcaaDoorBzaa
namespace Go.Proofs.YtpndbkgjdnkmcaaDoor
set_option linter.unusedVariables false
set_option linter.unusedSimpArgs false
theorem wdG_run : ∀ (a cur b : List UInt8), (∀ x ∈ a, x ≠ 32) → wdG cur (a ++ 32 :: b) = if (cur ++ a).isEmpty then wdG [] b else (cur ++ a) :: wdG [] b
  | [], cur, b, _ => by
    rw [List.nil_append, List.append_nil]
    conv => lhs; unfold wdG
    rw [if_pos rfl]
  | x :: a, cur, b, h => by
    have ih := wdG_run a (cur ++ [x]) b (fun y hy => h y (List.mem_cons_of_mem x hy))
    rw [List.cons_append]
    conv => lhs; unfold wdG
    rw [if_neg (h x List.mem_cons_self), ih, List.append_assoc]
    rfl
theorem wdG_end : ∀ (a cur : List UInt8), (∀ x ∈ a, x ≠ 32) → wdG cur a = if (cur ++ a).isEmpty then [] else [cur ++ a]
  | [], cur, _ => by
    rw [List.append_nil]
    rfl
  | x :: a, cur, h => by
    have ih := wdG_end a (cur ++ [x]) (fun y hy => h y (List.mem_cons_of_mem x hy))
    conv => lhs; unfold wdG
    rw [if_neg (h x List.mem_cons_self), ih, List.append_assoc]
    rfl
/-- Where the first blank stands. -/
theorem idx1 : ∀ s : List UInt8, (Go.Lib.index s [32] = -1 ∧ ∀ x ∈ s, x ≠ 32) ∨ ∃ i : Nat, Go.Lib.index s [32] = (i : Int) ∧ s = s.take i ++ 32 :: s.drop (i + 1) ∧ ∀ x ∈ s.take i, x ≠ 32
  | [] => .inl ⟨by simp [Go.Lib.index], fun x hx => by cases hx⟩
  | b :: l => by
    by_cases hb : b = 32
    · refine .inr ⟨0, ?_, ?_, fun x hx => by simp at hx⟩
      · rw [Go.Lib.index]
        simp [List.isPrefixOf, hb]
      · simp [hb]
    · have hp : ([32] : List UInt8).isPrefixOf (b :: l) = false := by simp [List.isPrefixOf, Ne.symm hb]
      rcases idx1 l with ⟨h1, h2⟩ | ⟨i, h1, h2, h3⟩
      · refine .inl ⟨?_, fun x hx => ?_⟩
        · rw [Go.Lib.index, hp, h1]
          simp
        · rcases List.mem_cons.1 hx with rfl | hx
          · exact hb
          · exact h2 x hx
      · refine .inr ⟨i + 1, ?_, ?_, fun x hx => ?_⟩
        · rw [Go.Lib.index, hp, h1, if_neg (by decide), if_neg (by simp)]
          omega
        · rw [List.take_succ_cons, List.drop_succ_cons, List.cons_append, ← h2]
        · rw [List.take_succ_cons] at hx
          rcases List.mem_cons.1 hx with rfl | hx
          · exact hb
          · exact h3 x hx
/-- What the library cuts at blanks: the pieces that are not empty are the words. -/
theorem split_wds : ∀ (k : Nat) (s : List UInt8), Go.Lib.count s [32] = k → (Go.Lib.splitK [32] 0 k s).filter (fun x => !x.isEmpty) = wds s
  | 0, s, h => by
    rw [Go.Lib.count_one] at h
    have hn : ∀ x ∈ s, x ≠ 32 := fun x hx e => by
      subst e
      have := List.count_pos_iff.2 hx
      omega
    show List.filter _ [s] = wdG [] s
    rw [wdG_end s [] hn, List.nil_append]
    cases s with
    | nil => rfl
    | cons a l => rfl
  | k + 1, s, h => by
    rcases idx1 s with ⟨h1, h2⟩ | ⟨i, h1, h2, h3⟩
    · rw [Go.Lib.count_one, List.count_eq_zero.2 (fun hx => h2 32 hx rfl)] at h
      cases h
    · have hc : Go.Lib.count (s.drop (i + 1)) [32] = k := by
        have e := congrArg (List.count 32) h2
        rw [List.count_append, List.count_cons_self, List.count_eq_zero.2 (fun hx => h3 32 hx rfl)] at e
        rw [Go.Lib.count_one] at h ⊢
        omega
      have ih := split_wds k (s.drop (i + 1)) hc
      unfold Go.Lib.splitK
      rw [if_neg (by rw [h1]; simp), h1, Int.toNat_natCast, Nat.add_zero, show ([32] : List UInt8).length = 1 from rfl]
      have e2 : wds s = if (s.take i).isEmpty then wdG [] (s.drop (i + 1)) else (s.take i) :: wdG [] (s.drop (i + 1)) := by
        have := wdG_run (s.take i) [] (s.drop (i + 1)) h3
        rw [← h2, List.nil_append] at this
        exact this
      rw [e2, List.filter_cons, ih]
      cases hx : (s.take i).isEmpty
      · simp [wds]
      · simp [wds]
theorem pu_bad : ∀ (l : List UInt8) (a : Nat) (v : Nat), l.all dgb = false → Go.Lib.parseUint10 a l ≠ .ok v
  | [], a, v, h => by cases h
  | c :: r, a, v, h => by
    intro e
    unfold Go.Lib.parseUint10 at e
    by_cases hc : 48 ≤ c.toNat ∧ c.toNat ≤ 57
    · rw [if_pos hc] at e
      have hr : r.all dgb = false := by
        have hd : dgb c = true := decide_eq_true hc
        rw [List.all_cons, hd, Bool.true_and] at h
        exact h
      by_cases e1 : 1844674407370955162 ≤ a
      · rw [if_pos e1] at e
        cases e
      · rw [if_neg e1] at e
        by_cases e2 : 18446744073709551616 ≤ a * 10 + (c.toNat - 48)
        · rw [if_pos e2] at e
          cases e
        · rw [if_neg e2] at e
          exact pu_bad r _ v hr e
    · rw [if_neg hc] at e
      cases e
theorem mag_bad {l : List UInt8} {v : Nat} (h : l.all dgb = false) : Go.Lib.parseMag l ≠ .ok v := by
  unfold Go.Lib.parseMag
  split
  · intro e
    cases e
  · exact pu_bad l 0 v h
theorem mag_dig {l : List UInt8} (hne : l ≠ []) (h : l.all dgb = true) : Go.Lib.parseMag l = if dvl 0 l < 18446744073709551616 then .ok (dvl 0 l) else .range := by
  unfold Go.Lib.parseMag
  rw [if_neg hne]
  exact pu_dig l 0 (by decide) h
/-- A number's text just where it is told so again, and below 10 to the 18. -/
def atk (l : List UInt8) (v : Int) : Prop := Go.Lib.itoa v = l ∧ -1000000000000000000 < v ∧ v < 1000000000000000000
theorem nlz_len {l : List UInt8} (hne : l ≠ []) (h : l.all dgb = true) (hz : nlz l = true) : dvl 0 l < 1000000000000000000 ↔ l.length ≤ 18 := by
  have e := (itoa_dig hne h).2 hz
  rw [ito_nat (by omega), Int.toNat_natCast] at e
  constructor
  · intro h1
    have a := dec_len 17 (dvl 0 l) (by show dvl 0 l < 1000000000000000000; exact h1)
    rw [e] at a
    exact a
  · intro h1
    have a := dvl_lt l 0 h
    have b : 10 ^ l.length ≤ 10 ^ 18 := Nat.pow_le_pow_right (by decide) h1
    have c : (10 : Nat) ^ 18 = 1000000000000000000 := by decide
    omega
theorem itoa_neg {v : Int} (h : v < 0) : Go.Lib.itoa v = 45 :: Go.Lib.decDigits v.natAbs := by
  unfold Go.Lib.itoa
  rw [if_pos h]
theorem dec_first : ∀ (k n : Nat), n < 10 ^ (k + 1) → ∃ c r, Go.Lib.decDigits n = c :: r ∧ dgb c = true
  | 0, n, h => by
    have h' : n < 10 := by simpa using h
    rw [dec_small h']
    refine ⟨_, _, rfl, decide_eq_true ?_⟩
    have : (UInt8.ofNat (48 + n)).toNat = 48 + n := by simp [UInt8.toNat_ofNat']; omega
    omega
  | k + 1, n, h => by
    by_cases q : n < 10
    · rw [dec_small q]
      refine ⟨_, _, rfl, decide_eq_true ?_⟩
      have : (UInt8.ofNat (48 + n)).toNat = 48 + n := by simp [UInt8.toNat_ofNat']; omega
      omega
    · obtain ⟨c, r, e, hc⟩ := dec_first k (n / 10) (by rw [Nat.pow_succ] at h; omega)
      rw [dec_big q, e]
      exact ⟨c, r ++ _, rfl, hc⟩
theorem nat_pow (n : Nat) : n < 10 ^ (n + 1) := by
  induction n with
  | zero => decide
  | succ k ih => rw [Nat.pow_succ]; omega
theorem nmo_key {l : List UInt8} (hne : l ≠ []) : nmo l 1 = true ↔ (l.length ≤ 18 ∧ nlz l = true) := by
  have h0 : l.length ≠ 0 := fun e => hne (List.eq_nil_of_length_eq_zero e)
  unfold nmo nlz
  by_cases e1 : l.head? = some 48
  · by_cases e2 : l.length = 1
    · simp [e1, e2]
    · simp [e1, e2, h0]
      omega
  · simp [e1, h0]
/-- The program's reading of a word that is a number for the library. -/
theorem nm_ok {l : List UInt8} (hne : l ≠ []) {v : Int} (h : Go.Lib.atoiAll l = .ok v) : (nmb l = true ↔ atk l v) ∧ (nmb l = true → nmv l = v) := by
  obtain ⟨c, r, rfl⟩ := List.exists_cons_of_ne_nil hne
  by_cases h43 : c.toNat = 43
  · have hc : c = 43 := UInt8.toNat_inj.1 h43
    subst hc
    have hb : nmb (43 :: r) = false := by
      unfold nmb nms
      rw [if_neg (by simp), show ((43 : UInt8) :: r).all dgb = false from by rw [List.all_cons]; rfl, Bool.and_false]
    refine ⟨⟨fun e => (by rw [hb] at e; cases e), fun e => ?_⟩, fun e => (by rw [hb] at e; cases e)⟩
    obtain ⟨e1, _, _⟩ := e
    by_cases hv : v < 0
    · rw [itoa_neg hv] at e1
      cases e1
    · rw [ito_nat (by omega)] at e1
      obtain ⟨x, y, e2, hx⟩ := dec_first v.toNat v.toNat (nat_pow _)
      rw [e2] at e1
      have : x = 43 := by simpa using (List.cons.inj e1).1
      subst this
      cases hx
  · by_cases h45 : c.toNat = 45
    · have hc : c = 45 := UInt8.toNat_inj.1 h45
      subst hc
      rw [Go.Lib.atoiAll_minus] at h
      have es : nms (45 :: r) = r := by unfold nms; rw [if_pos (show ((45 : UInt8) :: r).head? = some 45 from rfl)]; rfl
      have eg : nmg (45 :: r) = -1 := by unfold nmg; rw [if_pos (show ((45 : UInt8) :: r).head? = some 45 from rfl)]
      have hr : r ≠ [] := fun e => by
        rw [e] at h
        cases h
      cases hd : r.all dgb
      · exfalso
        rcases hm : Go.Lib.parseMag r with u | _ | _
        · exact mag_bad hd hm
        · rw [hm] at h; cases h
        · rw [hm] at h; cases h
      · rw [mag_dig hr hd] at h
        by_cases e1 : dvl 0 r < 18446744073709551616
        · rw [if_pos e1] at h
          unfold Go.Lib.signed at h
          by_cases e2 : 9223372036854775808 < dvl 0 r
          · simp only [if_pos e2] at h
            cases h
          · simp only [if_neg e2] at h
            have hv : v = -(dvl 0 r : Int) := by injection h with h; exact h.symm
            have key : nmb (45 :: r) = true ↔ (r.length ≤ 18 ∧ r.head? ≠ some 48) := by
              unfold nmb nmo
              rw [es, eg, hd]
              have h0 : r.length ≠ 0 := fun e => hr (List.eq_nil_of_length_eq_zero e)
              by_cases e3 : r.head? = some 48
              · simp [e3, h0]
              · simp [e3, h0]
            refine ⟨key.trans ⟨fun ⟨a, b⟩ => ?_, fun ⟨a, b, d⟩ => ?_⟩, fun e => ?_⟩
            · have hz : nlz r = true := by unfold nlz; rw [decide_eq_true b, Bool.or_true]
              have hp := dvl_pos hr hd b
              have hl := (nlz_len hr hd hz).2 a
              refine ⟨?_, by omega, by omega⟩
              rw [hv, itoa_neg (by omega)]
              have e4 := (itoa_dig hr hd).2 hz
              rw [ito_nat (by omega), Int.toNat_natCast] at e4
              rw [show (-(dvl 0 r : Int)).natAbs = dvl 0 r by omega, e4]
            · by_cases hn : v < 0
              · rw [itoa_neg hn] at a
                have e5 : Go.Lib.decDigits (dvl 0 r) = r := by
                  have := (List.cons.inj a).2
                  rw [show v.natAbs = dvl 0 r by omega] at this
                  exact this
                have hz : nlz r = true := (itoa_dig hr hd).1 (by rw [ito_nat (by omega), Int.toNat_natCast]; exact e5)
                refine ⟨(nlz_len hr hd hz).1 (by omega), fun e6 => ?_⟩
                unfold nlz at hz
                simp only [Bool.or_eq_true, decide_eq_true_eq] at hz
                rcases hz with hz | hz
                · match r, hz, e6 with
                  | [x], _, e6 =>
                    have : x = 48 := by simpa using e6
                    rw [this] at hv
                    have : (dvl 0 [48] : Nat) = 0 := rfl
                    omega
                · exact hz e6
              · exfalso
                rw [ito_nat (by omega)] at a
                obtain ⟨x, y, e2, hx⟩ := dec_first v.toNat v.toNat (nat_pow _)
                rw [e2] at a
                have : x = 45 := by simpa using (List.cons.inj a).1
                subst this
                cases hx
            · unfold nmv
              rw [if_pos e, es, eg, hv]
              omega
        · rw [if_neg e1] at h
          cases h
    · have hh : ¬ (c :: r).head? = some 45 := fun e => (by
        have h9 : c = 45 := by simpa using e
        exact h45 (by rw [h9]; rfl))
      have es : nms (c :: r) = c :: r := by unfold nms; rw [if_neg hh]
      have eg : nmg (c :: r) = 1 := by unfold nmg; rw [if_neg hh]
      cases hd : (c :: r).all dgb
      · exfalso
        rw [Go.Lib.atoiAll_plain c r h43 h45] at h
        rcases hm : Go.Lib.parseMag (c :: r) with u | _ | _
        · exact mag_bad hd hm
        · rw [hm] at h; cases h
        · rw [hm] at h; cases h
      · rw [atoi_dig hne hd] at h
        by_cases e1 : dvl 0 (c :: r) < 9223372036854775808
        · rw [if_pos e1] at h
          have hv : v = (dvl 0 (c :: r) : Int) := by injection h with h; exact h.symm
          have key : nmb (c :: r) = true ↔ ((c :: r).length ≤ 18 ∧ nlz (c :: r) = true) := by
            unfold nmb
            rw [es, eg, hd, Bool.and_true]
            exact nmo_key hne
          refine ⟨key.trans ⟨fun ⟨a, b⟩ => ⟨by rw [hv]; exact (itoa_dig hne hd).2 b, by omega, by have := (nlz_len hne hd b).2 a; omega⟩, fun ⟨a, b, d⟩ => ?_⟩, fun e => by unfold nmv; rw [if_pos e, es, eg, hv]; omega⟩
          rw [hv] at a
          have hz := (itoa_dig hne hd).1 a
          exact ⟨(nlz_len hne hd hz).1 (by omega), hz⟩
        · rw [if_neg e1] at h
          cases h
/-- A word that is no number for the library is none. -/
theorem nm_bad {l : List UInt8} (hne : l ≠ []) (h : ∀ v, Go.Lib.atoiAll l ≠ .ok v) : nmb l = false := by
  refine Bool.eq_false_iff.2 (fun hb => ?_)
  unfold nmb at hb
  simp only [Bool.and_eq_true] at hb
  obtain ⟨ho, hd⟩ := hb
  obtain ⟨c, r, rfl⟩ := List.exists_cons_of_ne_nil hne
  have hlen : (nms (c :: r)).length ≤ 18 ∧ nms (c :: r) ≠ [] := by
    unfold nmo at ho
    simp at ho
    refine ⟨by omega, fun e => ?_⟩
    have := ho.1.1
    exact this e
  have hb18 := dvl_lt (nms (c :: r)) 0 hd
  have b : 10 ^ (nms (c :: r)).length ≤ 10 ^ 18 := Nat.pow_le_pow_right (by decide) hlen.1
  have e18 : (10 : Nat) ^ 18 = 1000000000000000000 := by decide
  by_cases h45 : c.toNat = 45
  · have hc : c = 45 := UInt8.toNat_inj.1 h45
    subst hc
    have es : nms (45 :: r) = r := by unfold nms; rw [if_pos (show ((45 : UInt8) :: r).head? = some 45 from rfl)]; rfl
    rw [es] at hd hb18 b hlen
    refine h (-(dvl 0 r : Int)) ?_
    rw [Go.Lib.atoiAll_minus, mag_dig hlen.2 hd, if_pos (by omega)]
    unfold Go.Lib.signed
    simp only [if_neg (show ¬ 9223372036854775808 < dvl 0 r by omega)]
  · have hh : ¬ (c :: r).head? = some 45 := fun e => (by
        have h9 : c = 45 := by simpa using e
        exact h45 (by rw [h9]; rfl))
    have es : nms (c :: r) = c :: r := by unfold nms; rw [if_neg hh]
    rw [es] at hd hb18 b
    refine h (dvl 0 (c :: r) : Int) ?_
    rw [atoi_dig hne hd, if_pos (by omega)]

end Go.Proofs.YtpndbkgjdnkmcaaDoor

namespace Go.Proofs.YtpndbkgjdnkmcaaDoor
set_option linter.unusedVariables false
set_option linter.unusedSimpArgs false
/-- A word's op, 0 of any other. -/
def opl : List (List UInt8) := [[105, 110, 112, 117, 116], [112, 117, 98, 108, 105, 99], [99, 111, 110, 115, 116], [97, 100, 100], [115, 117, 98], [109, 117, 108], [101, 113, 117, 97, 108], [98, 105, 116]]
def opw (l : List UInt8) : Nat := if opl.idxOf l < 8 then opl.idxOf l + 1 else 0
theorem opl_nodup : opl.Nodup := by decide
theorem opw_at {l : List UInt8} {i : Nat} (hi : i < 8) (h : opl.getD i [] = l) : opw l = i + 1 := by
  have hl : opl.length = 8 := rfl
  have e : opl[i]'(by omega) = l := by rw [← h, List.getD_eq_getElem?_getD, List.getElem?_eq_getElem (by omega)]; rfl
  have : opl.idxOf l = i := by rw [← e]; exact List.Nodup.idxOf_getElem opl_nodup i (by omega)
  unfold opw
  rw [this, if_pos hi]
theorem opw_no {l : List UInt8} (h : ∀ i, i < 8 → opl.getD i [] ≠ l) : opw l = 0 := by
  have hl : opl.length = 8 := rfl
  unfold opw
  by_cases e : opl.idxOf l < 8
  · exfalso
    refine h _ e ?_
    rw [List.getD_eq_getElem?_getD, List.getElem?_eq_getElem (by omega)]
    exact List.getElem_idxOf (by omega)
  · rw [if_neg e]
theorem opw_le (l : List UInt8) : opw l ≤ 8 := by unfold opw; split <;> omega
/-- The gate of an op and of numbers. -/
def gof (o : Nat) (z : Nat → Int) : Gt := if o = 3 then (3, 0, 0, z 0) else if gnn o = 2 then ((o : Int), z 0, z 1, 0) else if gnn o = 1 then ((o : Int), z 0, 0, 0) else ((o : Int), 0, 0, 0)
def nzv (ws : List (List UInt8)) (i : Nat) : Int := nmv (ws.getD i [])
/-- Whether words are a gate's text. -/
def rgb : List (List UInt8) → Bool
  | [] => false
  | w0 :: rest => decide (opw w0 ≠ 0) && (rest.all nmb && decide (rest.length = gnn (opw w0))) && gtb 15 (gof (opw w0) (nzv rest))
def rgg : List (List UInt8) → Gt
  | [] => (0, 0, 0, 0)
  | w0 :: rest => if rgb (w0 :: rest) = true then gof (opw w0) (nzv rest) else (0, 0, 0, 0)
/-- ReadGate's code and gate. -/
def rgc (s : List UInt8) : Int := if 65536 < s.length then 2 else if rgb (wds s) = true then 0 else 3
def rgv (s : List UInt8) : Gt := if rgc s = 0 then rgg (wds s) else (0, 0, 0, 0)

end Go.Proofs.YtpndbkgjdnkmcaaDoor
