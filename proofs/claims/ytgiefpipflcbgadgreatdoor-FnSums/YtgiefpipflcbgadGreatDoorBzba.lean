/- Several texts in one: What the looks at tables and at points answer, of the program and of the model: contracts. Conditions: rows that can be read, lengths of at most 2 to the 40. · The answers of the calls on tables, plain: codes, lengths, values. No condition but those that each theorem states. · What the model's bound tables answer: contracts. Conditions: rows that can be read, lengths of at most 2 to the 40. · What the program's coefs and sums of tables by value answer: contracts. Conditions: elements of the greater field, tables of at most 64. · What the program's eqTable and likeness answer: contracts. Conditions: elements of the greater field, a point of at most six that can be read. · What the program's exported calls on tables answer: contracts. Conditions: rows that can be read, lengths of at most 2 to the 40. -/
import Derived.Test.YtgiefpipflcbgadGreatDoorBzap
import Derived.Test.YtgiefpipflcbgadGreatDoorBzay
import Derived.Deep.AppendLies
namespace Go.Proofs.YtgiefpipflcbgadGreatDoor
open Go.ChangeShapes Go.WideShapes Go.ChangeAt Go.RowKit
set_option linter.unusedVariables false
set_option maxRecDepth 100000
set_option linter.unusedSimpArgs false

/-- 1, 2, 4 to 64. -/
def p6 (n : Nat) : Bool := (List.range 7).any fun j => decide (n = 2 ^ j)
theorem p6_yes {n j : Nat} (hj : j ≤ 6) (h : n = 2 ^ j) : p6 n = true := by
  unfold p6
  rw [List.any_eq_true]
  exact ⟨j, by simp; omega, by simpa using h⟩
theorem p6_no {n : Nat} (h : ∀ j, j < 7 → ¬ n = 2 ^ j) : p6 n = false := by
  unfold p6
  rw [List.any_eq_false]
  intro j hj
  simp at hj
  simpa using h j hj
theorem p6_ex {n : Nat} (h : p6 n = true) : ∃ j, j ≤ 6 ∧ n = 2 ^ j := by
  unfold p6 at h
  rw [List.any_eq_true] at h
  obtain ⟨j, hj, hn⟩ := h
  simp at hj
  exact ⟨j, by omega, by simpa using hn⟩
theorem p6_high {n : Nat} (h : 64 < n) : p6 n = false := by
  cases hp : p6 n
  · rfl
  · obtain ⟨j, hj, hn⟩ := p6_ex hp
    have := pow_le6 hj
    omega
theorem p6_bits : ∀ m : Nat, m < 65 → 1 ≤ m → (bits .and .i64 (m : Int) ((m : Int) - 1) == 0) = p6 m := by decide +kernel
/-- What the program's look at powers of two answers. -/
def q2 (n : Nat) : Bool := decide (1 ≤ n) && (bits .and .i64 (n : Int) ((n : Int) - 1) == 0)
theorem q2_p6 {n : Nat} (h : n ≤ 64) : q2 n = p6 n := by
  unfold q2
  by_cases h0 : 1 ≤ n
  · rw [p6_bits n (by omega) h0, decide_eq_true h0]; rfl
  · obtain rfl : n = 0 := by omega
    rfl
/-- A right table. -/
def tok (f g : Nat → Int) (n : Nat) : Bool := p6 n && okP f g n
/-- A right point. -/
def pok (f g : Nat → Int) (n : Nat) : Bool := decide (n ≤ 6) && okP f g n
theorem tok_p6 {f g : Nat → Int} {n : Nat} (h : tok f g n = true) : p6 n = true ∧ okP f g n = true := by unfold tok at h; simpa using h
theorem pok_le {f g : Nat → Int} {n : Nat} (h : pok f g n = true) : n ≤ 6 ∧ okP f g n = true := by unfold pok at h; simpa using h

set_option maxHeartbeats 1000000 in
theorem isPow_any (n : Nat) (w : World) (hn : n ≤ 1099511627776) : Calls Tryz.prog 83 #[.int .i64 (n : Int)] w fun e w' => e = .returned (.bool (q2 n)) ∧ w' = w := by
  by_cases h0 : 1 ≤ n
  · have h1 : 1 ≤ (n : Int) := by omega
    obtain ⟨b, hb⟩ : ∃ b, b = (bits .and .i64 (n : Int) ((n : Int) - 1) == 0) := ⟨_, rfl⟩
    have HQ := hik (show q2 n = b by unfold q2; rw [decide_eq_true h0, ← hb]; rfl)
    have v1 : IntKind.i64.wrap ((n : Int) - 1) = (n : Int) - 1 := by rw [IntKind.wrap_i64]; omega
    have hb' := hb.symm
    clear hb
    rw [HQ.out]
    cases b
    · go_enter Tryz.func83, Tryz.ntmps83
      go_wp2
      go_ret
      exact ⟨rfl, rfl⟩
    · go_enter Tryz.func83, Tryz.ntmps83
      go_wp2
      go_ret
      exact ⟨rfl, rfl⟩
  · obtain rfl : n = 0 := by omega
    go_enter Tryz.func83, Tryz.ntmps83
    go_wp2
    go_ret
    exact ⟨rfl, rfl⟩

set_option maxHeartbeats 1000000 in
theorem tableOK_any (c : Option Addr) (n cap : Nat) (f g : Nat → Int) (w : World) (h : Hid (PairV w c n f g)) (hn : n ≤ 1099511627776) :
    Calls Tryz.prog 44 #[.slice c n cap] w fun e w' => e = .returned (.bool (tok f g n)) ∧ Chg nob w w' := by
  by_cases h64 : n ≤ 64
  · have e64 : (n : Int) ≤ 64 := by omega
    have hq := q2_p6 h64
    cases hp : p6 n
    · have HT := hik (show tok f g n = false by unfold tok; rw [hp]; rfl)
      rw [hp] at hq
      go_enter Tryz.func44, Tryz.ntmps44
      go_wp2_with (go_at_call 83; refine (isPow_any n _ hn).mono ?_; rintro e W1 ⟨he, rfl⟩; rw [hq] at he; subst he)
      go_ret
      exact ⟨by rw [HT.out]; rfl, Chg.refl _ _⟩
    · have HT := hik (show tok f g n = okP f g n by unfold tok; rw [hp]; rfl)
      rw [hp] at hq
      go_enter Tryz.func44, Tryz.ntmps44
      go_wp2_with (first | (go_at_call 83; refine (isPow_any n _ hn).mono ?_; rintro e W1 ⟨he, rfl⟩; rw [hq] at he; subst he) | (go_at_call 43; refine (extsOK_any c n cap f g _ h hn).mono ?_; rintro e W2 ⟨rfl, k2⟩; have K2 := hik k2; clear k2))
      go_ret
      exact ⟨by rw [HT.out]; rfl, K2.out⟩
  · have HT := hik (show tok f g n = false by unfold tok; rw [p6_high (by omega)]; rfl)
    have e64 : ¬ (n : Int) ≤ 64 := by omega
    cases hq : q2 n
    · go_enter Tryz.func44, Tryz.ntmps44
      go_wp2_with (go_at_call 83; refine (isPow_any n _ hn).mono ?_; rintro e W1 ⟨he, rfl⟩; rw [hq] at he; subst he)
      go_ret
      exact ⟨by rw [HT.out]; rfl, Chg.refl _ _⟩
    · go_enter Tryz.func44, Tryz.ntmps44
      go_wp2_with (go_at_call 83; refine (isPow_any n _ hn).mono ?_; rintro e W1 ⟨he, rfl⟩; rw [hq] at he; subst he)
      go_ret
      exact ⟨by rw [HT.out]; rfl, Chg.refl _ _⟩

set_option maxHeartbeats 1000000 in
theorem pointOK_any (c : Option Addr) (n cap : Nat) (f g : Nat → Int) (w : World) (h : Hid (PairV w c n f g)) (hn : n ≤ 1099511627776) :
    Calls Tryz.prog 45 #[.slice c n cap] w fun e w' => e = .returned (.bool (pok f g n)) ∧ Chg nob w w' := by
  by_cases h6 : n ≤ 6
  · have e6 : (n : Int) ≤ 6 := by omega
    have HT := hik (show pok f g n = okP f g n by unfold pok; rw [decide_eq_true h6]; rfl)
    go_enter Tryz.func45, Tryz.ntmps45
    go_wp2_with (go_at_call 43; refine (extsOK_any c n cap f g _ h hn).mono ?_; rintro e W2 ⟨rfl, k2⟩; have K2 := hik k2; clear k2)
    go_ret
    exact ⟨by rw [HT.out]; rfl, K2.out⟩
  · have e6 : ¬ (n : Int) ≤ 6 := by omega
    have HT := hik (show pok f g n = false by unfold pok; rw [decide_eq_false h6]; rfl)
    go_enter Tryz.func45, Tryz.ntmps45
    go_wp2
    go_ret
    exact ⟨by rw [HT.out]; rfl, Chg.refl _ _⟩

set_option maxHeartbeats 1000000 in
theorem sPow6_any (n : Nat) (w : World) : Calls Tryz.prog 118 #[.int .i64 (n : Int), .int .i64 64] w fun e w' => e = .returned (.bool (p6 n)) ∧ w' = w := by
  go_enter Tryz.func118, Tryz.ntmps118
  go_wp2
  go_loop [5] (fun v => ∃ j q : Nat, j ≤ 7 ∧ v = .int .i64 (q : Int) ∧ Hid (q = 2 ^ j) ∧ Hid (∀ i, i < j → ¬ n = 2 ^ i)) (fun v => 600 - (intOf v).toNat)
  case atStart => exact ⟨0, 1, by omega, rfl, hik rfl, hik (fun i hi => absurd hi (by omega))⟩
  case round =>
    obtain ⟨j, q, hj, rfl, HQ, HN⟩ := hrel
    by_cases hjt : j ≤ 6
    · have q1 : q ≤ 64 := by have := pow_le6 hjt; have := HQ.out; omega
      have q0 : 1 ≤ q := by rw [HQ.out]; exact Nat.one_le_two_pow
      have q1' : (q : Int) ≤ 64 := by omega
      by_cases hn : n = q
      · have HP := hik (p6_yes (n := n) hjt (by rw [hn, HQ.out]))
        have hb : ((n : Int) == (q : Int)) = true := by rw [hn]; simp
        have HNN := hik hn
        clear hn
        go_wp2
        go_ret
        exact ⟨ret_of (congrArg Value.bool HP.out.symm), rfl⟩
      · have hb : ((n : Int) == (q : Int)) = false := by
          have : ¬ (n : Int) = (q : Int) := by omega
          simpa using this
        go_wp2
        go_round
        case rel => exact ⟨j + 1, q * 2, by omega, by go_num, hik (by rw [Nat.pow_succ, HQ.out]), hik (fun i hi => by
          by_cases e : i = j
          · subst e; rw [← HQ.out]; exact hn
          · exact HN.out i (by omega))⟩
        case measure => simp [intOf]; omega
    · obtain rfl : j = 7 := by omega
      have hq : q = 128 := HQ.out
      subst hq
      have HP := hik (p6_no (n := n) HN.out)
      go_wp2
      go_ret
      exact ⟨ret_of (congrArg Value.bool HP.out.symm), rfl⟩

set_option maxHeartbeats 1000000 in
theorem sTab_any (n : Nat) (w : World) : Calls Tryz.prog 94 #[.int .i64 (n : Int)] w fun e w' => e = .returned (.bool (p6 n)) ∧ w' = w := by
  go_enter Tryz.func94, Tryz.ntmps94
  go_wp2_with fail
  refine (sPow6_any n _).mono ?_
  rintro e W1 ⟨rfl, rfl⟩
  go_wp2
  go_ret
  exact ⟨rfl, rfl⟩

set_option maxHeartbeats 1000000 in
theorem sTableOK_any (c : Option Addr) (n cap : Nat) (f g : Nat → Int) (w : World) (h : Hid (PairV w c n f g)) (hn : n ≤ 1099511627776) :
    Calls Tryz.prog 65 #[.slice c n cap] w fun e w' => e = .returned (.bool (tok f g n)) ∧ Chg nob w w' := by
  by_cases hl : 4096 < n
  · have hl' : 4096 < (n : Int) := by omega
    have HT := hik (show tok f g n = false by unfold tok; rw [p6_high (by omega)]; rfl)
    go_enter Tryz.func65, Tryz.ntmps65
    go_wp2
    go_ret
    exact ⟨by rw [HT.out]; rfl, Chg.refl _ _⟩
  · have hl' : ¬ 4096 < (n : Int) := by omega
    cases hp : p6 n
    · have HT := hik (show tok f g n = false by unfold tok; rw [hp]; rfl)
      go_enter Tryz.func65, Tryz.ntmps65
      go_wp2_with (go_at_call 94; refine (sTab_any n _).mono ?_; rintro e W1 ⟨he, rfl⟩; rw [hp] at he; subst he)
      go_ret
      exact ⟨by rw [HT.out]; rfl, Chg.refl _ _⟩
    · have HT := hik (show tok f g n = okP f g n by unfold tok; rw [hp]; rfl)
      go_enter Tryz.func65, Tryz.ntmps65
      go_wp2_with (first | (go_at_call 94; refine (sTab_any n _).mono ?_; rintro e W1 ⟨he, rfl⟩; rw [hp] at he; subst he) | (go_at_call 72; refine (l02List_any c n cap f g _ h hn).mono ?_; rintro e W2 ⟨rfl, k2⟩; have K2 := hik k2; clear k2))
      go_ret
      exact ⟨by rw [HT.out]; rfl, K2.out⟩

end Go.Proofs.YtgiefpipflcbgadGreatDoor

namespace Go.Proofs.YtgiefpipflcbgadGreatDoor
open Go.ChangeShapes Go.WideShapes Go.ChangeAt Go.RowKit
set_option linter.unusedVariables false
set_option linter.unusedSimpArgs false

/-- A slice of elements of a call's own, or none, and a code. -/
def TbC (w : World) (code : Int) (m : Nat) (t : Nat → El) (e : Ending) (w' : World) : Prop :=
  ∃ (c : Option Addr) (cap : Nat), e = .returned (.tuple #[.slice c m cap, .int .i64 code]) ∧ m ≤ cap ∧ (cap : Int) ≤ 9223372036854775807 ∧ OwnE w' w.heap.size c m (cA t) (cB t) ∧ Chg nob w w'
theorem TbC.none {w w' : World} {code k : Int} {m : Nat} {t : Nat → El} (hc : code = k) (hm : m = 0) (kk : Chg nob w w') : TbC w code m t (.returned (.tuple #[.slice .none 0 0, .int .i64 k])) w' := by
  subst hc; subst hm
  exact ⟨.none, 0, rfl, Nat.le_refl _, by omega, OwnE.zero, kk⟩
theorem TbC.some {w w' : World} {code : Int} {m n cap : Nat} {c : Option Addr} {t : Nat → El} (hc : code = 0) (hm : m = n) (h1 : n ≤ cap) (h2 : (cap : Int) ≤ 9223372036854775807) (ho : OwnE w' w.heap.size c n (cA t) (cB t)) (kk : Chg nob w w') : TbC w code m t (.returned (.tuple #[.slice c n cap, .int .i64 0])) w' := by
  subst hc; subst hm
  exact ⟨c, cap, rfl, h1, h2, ho, kk⟩
/-- An empty slice that lies somewhere. -/
theorem TbC.empty {w w' : World} {code k : Int} {m : Nat} {c : Option Addr} {cap : Nat} {t : Nat → El} (hc : code = k) (hm : m = 0) (h2 : (cap : Int) ≤ 9223372036854775807) (kk : Chg nob w w') : TbC w code m t (.returned (.tuple #[.slice c 0 cap, .int .i64 k])) w' := by
  subst hc; subst hm
  exact ⟨c, cap, rfl, Nat.zero_le _, h2, OwnE.zero, kk⟩
/-- CoefsOf's and TableOf's. -/
def l2 (n : Nat) : Nat := ((List.range 7).find? fun j => decide (n = 2 ^ j)).getD 0
/-- TableAt's. -/
def tac (f g : Nat → Int) (n : Nat) (f' g' : Nat → Int) (m : Nat) : Int := if 4096 < n ∨ 4096 < m then 2 else if tok f g n && pok f' g' m then (if n = 2 ^ m then 0 else 8) else 1
def tav (f g : Nat → Int) (n : Nat) (f' g' : Nat → Int) (m : Nat) : El := if tac f g n f' g' m = 0 then El.tat (elF f g) (elF f' g') m else El.zr

end Go.Proofs.YtgiefpipflcbgadGreatDoor

namespace Go.Proofs.YtgiefpipflcbgadGreatDoor
open Go.ChangeShapes Go.WideShapes Go.ChangeAt Go.RowKit
set_option linter.unusedVariables false
set_option maxRecDepth 100000
set_option linter.unusedSimpArgs false

theorem flKeep {w w' : World} {B : Nat} {t : TypeId} {z : Nat} {v : Value} {n : Nat} {xs : List Value} (h : w.ownsRow B t z v n xs) (k : Chg nob w w') : w'.ownsRow B t z v n xs :=
  h.kept (row := none) ⟨k.os, k.tape, k.output, k.size, fun i hi _ => k.block i hi (fun x => x)⟩ (by cases e : v.ownBlock <;> simp)
theorem flNone (w : World) (B : Nat) (t : TypeId) (z : Nat) (hB : B ≤ w.heap.size) : (w.alloc (.cells #[] t)).ownsRow B t z (.slice (some ⟨w.heap.size, 0, none⟩) 0 0) 0 [] :=
  ⟨by simp, .inr ⟨w.heap.size, 0, #[], rfl, hB, Array.getElem?_push_size, Nat.le_refl _, Nat.zero_le _, by simp, by simp⟩⟩
theorem flNews (W : World) (a b : Int) (T : TypeId) : ∀ j u, ([.int .i64 a, .int .i64 b] : List Value)[j]? = some u → (W.alloc (.cells #[.int .i64 a, .int .i64 b] T)).cell? ((⟨W.heap.size, 0, none⟩ : Addr).add j) = some u := by
  intro j u hj
  match j, hj with
  | 0, hj => simp at hj; subst hj; simp [Addr.add]
  | 1, hj => simp at hj; subst hj; simp [Addr.add]
  | j + 2, hj => simp at hj
theorem flOne (a b : Int) : ∀ u ∈ ([.int .i64 a, .int .i64 b] : List Value), u.oneCell' = true := by
  intro u hu
  simp at hu
  rcases hu with rfl | rfl <;> rfl
theorem flPair (f g : Nat → Int) (k : Nat) : (List.range (k * 2)).map (pf f g) ++ [.int .i64 (f k), .int .i64 (g k)] = (List.range ((k + 1) * 2)).map (pf f g) := by
  rw [show (k + 1) * 2 = k * 2 + 1 + 1 by omega, List.range_succ, List.range_succ]
  simp [pf_even, pf_odd]
/-- A row of a call's own as a slice. -/
theorem SlAns.of_owns {w w' : World} {B n : Nat} {v : Value} {t : Nat → El} (ho : w'.ownsRow B 31 2 v n ((List.range (n * 2)).map (pf (cA t) (cB t)))) (hB : w.heap.size ≤ B) (k : Chg nob w w') : SlAns w n t (.returned v) w' := by
  rcases ho.2 with ⟨rfl, rfl⟩ | ⟨b, cp, cur, ev, _, _, hl, hm, _⟩
  · exact ⟨none, 0, rfl, Nat.le_refl _, by omega, .inl rfl, k⟩
  · obtain ⟨c', cap', e', hle, h⟩ := OwnE.of_owns ho
    rw [e'] at ev
    simp at ev
    obtain ⟨rfl, rfl⟩ := ev
    exact ⟨_, _, by rw [e'], hle, by unfold maxLen at hm; omega, OwnE.low h hB, k⟩

set_option maxHeartbeats 4000000 in
theorem sFold_any (c : Option Addr) (N cap m : Nat) (hN : N = 2 * m) (hm : m ≤ 32) (t : Nat → El) (r : El) (w : World) (h : Hid (PairE w c N t)) : Calls Tryz.prog 103 #[.slice c N cap, .agg #[.int .i64 r.v.1, .int .i64 r.v.2]] w fun e w' => SlAns w m (El.fldE t r) e w' := by
  obtain ⟨i0, hi, hz0, hz1, hz2⟩ := info_parts infoExt
  have HI := hik hi
  have HZ0 := hik hz0
  have HZ1 := hik hz1
  have HZ2 := hik hz2
  clear hi hz0 hz1 hz2
  have HN := hik hN
  have hN64 : N ≤ 64 := by omega
  clear hN
  go_enter Tryz.func103, Tryz.ntmps103
  go_wp2
  go_loopw [5, 6] (fun v i W => ∃ k : Nat, k ≤ m ∧ i = .int .i64 ((2 * k : Nat) : Int) ∧ Hid (W.ownsRow (w.heap.size + 1) 31 2 v k ((List.range (k * 2)).map (pf (cA (El.fldE t r)) (cB (El.fldE t r))))) ∧ Hid (Chg nob (w.alloc (.cells #[.int .i64 r.v.1, .int .i64 r.v.2] 31)) W)) (fun _ i _ => N - (intOf i).toNat)
  case atStart => exact ⟨0, Nat.zero_le _, rfl, hik (by simpa using flNone (w.alloc (.cells #[.int .i64 r.v.1, .int .i64 r.v.2] 31)) (w.heap.size + 1) 31 2 (by simp)), hik ((Chg.refl _ _).alloc _)⟩
  case round =>
    obtain ⟨k, hk, rfl, HW, HG⟩ := hrel
    rename World => wi
    by_cases hlt : k < m
    · obtain ⟨q, hq⟩ : ∃ q, q = 2 * k := ⟨_, rfl⟩
      obtain ⟨p, hp⟩ : ∃ p, p = q + 1 := ⟨_, rfl⟩
      rw [← hq]
      have HQ := hik hq
      have HP := hik hp
      have hqN : q < N := by have := HN.out; omega
      have hpN : p < N := by have := HN.out; omega
      have hq1 : (q : Int) < (N : Int) := by omega
      have hq0 : (0 : Int) ≤ (q : Int) := by omega
      have hp1 : (p : Int) < (N : Int) := by omega
      have hp0 : (0 : Int) ≤ (p : Int) := by omega
      have hwp : IntKind.i64.wrap ((q : Int) + 1) = (p : Int) := by rw [IntKind.wrap_i64]; omega
      obtain ⟨xb, xo, ec, hxb, _, _⟩ := PairE.at_ h.out hqN
      subst ec
      have U := hik (PairE.keep h.out ((Chg.refl nob w).alloc (.cells #[.int .i64 r.v.1, .int .i64 r.v.2] 31)))
      have x0 := PairE.c0 U.out hqN
      have x1 := PairE.c1 U.out hqN
      have y0 := PairE.c0 U.out hpN
      have y1 := PairE.c1 U.out hpN
      have r0 := (ElB.new w r).c0
      have r1 := (ElB.new w r).c1
      have hsz := HG.out.size
      have hsz' : w.heap.size + 1 ≤ wi.heap.size := by simpa using hsz
      clear hq hp hsz
      go_wp2
      have KD := hik ((Chg.refl nob wi).drew1)
      have KW := hik (HG.out.drew1)
      have SA := hik (fun (WW : World) (kW : Chg nob (w.alloc (.cells #[.int .i64 r.v.1, .int .i64 r.v.2] 31)) WW) => (show (WW.cell? ⟨xb, xo + q * 2, none⟩ = some (.int .i64 (t q).v.1) ∧ WW.cell? ⟨xb, xo + q * 2 + 1, none⟩ = some (.int .i64 (t q).v.2) ∧ WW.cell? ⟨xb, xo + p * 2, none⟩ = some (.int .i64 (t p).v.1) ∧ WW.cell? ⟨xb, xo + p * 2 + 1, none⟩ = some (.int .i64 (t p).v.2) ∧ WW.cell? ⟨w.heap.size, 0, none⟩ = some (.int .i64 r.v.1) ∧ WW.cell? ⟨w.heap.size, 1, none⟩ = some (.int .i64 r.v.2)) from ⟨kW.see x0, kW.see x1, kW.see y0, kW.see y1, kW.see r0, kW.see r1⟩))
      refine wp_region_held_drew (S := fun w' => w'.cell? ⟨xb, xo + q * 2, none⟩ = some (.int .i64 (t q).v.1) ∧ w'.cell? ⟨xb, xo + q * 2 + 1, none⟩ = some (.int .i64 (t q).v.2) ∧ w'.cell? ⟨xb, xo + p * 2, none⟩ = some (.int .i64 (t p).v.1) ∧ w'.cell? ⟨xb, xo + p * 2 + 1, none⟩ = some (.int .i64 (t p).v.2) ∧ w'.cell? ⟨w.heap.size, 0, none⟩ = some (.int .i64 r.v.1) ∧ w'.cell? ⟨w.heap.size, 1, none⟩ = some (.int .i64 r.v.2)) (by kernel_rfl) (SA.out _ KW.out) (fun hHeld => ?_)
      refine wpAnyH_take (i := 0) (v := ?_) rfl (by kernel_rfl) (by kernel_rfl) (by kernel_rfl) (fun _ _ _ h => h) (Or.inl ⟨by rfl, ?_⟩) (by assumption) ?_
      rotate_left 1
      · (intro w' hSw; (try dsimp only at hSw); go_simp; try with_reducible rfl)
      try simp only [Act.put, List.setIfInBounds_toArray, List.set_cons_zero, List.set_cons_succ, List.getElem_toArray, List.getElem_cons_zero, List.getElem_cons_succ]
      refine wpAnyH_take (i := 1) (v := ?_) rfl (by kernel_rfl) (by kernel_rfl) (by kernel_rfl) (fun _ _ _ h => h) (Or.inl ⟨by rfl, ?_⟩) (by assumption) ?_
      rotate_left 1
      · (intro w' hSw; (try dsimp only at hSw); go_simp; try with_reducible rfl)
      try simp only [Act.put, List.setIfInBounds_toArray, List.set_cons_zero, List.set_cons_succ, List.getElem_toArray, List.getElem_cons_zero, List.getElem_cons_succ]
      refine wpAnyH_take (i := 2) (v := ?_) rfl (by kernel_rfl) (by kernel_rfl) (by kernel_rfl) (fun _ _ _ h => h) (Or.inl ⟨by rfl, ?_⟩) (by assumption) ?_
      rotate_left 1
      · (intro w' hSw; (try dsimp only at hSw); go_simp; try with_reducible rfl)
      try simp only [Act.put, List.setIfInBounds_toArray, List.set_cons_zero, List.set_cons_succ, List.getElem_toArray, List.getElem_cons_zero, List.getElem_cons_succ]
      refine wpAnyH_take (i := 3) (v := ?_) rfl (by kernel_rfl) (by kernel_rfl) (by kernel_rfl) (fun _ _ _ h => h) (Or.inl ⟨by rfl, ?_⟩) (by assumption) ?_
      rotate_left 1
      · (intro w' hSw; (try dsimp only at hSw); go_simp; try with_reducible rfl)
      try simp only [Act.put, List.setIfInBounds_toArray, List.set_cons_zero, List.set_cons_succ, List.getElem_toArray, List.getElem_cons_zero, List.getElem_cons_succ]
      refine wpAnyH_take (i := 4) (v := ?_) rfl (by kernel_rfl) (by kernel_rfl) (by kernel_rfl) (fun _ _ _ h => h) (Or.inl ⟨by rfl, ?_⟩) (by assumption) ?_
      rotate_left 1
      · (intro w' hSw; (try dsimp only at hSw); go_simp; try with_reducible rfl)
      try simp only [Act.put, List.setIfInBounds_toArray, List.set_cons_zero, List.set_cons_succ, List.getElem_toArray, List.getElem_cons_zero, List.getElem_cons_succ]
      refine wpAnyH_take (i := 5) (v := ?_) rfl (by kernel_rfl) (by kernel_rfl) (by kernel_rfl) (fun _ _ _ h => h) (Or.inl ⟨by rfl, ?_⟩) (by assumption) ?_
      rotate_left 1
      · (intro w' hSw; (try dsimp only at hSw); go_simp; try with_reducible rfl)
      try simp only [Act.put, List.setIfInBounds_toArray, List.set_cons_zero, List.set_cons_succ, List.getElem_toArray, List.getElem_cons_zero, List.getElem_cons_succ]
      refine wpAnyH_take (i := 6) (v := ?_) rfl (by kernel_rfl) (by kernel_rfl) (by kernel_rfl) (fun _ _ _ h => h) (Or.inl ⟨by rfl, ?_⟩) (by assumption) ?_
      rotate_left 1
      · (intro w' hSw; (try dsimp only at hSw); go_simp; try with_reducible rfl)
      try simp only [Act.put, List.setIfInBounds_toArray, List.set_cons_zero, List.set_cons_succ, List.getElem_toArray, List.getElem_cons_zero, List.getElem_cons_succ]
      refine wpAnyH_take (i := 7) (v := ?_) rfl (by kernel_rfl) (by kernel_rfl) (by kernel_rfl) (fun _ _ _ h => h) (Or.inl ⟨by rfl, ?_⟩) (by assumption) ?_
      rotate_left 1
      · (intro w' hSw; (try dsimp only at hSw); go_simp; try with_reducible rfl)
      try simp only [Act.put, List.setIfInBounds_toArray, List.set_cons_zero, List.set_cons_succ, List.getElem_toArray, List.getElem_cons_zero, List.getElem_cons_succ]
      refine wpAnyH_take (i := 8) (v := .int .i64 (p : Int)) rfl (by kernel_rfl) (by kernel_rfl) (by kernel_rfl) (fun _ _ _ h => h) (Or.inl ⟨by rfl, ?_⟩) (by assumption) ?_
      · (intro w' hSw; (try dsimp only at hSw); go_simp; first | done | exact hwp)
      try simp only [Act.put, List.setIfInBounds_toArray, List.set_cons_zero, List.set_cons_succ, List.getElem_toArray, List.getElem_cons_zero, List.getElem_cons_succ]
      refine wpAnyH_take (i := 9) (v := ?_) rfl (by kernel_rfl) (by kernel_rfl) (by kernel_rfl) (fun _ _ _ h => h) (Or.inl ⟨by rfl, ?_⟩) (by assumption) ?_
      rotate_left 1
      · (intro w' hSw; (try dsimp only at hSw); go_simp; try with_reducible rfl)
      try simp only [Act.put, List.setIfInBounds_toArray, List.set_cons_zero, List.set_cons_succ, List.getElem_toArray, List.getElem_cons_zero, List.getElem_cons_succ]
      refine wpAnyH_take (i := 10) (v := ?_) rfl (by kernel_rfl) (by kernel_rfl) (by kernel_rfl) (fun _ _ _ h => h) (Or.inl ⟨by rfl, ?_⟩) (by assumption) ?_
      rotate_left 1
      · (intro w' hSw; (try dsimp only at hSw); go_simp; try with_reducible rfl)
      try simp only [Act.put, List.setIfInBounds_toArray, List.set_cons_zero, List.set_cons_succ, List.getElem_toArray, List.getElem_cons_zero, List.getElem_cons_succ]
      refine wpAnyH_take (i := 11) (v := ?_) rfl (by kernel_rfl) (by kernel_rfl) (by kernel_rfl) (fun _ _ _ h => h) (Or.inl ⟨by rfl, ?_⟩) (by assumption) ?_
      rotate_left 1
      · (intro w' hSw; (try dsimp only at hSw); go_simp; try with_reducible rfl)
      try simp only [Act.put, List.setIfInBounds_toArray, List.set_cons_zero, List.set_cons_succ, List.getElem_toArray, List.getElem_cons_zero, List.getElem_cons_succ]
      refine wpAnyH_take (i := 12) (v := ?_) rfl (by kernel_rfl) (by kernel_rfl) (by kernel_rfl) (fun _ _ _ h => h) (Or.inl ⟨by rfl, ?_⟩) (by assumption) ?_
      rotate_left 1
      · (intro w' hSw; (try dsimp only at hSw); go_simp; try with_reducible rfl)
      try simp only [Act.put, List.setIfInBounds_toArray, List.set_cons_zero, List.set_cons_succ, List.getElem_toArray, List.getElem_cons_zero, List.getElem_cons_succ]
      refine wpAnyH_take (i := 13) (v := ?_) rfl (by kernel_rfl) (by kernel_rfl) (by kernel_rfl) (fun _ _ _ h => h) (Or.inl ⟨by rfl, ?_⟩) (by assumption) ?_
      rotate_left 1
      · (intro w' hSw; (try dsimp only at hSw); go_simp; try with_reducible rfl)
      try simp only [Act.put, List.setIfInBounds_toArray, List.set_cons_zero, List.set_cons_succ, List.getElem_toArray, List.getElem_cons_zero, List.getElem_cons_succ]
      refine wpAnyH_take (i := 14) (v := ?_) rfl (by kernel_rfl) (by kernel_rfl) (by kernel_rfl) (fun _ _ _ h => h) (Or.inl ⟨by rfl, ?_⟩) (by assumption) ?_
      rotate_left 1
      · (intro w' hSw; (try dsimp only at hSw); go_simp; try with_reducible rfl)
      try simp only [Act.put, List.setIfInBounds_toArray, List.set_cons_zero, List.set_cons_succ, List.getElem_toArray, List.getElem_cons_zero, List.getElem_cons_succ]
      refine wpAnyH_ready (rs := [15]) (by kernel_rfl) (by simp) ?_
      refine AllReadyH.cons rfl (fun K hK => ?_) AllReadyH.nil
      refine stepL_callN 110 #[.tmp 24, .tmp 28] #[31, 31] (by rfl) (by rfl) #[.agg #[.int .i64 (t p).v.1, .int .i64 (t p).v.2], .agg #[.int .i64 (t q).v.1, .int .i64 (t q).v.2]] (by simp only [List.map_toArray, List.map_cons, List.map_nil] <;> rfl) (run_go Tryz.func110 (by kernel_rfl) (by kernel_rfl) _ _) (sSb_el (t p) (t q) _) ?_
      rintro e U1 ⟨he, kk⟩
      replace HW := hik (flKeep HW.out (KD.out.trans kk))
      replace KD := hik (Chg.refl nob U1)
      refine ⟨_, he, ?_⟩
      replace KW := hik (KW.out.trans kk)
      refine hK.out _ _ (SA.out _ KW.out) (fun hHeld => ?_)
      clear hK K
      try simp only [Act.put, List.setIfInBounds_toArray, List.set_cons_zero, List.set_cons_succ, List.getElem_toArray, List.getElem_cons_zero, List.getElem_cons_succ]
      clear he kk
      refine wpAnyH_ready (rs := [16]) (by kernel_rfl) (by simp) ?_
      refine AllReadyH.cons rfl (fun K hK => ?_) AllReadyH.nil
      refine stepL_callN 109 #[.tmp 19, .tmp 29] #[31, 31] (by rfl) (by rfl) #[.agg #[.int .i64 r.v.1, .int .i64 r.v.2], .agg #[.int .i64 (El.sb (t p) (t q)).v.1, .int .i64 (El.sb (t p) (t q)).v.2]] (by simp only [List.map_toArray, List.map_cons, List.map_nil] <;> rfl) (run_go Tryz.func109 (by kernel_rfl) (by kernel_rfl) _ _) (sMl_el r (El.sb (t p) (t q)) _) ?_
      rintro e U2 ⟨he, kk⟩
      replace HW := hik (flKeep HW.out (KD.out.trans kk))
      replace KD := hik (Chg.refl nob U2)
      refine ⟨_, he, ?_⟩
      replace KW := hik (KW.out.trans kk)
      refine hK.out _ _ (SA.out _ KW.out) (fun hHeld => ?_)
      clear hK K
      try simp only [Act.put, List.setIfInBounds_toArray, List.set_cons_zero, List.set_cons_succ, List.getElem_toArray, List.getElem_cons_zero, List.getElem_cons_succ]
      clear he kk
      refine wpAnyH_ready (rs := [17]) (by kernel_rfl) (by simp) ?_
      refine AllReadyH.cons rfl (fun K hK => ?_) AllReadyH.nil
      refine stepL_callN 66 #[.tmp 18, .tmp 30] #[31, 31] (by rfl) (by rfl) #[.agg #[.int .i64 (t q).v.1, .int .i64 (t q).v.2], .agg #[.int .i64 (El.ml r (El.sb (t p) (t q))).v.1, .int .i64 (El.ml r (El.sb (t p) (t q))).v.2]] (by simp only [List.map_toArray, List.map_cons, List.map_nil] <;> rfl) (run_go Tryz.func66 (by kernel_rfl) (by kernel_rfl) _ _) (sAd_el (t q) (El.ml r (El.sb (t p) (t q))) _) ?_
      rintro e U3 ⟨he, kk⟩
      replace HW := hik (flKeep HW.out (KD.out.trans kk))
      replace KD := hik (Chg.refl nob U3)
      refine ⟨_, he, ?_⟩
      replace KW := hik (KW.out.trans kk)
      refine hK.out _ _ (SA.out _ KW.out) (fun hHeld => ?_)
      clear hK K
      try simp only [Act.put, List.setIfInBounds_toArray, List.set_cons_zero, List.set_cons_succ, List.getElem_toArray, List.getElem_cons_zero, List.getElem_cons_succ]
      clear he kk
      refine wpAnyH_ready (rs := [18]) (by kernel_rfl) (by simp) ?_
      refine AllReadyH.cons rfl (fun K hK => ?_) AllReadyH.nil
      simp only [List.getElem_toArray, List.getElem_cons_zero, List.getElem_cons_succ]
      go_simp
      replace KW := hik (KW.out.alloc (.cells #[.int .i64 (El.ad (t q) (El.ml r (El.sb (t p) (t q)))).v.1, .int .i64 (El.ad (t q) (El.ml r (El.sb (t p) (t q)))).v.2] 31))
      refine hK.out _ _ (SA.out _ KW.out) (fun hHeld => ?_)
      clear hK K
      try simp only [Act.put, List.setIfInBounds_toArray, List.set_cons_zero, List.set_cons_succ, List.getElem_toArray, List.getElem_cons_zero, List.getElem_cons_succ]
      refine wpAnyH_ready (rs := [19]) (by kernel_rfl) (by simp) ?_
      refine AllReadyH.cons rfl (fun K hK => ?_) AllReadyH.nil
      refine step_append_lies _ (by rfl) (.tmp 14) (.tmp 32) 26 (by rfl) (w.heap.size + 1) 31 i0 (.agg #[.int .i64 0, .int .i64 0]) 2 16 Tryz.underlying26 HI.out HZ0.out HZ1.out HZ2.out rfl (by decide) _ k _ (by rfl) (HW.out.alloc _) ⟨_, 0, none⟩ 1 1 [.int .i64 (El.ad (t q) (El.ml r (El.sb (t p) (t q)))).v.1, .int .i64 (El.ad (t q) (El.ml r (El.sb (t p) (t q)))).v.2] (by rfl) rfl (flNews _ _ _ _) (flOne _ _) (by decide) (by unfold maxLen; omega) (by omega) (by have := KW.out.size; simp at this ⊢; omega) _ rfl ?_
      intro g6 cp6 w6 o6 hg6 hat6 hlt6
      replace KW : Hid (Chg nob (w.alloc (.cells #[.int .i64 r.v.1, .int .i64 r.v.2] 31)) w6) := hik (KW.out.grown hg6 (fun b e l => absurd (HW.out.lt b e).1 (by simp at l; omega)))
      have HO := hik o6
      clear o6 hg6 hat6 hlt6
      refine hK.out _ _ (SA.out _ KW.out) (fun hHeld => ?_)
      clear hK K
      try simp only [Act.put, List.setIfInBounds_toArray, List.set_cons_zero, List.set_cons_succ, List.getElem_toArray, List.getElem_cons_zero, List.getElem_cons_succ]
      refine wpAnyH_take (i := 20) (v := ?_) rfl (by kernel_rfl) (by kernel_rfl) (by kernel_rfl) (fun _ _ _ h => h) (Or.inl ⟨by rfl, ?_⟩) (by assumption) ?_
      rotate_left 1
      · (intro w' hSw; (try dsimp only at hSw); go_simp; try with_reducible rfl)
      try simp only [Act.put, List.setIfInBounds_toArray, List.set_cons_zero, List.set_cons_succ, List.getElem_toArray, List.getElem_cons_zero, List.getElem_cons_succ]
      refine wpAnyH_done (by kernel_rfl) ?_ _
      have HO2 : Hid (w6.ownsRow (w.heap.size + 1) 31 2 (.slice (some ⟨g6, 0, none⟩) (k + 1) cp6) (k + 1) ((List.range ((k + 1) * 2)).map (pf (cA (El.fldE t r)) (cB (El.fldE t r))))) := hik (by
        rw [← flPair]
        have eX : El.fldE t r k = (El.ad (t q) (El.ml r (El.sb (t p) (t q)))) := by rw [HP.out, HQ.out]; rfl
        have e1 : cA (El.fldE t r) k = (El.ad (t q) (El.ml r (El.sb (t p) (t q)))).v.1 := by unfold cA; rw [eX]
        have e2 : cB (El.fldE t r) k = (El.ad (t q) (El.ml r (El.sb (t p) (t q)))).v.2 := by unfold cB; rw [eX]
        rw [e1, e2]
        exact HO.out)
      clear HO HW SA hHeld x0 x1 y0 y1 r0 r1
      have KF := hik KW.out
      clear KW HG
      have hw2 : IntKind.i64.wrap ((q : Int) + 2) = ((2 * (k + 1) : Nat) : Int) := by rw [IntKind.wrap_i64]; have := HQ.out; omega
      have hlast : N - (2 * (k + 1)) < N - q := by have := HQ.out; omega
      go_wp2
      go_roundw
      case rel => exact ⟨k + 1, by omega, by first | rfl | (have := HQ.out; congr 1; omega) | go_num, HO2, KF⟩
      case measure => simp [intOf]; (try have := HQ.out); omega
    · obtain rfl : m = k := by omega
      have hNk : ¬ ((2 * m : Nat) : Int) < (N : Int) := by have := HN.out; omega
      go_wp2
      go_ret
      exact SlAns.of_owns HW.out (by omega) (((Chg.refl nob w).alloc _).trans HG.out)

end Go.Proofs.YtgiefpipflcbgadGreatDoor

namespace Go.Proofs.YtgiefpipflcbgadGreatDoor
open Go.ChangeShapes Go.WideShapes Go.ChangeAt Go.RowKit
set_option linter.unusedVariables false
set_option maxRecDepth 100000
set_option linter.unusedSimpArgs false

end Go.Proofs.YtgiefpipflcbgadGreatDoor

namespace Go.Proofs.YtgiefpipflcbgadGreatDoor
open Go.ChangeShapes Go.WideShapes Go.ChangeAt Go.RowKit
set_option linter.unusedVariables false
set_option maxRecDepth 100000
set_option linter.unusedSimpArgs false

end Go.Proofs.YtgiefpipflcbgadGreatDoor

namespace Go.Proofs.YtgiefpipflcbgadGreatDoor
open Go.ChangeShapes Go.WideShapes Go.ChangeAt Go.RowKit
set_option linter.unusedVariables false
set_option maxRecDepth 100000
set_option linter.unusedSimpArgs false

set_option maxHeartbeats 2000000 in
theorem tableAtX_any (c d : Option Addr) (n m cap cap' : Nat) (f g f' g' : Nat → Int) (w : World) (h : Hid (PairV w c n f g)) (h' : Hid (PairV w d m f' g')) (hn : n ≤ 1099511627776) (hm : m ≤ 1099511627776) :
    Calls Tryz.prog 18 #[.slice c n cap, .slice d m cap'] w fun e w' => e = .returned (.tuple #[.agg #[.int .i64 (tav f g n f' g' m).v.1, .int .i64 (tav f g n f' g' m).v.2], .int .i64 (tac f g n f' g' m)]) ∧ Chg nob w w' := by
  by_cases hl1 : 4096 < n
  · have hl' : 4096 < (n : Int) := by omega
    have HC := hik (show tac f g n f' g' m = 2 by unfold tac; rw [if_pos (Or.inl hl1)])
    have HV := hik (show tav f g n f' g' m = El.zr by unfold tav; rw [HC.out]; rfl)
    rw [HC.out, HV.out]
    go_enter Tryz.func18, Tryz.ntmps18
    go_wp2
    exact bodyPost_ret (v := .tuple #[.agg #[.int .i64 0, .int .i64 0], .int .i64 2]) (by simp [results, Tryz.results18, go_sem]) rfl ⟨rfl, (Chg.refl nob w).alloc _⟩
  by_cases hl2 : 4096 < m
  · have hl' : ¬ 4096 < (n : Int) := by omega
    have hl'' : 4096 < (m : Int) := by omega
    have HC := hik (show tac f g n f' g' m = 2 by unfold tac; rw [if_pos (Or.inr hl2)])
    have HV := hik (show tav f g n f' g' m = El.zr by unfold tav; rw [HC.out]; rfl)
    rw [HC.out, HV.out]
    go_enter Tryz.func18, Tryz.ntmps18
    go_wp2
    exact bodyPost_ret (v := .tuple #[.agg #[.int .i64 0, .int .i64 0], .int .i64 2]) (by simp [results, Tryz.results18, go_sem]) rfl ⟨rfl, (Chg.refl nob w).alloc _⟩
  have hl' : ¬ 4096 < (n : Int) := by omega
  have hl'' : ¬ 4096 < (m : Int) := by omega
  have hor : ¬ (4096 < n ∨ 4096 < m) := by omega
  have HOR := hik hor
  clear hor
  cases hk1 : tok f g n
  · have HC := hik (show tac f g n f' g' m = 1 by unfold tac; rw [if_neg HOR.out, hk1]; rfl)
    have HV := hik (show tav f g n f' g' m = El.zr by unfold tav; rw [HC.out]; rfl)
    rw [HC.out, HV.out]
    go_enter Tryz.func18, Tryz.ntmps18
    go_wp2_with (go_at_call 44; refine (tableOK_any c n cap f g _ (hik (h.out.keep ((Chg.refl nob w).alloc _))) hn).mono ?_; rintro e W1 ⟨he, k1⟩; rw [hk1] at he; subst he; have R1 := hik ((ElB.zero w).keep k1); have K1 := hik (((Chg.refl nob w).alloc _).trans k1); clear k1; have c0 : W1.cell? ⟨w.heap.size, 0, none⟩ = some (.int .i64 0) := R1.out.c0; have c1 : W1.cell? ⟨w.heap.size, 1, none⟩ = some (.int .i64 0) := R1.out.c1; have f0 := R1.out.fz 0; have f1 := R1.out.fz 1)
    have u0 : ((W1.setCell ⟨w.heap.size, 0, none⟩ (.int .i64 0)).setCell ⟨w.heap.size, 1, none⟩ (.int .i64 0)).cell? ⟨w.heap.size, 0, none⟩ = some (.int .i64 0) := (R1.out.set El.zr).c0
    have u1 : ((W1.setCell ⟨w.heap.size, 0, none⟩ (.int .i64 0)).setCell ⟨w.heap.size, 1, none⟩ (.int .i64 0)).cell? ⟨w.heap.size, 1, none⟩ = some (.int .i64 0) := (R1.out.set El.zr).c1
    exact bodyPost_ret (v := .tuple #[.agg #[.int .i64 0, .int .i64 0], .int .i64 1]) (by simp [results, Tryz.results18, go_sem, u0, u1]) rfl ⟨rfl, chg2_at K1.out w.heap.size (fun l => absurd l (by omega)) 0 1 (.int .i64 0) (.int .i64 0)⟩
  cases hk2 : pok f' g' m
  · have HC := hik (show tac f g n f' g' m = 1 by unfold tac; rw [if_neg HOR.out, hk1, hk2]; rfl)
    have HV := hik (show tav f g n f' g' m = El.zr by unfold tav; rw [HC.out]; rfl)
    rw [HC.out, HV.out]
    go_enter Tryz.func18, Tryz.ntmps18
    go_wp2_with (first | (go_at_call 44; refine (tableOK_any c n cap f g _ (hik (h.out.keep ((Chg.refl nob w).alloc _))) hn).mono ?_; rintro e W1 ⟨he, k1⟩; rw [hk1] at he; subst he; have R1 := hik ((ElB.zero w).keep k1); have K1 := hik (((Chg.refl nob w).alloc _).trans k1); clear k1; have c0 : W1.cell? ⟨w.heap.size, 0, none⟩ = some (.int .i64 0) := R1.out.c0; have c1 : W1.cell? ⟨w.heap.size, 1, none⟩ = some (.int .i64 0) := R1.out.c1; have f0 := R1.out.fz 0; have f1 := R1.out.fz 1) | (go_at_call 45; refine (pointOK_any d m cap' f' g' _ (hik (h'.out.keep K1.out)) hm).mono ?_; rintro e W2 ⟨he, k2⟩; rw [hk2] at he; subst he; have R2 := hik (R1.out.keep k2); have K2 := hik (K1.out.trans k2); clear k2 c0 c1 f0 f1; have c0 : W2.cell? ⟨w.heap.size, 0, none⟩ = some (.int .i64 0) := R2.out.c0; have c1 : W2.cell? ⟨w.heap.size, 1, none⟩ = some (.int .i64 0) := R2.out.c1; have f0 := R2.out.fz 0; have f1 := R2.out.fz 1))
    have u0 : ((W2.setCell ⟨w.heap.size, 0, none⟩ (.int .i64 0)).setCell ⟨w.heap.size, 1, none⟩ (.int .i64 0)).cell? ⟨w.heap.size, 0, none⟩ = some (.int .i64 0) := (R2.out.set El.zr).c0
    have u1 : ((W2.setCell ⟨w.heap.size, 0, none⟩ (.int .i64 0)).setCell ⟨w.heap.size, 1, none⟩ (.int .i64 0)).cell? ⟨w.heap.size, 1, none⟩ = some (.int .i64 0) := (R2.out.set El.zr).c1
    exact bodyPost_ret (v := .tuple #[.agg #[.int .i64 0, .int .i64 0], .int .i64 1]) (by simp [results, Tryz.results18, go_sem, u0, u1]) rfl ⟨rfl, chg2_at K2.out w.heap.size (fun l => absurd l (by omega)) 0 1 (.int .i64 0) (.int .i64 0)⟩
  by_cases hs : n = 2 ^ m
  rotate_left 1
  · have HC := hik (show tac f g n f' g' m = 8 by unfold tac; rw [if_neg HOR.out, hk1, hk2]; simp [hs])
    obtain ⟨h6, _⟩ := pok_le hk2
    have hsh := shl_pow h6
    have hne : ((n : Int) != 2 ^ m) = true := by
      have e : ((2 : Int) ^ m) = ((2 ^ m : Nat) : Int) := by simp
      rw [e]
      exact bne_iff_ne.2 (by omega)
    have HV := hik (show tav f g n f' g' m = El.zr by unfold tav; rw [HC.out]; rfl)
    rw [HC.out, HV.out]
    go_enter Tryz.func18, Tryz.ntmps18
    go_wp2_with (first | (go_at_call 44; refine (tableOK_any c n cap f g _ (hik (h.out.keep ((Chg.refl nob w).alloc _))) hn).mono ?_; rintro e W1 ⟨he, k1⟩; rw [hk1] at he; subst he; have R1 := hik ((ElB.zero w).keep k1); have K1 := hik (((Chg.refl nob w).alloc _).trans k1); clear k1; have c0 : W1.cell? ⟨w.heap.size, 0, none⟩ = some (.int .i64 0) := R1.out.c0; have c1 : W1.cell? ⟨w.heap.size, 1, none⟩ = some (.int .i64 0) := R1.out.c1; have f0 := R1.out.fz 0; have f1 := R1.out.fz 1) | (go_at_call 45; refine (pointOK_any d m cap' f' g' _ (hik (h'.out.keep K1.out)) hm).mono ?_; rintro e W2 ⟨he, k2⟩; rw [hk2] at he; subst he; have R2 := hik (R1.out.keep k2); have K2 := hik (K1.out.trans k2); clear k2 c0 c1 f0 f1; have c0 : W2.cell? ⟨w.heap.size, 0, none⟩ = some (.int .i64 0) := R2.out.c0; have c1 : W2.cell? ⟨w.heap.size, 1, none⟩ = some (.int .i64 0) := R2.out.c1; have f0 := R2.out.fz 0; have f1 := R2.out.fz 1))
    have u0 : ((W2.setCell ⟨w.heap.size, 0, none⟩ (.int .i64 0)).setCell ⟨w.heap.size, 1, none⟩ (.int .i64 0)).cell? ⟨w.heap.size, 0, none⟩ = some (.int .i64 0) := (R2.out.set El.zr).c0
    have u1 : ((W2.setCell ⟨w.heap.size, 0, none⟩ (.int .i64 0)).setCell ⟨w.heap.size, 1, none⟩ (.int .i64 0)).cell? ⟨w.heap.size, 1, none⟩ = some (.int .i64 0) := (R2.out.set El.zr).c1
    exact bodyPost_ret (v := .tuple #[.agg #[.int .i64 0, .int .i64 0], .int .i64 8]) (by simp [results, Tryz.results18, go_sem, u0, u1]) rfl ⟨rfl, chg2_at K2.out w.heap.size (fun l => absurd l (by omega)) 0 1 (.int .i64 0) (.int .i64 0)⟩
  have HC := hik (show tac f g n f' g' m = 0 by unfold tac; rw [if_neg HOR.out, hk1, hk2]; simp [hs])
  obtain ⟨h6, hok2⟩ := pok_le hk2
  obtain ⟨_, hok1⟩ := tok_p6 hk1
  have HV := hik (show tav f g n f' g' m = El.tat (fitE (elF f g) n zE) (elF f' g') m by
    unfold tav
    rw [HC.out, if_pos rfl]
    exact El.tat_congr (fun i hi => by unfold fitE; rw [if_pos (by omega)]) (fun _ _ => rfl))
  rw [HC.out, HV.out]
  have HS := hik hs
  have h64 : n ≤ 64 := by rw [hs]; exact pow_le6 h6
  have hsh := shl_pow h6
  have hne : ((n : Int) != 2 ^ m) = false := by rw [hs]; simp
  have HP := hik (PairE.of h.out hok1)
  have HP' := hik (PairE.of h'.out hok2)
  clear hs
  go_enter Tryz.func18, Tryz.ntmps18
  go_wp2_with (first
    | (first | (go_at_call 44; refine (tableOK_any c n cap f g _ (hik (h.out.keep ((Chg.refl nob w).alloc _))) hn).mono ?_; rintro e W1 ⟨he, k1⟩; rw [hk1] at he; subst he; have R1 := hik ((ElB.zero w).keep k1); have K1 := hik (((Chg.refl nob w).alloc _).trans k1); clear k1; have c0 : W1.cell? ⟨w.heap.size, 0, none⟩ = some (.int .i64 0) := R1.out.c0; have c1 : W1.cell? ⟨w.heap.size, 1, none⟩ = some (.int .i64 0) := R1.out.c1; have f0 := R1.out.fz 0; have f1 := R1.out.fz 1) | (go_at_call 45; refine (pointOK_any d m cap' f' g' _ (hik (h'.out.keep K1.out)) hm).mono ?_; rintro e W2 ⟨he, k2⟩; rw [hk2] at he; subst he; have R2 := hik (R1.out.keep k2); have K2 := hik (K1.out.trans k2); clear k2 c0 c1 f0 f1; have c0 : W2.cell? ⟨w.heap.size, 0, none⟩ = some (.int .i64 0) := R2.out.c0; have c1 : W2.cell? ⟨w.heap.size, 1, none⟩ = some (.int .i64 0) := R2.out.c1; have f0 := R2.out.fz 0; have f1 := R2.out.fz 1))
    | (go_at_call 46; refine (cubeFrom_any c n cap (elF f g) _ (hik (HP.out.keep K2.out)) h64).mono ?_; rintro e W3 ⟨rfl, k3⟩; have R3 := hik (R2.out.keep k3); have K3 := hik (K2.out.trans k3); clear k3 c0 c1 f0 f1)
    | (go_at_call 47; refine (at_N n m HS.out (fitE (elF f g) n zE) d cap' (elF f' g') _ (hik (HP'.out.keep K3.out)) h6).mono ?_; rintro e W4 ⟨rfl, k4⟩; have R4 := hik (R3.out.keep k4); have K4 := hik (K3.out.trans k4); clear k4; have c0 : W4.cell? ⟨w.heap.size, 0, none⟩ = some (.int .i64 0) := R4.out.c0; have c1 : W4.cell? ⟨w.heap.size, 1, none⟩ = some (.int .i64 0) := R4.out.c1; have f0 := R4.out.fz 0; have f1 := R4.out.fz 1))
  have u0 : ((W4.setCell ⟨w.heap.size, 0, none⟩ (.int .i64 (El.tat (fitE (elF f g) n zE) (elF f' g') m).v.1)).setCell ⟨w.heap.size, 1, none⟩ (.int .i64 (El.tat (fitE (elF f g) n zE) (elF f' g') m).v.2)).cell? ⟨w.heap.size, 0, none⟩ = some (.int .i64 (El.tat (fitE (elF f g) n zE) (elF f' g') m).v.1) := (R4.out.set (El.tat (fitE (elF f g) n zE) (elF f' g') m)).c0
  have u1 : ((W4.setCell ⟨w.heap.size, 0, none⟩ (.int .i64 (El.tat (fitE (elF f g) n zE) (elF f' g') m).v.1)).setCell ⟨w.heap.size, 1, none⟩ (.int .i64 (El.tat (fitE (elF f g) n zE) (elF f' g') m).v.2)).cell? ⟨w.heap.size, 1, none⟩ = some (.int .i64 (El.tat (fitE (elF f g) n zE) (elF f' g') m).v.2) := (R4.out.set (El.tat (fitE (elF f g) n zE) (elF f' g') m)).c1
  exact bodyPost_ret (v := .tuple #[.agg #[.int .i64 (El.tat (fitE (elF f g) n zE) (elF f' g') m).v.1, .int .i64 (El.tat (fitE (elF f g) n zE) (elF f' g') m).v.2], .int .i64 0]) (by simp [results, Tryz.results18, go_sem, u0, u1]) rfl ⟨rfl, chg2_at K4.out w.heap.size (fun l => absurd l (by omega)) 0 1 (.int .i64 (El.tat (fitE (elF f g) n zE) (elF f' g') m).v.1) (.int .i64 (El.tat (fitE (elF f g) n zE) (elF f' g') m).v.2)⟩

end Go.Proofs.YtgiefpipflcbgadGreatDoor
