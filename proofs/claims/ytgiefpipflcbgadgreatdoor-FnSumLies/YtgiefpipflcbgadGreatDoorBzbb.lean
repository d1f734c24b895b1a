/- Several texts in one: What the looks at tables and at points answer, of the program and of the model: contracts. Conditions: rows that can be read, lengths of at most 2 to the 40. · The answers of the calls on tables, plain: codes, lengths, values. No condition but those that each theorem states. · What the model's bound tables answer: contracts. Conditions: rows that can be read, lengths of at most 2 to the 40. · What the program's coefs and sums of tables by value answer: contracts. Conditions: elements of the greater field, tables of at most 64. · What the program's eqTable and likeness answer: contracts. Conditions: elements of the greater field, a point of at most six that can be read. · What the program's exported calls on tables answer: contracts. Conditions: rows that can be read, lengths of at most 2 to the 40. -/
import Derived.Test.YtgiefpipflcbgadGreatDoorBzaq
import Derived.Test.YtgiefpipflcbgadGreatDoorBzaz
import Derived.Deep.AppendLies
import Derived.Test.YtgiefpipflcbgadGreatDoorBzae
namespace Go.Proofs.YtgiefpipflcbgadGreatDoor
open Go.ChangeShapes Go.WideShapes Go.ChangeAt Go.RowKit
set_option linter.unusedVariables false
set_option maxRecDepth 100000
set_option linter.unusedSimpArgs false

/-- 1, 2, 4 to 64. -/
def p6 (n : Nat) : Bool := (List.range 7).any fun j => decide (n = 2 ^ j)
theorem p6_yes {n j : Nat} (hj : j ≤ 6) (h : n = 2 ^ j) : p6 n = true := by
  unfold p6
  rw [List.any_eq_true]
  exact ⟨j, by simp; omega, by simpa using h⟩
theorem p6_ex {n : Nat} (h : p6 n = true) : ∃ j, j ≤ 6 ∧ n = 2 ^ j := by
  unfold p6 at h
  rw [List.any_eq_true] at h
  obtain ⟨j, hj, hn⟩ := h
  simp at hj
  exact ⟨j, by omega, by simpa using hn⟩
theorem p6_high {n : Nat} (h : 64 < n) : p6 n = false := by
  cases hp : p6 n
  · rfl
  · obtain ⟨j, hj, hn⟩ := p6_ex hp
    have := pow_le6 hj
    omega
theorem p6_bits : ∀ m : Nat, m < 65 → 1 ≤ m → (bits .and .i64 (m : Int) ((m : Int) - 1) == 0) = p6 m := by decide +kernel
/-- What the program's look at powers of two answers. -/
def q2 (n : Nat) : Bool := decide (1 ≤ n) && (bits .and .i64 (n : Int) ((n : Int) - 1) == 0)
theorem q2_p6 {n : Nat} (h : n ≤ 64) : q2 n = p6 n := by
  unfold q2
  by_cases h0 : 1 ≤ n
  · rw [p6_bits n (by omega) h0, decide_eq_true h0]; rfl
  · obtain rfl : n = 0 := by omega
    rfl
/-- A right table. -/
def tok (f g : Nat → Int) (n : Nat) : Bool := p6 n && okP f g n
theorem tok_p6 {f g : Nat → Int} {n : Nat} (h : tok f g n = true) : p6 n = true ∧ okP f g n = true := by unfold tok at h; simpa using h

set_option maxHeartbeats 1000000 in
theorem isPow_any (n : Nat) (w : World) (hn : n ≤ 1099511627776) : Calls Tryz.prog 83 #[.int .i64 (n : Int)] w fun e w' => e = .returned (.bool (q2 n)) ∧ w' = w := by
  by_cases h0 : 1 ≤ n
  · have h1 : 1 ≤ (n : Int) := by omega
    obtain ⟨b, hb⟩ : ∃ b, b = (bits .and .i64 (n : Int) ((n : Int) - 1) == 0) := ⟨_, rfl⟩
    have HQ := hik (show q2 n = b by unfold q2; rw [decide_eq_true h0, ← hb]; rfl)
    have v1 : IntKind.i64.wrap ((n : Int) - 1) = (n : Int) - 1 := by rw [IntKind.wrap_i64]; omega
    have hb' := hb.symm
    clear hb
    rw [HQ.out]
    cases b
    · go_enter Tryz.func83, Tryz.ntmps83
      go_wp2
      go_ret
      exact ⟨rfl, rfl⟩
    · go_enter Tryz.func83, Tryz.ntmps83
      go_wp2
      go_ret
      exact ⟨rfl, rfl⟩
  · obtain rfl : n = 0 := by omega
    go_enter Tryz.func83, Tryz.ntmps83
    go_wp2
    go_ret
    exact ⟨rfl, rfl⟩

set_option maxHeartbeats 1000000 in
theorem tableOK_any (c : Option Addr) (n cap : Nat) (f g : Nat → Int) (w : World) (h : Hid (PairV w c n f g)) (hn : n ≤ 1099511627776) :
    Calls Tryz.prog 44 #[.slice c n cap] w fun e w' => e = .returned (.bool (tok f g n)) ∧ Chg nob w w' := by
  by_cases h64 : n ≤ 64
  · have e64 : (n : Int) ≤ 64 := by omega
    have hq := q2_p6 h64
    cases hp : p6 n
    · have HT := hik (show tok f g n = false by unfold tok; rw [hp]; rfl)
      rw [hp] at hq
      go_enter Tryz.func44, Tryz.ntmps44
      go_wp2_with (go_at_call 83; refine (isPow_any n _ hn).mono ?_; rintro e W1 ⟨he, rfl⟩; rw [hq] at he; subst he)
      go_ret
      exact ⟨by rw [HT.out]; rfl, Chg.refl _ _⟩
    · have HT := hik (show tok f g n = okP f g n by unfold tok; rw [hp]; rfl)
      rw [hp] at hq
      go_enter Tryz.func44, Tryz.ntmps44
      go_wp2_with (first | (go_at_call 83; refine (isPow_any n _ hn).mono ?_; rintro e W1 ⟨he, rfl⟩; rw [hq] at he; subst he) | (go_at_call 43; refine (extsOK_any c n cap f g _ h hn).mono ?_; rintro e W2 ⟨rfl, k2⟩; have K2 := hik k2; clear k2))
      go_ret
      exact ⟨by rw [HT.out]; rfl, K2.out⟩
  · have HT := hik (show tok f g n = false by unfold tok; rw [p6_high (by omega)]; rfl)
    have e64 : ¬ (n : Int) ≤ 64 := by omega
    cases hq : q2 n
    · go_enter Tryz.func44, Tryz.ntmps44
      go_wp2_with (go_at_call 83; refine (isPow_any n _ hn).mono ?_; rintro e W1 ⟨he, rfl⟩; rw [hq] at he; subst he)
      go_ret
      exact ⟨by rw [HT.out]; rfl, Chg.refl _ _⟩
    · go_enter Tryz.func44, Tryz.ntmps44
      go_wp2_with (go_at_call 83; refine (isPow_any n _ hn).mono ?_; rintro e W1 ⟨he, rfl⟩; rw [hq] at he; subst he)
      go_ret
      exact ⟨by rw [HT.out]; rfl, Chg.refl _ _⟩

end Go.Proofs.YtgiefpipflcbgadGreatDoor

namespace Go.Proofs.YtgiefpipflcbgadGreatDoor
open Go.ChangeShapes Go.WideShapes Go.ChangeAt Go.RowKit
set_option linter.unusedVariables false
set_option linter.unusedSimpArgs false

/-- A slice of elements of a call's own, or none, and a code. -/
def TbC (w : World) (code : Int) (m : Nat) (t : Nat → El) (e : Ending) (w' : World) : Prop :=
  ∃ (c : Option Addr) (cap : Nat), e = .returned (.tuple #[.slice c m cap, .int .i64 code]) ∧ m ≤ cap ∧ (cap : Int) ≤ 9223372036854775807 ∧ OwnE w' w.heap.size c m (cA t) (cB t) ∧ Chg nob w w'
theorem TbC.none {w w' : World} {code k : Int} {m : Nat} {t : Nat → El} (hc : code = k) (hm : m = 0) (kk : Chg nob w w') : TbC w code m t (.returned (.tuple #[.slice .none 0 0, .int .i64 k])) w' := by
  subst hc; subst hm
  exact ⟨.none, 0, rfl, Nat.le_refl _, by omega, OwnE.zero, kk⟩
theorem TbC.some {w w' : World} {code : Int} {m n cap : Nat} {c : Option Addr} {t : Nat → El} (hc : code = 0) (hm : m = n) (h1 : n ≤ cap) (h2 : (cap : Int) ≤ 9223372036854775807) (ho : OwnE w' w.heap.size c n (cA t) (cB t)) (kk : Chg nob w w') : TbC w code m t (.returned (.tuple #[.slice c n cap, .int .i64 0])) w' := by
  subst hc; subst hm
  exact ⟨c, cap, rfl, h1, h2, ho, kk⟩
/-- An empty slice that lies somewhere. -/
theorem TbC.empty {w w' : World} {code k : Int} {m : Nat} {c : Option Addr} {cap : Nat} {t : Nat → El} (hc : code = k) (hm : m = 0) (h2 : (cap : Int) ≤ 9223372036854775807) (kk : Chg nob w w') : TbC w code m t (.returned (.tuple #[.slice c 0 cap, .int .i64 k])) w' := by
  subst hc; subst hm
  exact ⟨c, cap, rfl, Nat.zero_le _, h2, OwnE.zero, kk⟩
/-- CoefsOf's and TableOf's. -/
def l2 (n : Nat) : Nat := ((List.range 7).find? fun j => decide (n = 2 ^ j)).getD 0

end Go.Proofs.YtgiefpipflcbgadGreatDoor

namespace Go.Proofs.YtgiefpipflcbgadGreatDoor
open Go.ChangeShapes Go.WideShapes Go.ChangeAt Go.RowKit
set_option linter.unusedVariables false
set_option maxRecDepth 100000
set_option linter.unusedSimpArgs false

theorem flKeep {w w' : World} {B : Nat} {t : TypeId} {z : Nat} {v : Value} {n : Nat} {xs : List Value} (h : w.ownsRow B t z v n xs) (k : Chg nob w w') : w'.ownsRow B t z v n xs :=
  h.kept (row := none) ⟨k.os, k.tape, k.output, k.size, fun i hi _ => k.block i hi (fun x => x)⟩ (by cases e : v.ownBlock <;> simp)
theorem flNone (w : World) (B : Nat) (t : TypeId) (z : Nat) (hB : B ≤ w.heap.size) : (w.alloc (.cells #[] t)).ownsRow B t z (.slice (some ⟨w.heap.size, 0, none⟩) 0 0) 0 [] :=
  ⟨by simp, .inr ⟨w.heap.size, 0, #[], rfl, hB, Array.getElem?_push_size, Nat.le_refl _, Nat.zero_le _, by simp, by simp⟩⟩
theorem flNews (W : World) (a b : Int) (T : TypeId) : ∀ j u, ([.int .i64 a, .int .i64 b] : List Value)[j]? = some u → (W.alloc (.cells #[.int .i64 a, .int .i64 b] T)).cell? ((⟨W.heap.size, 0, none⟩ : Addr).add j) = some u := by
  intro j u hj
  match j, hj with
  | 0, hj => simp at hj; subst hj; simp [Addr.add]
  | 1, hj => simp at hj; subst hj; simp [Addr.add]
  | j + 2, hj => simp at hj
theorem flOne (a b : Int) : ∀ u ∈ ([.int .i64 a, .int .i64 b] : List Value), u.oneCell' = true := by
  intro u hu
  simp at hu
  rcases hu with rfl | rfl <;> rfl
theorem flPair (f g : Nat → Int) (k : Nat) : (List.range (k * 2)).map (pf f g) ++ [.int .i64 (f k), .int .i64 (g k)] = (List.range ((k + 1) * 2)).map (pf f g) := by
  rw [show (k + 1) * 2 = k * 2 + 1 + 1 by omega, List.range_succ, List.range_succ]
  simp [pf_even, pf_odd]
/-- A row of a call's own as a slice. -/
theorem SlAns.of_owns {w w' : World} {B n : Nat} {v : Value} {t : Nat → El} (ho : w'.ownsRow B 31 2 v n ((List.range (n * 2)).map (pf (cA t) (cB t)))) (hB : w.heap.size ≤ B) (k : Chg nob w w') : SlAns w n t (.returned v) w' := by
  rcases ho.2 with ⟨rfl, rfl⟩ | ⟨b, cp, cur, ev, _, _, hl, hm, _⟩
  · exact ⟨none, 0, rfl, Nat.le_refl _, by omega, .inl rfl, k⟩
  · obtain ⟨c', cap', e', hle, h⟩ := OwnE.of_owns ho
    rw [e'] at ev
    simp at ev
    obtain ⟨rfl, rfl⟩ := ev
    exact ⟨_, _, by rw [e'], hle, by unfold maxLen at hm; omega, OwnE.low h hB, k⟩

end Go.Proofs.YtgiefpipflcbgadGreatDoor

namespace Go.Proofs.YtgiefpipflcbgadGreatDoor
open Go.ChangeShapes Go.WideShapes Go.ChangeAt Go.RowKit
set_option linter.unusedVariables false
set_option maxRecDepth 100000
set_option linter.unusedSimpArgs false

end Go.Proofs.YtgiefpipflcbgadGreatDoor

namespace Go.Proofs.YtgiefpipflcbgadGreatDoor
open Go.ChangeShapes Go.WideShapes Go.ChangeAt Go.RowKit
set_option linter.unusedVariables false
set_option maxRecDepth 100000
set_option linter.unusedSimpArgs false

end Go.Proofs.YtgiefpipflcbgadGreatDoor

namespace Go.Proofs.YtgiefpipflcbgadGreatDoor
open Go.ChangeShapes Go.WideShapes Go.ChangeAt Go.RowKit
set_option linter.unusedVariables false
set_option maxRecDepth 100000
set_option linter.unusedSimpArgs false

end Go.Proofs.YtgiefpipflcbgadGreatDoor
