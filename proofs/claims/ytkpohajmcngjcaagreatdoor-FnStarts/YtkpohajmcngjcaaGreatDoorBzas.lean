/- Several texts in one: Bits of places, plain: what the language's 'and' and 'xor' of a place and a power of two come to; a table on the way to its coefficients. No program is named here. · What the looks at tables and at points answer, of the program and of the model: contracts. Conditions: rows that can be read, lengths of at most 2 to the 40. · The answers of the calls on tables, plain: codes, lengths, values. No condition but those that each theorem states. · What the model's MatrixAt answers: a contract. Conditions: rows that can be read, lengths of at most 2 to the 40. -/
import Derived.Test.YtkpohajmcngjcaaGreatDoorBzam
import Derived.Test.YtkpohajmcngjcaaGreatDoorBzar
import Derived.Test.YtkpohajmcngjcaaGreatDoorBzap
namespace Go.Proofs.YtkpohajmcngjcaaGreatDoor
set_option linter.unusedVariables false
set_option linter.unusedSimpArgs false

theorem pow_le6 {n : Nat} (h : n ≤ 6) : 2 ^ n ≤ 64 := Nat.le_trans (Nat.pow_le_pow_right (by omega) h) (by decide)
theorem shl_pow {m : Nat} (h : m ≤ 6) : IntKind.i64.wrap (2 ^ m) = ((2 ^ m : Nat) : Int) := by
  have := pow_le6 h
  rw [IntKind.wrap_i64]
  have e : ((2 : Int) ^ m) = ((2 ^ m : Nat) : Int) := by simp
  rw [e]
  generalize 2 ^ m = q at this ⊢
  omega

end Go.Proofs.YtkpohajmcngjcaaGreatDoor

namespace Go.Proofs.YtkpohajmcngjcaaGreatDoor
open Go.ChangeShapes Go.WideShapes Go.ChangeAt Go.RowKit
set_option linter.unusedVariables false
set_option maxRecDepth 100000
set_option linter.unusedSimpArgs false

/-- 1, 2, 4 to 64. -/
def p6 (n : Nat) : Bool := (List.range 7).any fun j => decide (n = 2 ^ j)
theorem p6_yes {n j : Nat} (hj : j ≤ 6) (h : n = 2 ^ j) : p6 n = true := by
  unfold p6
  rw [List.any_eq_true]
  exact ⟨j, by simp; omega, by simpa using h⟩
theorem p6_ex {n : Nat} (h : p6 n = true) : ∃ j, j ≤ 6 ∧ n = 2 ^ j := by
  unfold p6 at h
  rw [List.any_eq_true] at h
  obtain ⟨j, hj, hn⟩ := h
  simp at hj
  exact ⟨j, by omega, by simpa using hn⟩
theorem p6_high {n : Nat} (h : 64 < n) : p6 n = false := by
  cases hp : p6 n
  · rfl
  · obtain ⟨j, hj, hn⟩ := p6_ex hp
    have := pow_le6 hj
    omega
theorem p6_bits : ∀ m : Nat, m < 65 → 1 ≤ m → (bits .and .i64 (m : Int) ((m : Int) - 1) == 0) = p6 m := by decide +kernel
/-- What the program's look at powers of two answers. -/
def q2 (n : Nat) : Bool := decide (1 ≤ n) && (bits .and .i64 (n : Int) ((n : Int) - 1) == 0)
theorem q2_p6 {n : Nat} (h : n ≤ 64) : q2 n = p6 n := by
  unfold q2
  by_cases h0 : 1 ≤ n
  · rw [p6_bits n (by omega) h0, decide_eq_true h0]; rfl
  · obtain rfl : n = 0 := by omega
    rfl
/-- A right table. -/
def tok (f g : Nat → Int) (n : Nat) : Bool := p6 n && okP f g n
/-- A right point. -/
def pok (f g : Nat → Int) (n : Nat) : Bool := decide (n ≤ 6) && okP f g n
theorem tok_p6 {f g : Nat → Int} {n : Nat} (h : tok f g n = true) : p6 n = true ∧ okP f g n = true := by unfold tok at h; simpa using h
theorem pok_le {f g : Nat → Int} {n : Nat} (h : pok f g n = true) : n ≤ 6 ∧ okP f g n = true := by unfold pok at h; simpa using h

set_option maxHeartbeats 1000000 in
theorem isPow_any (n : Nat) (w : World) (hn : n ≤ 1099511627776) : Calls Tryz.prog 94 #[.int .i64 (n : Int)] w fun e w' => e = .returned (.bool (q2 n)) ∧ w' = w := by
  by_cases h0 : 1 ≤ n
  · have h1 : 1 ≤ (n : Int) := by omega
    obtain ⟨b, hb⟩ : ∃ b, b = (bits .and .i64 (n : Int) ((n : Int) - 1) == 0) := ⟨_, rfl⟩
    have HQ := hik (show q2 n = b by unfold q2; rw [decide_eq_true h0, ← hb]; rfl)
    have v1 : IntKind.i64.wrap ((n : Int) - 1) = (n : Int) - 1 := by rw [IntKind.wrap_i64]; omega
    have hb' := hb.symm
    clear hb
    rw [HQ.out]
    cases b
    · go_enter Tryz.func94, Tryz.ntmps94
      go_wp2
      go_ret
      exact ⟨rfl, rfl⟩
    · go_enter Tryz.func94, Tryz.ntmps94
      go_wp2
      go_ret
      exact ⟨rfl, rfl⟩
  · obtain rfl : n = 0 := by omega
    go_enter Tryz.func94, Tryz.ntmps94
    go_wp2
    go_ret
    exact ⟨rfl, rfl⟩

set_option maxHeartbeats 1000000 in
theorem tableOK_any (c : Option Addr) (n cap : Nat) (f g : Nat → Int) (w : World) (h : Hid (PairV w c n f g)) (hn : n ≤ 1099511627776) :
    Calls Tryz.prog 53 #[.slice c n cap] w fun e w' => e = .returned (.bool (tok f g n)) ∧ Chg nob w w' := by
  by_cases h64 : n ≤ 64
  · have e64 : (n : Int) ≤ 64 := by omega
    have hq := q2_p6 h64
    cases hp : p6 n
    · have HT := hik (show tok f g n = false by unfold tok; rw [hp]; rfl)
      rw [hp] at hq
      go_enter Tryz.func53, Tryz.ntmps53
      go_wp2_with (go_at_call 94; refine (isPow_any n _ hn).mono ?_; rintro e W1 ⟨he, rfl⟩; rw [hq] at he; subst he)
      go_ret
      exact ⟨by rw [HT.out]; rfl, Chg.refl _ _⟩
    · have HT := hik (show tok f g n = okP f g n by unfold tok; rw [hp]; rfl)
      rw [hp] at hq
      go_enter Tryz.func53, Tryz.ntmps53
      go_wp2_with (first | (go_at_call 94; refine (isPow_any n _ hn).mono ?_; rintro e W1 ⟨he, rfl⟩; rw [hq] at he; subst he) | (go_at_call 51; refine (extsOK_any c n cap f g _ h hn).mono ?_; rintro e W2 ⟨rfl, k2⟩; have K2 := hik k2; clear k2))
      go_ret
      exact ⟨by rw [HT.out]; rfl, K2.out⟩
  · have HT := hik (show tok f g n = false by unfold tok; rw [p6_high (by omega)]; rfl)
    have e64 : ¬ (n : Int) ≤ 64 := by omega
    cases hq : q2 n
    · go_enter Tryz.func53, Tryz.ntmps53
      go_wp2_with (go_at_call 94; refine (isPow_any n _ hn).mono ?_; rintro e W1 ⟨he, rfl⟩; rw [hq] at he; subst he)
      go_ret
      exact ⟨by rw [HT.out]; rfl, Chg.refl _ _⟩
    · go_enter Tryz.func53, Tryz.ntmps53
      go_wp2_with (go_at_call 94; refine (isPow_any n _ hn).mono ?_; rintro e W1 ⟨he, rfl⟩; rw [hq] at he; subst he)
      go_ret
      exact ⟨by rw [HT.out]; rfl, Chg.refl _ _⟩

set_option maxHeartbeats 1000000 in
theorem pointOK_any (c : Option Addr) (n cap : Nat) (f g : Nat → Int) (w : World) (h : Hid (PairV w c n f g)) (hn : n ≤ 1099511627776) :
    Calls Tryz.prog 54 #[.slice c n cap] w fun e w' => e = .returned (.bool (pok f g n)) ∧ Chg nob w w' := by
  by_cases h6 : n ≤ 6
  · have e6 : (n : Int) ≤ 6 := by omega
    have HT := hik (show pok f g n = okP f g n by unfold pok; rw [decide_eq_true h6]; rfl)
    go_enter Tryz.func54, Tryz.ntmps54
    go_wp2_with (go_at_call 51; refine (extsOK_any c n cap f g _ h hn).mono ?_; rintro e W2 ⟨rfl, k2⟩; have K2 := hik k2; clear k2)
    go_ret
    exact ⟨by rw [HT.out]; rfl, K2.out⟩
  · have e6 : ¬ (n : Int) ≤ 6 := by omega
    have HT := hik (show pok f g n = false by unfold pok; rw [decide_eq_false h6]; rfl)
    go_enter Tryz.func54, Tryz.ntmps54
    go_wp2
    go_ret
    exact ⟨by rw [HT.out]; rfl, Chg.refl _ _⟩


end Go.Proofs.YtkpohajmcngjcaaGreatDoor

namespace Go.Proofs.YtkpohajmcngjcaaGreatDoor
open Go.ChangeShapes Go.WideShapes Go.ChangeAt Go.RowKit
set_option linter.unusedVariables false
set_option linter.unusedSimpArgs false

/-- A slice of elements of a call's own, or none, and a code. -/
def TbC (w : World) (code : Int) (m : Nat) (t : Nat → El) (e : Ending) (w' : World) : Prop :=
  ∃ (c : Option Addr) (cap : Nat), e = .returned (.tuple #[.slice c m cap, .int .i64 code]) ∧ m ≤ cap ∧ (cap : Int) ≤ 9223372036854775807 ∧ OwnE w' w.heap.size c m (cA t) (cB t) ∧ Chg nob w w'
theorem TbC.none {w w' : World} {code k : Int} {m : Nat} {t : Nat → El} (hc : code = k) (hm : m = 0) (kk : Chg nob w w') : TbC w code m t (.returned (.tuple #[.slice .none 0 0, .int .i64 k])) w' := by
  subst hc; subst hm
  exact ⟨.none, 0, rfl, Nat.le_refl _, by omega, OwnE.zero, kk⟩
theorem TbC.some {w w' : World} {code : Int} {m n cap : Nat} {c : Option Addr} {t : Nat → El} (hc : code = 0) (hm : m = n) (h1 : n ≤ cap) (h2 : (cap : Int) ≤ 9223372036854775807) (ho : OwnE w' w.heap.size c n (cA t) (cB t)) (kk : Chg nob w w') : TbC w code m t (.returned (.tuple #[.slice c n cap, .int .i64 0])) w' := by
  subst hc; subst hm
  exact ⟨c, cap, rfl, h1, h2, ho, kk⟩
/-- An empty slice that lies somewhere. -/
theorem TbC.empty {w w' : World} {code k : Int} {m : Nat} {c : Option Addr} {cap : Nat} {t : Nat → El} (hc : code = k) (hm : m = 0) (h2 : (cap : Int) ≤ 9223372036854775807) (kk : Chg nob w w') : TbC w code m t (.returned (.tuple #[.slice c 0 cap, .int .i64 k])) w' := by
  subst hc; subst hm
  exact ⟨c, cap, rfl, Nat.zero_le _, h2, OwnE.zero, kk⟩
/-- CoefsOf's and TableOf's. -/
def l2 (n : Nat) : Nat := ((List.range 7).find? fun j => decide (n = 2 ^ j)).getD 0
/-- TableAt's. -/
def tac (f g : Nat → Int) (n : Nat) (f' g' : Nat → Int) (m : Nat) : Int := if 4096 < n ∨ 4096 < m then 2 else if tok f g n && pok f' g' m then (if n = 2 ^ m then 0 else 8) else 1
def tav (f g : Nat → Int) (n : Nat) (f' g' : Nat → Int) (m : Nat) : El := if tac f g n f' g' m = 0 then El.tat (elF f g) (elF f' g') m else El.zr

end Go.Proofs.YtkpohajmcngjcaaGreatDoor

namespace Go.Proofs.YtkpohajmcngjcaaGreatDoor
open Go.ChangeShapes Go.WideShapes Go.ChangeAt Go.RowKit
set_option linter.unusedVariables false
set_option maxRecDepth 100000
set_option linter.unusedSimpArgs false

/-- What is told of a matrix and two points. -/
def mac (n : Nat) (X : Nat → En) (rx : Nat) (f g : Nat → Int) (ry : Nat) (f' g' : Nat → Int) : Int := if 4096 < n ∨ 4096 < rx ∨ 4096 < ry then 2 else if lgb rx = false ∨ lgb ry = false then 4 else if elm (2 ^ rx) (2 ^ ry) n X = false ∨ okP f g rx = false ∨ okP f' g' ry = false then 1 else 0
def mav (n : Nat) (X : Nat → En) (rx : Nat) (f g : Nat → Int) (ry : Nat) (f' g' : Nat → Int) : El := if mac n X rx f g ry f' g' = 0 then mte X (El.eqp (elF f g) rx) (El.eqp (elF f' g') ry) n else El.zr


end Go.Proofs.YtkpohajmcngjcaaGreatDoor
