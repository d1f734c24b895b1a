/- Words, folded words and bent words, by elements: what the calls answer. Conditions: elements of the greater field, sizes that fit. -/
import Derived.Test.YtagjffjdoimhbadWrdL
import Derived.Test.YtagjffjdoimhbadFowX
namespace Go.Proofs.Ytagjffjdoimhbad
open Go.ChangeShapes Go.WideShapes Go.ChangeAt Go.RowKit
set_option linter.unusedVariables false
set_option maxRecDepth 100000
set_option linter.unusedSimpArgs false

theorem fit_zero {t : Nat → El} {M j : Nat} (h : M ≤ j) : fitE t M zE j = El.zr := by unfold fitE zE; rw [if_neg (by omega)]
theorem zr_v : El.zr.v.1 = 0 ∧ El.zr.v.2 = 0 := ⟨rfl, rfl⟩
theorem bk_congr {m : Nat} {v u : Nat → El} (w : El) (h : ∀ i, i < 2 ^ m → v i = u i) (j : Nat) : El.bk m v w j = El.bk m u w j := by
  unfold El.bk
  rw [El.nt_congr m (El.inv w) h j]
/-- The values of a polynomial of M coefficients are a word. -/
theorem word_is {p s Z : Nat} {c : Nat → El} (hp : p ≤ 9) (hZ : Z = 2 ^ p) (hc : ∀ j, s ≤ j → c j = El.zr) : wdb (El.bk p (El.nt p c (El.rtE p)) (El.rtE p)) s Z = true :=
  wdb_yes (fun j h1 h2 => by
    have := pow_le9 hp
    rw [El.bk_nt (El.rtE_ok (by omega)) (by omega) c (by omega), hc j h1]
    exact zr_v)
/-- With one of them changed they are none. -/
theorem word_bent {p s Z k : Nat} {c : Nat → El} (hp : p ≤ 9) (hZ : Z = 2 ^ p) (hs : s < Z) (hk : k < Z) (hc : ∀ j, s ≤ j → c j = El.zr) :
    wdb (El.bk p (upE (El.nt p c (El.rtE p)) k (El.ad (El.nt p c (El.rtE p) k) El.on)) (El.rtE p)) s Z = false := by
  have h9 := pow_le9 hp
  have hb := El.bk_bent (El.rtE_ok (show p ≤ 24 by omega)) (by omega) (El.nt p c (El.rtE p)) (k := k) (j := s) (by omega) (by omega) (by
    rw [El.bk_nt (El.rtE_ok (by omega)) (by omega) c (by omega), hc s (Nat.le_refl _)])
  rw [bk_congr (u := upE (El.nt p c (El.rtE p)) k (El.ad (El.nt p c (El.rtE p) k) El.on)) (El.rtE p) (fun i _ => by
    unfold upE
    by_cases e : i = k
    · subst e; simp
    · simp [e]) s] at hb
  exact wdb_no hs (Nat.le_refl _) (fun h => hb (El.eq2 h.1 h.2))
/-- A folded word is the word of the folded coefficients. -/
theorem fold_is {L H i : Nat} {c : Nat → El} (hL : L + 1 ≤ 9) (hH : H = 2 ^ L) (r : El) (hi : i < H) : fwE (L + 1) H (El.nt (L + 1) c (El.rtE (L + 1))) r i = El.nt L (El.flC c r) (El.rtE L) i := by
  unfold fwE
  rw [hH, El.fold_nt (El.rtE_ok (show L + 1 ≤ 24 by omega)) c r (by omega), El.rtE_sq (by omega)]
theorem flC_fit (t : Nat → El) (r : El) {M Q : Nat} (hM : M = 2 * Q) (i : Nat) : El.flC (fitE t M zE) r i = fitE (El.flC t r) Q zE i := by
  unfold El.flC fitE zE
  by_cases h : i < Q
  · rw [if_pos (by omega), if_pos (by omega), if_pos h]
  · rw [if_neg (by omega), if_neg (by omega), if_neg h, El.ml_zr, El.ad_zr]
theorem flC_zero {t : Nat → El} {r : El} {M Q : Nat} (hM : M = 2 * Q) {j : Nat} (h : Q ≤ j) : El.flC (fitE t M zE) r j = El.zr := by rw [flC_fit t r hM, fit_zero h]

/-- FoldWord, by elements. -/
theorem fold_el9 (c : Option Addr) (N H L cap : Nat) (hN : N = 2 * H) (hH : H = 2 ^ L) (t : Nat → El) (r : El) (w : World) (h : Hid (PairE w c N t)) (hL : L + 1 ≤ 9) (hc : N ≤ cap) (hcap : (cap : Int) ≤ 9223372036854775807) :
    Calls Try.prog 8 #[.slice c N cap, .agg #[.int .i64 r.v.1, .int .i64 r.v.2]] w fun e w' => TbC w 0 H (fwE (L + 1) H t r) e w' := by
  have hNp : N = 2 ^ (L + 1) := by rw [hN, hH, Nat.pow_succ, Nat.mul_comm]
  have q := fow_any hL c N H cap (cA t) (cB t) r w (hik hNp) hN h (akc7_el t hL hNp) hc hcap
  rw [elF_el] at q
  exact q

end Go.Proofs.Ytagjffjdoimhbad
