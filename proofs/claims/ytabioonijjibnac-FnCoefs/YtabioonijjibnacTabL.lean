/- The calls on tables at right arguments, told by elements: contracts. Conditions: elements of the greater field, tables and points whose sizes fit. -/
import Derived.Test.YtabioonijjibnacLawT
namespace Go.Proofs.Ytabioonijjibnac
open Go.ChangeShapes Go.WideShapes Go.ChangeAt Go.RowKit
set_option linter.unusedVariables false
set_option maxRecDepth 100000
set_option linter.unusedSimpArgs false

theorem elF_el (t : Nat → El) : elF (cA t) (cB t) = t := by
  funext i
  exact El.eq (elP_v (eok_el (t i)))
theorem elP_el (x : El) : elP x.v.1 x.v.2 = x := El.eq (elP_v (eok_el x))
theorem pok_el (t : Nat → El) {n : Nat} (h : n ≤ 6) : pok (cA t) (cB t) n = true := by unfold pok; rw [okP_el, decide_eq_true h]; rfl
theorem tok_el (t : Nat → El) {n N : Nat} (h : n ≤ 6) (hN : N = 2 ^ n) : tok (cA t) (cB t) N = true := by unfold tok; rw [okP_el, p6_yes h hN]; rfl
/-- A slice of elements of a call's own, and the code of no fault. -/
def TbE (w : World) (m : Nat) (t : Nat → El) (e : Ending) (w' : World) : Prop :=
  ∃ (c : Option Addr) (cap : Nat), e = .returned (.tuple #[.slice c m cap, .int .i64 0]) ∧ OwnE w' w.heap.size c m (cA t) (cB t) ∧ Chg nob w w'
theorem TbE.of {w : World} {code : Int} {m m' : Nat} {t t' : Nat → El} {e : Ending} {w' : World} (h : TbC w code m t e w') (hc : code = 0) (hm : m = m') (ht : t = t') : TbE w m' t' e w' := by
  subst hc hm ht
  obtain ⟨c, cap, rfl, _, _, ho, k⟩ := h
  exact ⟨c, cap, rfl, ho, k⟩
theorem eqc_el (p : Nat → El) {n : Nat} (h : n ≤ 6) : eqc (cA p) (cB p) n = 0 := by unfold eqc; rw [if_neg (by omega), pok_el p h]; rfl
theorem eqm_el (p : Nat → El) {n : Nat} (h : n ≤ 6) : eqm (cA p) (cB p) n = 2 ^ n := by unfold eqm; rw [eqc_el p h]; rfl
theorem eqt_el (p : Nat → El) (n : Nat) : eqt (cA p) (cB p) n = El.eqp p n := by unfold eqt; rw [elF_el]
theorem tbc_el (t : Nat → El) {n N : Nat} (h : n ≤ 6) (hN : N = 2 ^ n) : tbc (cA t) (cB t) N = 0 := by
  have := pow_le6 h
  unfold tbc; rw [if_neg (by omega), tok_el t h hN]; rfl
theorem tbm_el (t : Nat → El) {n N : Nat} (h : n ≤ 6) (hN : N = 2 ^ n) : tbm (cA t) (cB t) N = N := by unfold tbm; rw [tbc_el t h hN]; rfl
theorem cft_el (back : Bool) (t : Nat → El) {n N : Nat} (h : n ≤ 6) (hN : N = 2 ^ n) : cft back (cA t) (cB t) N = El.cfs back t n := by unfold cft; rw [elF_el, hN, l2_pow h]

theorem eqTab_el (c : Option Addr) (n cap : Nat) (p : Nat → El) (w : World) (h : Hid (PairE w c n p)) (h6 : n ≤ 6) : Calls Try.prog 8 #[.slice c n cap] w fun e w' => TbE w (2 ^ n) (El.eqp p n) e w' :=
  (eqTabX_any c n cap (cA p) (cB p) w h (by omega)).mono (fun e w' q => TbE.of q (eqc_el p h6) (eqm_el p h6) (eqt_el p n))

theorem sEqTab_el (c : Option Addr) (n cap : Nat) (p : Nat → El) (w : World) (h : Hid (PairE w c n p)) (h6 : n ≤ 6) : Calls Try.prog 9 #[.slice c n cap] w fun e w' => TbE w (2 ^ n) (El.eqp p n) e w' :=
  (sEqTab_any c n cap (cA p) (cB p) w h (by omega)).mono (fun e w' q => TbE.of q (eqc_el p h6) (eqm_el p h6) (eqt_el p n))

theorem coefs_el (c : Option Addr) (N n cap : Nat) (hN : N = 2 ^ n) (t : Nat → El) (w : World) (h : Hid (PairE w c N t)) (h6 : n ≤ 6) : Calls Try.prog 18 #[.slice c N cap] w fun e w' => TbE w N (El.cfs false t n) e w' :=
  (coefsX_any c N cap (cA t) (cB t) w h (by have := pow_le6 h6; omega)).mono (fun e w' q => TbE.of q (tbc_el t h6 hN) (tbm_el t h6 hN) (cft_el false t h6 hN))

theorem sCoefs_el (c : Option Addr) (N n cap : Nat) (hN : N = 2 ^ n) (t : Nat → El) (w : World) (h : Hid (PairE w c N t)) (h6 : n ≤ 6) : Calls Try.prog 19 #[.slice c N cap] w fun e w' => TbE w N (El.cfs false t n) e w' :=
  (sCoefsX_any c N cap (cA t) (cB t) w h (by have := pow_le6 h6; omega)).mono (fun e w' q => TbE.of q (tbc_el t h6 hN) (tbm_el t h6 hN) (cft_el false t h6 hN))

theorem tableOf_el (c : Option Addr) (N n cap : Nat) (hN : N = 2 ^ n) (t : Nat → El) (w : World) (h : Hid (PairE w c N t)) (h6 : n ≤ 6) : Calls Try.prog 20 #[.slice c N cap] w fun e w' => TbE w N (El.cfs true t n) e w' :=
  (tableOfX_any c N cap (cA t) (cB t) w h (by have := pow_le6 h6; omega)).mono (fun e w' q => TbE.of q (tbc_el t h6 hN) (tbm_el t h6 hN) (cft_el true t h6 hN))

theorem fold_el (c : Option Addr) (N n cap : Nat) (hN : N = 2 ^ (n + 1)) (t : Nat → El) (r : El) (w : World) (h : Hid (PairE w c N t)) (h6 : n + 1 ≤ 6) : Calls Try.prog 16 #[.slice c N cap, .agg #[.int .i64 r.v.1, .int .i64 r.v.2]] w fun e w' => TbE w (2 ^ n) (El.fldE t r) e w' := by
  have h64 := pow_le6 h6
  have h1 : ¬ N = 1 := by rw [hN, Nat.pow_succ]; have := Nat.one_le_two_pow (n := n); omega
  have hc : flc (cA t) (cB t) N r.v.1 r.v.2 = 0 := by unfold flc; rw [if_neg (by omega), tok_el t h6 hN, eok_el r]; simp [h1]
  refine (foldX_any c N cap (cA t) (cB t) r.v.1 r.v.2 w h (by omega)).mono (fun e w' q => TbE.of q hc ?_ ?_)
  · unfold flm; rw [hc, if_pos rfl, hN, Nat.pow_succ]; omega
  · unfold flt; rw [elF_el, elP_el]

theorem tableOK_el (c : Option Addr) (N n cap : Nat) (hN : N = 2 ^ n) (t : Nat → El) (w : World) (h : Hid (PairE w c N t)) (h6 : n ≤ 6) : Calls Try.prog 17 #[.slice c N cap] w fun e w' => e = .returned (.bool true) ∧ Chg nob w w' :=
  (tableOK_any c N cap (cA t) (cB t) w h (by have := pow_le6 h6; omega)).mono (fun e w' q => ⟨by rw [q.1, tok_el t h6 hN], q.2⟩)

theorem eqAt_el (c d : Option Addr) (n cap cap' : Nat) (p q : Nat → El) (w : World) (h : Hid (PairE w c n p)) (h' : Hid (PairE w d n q)) (h6 : n ≤ 6) : Calls Try.prog 12 #[.slice c n cap, .slice d n cap'] w fun e w' => e = .returned (.tuple #[.agg #[.int .i64 (El.eqa p q n).v.1, .int .i64 (El.eqa p q n).v.2], .int .i64 0]) ∧ Chg nob w w' := by
  have hc : eac (cA p) (cB p) n (cA q) (cB q) n = 0 := by unfold eac; rw [if_neg (by omega), pok_el p h6, pok_el q h6]; simp
  have hv : eav (cA p) (cB p) n (cA q) (cB q) n = El.eqa p q n := by unfold eav; rw [hc, if_pos rfl, elF_el, elF_el]
  have r := eqAtX_any c d n n cap cap' (cA p) (cB p) (cA q) (cB q) w h h' (by omega) (by omega)
  rw [hc, hv] at r
  exact r

theorem tableAt_el (c d : Option Addr) (N n cap cap' : Nat) (hN : N = 2 ^ n) (t p : Nat → El) (w : World) (h : Hid (PairE w c N t)) (h' : Hid (PairE w d n p)) (h6 : n ≤ 6) : Calls Try.prog 14 #[.slice c N cap, .slice d n cap'] w fun e w' => e = .returned (.tuple #[.agg #[.int .i64 (El.tat t p n).v.1, .int .i64 (El.tat t p n).v.2], .int .i64 0]) ∧ Chg nob w w' := by
  have h64 := pow_le6 h6
  have hc : tac (cA t) (cB t) N (cA p) (cB p) n = 0 := by unfold tac; rw [if_neg (by omega), tok_el t h6 hN, pok_el p h6]; simp [hN]
  have hv : tav (cA t) (cB t) N (cA p) (cB p) n = El.tat t p n := by unfold tav; rw [hc, if_pos rfl, elF_el, elF_el]
  have r := tableAtX_any c d N n cap cap' (cA t) (cB t) (cA p) (cB p) w h h' (by omega) (by omega)
  rw [hc, hv] at r
  exact r

theorem sTableAt_el (c d : Option Addr) (N n cap cap' : Nat) (hN : N = 2 ^ n) (t p : Nat → El) (w : World) (h : Hid (PairE w c N t)) (h' : Hid (PairE w d n p)) (h6 : n ≤ 6) : Calls Try.prog 15 #[.slice c N cap, .slice d n cap'] w fun e w' => e = .returned (.tuple #[.agg #[.int .i64 (El.tat t p n).v.1, .int .i64 (El.tat t p n).v.2], .int .i64 0]) ∧ Chg nob w w' := by
  have h64 := pow_le6 h6
  have hc : tac (cA t) (cB t) N (cA p) (cB p) n = 0 := by unfold tac; rw [if_neg (by omega), tok_el t h6 hN, pok_el p h6]; simp [hN]
  have hv : tav (cA t) (cB t) N (cA p) (cB p) n = El.tat t p n := by unfold tav; rw [hc, if_pos rfl, elF_el, elF_el]
  have r := sTableAtX_any c d N n cap cap' (cA t) (cB t) (cA p) (cB p) w h h' (by omega) (by omega)
  rw [hc, hv] at r
  exact r
end Go.Proofs.Ytabioonijjibnac
