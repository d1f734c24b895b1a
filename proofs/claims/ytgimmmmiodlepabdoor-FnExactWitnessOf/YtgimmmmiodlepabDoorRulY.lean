/- The map of rules, sums of terms, values of rows: contracts. -/
import Derived.Test.YtgimmmmiodlepabDoorRulX
import Derived.IntWalk
import Derived.Carry
namespace Go.Proofs.YtgimmmmiodlepabDoor
open Go.ChangeShapes Go.WideShapes Go.ChangeAt Go.RowKit
open Go.Maps (Keyed IsMap)
set_option linter.unusedVariables false
set_option maxRecDepth 100000
set_option linter.unusedSimpArgs false

/-- A function's value read as its number. -/
def fnD (v : Value) : DataW Unit := match v with | .func (.func f) a b => if a.size = 0 ∧ b.size = 0 then .lit (.int .i64 f) else .nil | _ => .nil
def fnR (v : Value) : Option (DataW Unit × List MemPlace) := some (fnD v, [])
theorem fnR_inv {v : Value} {f : Nat} {ps : List MemPlace} (h : fnR v = some (.lit (.int .i64 f), ps)) : v = .func (.func f) #[] #[] := by
  unfold fnR at h
  simp only [Option.some.injEq, Prod.mk.injEq] at h
  obtain ⟨h, _⟩ := h
  unfold fnD at h
  split at h
  · rename_i g a b
    split at h
    · rename_i q
      have ea : a = #[] := Array.eq_empty_of_size_eq_zero q.1
      have eb : b = #[] := Array.eq_empty_of_size_eq_zero q.2
      simp at h
      have : g = f := by first | exact h | exact Int.ofNat.inj h | exact Int.ofNat_inj.1 h
      rw [ea, eb, this]
    · cases h
  · cases h
/-- What the rules hold. -/
def rlD : DataW Unit := (DataW.put (DataW.put (DataW.put (DataW.put (DataW.put (DataW.put (DataW.put (DataW.put (.map []) (.int .i64 1) (.lit (.int .i64 70))) (.int .i64 2) (.lit (.int .i64 70))) (.int .i64 3) (.lit (.int .i64 71))) (.int .i64 4) (.lit (.int .i64 72))) (.int .i64 5) (.lit (.int .i64 73))) (.int .i64 6) (.lit (.int .i64 74))) (.int .i64 7) (.lit (.int .i64 75))) (.int .i64 8) (.lit (.int .i64 76)))
def rlF (i : Nat) : Nat := ([70, 70, 71, 72, 73, 74, 75, 76] : List Nat).getD i 0
def Rls (w : World) (b : Nat) : Prop := ∃ n, w.ownsMap Tryd.prog 3 fnR b n rlD
theorem Rls.keep {w w' : World} {b : Nat} (h : Rls w b) (k : Chg nob w w') : Rls w' b := by
  obtain ⟨n, es, ck, hb, r⟩ := h
  have hl : b < w.heap.size := by rw [Array.getElem?_eq_some_iff] at hb; exact hb.1
  exact ⟨n, es, ck, (k.block b hl (fun x => x)).trans hb, r⟩
theorem Rls.chg {P : Nat → Prop} {w w' : World} {b : Nat} (h : Rls w b) (k : Chg P w w') (hp : ¬ P b) : Rls w' b := by
  obtain ⟨n, es, ck, hb, r⟩ := h
  have hl : b < w.heap.size := by rw [Array.getElem?_eq_some_iff] at hb; exact hb.1
  exact ⟨n, es, ck, (k.block b hl hp).trans hb, r⟩
theorem Rls.lt {w : World} {b : Nat} (h : Rls w b) : b < w.heap.size := by
  obtain ⟨n, es, ck, hb, r⟩ := h
  rw [Array.getElem?_eq_some_iff] at hb; exact hb.1
theorem lawI : Keyed Tryd.prog 3 := Go.Maps.int_keyed Tryd.underlying3
theorem keyI (i : Int) (h : (Lit.int .i64 i).wf = true) : keyOf Tryd.prog 3 (.int .i64 i) = some (.int .i64 i) := by
  unfold keyOf
  simp [mapKey, Tryd.underlying3, h]
theorem zeroFn : ∃ z, ∀ w : World, (zeroValue 73).run Tryd.prog w = .ok z w := ⟨_, fun w => by rfl⟩
theorem Rls.at_ {w : World} {b : Nat} (h : Rls w b) (i : Nat) (hi : i < 8) : (Instr.lookup 70 (.map (some b)) (.int .i64 ((i : Int) + 1)) false).run Tryd.prog w = .ok (.func (.func (rlF i)) #[] #[]) w := by
  obtain ⟨n, h⟩ := h
  obtain ⟨z, hz⟩ := zeroFn
  obtain ⟨v, ps, hrun, hv⟩ := h.lookup lawI Tryd.underlying70 (hz w) (rfl : fnR z = some _) (keyI ((i : Int) + 1) (WalkArith.wf_i64 ⟨by omega, by omega⟩))
  rw [hrun]
  have e : rlD.atKey (.int .i64 ((i : Int) + 1)) (fnD z) = .lit (.int .i64 (rlF i)) := by
    rcases (show i = 0 ∨ i = 1 ∨ i = 2 ∨ i = 3 ∨ i = 4 ∨ i = 5 ∨ i = 6 ∨ i = 7 by omega) with rfl | rfl | rfl | rfl | rfl | rfl | rfl | rfl <;> rfl
  rw [e] at hv
  rw [fnR_inv hv]

theorem wpList_insert_own {H : Type} {P : Program} (w : World) {ops : Array Oper} {rest : List Oper} {o : Oper} {a : Act} {Q : Exit → Act → World → Prop}
    (hg : o.guard = none) (m x v : Operand) (t : TypeId) (hop : o.op = Op.insert t m x v)
    (k e : TypeId) (K : Keyed P k) (ht : P.underlying t = some (.map k e)) (R : Value → Option (DataW H × List MemPlace)) (b n : Nat) (D : DataW H)
    (hm : a.eval m = .map (some b)) (hown : w.ownsMap P k R b n D) (hn : n < maxLen) (key val : Value) (kl : Lit) (hx : a.eval x = key) (hv : a.eval v = val) (hkey : keyOf P k key = some kl)
    (d : DataW H) (ps : List MemPlace) (hval : R val = some (d, ps))
    (hK : ∀ w', w'.ownsMap P k R b (n + 1) (D.put kl d) → w.grownBy w' (some b) → wpList P ops Q rest (a.put o.dst undef) w') :
    wpList P ops Q (o :: rest) a w := by
  refine wpList_plain hg fun K' hK' => ?_
  obtain ⟨w', hrun, r1, r2⟩ := hown.update K ht hn hkey hval
  unfold Oper.wp
  simp [execOp, hop, hm, hx, hv, hrun, Result.andThen]
  exact hK' _ _ (hK w' r1 r2)

/-- The rules that a call made. -/
def RlAns (w : World) (e : Ending) (w' : World) : Prop := ∃ b, e = .returned (.map (some b)) ∧ w.heap.size ≤ b ∧ Rls w' b ∧ Chg nob w w'
set_option maxHeartbeats 4000000 in
theorem rules_any (w : World) : Calls Tryd.prog 37 #[] w fun e w' => RlAns w e w' := by
  have hmm := @run_makeMap Tryd.prog
  have G0 := hik (World.ownsMap_made w Tryd.prog 3 fnR)
  have K0 := hik ((Chg.refl nob w).alloc (.map #[] 0))
  go_enter Tryd.func37, Tryd.ntmps37
  go_wp2_with (first
    | ((with_reducible refine wpList_insert_own _ rfl (.tmp 1) (.const (.int .i64 1)) (.func 70) 70 rfl 3 73 lawI Tryd.underlying70 fnR w.heap.size 0 _ ?hx G0.out (by decide) (.int .i64 1) (.func (.func 70) #[] #[]) (.int .i64 1) ?hy ?hz (keyI 1 (by decide)) (.lit (.int .i64 70)) [] rfl ?_); (case hx => rfl); (case hy => rfl); (case hz => rfl); intro w1 o1 g1; have G1 := hik o1; have K1 := hik (K0.out.grown g1 (fun k e hk => by cases e; omega)); clear o1 g1 G0 K0)
    | ((with_reducible refine wpList_insert_own _ rfl (.tmp 1) (.const (.int .i64 2)) (.func 70) 70 rfl 3 73 lawI Tryd.underlying70 fnR w.heap.size 1 _ ?hx G1.out (by decide) (.int .i64 2) (.func (.func 70) #[] #[]) (.int .i64 2) ?hy ?hz (keyI 2 (by decide)) (.lit (.int .i64 70)) [] rfl ?_); (case hx => rfl); (case hy => rfl); (case hz => rfl); intro w2 o2 g2; have G2 := hik o2; have K2 := hik (K1.out.grown g2 (fun k e hk => by cases e; omega)); clear o2 g2 G1 K1)
    | ((with_reducible refine wpList_insert_own _ rfl (.tmp 1) (.const (.int .i64 3)) (.func 71) 70 rfl 3 73 lawI Tryd.underlying70 fnR w.heap.size 2 _ ?hx G2.out (by decide) (.int .i64 3) (.func (.func 71) #[] #[]) (.int .i64 3) ?hy ?hz (keyI 3 (by decide)) (.lit (.int .i64 71)) [] rfl ?_); (case hx => rfl); (case hy => rfl); (case hz => rfl); intro w3 o3 g3; have G3 := hik o3; have K3 := hik (K2.out.grown g3 (fun k e hk => by cases e; omega)); clear o3 g3 G2 K2)
    | ((with_reducible refine wpList_insert_own _ rfl (.tmp 1) (.const (.int .i64 4)) (.func 72) 70 rfl 3 73 lawI Tryd.underlying70 fnR w.heap.size 3 _ ?hx G3.out (by decide) (.int .i64 4) (.func (.func 72) #[] #[]) (.int .i64 4) ?hy ?hz (keyI 4 (by decide)) (.lit (.int .i64 72)) [] rfl ?_); (case hx => rfl); (case hy => rfl); (case hz => rfl); intro w4 o4 g4; have G4 := hik o4; have K4 := hik (K3.out.grown g4 (fun k e hk => by cases e; omega)); clear o4 g4 G3 K3)
    | ((with_reducible refine wpList_insert_own _ rfl (.tmp 1) (.const (.int .i64 5)) (.func 73) 70 rfl 3 73 lawI Tryd.underlying70 fnR w.heap.size 4 _ ?hx G4.out (by decide) (.int .i64 5) (.func (.func 73) #[] #[]) (.int .i64 5) ?hy ?hz (keyI 5 (by decide)) (.lit (.int .i64 73)) [] rfl ?_); (case hx => rfl); (case hy => rfl); (case hz => rfl); intro w5 o5 g5; have G5 := hik o5; have K5 := hik (K4.out.grown g5 (fun k e hk => by cases e; omega)); clear o5 g5 G4 K4)
    | ((with_reducible refine wpList_insert_own _ rfl (.tmp 1) (.const (.int .i64 6)) (.func 74) 70 rfl 3 73 lawI Tryd.underlying70 fnR w.heap.size 5 _ ?hx G5.out (by decide) (.int .i64 6) (.func (.func 74) #[] #[]) (.int .i64 6) ?hy ?hz (keyI 6 (by decide)) (.lit (.int .i64 74)) [] rfl ?_); (case hx => rfl); (case hy => rfl); (case hz => rfl); intro w6 o6 g6; have G6 := hik o6; have K6 := hik (K5.out.grown g6 (fun k e hk => by cases e; omega)); clear o6 g6 G5 K5)
    | ((with_reducible refine wpList_insert_own _ rfl (.tmp 1) (.const (.int .i64 7)) (.func 75) 70 rfl 3 73 lawI Tryd.underlying70 fnR w.heap.size 6 _ ?hx G6.out (by decide) (.int .i64 7) (.func (.func 75) #[] #[]) (.int .i64 7) ?hy ?hz (keyI 7 (by decide)) (.lit (.int .i64 75)) [] rfl ?_); (case hx => rfl); (case hy => rfl); (case hz => rfl); intro w7 o7 g7; have G7 := hik o7; have K7 := hik (K6.out.grown g7 (fun k e hk => by cases e; omega)); clear o7 g7 G6 K6)
    | ((with_reducible refine wpList_insert_own _ rfl (.tmp 1) (.const (.int .i64 8)) (.func 76) 70 rfl 3 73 lawI Tryd.underlying70 fnR w.heap.size 7 _ ?hx G7.out (by decide) (.int .i64 8) (.func (.func 76) #[] #[]) (.int .i64 8) ?hy ?hz (keyI 8 (by decide)) (.lit (.int .i64 76)) [] rfl ?_); (case hx => rfl); (case hy => rfl); (case hz => rfl); intro w8 o8 g8; have G8 := hik o8; have K8 := hik (K7.out.grown g8 (fun k e hk => by cases e; omega)); clear o8 g8 G7 K7))
  go_ret
  exact ⟨w.heap.size, rfl, Nat.le_refl _, ⟨_, G8.out⟩, K8.out⟩

set_option maxHeartbeats 4000000 in
theorem termSum_any (c : Option Addr) (n cap : Nat) (t : Nat → Tm) (cs : Option Addr) (m caps : Nat) (V : Nat → Int) (w : World) (ht : Hid (TrmV w c n t)) (hs : Hid (RowV w cs m (iv V))) (hn : n ≤ 1099511627776) (hm : m ≤ 1099511627776) (hw : Hid (∀ i, i < n → 0 ≤ (t i).1 ∧ (t i).1 < m ∧ fnb (t i).2)) (hV : Hid (∀ j, j < m → fnb (V j))) :
    Calls Tryd.prog 121 #[.slice c n cap, .slice cs m caps] w fun e w' => e = .returned (.int .i64 (tsm V n t)) ∧ Chg nob w w' := by
  go_enter Tryd.func121, Tryd.ntmps121
  go_wp2
  go_loopw [5, 10] (fun v i W => ∃ k : Nat, k ≤ n ∧ i = .int .i64 k ∧ v = .int .i64 (tsm V k t) ∧ Hid (Chg nob w W)) (fun _ i _ => n - (intOf i).toNat)
  case atStart => exact ⟨0, Nat.zero_le _, rfl, rfl, hik (Chg.refl _ _)⟩
  case round =>
    obtain ⟨k, hk, rfl, rfl, HC⟩ := hrel
    rename World => wi
    by_cases hlt : k < n
    · have hkn : ((k : Nat) : Int) < n := by omega
      obtain ⟨xb, xo, rfl, hxb, c0, c1⟩ := (ht.out.keep HC.out) k hlt
      obtain ⟨s0, s1, q0, q1⟩ := hw.out k hlt
      have HST := hik (show tsm V (k + 1) t = (tsm V k t + (t k).2 * V (t k).1.toNat) % 2130706433 from rfl)
      have hb : 0 ≤ tsm V k t ∧ tsm V k t < 2130706433 := by
        cases k with
        | zero => exact ⟨Int.le_refl _, by show (0 : Int) < _; omega⟩
        | succ k => exact ⟨Int.emod_nonneg _ (by omega), Int.emod_lt_of_pos _ (by omega)⟩
      obtain ⟨sn, hsn⟩ : ∃ sn : Nat, (t k).1 = (sn : Int) := ⟨(t k).1.toNat, by omega⟩
      rw [hsn] at s1
      obtain ⟨yb, yo, rfl, hyb, d0⟩ := (hs.out.keep HC.out) sn (by omega)
      obtain ⟨v0, v1⟩ := hV.out sn (by omega)
      have d0 : wi.cell? ⟨yb, yo + sn, none⟩ = some (.int .i64 (V sn)) := d0
      have hsm : (sn : Int) < m := by omega
      simp only [hsn, Int.toNat_natCast] at c0 HST
      dsimp only at c1
      clear s0 s1 hsn
      generalize (t k).2 = tm at c1 q0 q1 HST
      generalize V sn = y at d0 v0 v1 HST
      generalize tsm V k t = S at hb HST
      obtain ⟨m0, m1⟩ := mul_bd q0 q1 v0 v1
      have H8 := hik (show IntKind.i64.wrap (tm * y) = tm * y by rw [Go.IntWalk.i64_left]; exact Go.IntWalk.wrap64_in _ (by omega))
      have H9 := hik (show IntKind.i64.wrap (S + tm * y) = S + tm * y by rw [Go.IntWalk.i64_left]; exact Go.IntWalk.wrap64_in _ (by omega))
      have HT := hik (show (S + tm * y).tmod 2130706433 = (S + tm * y) % 2130706433 from Int.tmod_eq_emod_of_nonneg (by omega))
      have KB := hik ((Chg.refl nob wi).alloc (.cells #[.int .i64 (sn : Int), .int .i64 tm] 133))
      have e0 : World.cell? (wi.alloc (.cells #[.int .i64 (sn : Int), .int .i64 tm] 133)) ⟨wi.heap.size, 0, none⟩ = some (.int .i64 (sn : Int)) := by go_simp
      have e1 : World.cell? (wi.alloc (.cells #[.int .i64 (sn : Int), .int .i64 tm] 133)) ⟨wi.heap.size, 1, none⟩ = some (.int .i64 tm) := by go_simp
      have e2 := KB.out.see d0
      replace HC := hik (HC.out.trans KB.out)
      go_upto_region 5 with fail
      clear c0 c1 d0 KB m0 m1 q0 q1 v0 v1 hb
      generalize wi.alloc (.cells #[.int .i64 (sn : Int), .int .i64 tm] 133) = W0 at e0 e1 e2 HC ⊢
      have KW := hik ((Chg.refl nob W0).drew1)
      have SA := hik (fun (WW : World) (kW : Chg nob W0 WW) => (show (WW.cell? ⟨wi.heap.size, 0, none⟩ = some (.int .i64 (sn : Int)) ∧ WW.cell? ⟨wi.heap.size, 1, none⟩ = some (.int .i64 tm) ∧ WW.cell? ⟨yb, yo + sn, none⟩ = some (.int .i64 y)) from ⟨kW.see e0, kW.see e1, kW.see e2⟩))
      refine wp_region_held_drew (S := fun w' => w'.cell? ⟨wi.heap.size, 0, none⟩ = some (.int .i64 (sn : Int)) ∧ w'.cell? ⟨wi.heap.size, 1, none⟩ = some (.int .i64 tm) ∧ w'.cell? ⟨yb, yo + sn, none⟩ = some (.int .i64 y)) (by kernel_rfl) ⟨e0, e1, e2⟩ (fun hHeld => ?_)
      refine wpAnyH_take (i := 0) (v := ?_) rfl (by kernel_rfl) (by kernel_rfl) (by kernel_rfl) (fun _ _ _ h => h) (Or.inl ⟨by rfl, ?_⟩) (by assumption) ?_
      rotate_left 1
      · (intro w' hSw; (try dsimp only at hSw); go_simp; try with_reducible rfl)
      try simp only [Act.put, List.setIfInBounds_toArray, List.set_cons_zero, List.set_cons_succ, List.getElem_toArray, List.getElem_cons_zero, List.getElem_cons_succ]
      refine wpAnyH_take (i := 1) (v := ?_) rfl (by kernel_rfl) (by kernel_rfl) (by kernel_rfl) (fun _ _ _ h => h) (Or.inl ⟨by rfl, ?_⟩) (by assumption) ?_
      rotate_left 1
      · (intro w' hSw; (try dsimp only at hSw); go_simp; try with_reducible rfl)
      try simp only [Act.put, List.setIfInBounds_toArray, List.set_cons_zero, List.set_cons_succ, List.getElem_toArray, List.getElem_cons_zero, List.getElem_cons_succ]
      refine wpAnyH_take (i := 2) (v := ?_) rfl (by kernel_rfl) (by kernel_rfl) (by kernel_rfl) (fun _ _ _ h => h) (Or.inl ⟨by rfl, ?_⟩) (by assumption) ?_
      rotate_left 1
      · (intro w' hSw; (try dsimp only at hSw); go_simp; try with_reducible rfl)
      try simp only [Act.put, List.setIfInBounds_toArray, List.set_cons_zero, List.set_cons_succ, List.getElem_toArray, List.getElem_cons_zero, List.getElem_cons_succ]
      refine wpAnyH_take (i := 3) (v := ?_) rfl (by kernel_rfl) (by kernel_rfl) (by kernel_rfl) (fun _ _ _ h => h) (Or.inl ⟨by rfl, ?_⟩) (by assumption) ?_
      rotate_left 1
      · (intro w' hSw; (try dsimp only at hSw); go_simp; try with_reducible rfl)
      try simp only [Act.put, List.setIfInBounds_toArray, List.set_cons_zero, List.set_cons_succ, List.getElem_toArray, List.getElem_cons_zero, List.getElem_cons_succ]
      refine wpAnyH_take (i := 4) (v := ?_) rfl (by kernel_rfl) (by kernel_rfl) (by kernel_rfl) (fun _ _ _ h => h) (Or.inl ⟨by rfl, ?_⟩) (by assumption) ?_
      rotate_left 1
      · (intro w' hSw; (try dsimp only at hSw); go_simp; try with_reducible rfl)
      try simp only [Act.put, List.setIfInBounds_toArray, List.set_cons_zero, List.set_cons_succ, List.getElem_toArray, List.getElem_cons_zero, List.getElem_cons_succ]
      refine wpAnyH_take (i := 5) (v := ?_) rfl (by kernel_rfl) (by kernel_rfl) (by kernel_rfl) (fun _ _ _ h => h) (Or.inl ⟨by rfl, ?_⟩) (by assumption) ?_
      rotate_left 1
      · (intro w' hSw; (try dsimp only at hSw); go_simp; try with_reducible rfl)
      try simp only [Act.put, List.setIfInBounds_toArray, List.set_cons_zero, List.set_cons_succ, List.getElem_toArray, List.getElem_cons_zero, List.getElem_cons_succ]
      refine wpAnyH_take (i := 6) (v := ?_) rfl (by kernel_rfl) (by kernel_rfl) (by kernel_rfl) (fun _ _ _ h => h) (Or.inl ⟨by rfl, ?_⟩) (by assumption) ?_
      rotate_left 1
      · (intro w' hSw; (try dsimp only at hSw); go_simp; try with_reducible rfl)
      try simp only [Act.put, List.setIfInBounds_toArray, List.set_cons_zero, List.set_cons_succ, List.getElem_toArray, List.getElem_cons_zero, List.getElem_cons_succ]
      refine wpAnyH_take (i := 7) (v := ?_) rfl (by kernel_rfl) (by kernel_rfl) (by kernel_rfl) (fun _ _ _ h => h) (Or.inl ⟨by rfl, ?_⟩) (by assumption) ?_
      rotate_left 1
      · (intro w' hSw; (try dsimp only at hSw); go_simp; try with_reducible rfl)
      try simp only [Act.put, List.setIfInBounds_toArray, List.set_cons_zero, List.set_cons_succ, List.getElem_toArray, List.getElem_cons_zero, List.getElem_cons_succ]
      refine wpAnyH_take (i := 8) (v := .int .i64 (tm * y)) rfl (by kernel_rfl) (by kernel_rfl) (by kernel_rfl) (fun _ _ _ h => h) (Or.inl ⟨by rfl, ?_⟩) (by assumption) ?_
      · (intro w' hSw; (try dsimp only at hSw); go_simp; first | done | exact H8.out | simp [H8.out])
      try simp only [Act.put, List.setIfInBounds_toArray, List.set_cons_zero, List.set_cons_succ, List.getElem_toArray, List.getElem_cons_zero, List.getElem_cons_succ]
      refine wpAnyH_take (i := 9) (v := .int .i64 (S + tm * y)) rfl (by kernel_rfl) (by kernel_rfl) (by kernel_rfl) (fun _ _ _ h => h) (Or.inl ⟨by rfl, ?_⟩) (by assumption) ?_
      · (intro w' hSw; (try dsimp only at hSw); go_simp; first | done | exact H9.out | simp [H9.out])
      try simp only [Act.put, List.setIfInBounds_toArray, List.set_cons_zero, List.set_cons_succ, List.getElem_toArray, List.getElem_cons_zero, List.getElem_cons_succ]
      refine wpAnyH_take (i := 10) (v := .int .i64 ((S + tm * y) % 2130706433)) rfl (by kernel_rfl) (by kernel_rfl) (by kernel_rfl) (fun _ _ _ h => h) (Or.inl ⟨by rfl, ?_⟩) (by assumption) ?_
      · (intro w' hSw; (try dsimp only at hSw); go_simp; first | done | exact HT.out | simp [HT.out])
      try simp only [Act.put, List.setIfInBounds_toArray, List.set_cons_zero, List.set_cons_succ, List.getElem_toArray, List.getElem_cons_zero, List.getElem_cons_succ]
      refine wpAnyH_take (i := 11) (v := ?_) rfl (by kernel_rfl) (by kernel_rfl) (by kernel_rfl) (fun _ _ _ h => h) (Or.inl ⟨by rfl, ?_⟩) (by assumption) ?_
      rotate_left 1
      · (intro w' hSw; (try dsimp only at hSw); go_simp; try with_reducible rfl)
      try simp only [Act.put, List.setIfInBounds_toArray, List.set_cons_zero, List.set_cons_succ, List.getElem_toArray, List.getElem_cons_zero, List.getElem_cons_succ]
      refine wpAnyH_done (by kernel_rfl) ?_ _
      go_wp2
      go_roundw
      case rel => exact ⟨k + 1, by omega, by go_num, by rw [HST.out], hik (HC.out.trans KW.out)⟩
      case measure => simp [intOf]; omega
    · obtain rfl : n = k := by omega
      go_wp2
      go_ret
      exact ⟨rfl, HC.out⟩

theorem tsm_fn (V : Nat → Int) (n : Nat) (t : Nat → Tm) : 0 ≤ tsm V n t ∧ tsm V n t < 2130706433 := by
  cases n with
  | zero => exact ⟨Int.le_refl _, by show (0 : Int) < _; omega⟩
  | succ k => exact ⟨Int.emod_nonneg _ (by omega), Int.emod_lt_of_pos _ (by omega)⟩
/-- A row's terms are right: their slots are there, their numbers of the field. -/
def rwok (m : Nat) (r : Rw) : Prop := r.nl ≤ 2 ∧ r.nr ≤ 2 ∧ (∀ i, i < r.nl → 0 ≤ (r.L i).1 ∧ (r.L i).1 < m ∧ fnb (r.L i).2) ∧ (∀ i, i < r.nr → 0 ≤ (r.R i).1 ∧ (r.R i).1 < m ∧ fnb (r.R i).2)
set_option maxHeartbeats 4000000 in
theorem value_any (cl : Option Addr) (pl : Nat) (cr : Option Addr) (pr : Nat) (r : Rw) (cs : Option Addr) (m caps : Nat) (V : Nat → Int) (w : World) (hl : Hid (TrmV w cl r.nl r.L)) (hr : Hid (TrmV w cr r.nr r.R)) (hs : Hid (RowV w cs m (iv V))) (hm : m ≤ 1099511627776) (hw : Hid (rwok m r)) (hV : Hid (∀ j, j < m → fnb (V j))) :
    Calls Tryd.prog 105 #[.agg #[.slice cl r.nl pl, .slice cr r.nr pr], .slice cs m caps] w fun e w' => e = .returned (.int .i64 (rwv V r)) ∧ Chg nob w w' := by
  obtain ⟨nl, L, nr, R⟩ := r
  obtain ⟨b1, b2, wl, wr⟩ := hw.out
  simp only at b1 b2 wl wr hl hr
  have WL := hik wl
  have WR := hik wr
  clear wl wr hw
  have KB := hik ((Chg.refl nob w).alloc (.cells #[.slice cl nl pl, .slice cr nr pr] 76))
  have x0 : World.cell? (w.alloc (.cells #[.slice cl nl pl, .slice cr nr pr] 76)) ⟨w.heap.size, 0, none⟩ = some (.slice cl nl pl) := by go_simp
  have x1 : World.cell? (w.alloc (.cells #[.slice cl nl pl, .slice cr nr pr] 76)) ⟨w.heap.size, 1, none⟩ = some (.slice cr nr pr) := by go_simp
  have tl := tsm_fn V nl L
  have tr := tsm_fn V nr R
  have HV := hik (show rwv V ⟨nl, L, nr, R⟩ = tsm V nl L * tsm V nr R % 2130706433 from rfl)
  have hcl := fun W (k : Hid (Chg nob w W)) => termSum_any cl nl pl L cs m caps V W (hik (hl.out.keep k.out)) (hik (hs.out.keep k.out)) (by omega) hm WL hV
  have hcr := fun W (k : Hid (Chg nob w W)) => termSum_any cr nr pr R cs m caps V W (hik (hr.out.keep k.out)) (hik (hs.out.keep k.out)) (by omega) hm WR hV
  generalize rwv V ⟨nl, L, nr, R⟩ = ans at HV ⊢
  generalize tsm V nl L = y at tl HV hcl
  generalize tsm V nr R = z at tr HV hcr
  obtain ⟨m0, m1⟩ := mul_bd tl.1 tl.2 tr.1 tr.2
  have H8 := hik (show IntKind.i64.wrap (y * z) = y * z by rw [Go.IntWalk.i64_left]; exact Go.IntWalk.wrap64_in _ (by omega))
  have HT := hik (show (y * z).tmod 2130706433 = (y * z) % 2130706433 from Int.tmod_eq_emod_of_nonneg (by omega))
  clear m0 m1 tl tr
  go_enter Tryd.func105, Tryd.ntmps105
  go_upto_region 1 with fail
  generalize w.alloc (.cells #[.slice cl nl pl, .slice cr nr pr] 76) = W0 at KB x0 x1 ⊢
  have KW := hik ((Chg.refl nob W0).drew1)
  have SA := hik (fun (WW : World) (kW : Chg nob W0 WW) => (show (WW.cell? ⟨w.heap.size, 0, none⟩ = some (.slice cl nl pl) ∧ WW.cell? ⟨w.heap.size, 1, none⟩ = some (.slice cr nr pr)) from ⟨kW.see x0, kW.see x1⟩))
  refine wp_region_held_drew (S := fun w' => w'.cell? ⟨w.heap.size, 0, none⟩ = some (.slice cl nl pl) ∧ w'.cell? ⟨w.heap.size, 1, none⟩ = some (.slice cr nr pr)) (by kernel_rfl) ⟨x0, x1⟩ (fun hHeld => ?_)
  refine wpAnyH_take (i := 0) (v := ?_) rfl (by kernel_rfl) (by kernel_rfl) (by kernel_rfl) (fun _ _ _ h => h) (Or.inl ⟨by rfl, ?_⟩) (by assumption) ?_
  rotate_left 1
  · (intro w' hSw; (try dsimp only at hSw); go_simp; try with_reducible rfl)
  try simp only [Act.put, List.setIfInBounds_toArray, List.set_cons_zero, List.set_cons_succ, List.getElem_toArray, List.getElem_cons_zero, List.getElem_cons_succ]
  refine wpAnyH_take (i := 1) (v := ?_) rfl (by kernel_rfl) (by kernel_rfl) (by kernel_rfl) (fun _ _ _ h => h) (Or.inl ⟨by rfl, ?_⟩) (by assumption) ?_
  rotate_left 1
  · (intro w' hSw; (try dsimp only at hSw); go_simp; try with_reducible rfl)
  try simp only [Act.put, List.setIfInBounds_toArray, List.set_cons_zero, List.set_cons_succ, List.getElem_toArray, List.getElem_cons_zero, List.getElem_cons_succ]
  refine wpAnyH_take (i := 2) (v := ?_) rfl (by kernel_rfl) (by kernel_rfl) (by kernel_rfl) (fun _ _ _ h => h) (Or.inl ⟨by rfl, ?_⟩) (by assumption) ?_
  rotate_left 1
  · (intro w' hSw; (try dsimp only at hSw); go_simp; try with_reducible rfl)
  try simp only [Act.put, List.setIfInBounds_toArray, List.set_cons_zero, List.set_cons_succ, List.getElem_toArray, List.getElem_cons_zero, List.getElem_cons_succ]
  refine wpAnyH_take (i := 4) (v := ?_) rfl (by kernel_rfl) (by kernel_rfl) (by kernel_rfl) (fun _ _ _ h => h) (Or.inl ⟨by rfl, ?_⟩) (by assumption) ?_
  rotate_left 1
  · (intro w' hSw; (try dsimp only at hSw); go_simp; try with_reducible rfl)
  try simp only [Act.put, List.setIfInBounds_toArray, List.set_cons_zero, List.set_cons_succ, List.getElem_toArray, List.getElem_cons_zero, List.getElem_cons_succ]
  refine wpAnyH_take (i := 5) (v := ?_) rfl (by kernel_rfl) (by kernel_rfl) (by kernel_rfl) (fun _ _ _ h => h) (Or.inl ⟨by rfl, ?_⟩) (by assumption) ?_
  rotate_left 1
  · (intro w' hSw; (try dsimp only at hSw); go_simp; try with_reducible rfl)
  try simp only [Act.put, List.setIfInBounds_toArray, List.set_cons_zero, List.set_cons_succ, List.getElem_toArray, List.getElem_cons_zero, List.getElem_cons_succ]
  refine wpAnyH_take (i := 6) (v := ?_) rfl (by kernel_rfl) (by kernel_rfl) (by kernel_rfl) (fun _ _ _ h => h) (Or.inl ⟨by rfl, ?_⟩) (by assumption) ?_
  rotate_left 1
  · (intro w' hSw; (try dsimp only at hSw); go_simp; try with_reducible rfl)
  try simp only [Act.put, List.setIfInBounds_toArray, List.set_cons_zero, List.set_cons_succ, List.getElem_toArray, List.getElem_cons_zero, List.getElem_cons_succ]
  refine wpAnyH_ready (rs := [3]) (by kernel_rfl) (by simp) ?_
  refine AllReadyH.cons rfl (fun K hK => ?_) AllReadyH.nil
  refine stepL_callN 121 #[.tmp 6, .tmp 7] #[74, 40] (by rfl) (by rfl) #[.slice cl nl pl, .slice cs m caps] (by simp only [List.map_toArray, List.map_cons, List.map_nil] <;> rfl) (run_go Tryd.func121 (by kernel_rfl) (by kernel_rfl) _ _) (hcl _ (hik (KB.out.trans KW.out))) ?_
  rintro e U1 ⟨he, kk⟩
  refine ⟨_, he, ?_⟩
  replace KW := hik (KW.out.trans kk)
  refine hK.out _ _ (SA.out _ KW.out) (fun hHeld => ?_)
  clear hK K
  try simp only [Act.put, List.setIfInBounds_toArray, List.set_cons_zero, List.set_cons_succ, List.getElem_toArray, List.getElem_cons_zero, List.getElem_cons_succ]
  clear he kk
  refine wpAnyH_ready (rs := [7]) (by kernel_rfl) (by simp) ?_
  refine AllReadyH.cons rfl (fun K hK => ?_) AllReadyH.nil
  refine stepL_callN 121 #[.tmp 10, .tmp 11] #[74, 40] (by rfl) (by rfl) #[.slice cr nr pr, .slice cs m caps] (by simp only [List.map_toArray, List.map_cons, List.map_nil] <;> rfl) (run_go Tryd.func121 (by kernel_rfl) (by kernel_rfl) _ _) (hcr _ (hik (KB.out.trans KW.out))) ?_
  rintro e U2 ⟨he, kk⟩
  refine ⟨_, he, ?_⟩
  replace KW := hik (KW.out.trans kk)
  refine hK.out _ _ (SA.out _ KW.out) (fun hHeld => ?_)
  clear hK K
  try simp only [Act.put, List.setIfInBounds_toArray, List.set_cons_zero, List.set_cons_succ, List.getElem_toArray, List.getElem_cons_zero, List.getElem_cons_succ]
  clear he kk
  refine wpAnyH_take (i := 8) (v := .int .i64 (y * z)) rfl (by kernel_rfl) (by kernel_rfl) (by kernel_rfl) (fun _ _ _ h => h) (Or.inl ⟨by rfl, ?_⟩) (by assumption) ?_
  · (intro w' hSw; (try dsimp only at hSw); go_simp; first | done | exact H8.out | simp [H8.out])
  try simp only [Act.put, List.setIfInBounds_toArray, List.set_cons_zero, List.set_cons_succ, List.getElem_toArray, List.getElem_cons_zero, List.getElem_cons_succ]
  refine wpAnyH_take (i := 9) (v := .int .i64 (y * z % 2130706433)) rfl (by kernel_rfl) (by kernel_rfl) (by kernel_rfl) (fun _ _ _ h => h) (Or.inl ⟨by rfl, ?_⟩) (by assumption) ?_
  · (intro w' hSw; (try dsimp only at hSw); go_simp; first | done | exact HT.out | simp [HT.out])
  try simp only [Act.put, List.setIfInBounds_toArray, List.set_cons_zero, List.set_cons_succ, List.getElem_toArray, List.getElem_cons_zero, List.getElem_cons_succ]
  refine wpAnyH_take (i := 10) (v := ?_) rfl (by kernel_rfl) (by kernel_rfl) (by kernel_rfl) (fun _ _ _ h => h) (Or.inl ⟨by rfl, ?_⟩) (by assumption) ?_
  rotate_left 1
  · (intro w' hSw; (try dsimp only at hSw); go_simp; try with_reducible rfl)
  try simp only [Act.put, List.setIfInBounds_toArray, List.set_cons_zero, List.set_cons_succ, List.getElem_toArray, List.getElem_cons_zero, List.getElem_cons_succ]
  refine wpAnyH_done (by kernel_rfl) ?_ _
  go_wp2
  go_ret
  exact ⟨ret_int HV.out.symm, KB.out.trans KW.out⟩
end Go.Proofs.YtgimmmmiodlepabDoor
