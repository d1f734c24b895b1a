/- Several texts in one: What the program's interpolate does to a list of its own, and what its copy of a list is: contracts. Conditions: a block of the call's own, 2 to the m elements, at most 512. · What the program's EncodeWord and Ntt answer: contracts. Conditions: lists that can be read, of at most 2 to the 40. -/
import Derived.Test.YtagjffjdoimhbacBdm
import Derived.Test.YtagjffjdoimhbacWrdX
import Derived.Laws.Cover3
import Derived.Test.YtagjffjdoimhbacRowA
import Derived.Laws.CopyRow
import Derived.Laws.CopyOwn
namespace Go.Proofs.Ytagjffjdoimhbac
open Go.ChangeShapes Go.WideShapes Go.ChangeAt Go.RowKit
set_option linter.unusedVariables false
set_option maxRecDepth 100000
set_option linter.unusedSimpArgs false

theorem nbv9 {k : Nat} (h : k < 2130706433) : (El.nb k).v.1 = (k : Int) := by simp only [El.nb]; omega
theorem nbw9 (k : Nat) : (El.nb k).v.2 = 0 := rfl
theorem inv9 (j : Nat) (hj : j < 2130706433) (w : World) : Calls Try.prog 96 #[.agg #[.int .i64 (j : Int), .int .i64 0]] w fun e w' => e = .returned (.agg #[.int .i64 (El.inv (El.nb j)).v.1, .int .i64 (El.inv (El.nb j)).v.2]) ∧ Chg nob w w' := by
  have h := extInv_any (El.nb j).v.1 (El.nb j).v.2 w (El.nb j).lo1 (El.nb j).hi1 (El.nb j).lo2 (El.nb j).hi2
  have e1 : (El.inv (El.nb j)).v.1 = Fld.iA (El.nb j).v.1 (El.nb j).v.2 := rfl
  have e2 : (El.inv (El.nb j)).v.2 = Fld.iB (El.nb j).v.1 (El.nb j).v.2 := rfl
  rw [← e1, ← e2, nbv9 hj, nbw9] at h
  exact h
/-- The first k of a list times y. -/
def scE (T : Nat → El) (y : El) (k i : Nat) : El := if i < k then El.ml (T i) y else T i
theorem scE_step (T : Nat → El) (y : El) (k i : Nat) : upE (scE T y k) k (El.ml (T k) y) i = scE T y (k + 1) i := by
  unfold upE scE
  by_cases e : i = k
  · subst e; rw [if_pos rfl, if_pos (by omega)]
  · rw [if_neg e]
    by_cases h : i < k
    · rw [if_pos h, if_pos (by omega)]
    · rw [if_neg h, if_neg (by omega)]
theorem scE_at (T : Nat → El) (y : El) (k : Nat) : scE T y k k = T k := by unfold scE; rw [if_neg (by omega)]

set_option maxHeartbeats 2000000 in
theorem itp_any {m : Nat} (hm : m ≤ 9) (b N cap M : Nat) (h : Nat → Value) (T : Nat → El) (w : World) (HN : Hid (N = 2 ^ m)) (hr : Hid (RowX w b M N h T)) (hc : N ≤ cap) (hcap : (cap : Int) ≤ 9223372036854775807) :
    Calls Try.prog 73 #[.slice (some ⟨b, 0, none⟩) N cap] w fun e w' => e = .returned (.tuple #[]) ∧ RowX w' b M N h (El.bk m T (El.rtE m)) ∧ Chg (fun x => x = b) w w' := by
  have hN5 : N ≤ 512 := by rw [HN.out]; exact pow_le9 hm
  have hbw : b < w.heap.size := hr.out.lt
  go_enter Try.func73, Try.ntmps73
  go_wp2_with fail
  refine (inverseRoot_any hm N HN _).mono ?_
  rintro e W1 ⟨rfl, k1⟩
  have R1 := hik (hr.out.keep k1)
  have G1 := hik (Chg.wide (P := fun x => x = b) k1)
  clear k1 hr
  go_wp2_with fail
  refine (evl_any m 0 b 0 N cap M N h T (El.inv (El.rtE m)) _ HN.out hm rfl R1 (by omega) (by omega) hc hcap).mono ?_
  rintro e W2 ⟨rfl, r2, k2⟩
  obtain ⟨T1, hT1⟩ : ∃ T1, T1 = sgE T 0 N (El.nt m (fun i => T (0 + i)) (El.inv (El.rtE m))) := ⟨_, rfl⟩
  rw [← hT1] at r2
  have R2 := hik r2
  have HT1 := hik hT1
  have G2 := hik (G1.out.trans k2)
  clear k2 r2 R1 G1 hT1
  go_wp2_with fail
  refine (inv9 N (by omega) _).mono ?_
  rintro e W3 ⟨rfl, k3⟩
  obtain ⟨y, hy⟩ : ∃ y, y = El.inv (El.nb N) := ⟨_, rfl⟩
  rw [← hy]
  have HY := hik hy
  have hl3 : b < W3.heap.size := (R2.out.keep k3).lt
  have R3 := hik ((R2.out.keep k3).keep ((Chg.refl nob _).alloc (.cells #[.int .i64 y.v.1, .int .i64 y.v.2] 31)))
  have G3 := hik ((G2.out.trans (Chg.wide k3)).alloc (.cells #[.int .i64 y.v.1, .int .i64 y.v.2] 31))
  have Y3 := hik (ElB.new W3 y)
  have h2 := G2.out.size
  have h3 := k3.size
  clear k3 R2 G2 hy
  go_wp2
  go_loopw [15] (fun i W => ∃ k : Nat, k ≤ N ∧ i = .int .i64 k ∧ Hid (RowX W b M N h (scE T1 y k)) ∧ Hid (ElB W W3.heap.size y) ∧ Hid (Chg (fun x => x = b) w W)) (fun i _ => N - (intOf i).toNat)
  case atStart => exact ⟨0, Nat.zero_le _, rfl, hik (R3.out.congr (fun i _ => by unfold scE; rw [if_neg (by omega)])), Y3, G3⟩
  case round =>
    clear R3 Y3 G3
    obtain ⟨k, hk, rfl, RI, YI, GI⟩ := hrel
    rename World => wi
    by_cases hlt : k < N
    · have hk1 : (k : Int) < (N : Int) := by omega
      have hk0 : (0 : Int) ≤ (k : Int) := by omega
      have x0 : wi.cell? ⟨b, k * 2, none⟩ = some (.int .i64 (T1 k).v.1) := by rw [← scE_at T1 y k]; exact RI.out.c0 hlt
      have x1 : wi.cell? ⟨b, k * 2 + 1, none⟩ = some (.int .i64 (T1 k).v.2) := by rw [← scE_at T1 y k]; exact RI.out.c1 hlt
      have y0 := YI.out.c0
      have y1 := YI.out.c1
      go_wp2
      have KW := hik ((Chg.refl nob wi).drew1)
      have SA := hik (fun (WW : World) (kW : Chg nob wi WW) => (show (WW.cell? ⟨b, k * 2, none⟩ = some (.int .i64 (T1 k).v.1) ∧ WW.cell? ⟨b, k * 2 + 1, none⟩ = some (.int .i64 (T1 k).v.2) ∧ WW.cell? ⟨W3.heap.size, 0, none⟩ = some (.int .i64 y.v.1) ∧ WW.cell? ⟨W3.heap.size, 1, none⟩ = some (.int .i64 y.v.2)) from ⟨kW.see x0, kW.see x1, kW.see y0, kW.see y1⟩))
      refine wp_regionL (L := 9) (S := fun w' => w'.cell? ⟨b, k * 2, none⟩ = some (.int .i64 (T1 k).v.1) ∧ w'.cell? ⟨b, k * 2 + 1, none⟩ = some (.int .i64 (T1 k).v.2) ∧ w'.cell? ⟨W3.heap.size, 0, none⟩ = some (.int .i64 y.v.1) ∧ w'.cell? ⟨W3.heap.size, 1, none⟩ = some (.int .i64 y.v.2)) (by kernel_rfl) ⟨x0, x1, y0, y1⟩ (fun hHeld => ?_)
      refine wpAnyL_take (i := 0) (v := ?_) rfl (by kernel_rfl) (by kernel_rfl) (by kernel_rfl) (fun _ _ _ h => h) (by rfl) (by kernel_rfl) (by kernel_rfl) (Or.inl ⟨by rfl, ?_⟩) (by assumption) ?_
      rotate_left 1
      · (intro w' hSw; (try dsimp only at hSw); go_simp; try with_reducible rfl)
      try simp only [Act.put, List.setIfInBounds_toArray, List.set_cons_zero, List.set_cons_succ, List.getElem_toArray, List.getElem_cons_zero, List.getElem_cons_succ]
      refine wpAnyL_take (i := 1) (v := ?_) rfl (by kernel_rfl) (by kernel_rfl) (by kernel_rfl) (fun _ _ _ h => h) (by rfl) (by kernel_rfl) (by kernel_rfl) (Or.inl ⟨by rfl, ?_⟩) (by assumption) ?_
      rotate_left 1
      · (intro w' hSw; (try dsimp only at hSw); go_simp; try with_reducible rfl)
      try simp only [Act.put, List.setIfInBounds_toArray, List.set_cons_zero, List.set_cons_succ, List.getElem_toArray, List.getElem_cons_zero, List.getElem_cons_succ]
      refine wpAnyL_take (i := 2) (v := ?_) rfl (by kernel_rfl) (by kernel_rfl) (by kernel_rfl) (fun _ _ _ h => h) (by rfl) (by kernel_rfl) (by kernel_rfl) (Or.inl ⟨by rfl, ?_⟩) (by assumption) ?_
      rotate_left 1
      · (intro w' hSw; (try dsimp only at hSw); go_simp; try with_reducible rfl)
      try simp only [Act.put, List.setIfInBounds_toArray, List.set_cons_zero, List.set_cons_succ, List.getElem_toArray, List.getElem_cons_zero, List.getElem_cons_succ]
      refine wpAnyL_take (i := 3) (v := ?_) rfl (by kernel_rfl) (by kernel_rfl) (by kernel_rfl) (fun _ _ _ h => h) (by rfl) (by kernel_rfl) (by kernel_rfl) (Or.inl ⟨by rfl, ?_⟩) (by assumption) ?_
      rotate_left 1
      · (intro w' hSw; (try dsimp only at hSw); go_simp; try with_reducible rfl)
      try simp only [Act.put, List.setIfInBounds_toArray, List.set_cons_zero, List.set_cons_succ, List.getElem_toArray, List.getElem_cons_zero, List.getElem_cons_succ]
      refine wpAnyL_take (i := 4) (v := ?_) rfl (by kernel_rfl) (by kernel_rfl) (by kernel_rfl) (fun _ _ _ h => h) (by rfl) (by kernel_rfl) (by kernel_rfl) (Or.inl ⟨by rfl, ?_⟩) (by assumption) ?_
      rotate_left 1
      · (intro w' hSw; (try dsimp only at hSw); go_simp; try with_reducible rfl)
      try simp only [Act.put, List.setIfInBounds_toArray, List.set_cons_zero, List.set_cons_succ, List.getElem_toArray, List.getElem_cons_zero, List.getElem_cons_succ]
      refine wpAnyL_take (i := 5) (v := ?_) rfl (by kernel_rfl) (by kernel_rfl) (by kernel_rfl) (fun _ _ _ h => h) (by rfl) (by kernel_rfl) (by kernel_rfl) (Or.inl ⟨by rfl, ?_⟩) (by assumption) ?_
      rotate_left 1
      · (intro w' hSw; (try dsimp only at hSw); go_simp; try with_reducible rfl)
      try simp only [Act.put, List.setIfInBounds_toArray, List.set_cons_zero, List.set_cons_succ, List.getElem_toArray, List.getElem_cons_zero, List.getElem_cons_succ]
      refine wpAnyL_take (i := 6) (v := ?_) rfl (by kernel_rfl) (by kernel_rfl) (by kernel_rfl) (fun _ _ _ h => h) (by rfl) (by kernel_rfl) (by kernel_rfl) (Or.inl ⟨by rfl, ?_⟩) (by assumption) ?_
      rotate_left 1
      · (intro w' hSw; (try dsimp only at hSw); go_simp; try with_reducible rfl)
      try simp only [Act.put, List.setIfInBounds_toArray, List.set_cons_zero, List.set_cons_succ, List.getElem_toArray, List.getElem_cons_zero, List.getElem_cons_succ]
      refine wpAnyL_ready (rs := [7]) (by kernel_rfl) (by simp) ?_
      refine AllReadyL.cons rfl (fun K hK => ?_) AllReadyL.nil
      refine stepL_callN 48 #[.tmp 23, .tmp 24] #[31, 31] (by rfl) (by rfl) #[.agg #[.int .i64 (T1 k).v.1, .int .i64 (T1 k).v.2], .agg #[.int .i64 y.v.1, .int .i64 y.v.2]] (by simp only [List.map_toArray, List.map_cons, List.map_nil] <;> rfl) (run_go Try.func48 (by kernel_rfl) (by kernel_rfl) _ _) (ml_el (T1 k) y _) ?_
      rintro e U1 ⟨he, kk⟩
      refine ⟨_, he, ?_⟩
      replace KW := hik (KW.out.trans kk)
      refine hK.out _ _ (SA.out _ KW.out) (fun hHeld => ?_)
      clear hK K
      try simp only [Act.put, List.setIfInBounds_toArray, List.set_cons_zero, List.set_cons_succ, List.getElem_toArray, List.getElem_cons_zero, List.getElem_cons_succ]
      clear he kk
      refine wpAnyL_take (i := 8) (v := ?_) rfl (by kernel_rfl) (by kernel_rfl) (by kernel_rfl) (fun _ _ _ h => h) (by rfl) (by kernel_rfl) (by kernel_rfl) (Or.inl ⟨by rfl, ?_⟩) (by assumption) ?_
      rotate_left 1
      · (intro w' hSw; (try dsimp only at hSw); go_simp; try with_reducible rfl)
      try simp only [Act.put, List.setIfInBounds_toArray, List.set_cons_zero, List.set_cons_succ, List.getElem_toArray, List.getElem_cons_zero, List.getElem_cons_succ]
      refine wpAnyL_ready (rs := [9]) (by kernel_rfl) (by simp) ?_
      refine AllReadyL.last rfl (by kernel_rfl) (fun K hK => ?_)
      have RN := hik (RI.out.keep KW.out)
      have g0 := RN.out.c0 hlt
      have g1 := RN.out.c1 hlt
      have f0 := RN.out.fz (k * 2)
      have f1 := RN.out.fz (k * 2 + 1)
      have ln : b < U1.heap.size := RN.out.lt
      simp only [List.getElem_toArray, List.getElem_cons_zero, List.getElem_cons_succ]
      go_simp
      refine hK.out _ _ ?_
      clear hK K
      try simp only [Act.put, List.setIfInBounds_toArray, List.set_cons_zero, List.set_cons_succ, List.getElem_toArray, List.getElem_cons_zero, List.getElem_cons_succ]
      clear g0 g1 f0 f1 ln
      refine wpAnyL_done (by kernel_rfl) ?_ _
      have R2 := hik (RowX.congr (U := scE T1 y (k + 1)) (RN.out.set hlt (El.ml (T1 k) y)) (fun i _ => scE_step T1 y k i))
      have Y2 := hik ((YI.out.keep KW.out).other (g := b) (by omega) (k * 2) (k * 2 + 1) (.int .i64 (El.ml (T1 k) y).v.1) (.int .i64 (El.ml (T1 k) y).v.2))
      have G2 := hik (Chg.one (GI.out.trans (Chg.wide KW.out)) b (fun _ => rfl) (k * 2) (k * 2 + 1) (.int .i64 (El.ml (T1 k) y).v.1) (.int .i64 (El.ml (T1 k) y).v.2))
      generalize hE : ((U1.setCell ⟨b, k * 2, none⟩ (.int .i64 (El.ml (T1 k) y).v.1)).setCell ⟨b, k * 2 + 1, none⟩ (.int .i64 (El.ml (T1 k) y).v.2)) = W5 at R2 Y2 G2 ⊢
      clear hE RN KW SA hHeld x0 x1 y0 y1 RI YI GI
      go_wp2
      go_roundw
      case rel => exact ⟨k + 1, by omega, by go_num, R2, Y2, G2⟩
      case measure => simp [intOf]; omega
    · obtain rfl : k = N := by omega
      go_wp2
      exact bodyPost_end (results_none rfl _ _ _) rfl ⟨rfl, RI.out.congr (fun i hi => by
        unfold scE El.bk
        have e := sgE_in (T := T) (o := 0) (u := El.nt m (fun i => T (0 + i)) (El.inv (El.rtE m))) hi
        rw [Nat.zero_add] at e
        rw [if_pos hi, HT1.out, e, HY.out, ← HN.out, El.nt_congr m (d := T) (El.inv (El.rtE m)) (fun i _ => by rw [Nat.zero_add]) i]), GI.out⟩

set_option maxHeartbeats 1000000 in
theorem clone9_any (c : Option Addr) (n cap : Nat) (t : Nat → El) (w : World) (h : Hid (PairE w c n t)) (hn1 : 1 ≤ n) (hn : n ≤ 4096) : Calls Try.prog 72 #[.slice c n cap] w fun e w' => SlAns w n t e w' := by
  obtain ⟨b, o, ec, _, _, _⟩ := PairE.at_ h.out (show 0 < n by omega)
  subst ec
  obtain ⟨i0, hi, hz0, hz1, hz2⟩ := info_parts infoExt
  have HI := hik hi
  have HZ0 := hik hz0
  have HZ1 := hik hz1
  have HZ2 := hik hz2
  clear hi hz0 hz1 hz2
  have hnil : ∀ W, (binOp .eql 24 (.slice (some ⟨b, o, none⟩) n cap) (.slice none 0 0)).run Try.prog W = .ok (.bool false) W := fun W => by
    have := run_equal_slice_nil (P := Try.prog) W 24 31 (some ⟨b, o, none⟩) n cap Try.underlying24
    simp [binOp, this]
  go_enter Try.func72, Try.ntmps72
  go_wp2_with (at_builtin; refine wpList_append_pairs _ (.tmp 5) (.tmp 6) 24 rfl rfl i0 Try.underlying24 HI.out HZ0.out HZ1.out HZ2.out w.heap.size (by simp) rfl (some ⟨b, o, none⟩) n cap (cA t) (cB t) rfl (PairE.keep h.out ((Chg.refl nob w).alloc _)) (by omega) ?_)
  intro c' cap' W1 ho hc hcm k1
  have O1 := hik (OwnE.low ho (B' := w.heap.size) (by simp))
  have G1 := hik (((Chg.refl nob w).alloc _).trans k1)
  clear ho k1
  go_wp2
  go_ret
  exact ⟨c', cap', rfl, hc, hcm, O1.out, G1.out⟩

end Go.Proofs.Ytagjffjdoimhbac

namespace Go.Proofs.Ytagjffjdoimhbac
open Go.ChangeShapes Go.WideShapes Go.ChangeAt Go.RowKit
set_option linter.unusedVariables false
set_option maxRecDepth 100000
set_option linter.unusedSimpArgs false

theorem row_copied (n m : Nat) (t u : Nat → El) (hl : n ≤ m) (i : Nat) (hi : i < m * 2) : (((rowA (m * 2) (pf (cA u) (cB u))).toList.take (0 + 0) ++ ((List.range (n * 2)).map (pf (cA t) (cB t))) ++ (rowA (m * 2) (pf (cA u) (cB u))).toList.drop (0 + 0 + n * 2)))[i]? = some (pf (cA (fitE t n u)) (cB (fitE t n u)) i) := by
  simp only [Nat.add_zero, Nat.zero_add, List.take_zero, List.nil_append]
  by_cases hir : i < n * 2
  · rw [List.getElem?_append_left (by simpa using hir), List.getElem?_map, List.getElem?_range hir]
    simp only [Option.map_some, Option.some.injEq]
    unfold pf cA cB fitE
    rw [if_pos (show i / 2 < n by omega)]
  · rw [List.getElem?_append_right (by simpa using Nat.le_of_not_lt hir)]
    simp only [rowA, List.toList_toArray, List.length_map, List.length_range, List.getElem?_drop]
    rw [show n * 2 + (i - n * 2) = i by omega, List.getElem?_map, List.getElem?_range hi]
    simp only [Option.map_some, Option.some.injEq]
    unfold pf cA cB fitE
    rw [if_neg (show ¬ i / 2 < n by omega)]

section
variable {ops : Array Oper} {rest : List Oper} {o : Oper} {a : Act} {Q : Exit → Act → World → Prop} {w : World}
/-- Elements copied into the beginning of a row of elements. -/
theorem wpList_copy_row (d x : Operand) (hgd : o.guard = none) (ho : o.op = .call { callee := .builtin .copy, args := #[d, x], argTypes := #[24, 24] })
    (g m cp : Nat) (c : Option Addr) (n cap : Nat) (hd : a.eval d = .slice (some ⟨g, 0, none⟩) m cp) (hs : a.eval x = .slice c n cap) {u t : Nat → El} (hr : RowE w g m u) (hv : PairE w c n t) (hl : n ≤ m) (hn1 : 1 ≤ n)
    (h : ∀ w', RowE w' g m (fitE t n u) → Chg (fun b => b = g) w w' → wpList Try.prog ops Q rest (a.put o.dst (goInt n)) w') : wpList Try.prog ops Q (o :: rest) a w := by
  have hmin : Nat.min n m = n := Nat.min_eq_left hl
  have hu : Try.prog.underlying 24 = some (.slice 31) := Try.underlying24
  obtain ⟨i, hi, _, hz1, _⟩ := info_parts infoExt
  refine wpList_plain hgd fun K hK => ?_
  obtain ⟨xb, xo, rfl, hxb, _, _⟩ := hv.at_ (i := 0) (by omega)
  have hcs : ∀ j v, ((List.range (n * 2)).map (pf (cA t) (cB t)))[j]? = some v → w.cell? ((⟨xb, xo, none⟩ : Addr).add j) = some v := by
    intro j v hj
    by_cases hjr : j < n * 2
    · rw [List.getElem?_map, List.getElem?_range hjr] at hj
      simp at hj
      subst hj
      rw [Go.WideShapes.add_plain]
      rcases (show j % 2 = 0 ∨ j % 2 = 1 by omega) with q | q
      · rw [show xo + j = xo + j / 2 * 2 by omega, hv.c0 (i := j / 2) (by omega)]
        unfold pf; rw [if_pos q]; rfl
      · rw [show xo + j = xo + j / 2 * 2 + 1 by omega, hv.c1 (i := j / 2) (by omega)]
        unfold pf; rw [if_neg (by omega)]; rfl
    · rw [List.getElem?_eq_none (by simp; omega)] at hj
      cases hj
  have hl' := run_loadCells_list (P := Try.prog) w ⟨xb, xo, none⟩ _ hcs
  have hst := run_storeCells_at Try.prog g 0 31 ((List.range (n * 2)).map (pf (cA t) (cB t))) 0 (rowA (m * 2) (pf (cA u) (cB u))) w (rowA_of hr) (by rw [rowA_size]; simp; omega) (by intro v hv; simp at hv; obtain ⟨j, _, rfl⟩ := hv; rfl)
  have hlen : ((List.range (n * 2)).map (pf (cA t) (cB t))).length = n * 2 := by simp
  rw [hlen] at hl'
  have hrun : (Builtin.copy_ #[24, 24] o.type #[.slice (some ⟨g, 0, none⟩) m cp, .slice (some ⟨xb, xo, none⟩) n cap]).run Try.prog w = .ok (goInt n) (w.setRow g ((rowA (m * 2) (pf (cA u) (cB u))).toList.take (0 + 0) ++ ((List.range (n * 2)).map (pf (cA t) (cB t))) ++ (rowA (m * 2) (pf (cA u) (cB u))).toList.drop (0 + 0 + n * 2)).toArray) := by
    rw [hlen] at hst
    simp only [Builtin.copy_, run_underlying hu, Builtin.lenOf, Builtin.firstCells, sizeOf, typeInfo, hi, hz1, hmin, Sem.run_bind, Sem.run_pure, Result.andThen_ok]
    simp [run_underlying hu, typeInfo, hi, hz1, hmin, hl', hst]
  unfold Oper.wp
  simp only [execOp, ho, resolve, invoke, builtin, List.map_toArray, List.map_cons, List.map_nil, hd, hs]
  simp [hrun, Result.andThen]
  refine hK _ _ (h _ ?_ ?_)
  · refine ⟨_, setRow_heap w g _ _ 31 _ (rowA_of hr), ?_, fun i hi => ?_⟩
    · simp [rowA_size]; omega
    · rw [List.getElem?_toArray]
      have e := row_copied n m t u hl i hi
      simpa using e
  · refine ⟨rfl, rfl, rfl, by simp [World.setRow], fun k hk hp => ?_⟩
    simp only [World.setRow, Array.getElem?_modify]
    rw [if_neg (fun e => hp e.symm)]
end

/-- EncodeWord's answers. -/
def ewc (f g : Nat → Int) (n : Nat) (rate : Int) : Int := if akc7 f g n = 0 then (if 0 ≤ rate ∧ rate ≤ 9 ∧ n * 2 ^ rate.toNat ≤ 512 then 0 else 4) else akc7 f g n
def ewn (f g : Nat → Int) (n : Nat) (rate : Int) : Nat := if ewc f g n rate = 0 then n * 2 ^ rate.toNat else 0
def ewv (f g : Nat → Int) (n : Nat) (rate : Int) : Nat → El := El.nt (n * 2 ^ rate.toNat).log2 (fitE (elF f g) n zE) (El.rtE (n * 2 ^ rate.toNat).log2)
theorem ewn_none {f g : Nat → Int} {n : Nat} {rate k : Int} (h : ewc f g n rate = k) (hk : k ≠ 0) : ewn f g n rate = 0 := if_neg (by rw [h]; exact hk)
theorem ewn_all {f g : Nat → Int} {n : Nat} {rate : Int} (h : ewc f g n rate = 0) : ewn f g n rate = n * 2 ^ rate.toNat := if_pos h
theorem shl9 {n q : Nat} (hn : n ≤ 512) (hq : q ≤ 9) : IntKind.i64.wrap ((n : Int) * 2 ^ q) = ((n * 2 ^ q : Nat) : Int) := by
  have h1 := pow_le9 hq
  have e : ((n : Int) * 2 ^ q) = ((n * 2 ^ q : Nat) : Int) := by simp
  rw [e, IntKind.wrap_i64]
  have h2 : n * 2 ^ q ≤ 512 * 512 := Nat.mul_le_mul hn h1
  generalize n * 2 ^ q = z at h2 ⊢
  omega

set_option maxHeartbeats 4000000 in
theorem encX_any (c : Option Addr) (n cap : Nat) (f g : Nat → Int) (rate : Int) (w : World) (h : Hid (PairV w c n f g)) (hn : n ≤ 1099511627776) :
    Calls Try.prog 35 #[.slice c n cap, .int .i64 rate] w fun e w' => TbC w (ewc f g n rate) (ewn f g n rate) (ewv f g n rate) e w' := by
  obtain ⟨k, hk⟩ : ∃ k, k = akc7 f g n := ⟨_, rfl⟩
  have HK := hik hk.symm
  by_cases h0 : k = 0
  · have HC0 := hik (show akc7 f g n = 0 by rw [← hk, h0])
    subst h0
    obtain ⟨hok, m, hm, hnm⟩ := akc7_ok HC0.out
    have hn5 : n ≤ 512 := by rw [hnm]; exact pow_le9 hm
    have hn1 : 1 ≤ n := by rw [hnm]; exact Nat.one_le_two_pow
    have HN := hik hnm
    have HP := hik (PairE.of h.out hok)
    clear hk hnm
    cases hr : rtb rate
    · have HC := hik (show ewc f g n rate = 4 by
        unfold ewc
        rw [if_pos HC0.out, if_neg (fun q => by rw [rtb, decide_eq_true ⟨q.1, q.2.1⟩] at hr; cases hr)])
      have HM := hik (ewn_none HC.out (by decide))
      go_enter Try.func35, Try.ntmps35
      go_wp2_with fail
      refine (wordCode_any c n cap f g _ h hn).mono ?_
      rintro e W1 ⟨rfl, k1⟩
      rw [HK.out]
      have K1 := hik k1
      clear k1
      go_wp2_with fail
      refine (isWordRate_any rate _).mono ?_
      rintro e W2 ⟨he, hw⟩
      rw [hr] at he
      subst he
      have hw' := hw.symm
      clear hw
      subst hw'
      go_wp2
      go_ret2
      exact TbC.none HC.out HM.out K1.out
    · have hr' : 0 ≤ rate ∧ rate ≤ 9 := by unfold rtb at hr; simpa using hr
      obtain ⟨r0, r9⟩ := hr'
      obtain ⟨q, hq⟩ : ∃ q : Nat, rate = (q : Int) := ⟨rate.toNat, by omega⟩
      subst hq
      have hq9 : q ≤ 9 := by omega
      obtain ⟨z, hz⟩ : ∃ z, z = n * 2 ^ q := ⟨_, rfl⟩
      have hsh : IntKind.i64.wrap ((n : Int) * 2 ^ q) = (z : Int) := by rw [hz]; exact shl9 hn5 hq9
      have HZ := hik hz
      by_cases hz5 : z ≤ 512
      · have HC := hik (show ewc f g n (q : Int) = 0 by
          unfold ewc
          rw [if_pos HC0.out, if_pos ⟨r0, r9, by rw [Int.toNat_natCast, ← hz]; exact hz5⟩])
        have HM := hik (show ewn f g n (q : Int) = z by rw [ewn_all HC.out, Int.toNat_natCast, hz])
        have hz5' : ¬ (512 : Int) < (z : Int) := by omega
        have hnz : n ≤ z := by rw [hz]; exact Nat.le_mul_of_pos_right n (Nat.two_pow_pos q)
        have HZP := hik (show z = 2 ^ (m + q) by rw [hz, HN.out, ← Nat.pow_add])
        have hmq : m + q ≤ 9 := by
          by_cases e : m + q ≤ 9
          · exact e
          · have := Nat.pow_le_pow_right (show 1 ≤ 2 by omega) (show 10 ≤ m + q by omega)
            have e2 := HZP.out
            omega
        have HL := hik (show (n * 2 ^ ((q : Nat) : Int).toNat).log2 = m + q by rw [Int.toNat_natCast, ← hz, HZP.out, Nat.log2_two_pow])
        clear hz
        obtain ⟨i0, hi, hz0, hz1, hz2⟩ := info_parts infoExt
        have HI := hik hi
        have HZ0 := hik hz0
        have HZ1 := hik hz1
        have hb16 : i0.bytes * z ≤ 281474976710656 := by rw [hz2]; omega
        clear hi hz0 hz1 hz2
        go_enter Try.func35, Try.ntmps35
        go_wp2_with fail
        refine (wordCode_any c n cap f g _ h hn).mono ?_
        rintro e W1 ⟨rfl, k1⟩
        rw [HK.out]
        have K1 := hik k1
        clear k1
        go_wp2_with fail
        refine (isWordRate_any (q : Int) _).mono ?_
        rintro e W2 ⟨he, hw⟩
        rw [hr] at he
        subst he
        have hw' := hw.symm
        clear hw
        subst hw'
        go_wp2_with (at_make; refine wpList_make_pairs _ rfl (.tmp 26) (.tmp 26) 24 rfl 31 i0 Try.underlying24 HI.out HZ0.out HZ1.out .i64 .i64 _ _ z rfl rfl rfl rfl hb16 (by omega) ?_)
        intro W5 hr5 hk5
        have R5 := hik (show RowE W5 W1.heap.size z zE from World.rowIs.congr hr5 (fun i _ => by unfold pf cA cB zE; split <;> rfl))
        have G5 := hik (K1.out.trans hk5)
        have P5 := hik (HP.out.keep G5.out)
        have h1s := K1.out.size
        clear hr5 hk5 hb16
        go_wp2_with ((with_reducible refine wpList_copy_row (.tmp 28) (.tmp 29) rfl rfl W1.heap.size z z c n cap ?hd ?hs R5.out P5.out hnz hn1 ?_); (case hd => rfl); (case hs => rfl); intro W6 r6 k6)
        have R6 := hik (RowX.of_row r6)
        have G6 := hik (Chg.near G5.out k6 (fun i e => by omega))
        clear r6 k6 R5 G5 P5
        go_wp2_with fail
        refine (wordRoot_any hmq z HZP _).mono ?_
        rintro e W7 ⟨rfl, k7⟩
        have R7 := hik (R6.out.keep k7)
        have G7 := hik (G6.out.trans k7)
        clear k7 R6 G6
        go_wp2_with fail
        refine (evl_any (m + q) 0 _ 0 z z _ z _ _ (El.rtE (m + q)) _ HZP.out hmq rfl R7 (by omega) (by omega) (Nat.le_refl _) (by omega)).mono ?_
        rintro e W8 ⟨rfl, r8, k8⟩
        have R8 := hik r8
        have G8 := hik (Chg.near G7.out k8 (fun i e => by omega))
        clear r8 k8 R7 G7
        go_wp2
        go_ret2
        refine TbC.some HC.out HM.out (Nat.le_refl _) (by omega) (OwnE.congr (RowX.own R8.out h1s) (fun i hi => ?_)) G8.out
        have e1 := sgE_in (T := fitE (elF f g) n zE) (o := 0) (u := El.nt (m + q) (fun i => fitE (elF f g) n zE (0 + i)) (El.rtE (m + q))) hi
        rw [Nat.zero_add] at e1
        have e2 : sgE (fitE (elF f g) n zE) 0 z (El.nt (m + q) (fun i => fitE (elF f g) n zE (0 + i)) (El.rtE (m + q))) i = ewv f g n (q : Int) i := by
          rw [e1]
          unfold ewv
          rw [HL.out]
          exact El.nt_congr (m + q) (El.rtE (m + q)) (fun i _ => by rw [Nat.zero_add]) i
        unfold cA cB
        rw [e2]
        exact ⟨rfl, rfl⟩
      · have HC := hik (show ewc f g n (q : Int) = 4 by
          unfold ewc
          rw [if_pos HC0.out, if_neg (fun x => hz5 (by have := x.2.2; rw [Int.toNat_natCast, ← hz] at this; exact this))])
        have HM := hik (ewn_none HC.out (by decide))
        have hz5' : (512 : Int) < (z : Int) := by omega
        clear hz
        go_enter Try.func35, Try.ntmps35
        go_wp2_with fail
        refine (wordCode_any c n cap f g _ h hn).mono ?_
        rintro e W1 ⟨rfl, k1⟩
        rw [HK.out]
        have K1 := hik k1
        clear k1
        go_wp2_with fail
        refine (isWordRate_any (q : Int) _).mono ?_
        rintro e W2 ⟨he, hw⟩
        rw [hr] at he
        subst he
        have hw' := hw.symm
        clear hw
        subst hw'
        go_wp2
        go_ret2
        exact TbC.none HC.out HM.out K1.out
  · have HC := hik (show ewc f g n rate = k by unfold ewc; rw [if_neg (by rw [← hk]; exact h0), ← hk])
    have HM := hik (ewn_none HC.out h0)
    have hb : (k != 0) = true := bne_iff_ne.2 h0
    clear hk
    go_enter Try.func35, Try.ntmps35
    go_wp2_with fail
    refine (wordCode_any c n cap f g _ h hn).mono ?_
    rintro e W1 ⟨rfl, k1⟩
    rw [HK.out]
    have K1 := hik k1
    clear k1
    go_wp2
    go_ret2
    exact TbC.none HC.out HM.out K1.out

end Go.Proofs.Ytagjffjdoimhbac
