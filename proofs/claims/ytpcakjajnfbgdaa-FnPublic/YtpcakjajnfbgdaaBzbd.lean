/- Several texts in one: Words on memory: whole arrays by value, out of rows and into rows. No program is named here. · The vector of a system: the program at every argument. -/
import Derived.Test.YtpcakjajnfbgdaaBzaa
import Derived.WalkKit
import Derived.Laws.Rows
import Derived.Laws.Tables
import Derived.Deep.WholeRow
import Derived.Test.YtpcakjajnfbgdaaBzau
import Derived.Test.YtpcakjajnfbgdaaBzaz
import Derived.Laws.CopyRow
import Derived.Laws.CopyOwn
namespace Go.Proofs.Ytpcakjajnfbgdaa
open Go.RowKit

/-- n values in an array. -/
def rowA (n : Nat) (f : Nat → Value) : Array Value := ((List.range n).map f).toArray
theorem rowA_size (n : Nat) (f : Nat → Value) : (rowA n f).size = n := by simp [rowA]
theorem rowA_at (n : Nat) (f : Nat → Value) (i : Nat) (h : i < n) : (rowA n f)[i]? = some (f i) := by simp [rowA, h]
theorem rowA_of {w : World} {b : Nat} {t : TypeId} {n : Nat} {f : Nat → Value} (h : w.rowIs b t n f) : w.heap[b]? = some (.cells (rowA n f) t (0, 0)) := by
  obtain ⟨c, hb, hn, hc⟩ := h
  have e : c = rowA n f := by
    apply Array.ext_getElem?
    intro i
    by_cases hi : i < n
    · rw [hc i hi, rowA_at n f i hi]
    · rw [Array.getElem?_eq_none (by omega), Array.getElem?_eq_none (by rw [rowA_size]; omega)]
  rw [hb, e]
theorem rowIs_of {w : World} {b : Nat} {t : TypeId} {n : Nat} {f : Nat → Value} (h : w.heap[b]? = some (.cells (rowA n f) t (0, 0))) : w.rowIs b t n f :=
  ⟨_, h, rowA_size n f, fun i hi => rowA_at n f i hi⟩
theorem rowIs_new (w : World) (n : Nat) (f : Nat → Value) (t : TypeId) : (w.alloc (.cells (rowA n f) t)).rowIs w.heap.size t n f :=
  rowIs_of (heap_alloc_last w _)

section
variable {P : Program}
/-- A whole array into a row. -/
theorem wpList_store_all {ops : Array Oper} {rest : List Oper} {o : Oper} {a : Act} {w : World} {Q : Exit → Act → World → Prop} (ty : TypeId) (x y : Operand) (hgd : o.guard = none) (ho : o.op = .store ty x y)
    (g : Nat) (n : Nat) (f : Nat → Value) (hx : a.eval x = .pointer (some ⟨g, 0, none⟩)) (hy : a.eval y = .agg (rowA n f))
    (t : TypeId) (f0 : Nat → Value) (hr : w.rowIs g t n f0) (hi : (P.info? ty).map (·.size) = some n)
    (h1 : ∀ i, i < n → (f i).oneCell' = true)
    (h : ∀ w', w'.rowIs g t n f → Chg (fun b => b = g) w w' → wpList P ops Q rest (a.put o.dst undef) w') : wpList P ops Q (o :: rest) a w := by
  refine wpList_store_row hgd ty x y ho g (rowA n f) hx hy t (rowA n f0) (rowA_of hr) (by rw [rowA_size]; exact hi) (by rw [rowA_size, rowA_size]) ?_ (h _ ?_ ?_)
  · rw [Array.all_eq_true_iff_forall_mem]
    intro v hv
    simp only [rowA, List.mem_toArray, List.mem_map, List.mem_range] at hv
    obtain ⟨i, hi, rfl⟩ := hv
    exact h1 i hi
  · apply rowIs_of
    have := rowA_of hr
    simp [World.setRow, Array.getElem?_modify, this]
  · refine ⟨rfl, rfl, rfl, by simp [World.setRow], fun k hk hp => ?_⟩
    simp only [World.setRow, Array.getElem?_modify]
    rw [if_neg (fun e => hp e.symm)]
end

end Go.Proofs.Ytpcakjajnfbgdaa

namespace Go.Proofs.Ytpcakjajnfbgdaa
open Go.ChangeShapes Go.WideShapes Go.ChangeAt Go.RowKit
set_option linter.unusedVariables false
set_option maxRecDepth 100000
set_option linter.unusedSimpArgs false

/-- n numbers put into a row from off on. -/
def spl (off n : Nat) (t u : Nat → Int) (i : Nat) : Int := if off ≤ i ∧ i < off + n then t (i - off) else u i
theorem row_spl (N off n : Nat) (t u : Nat → Int) (hl : off + n ≤ N) (i : Nat) (hi : i < N) : ((rowA N (iv u)).toList.take off ++ ((List.range n).map (iv t) ++ (rowA N (iv u)).toList.drop (off + n)))[i]? = some (iv (spl off n t u) i) := by
  have hlen : ((rowA N (iv u)).toList.take off).length = off := by simp [rowA]; omega
  by_cases h1 : i < off
  · rw [List.getElem?_append_left (by rw [hlen]; exact h1)]
    simp only [rowA, List.toList_toArray]
    rw [List.getElem?_take_of_lt h1, List.getElem?_map, List.getElem?_range hi]
    simp only [Option.map_some, Option.some.injEq, iv, spl]
    rw [if_neg (by omega)]
  · rw [List.getElem?_append_right (by rw [hlen]; omega), hlen]
    by_cases h2 : i < off + n
    · rw [List.getElem?_append_left (by simp; omega), List.getElem?_map, List.getElem?_range (by omega)]
      simp only [Option.map_some, Option.some.injEq, iv, spl]
      rw [if_pos (by omega)]
    · rw [List.getElem?_append_right (by simp; omega)]
      simp only [rowA, List.toList_toArray, List.length_map, List.length_range, List.getElem?_drop]
      rw [show off + n + (i - off - n) = i by omega, List.getElem?_map, List.getElem?_range hi]
      simp only [Option.map_some, Option.some.injEq, iv, spl]
      rw [if_neg (by omega)]

theorem spl_pub {H np : Nat} {P R : Nat → Int} (i : Nat) : spl 1 np P (vcv H 0 P 0 R) i = vcv H np P 0 R i := by
  unfold spl vcv
  by_cases h0 : i = 0
  · rw [if_neg (by omega), if_pos h0, if_pos h0]
  · rw [if_neg h0, if_neg h0]
    by_cases e : i < 1 + np
    · rw [if_pos (by omega), if_pos e]
    · rw [if_neg (by omega), if_neg e, if_neg (by omega)]
theorem spl_priv {H np nr : Nat} {P R : Nat → Int} (hn : np + 1 ≤ H) (i : Nat) : spl H nr R (vcv H np P 0 R) i = vcv H np P nr R i := by
  unfold spl vcv
  by_cases h0 : i = 0
  · rw [if_neg (by omega), if_pos h0, if_pos h0]
  · rw [if_neg h0, if_neg h0]
    by_cases e : i < 1 + np
    · rw [if_neg (by omega), if_pos e, if_pos e]
    · rw [if_neg e, if_neg e]
      by_cases e2 : H ≤ i ∧ i < H + nr
      · rw [if_pos e2, if_pos e2]
      · rw [if_neg e2, if_neg e2, if_neg (by omega)]

section
variable {ops : Array Oper} {rest : List Oper} {o : Oper} {a : Act} {Q : Exit → Act → World → Prop} {w : World}
/-- Numbers copied into a row of numbers, from off on. -/
theorem wpList_copy_ints (d x : Operand) (hgd : o.guard = none) (ho : o.op = .call { callee := .builtin .copy, args := #[d, x], argTypes := #[27, 27] })
    (g off dl dc : Nat) (c : Option Addr) (n cap : Nat) (hd : a.eval d = .slice (some ⟨g, off, none⟩) dl dc) (hs : a.eval x = .slice c n cap) {N : Nat} {u t : Nat → Int} (hr : w.rowIs g 3 N (iv u)) (hv : RowV w c n (iv t)) (hl : n ≤ dl) (hf : off + dl ≤ N)
    (h : ∀ w', w'.rowIs g 3 N (iv (spl off n t u)) → Chg (fun b => b = g) w w' → wpList Try.prog ops Q rest (a.put o.dst (goInt n)) w') : wpList Try.prog ops Q (o :: rest) a w := by
  have hu : Try.prog.underlying 27 = some (.slice 3) := Try.underlying27
  obtain ⟨i, hi, _, hz1, _⟩ := info_parts infoInt
  have hsz : (Try.prog.info? 3).map (·.size) = some 1 := by rw [hi]; simp [hz1]
  by_cases h0 : n = 0
  · subst h0
    refine wpList_copy_nothing hgd d x _ _ ho 3 hu hsz _ _ dl dc 0 cap hd hs (Nat.zero_min _) ?_
    exact h w (hr.congr (fun i _ => by simp only [iv, spl]; rw [if_neg (by omega)])) (Chg.refl _ _)
  · obtain ⟨xb, xo, rfl, hxb, _⟩ := hv 0 (by omega)
    have hsrc : ∀ j v, ((List.range n).map (iv t))[j]? = some v → w.cell? ((⟨xb, xo, none⟩ : Addr).add j) = some v := by
      intro j v hj
      by_cases hjr : j < n
      · rw [List.getElem?_map, List.getElem?_range hjr] at hj
        simp at hj
        subst hj
        obtain ⟨yb, yo, e, _, hy⟩ := hv j hjr
        cases e
        rw [Go.WideShapes.add_plain]
        exact hy
      · rw [List.getElem?_eq_none (by simp; omega)] at hj
        cases hj
    have hlen : ((List.range n).map (iv t)).length = n := by simp
    refine wpList_copy_own hgd d x _ _ ho 3 hu hsz g off dl dc ⟨xb, xo, none⟩ n cap hd hs (rowA N (iv u)) 3 (rowA_of hr) ((List.range n).map (iv t)) (by rw [hlen]; exact (Nat.min_eq_left hl).symm) hsrc (by rw [hlen, rowA_size]; omega) (by intro v hv; simp at hv; obtain ⟨j, _, rfl⟩ := hv; rfl) ?_
    rw [hlen]
    refine h _ ⟨_, setRow_heap w g _ _ 3 _ (rowA_of hr), ?_, fun i hi => ?_⟩ ⟨rfl, rfl, rfl, by simp [World.setRow], fun k hk hp => ?_⟩
    · simp [rowA_size]; omega
    · rw [List.getElem?_toArray]
      exact row_spl N off n t u (by omega) i hi
    · simp only [World.setRow, Array.getElem?_modify]
      rw [if_neg (fun e => hp e.symm)]
end

/-- What a call makes, with room for it. -/
def MmAnsC (w : World) (code : Int) (N : Nat) (f : Nat → Int) (e : Ending) (w' : World) : Prop :=
  ∃ c cap, e = .returned (.tuple #[.slice c (if code = 0 then N else 0) cap, .int .i64 code]) ∧ (code = 0 → ∃ g, w.heap.size ≤ g ∧ c = some ⟨g, 0, none⟩ ∧ w'.rowIs g 3 N (iv f)) ∧ (code = 0 → N ≤ cap) ∧ Chg nob w w'
theorem MmAnsC.no {w w' : World} {code k : Int} {N : Nat} {f : Nat → Int} {e : Ending} {c : Option Addr} {cap : Nat} (h : code = k) (hk : k ≠ 0) (he : e = .returned (.tuple #[.slice c 0 cap, .int .i64 k])) (kk : Chg nob w w') : MmAnsC w code N f e w' :=
  ⟨c, cap, by rw [h, if_neg hk]; exact he, fun q => absurd (h.symm.trans q) hk, fun q => absurd (h.symm.trans q) hk, kk⟩
theorem MmAnsC.yes {w w' : World} {code : Int} {N : Nat} {f : Nat → Int} {e : Ending} {g cap : Nat} (h : code = 0) (hg : w.heap.size ≤ g) (he : e = .returned (.tuple #[.slice (some ⟨g, 0, none⟩) N cap, .int .i64 0])) (hc : N ≤ cap) (hr : w'.rowIs g 3 N (iv f)) (kk : Chg nob w w') : MmAnsC w code N f e w' :=
  ⟨_, cap, by rw [h, if_pos rfl]; exact he, fun _ => ⟨g, hg, rfl, hr⟩, fun _ => hc, kk⟩
theorem MmAnsC.ok9 {w w' : World} {code : Int} {N : Nat} {f : Nat → Int} {e : Ending} (h : MmAnsC w code N f e w') (hc : code = 0) : ∃ g cap : Nat, e = .returned (.tuple #[.slice (some ⟨g, 0, none⟩) N cap, .int .i64 0]) ∧ w.heap.size ≤ g ∧ N ≤ cap ∧ w'.rowIs g 3 N (iv f) ∧ Chg nob w w' := by
  obtain ⟨c, cap, he, hr, hp, k⟩ := h
  obtain ⟨g, hg, rfl, hr9⟩ := hr hc
  have hp9 := hp hc
  subst hc
  exact ⟨g, cap, he, hg, hp9, hr9, k⟩
theorem MmAnsC.out {w w' : World} {code : Int} {N : Nat} {f : Nat → Int} {e : Ending} (h : MmAnsC w code N f e w') : MmAns w code N f e w' := by
  obtain ⟨c, cap, he, hr, _, k⟩ := h
  exact ⟨c, cap, he, hr, k⟩

set_option maxHeartbeats 4000000 in
theorem vecXc_any (s : Sy) (a : SyA) (c : Option Addr) (np cap : Nat) (P : Nat → Int) (d : Option Addr) (nr cad : Nat) (R : Nat → Int) (w : World) (hv : Hid (SyV w s a)) (hs : s.small) (hp : Hid (RowV w c np (iv P))) (hr : Hid (RowV w d nr (iv R))) (hnp : np ≤ 1099511627776) (hnr : nr ≤ 1099511627776) :
    Calls Try.prog 10 #[.agg #[.int .i64 s.r, .int .i64 s.q, .int .i64 s.p, .slice a.cA s.nA a.pA, .slice a.cB s.nB a.pB, .slice a.cC s.nC a.pC], .slice c np cap, .slice d nr cad] w fun e w' => MmAnsC w (vcc s np P nr R) (2 ^ s.q.toNat) (vcv (2 ^ (s.q.toNat - 1)) np P nr R) e w' := by
  have KB := hik ((Chg.refl nob w).alloc (.cells #[.int .i64 s.r, .int .i64 s.q, .int .i64 s.p, .slice a.cA s.nA a.pA, .slice a.cB s.nB a.pB, .slice a.cC s.nC a.pC] 25))
  have BX := hik (cel6 (w := w.alloc (.cells #[.int .i64 s.r, .int .i64 s.q, .int .i64 s.p, .slice a.cA s.nA a.pA, .slice a.cB s.nB a.pB, .slice a.cC s.nC a.pC] 25)) (g := w.heap.size) (v0 := .int .i64 s.r) (v1 := .int .i64 s.q) (v2 := .int .i64 s.p) (v3 := .slice a.cA s.nA a.pA) (v4 := .slice a.cB s.nB a.pB) (v5 := .slice a.cC s.nC a.pC) (by go_simp) (by go_simp) (by go_simp) (by go_simp) (by go_simp) (by go_simp))
  by_cases h1 : 4096 < np
  · have h1' : (4096 : Int) < np := by omega
    have HC := hik (show vcc s np P nr R = 2 by simp [vcc, h1])
    go_enter Try.func10, Try.ntmps10
    go_wp2
    go_ret2
    exact MmAnsC.no HC.out (by omega) rfl KB.out
  have h1' : ¬ (4096 : Int) < np := by omega
  by_cases h2 : 4096 < nr
  · have h2' : (4096 : Int) < nr := by omega
    have HC := hik (show vcc s np P nr R = 2 by simp [vcc, h2])
    go_enter Try.func10, Try.ntmps10
    go_wp2
    go_ret2
    exact MmAnsC.no HC.out (by omega) rfl KB.out
  have h2' : ¬ (4096 : Int) < nr := by omega
  have hC : vcc s np P nr R = if sysb s = false ∨ fds np P = false ∨ fds nr R = false then 1 else if (np : Int) ≠ s.p ∨ (2 : Int) ^ (s.q.toNat - 1) < nr then 8 else 0 := by unfold vcc; rw [if_neg (by omega)]
  have hcs := sysOK_any s a (w.alloc (.cells #[.int .i64 s.r, .int .i64 s.q, .int .i64 s.p, .slice a.cA s.nA a.pA, .slice a.cB s.nB a.pB, .slice a.cC s.nC a.pC] 25)) (hik (hv.out.keep KB.out)) hs
  have hcp := fun W (k : Hid (Chg nob w W)) => numsOK_any c np cap P W (hik (hp.out.keep k.out)) hnp
  have hcr := fun W (k : Hid (Chg nob w W)) => numsOK_any d nr cad R W (hik (hr.out.keep k.out)) hnr
  cases h3 : sysb s with
  | false =>
    have HC := hik (show vcc s np P nr R = 1 by rw [hC, if_pos (.inl h3)])
    rw [h3] at hcs
    clear hC
    go_enter Try.func10, Try.ntmps10
    go_wp2_with fail
    refine hcs.mono ?_
    rintro e w1 ⟨rfl, k1⟩
    have K1 := hik (KB.out.trans k1)
    replace BX := hik (BX.out.keep k1)
    clear k1
    go_wp2
    go_ret2
    exact MmAnsC.no HC.out (by omega) rfl K1.out
  | true =>
  cases h4 : fds np P with
  | false =>
    have HC := hik (show vcc s np P nr R = 1 by rw [hC, if_pos (.inr (.inl h4))])
    rw [h3] at hcs
    rw [h4] at hcp
    clear hC
    go_enter Try.func10, Try.ntmps10
    go_wp2_with fail
    refine hcs.mono ?_
    rintro e w1 ⟨rfl, k1⟩
    have K1 := hik (KB.out.trans k1)
    replace BX := hik (BX.out.keep k1)
    clear k1
    go_wp2_with fail
    refine (hcp _ K1).mono ?_
    rintro e w2 ⟨rfl, hw⟩
    have hw := hw.symm
    subst hw
    go_wp2
    go_ret2
    exact MmAnsC.no HC.out (by omega) rfl K1.out
  | true =>
  cases h5 : fds nr R with
  | false =>
    have HC := hik (show vcc s np P nr R = 1 by rw [hC, if_pos (.inr (.inr h5))])
    rw [h3] at hcs
    rw [h4] at hcp
    rw [h5] at hcr
    clear hC
    go_enter Try.func10, Try.ntmps10
    go_wp2_with fail
    refine hcs.mono ?_
    rintro e w1 ⟨rfl, k1⟩
    have K1 := hik (KB.out.trans k1)
    replace BX := hik (BX.out.keep k1)
    clear k1
    go_wp2_with fail
    refine (hcp _ K1).mono ?_
    rintro e w2 ⟨rfl, hw⟩
    have hw := hw.symm
    subst hw
    go_wp2_with fail
    refine (hcr _ K1).mono ?_
    rintro e w2 ⟨rfl, hw⟩
    have hw := hw.symm
    subst hw
    go_wp2
    go_ret2
    exact MmAnsC.no HC.out (by omega) rfl K1.out
  | true =>
  obtain ⟨rr, mm, er, eq_, r1, r5, m1, m4, p0, p1, eA, eB, eC⟩ := sysb_parts h3
  rw [h3] at hcs
  rw [h4] at hcp
  rw [h5] at hcr
  rw [if_neg (by rw [h3, h4, h5]; simp), show s.q.toNat = mm + 1 by omega, Nat.add_sub_cancel] at hC
  rw [show s.q.toNat = mm + 1 by omega, Nat.add_sub_cancel]
  have EQ := hik eq_
  clear er r1 r5 eA eB eC h3 h4 h5 eq_
  by_cases h6 : ¬ (np : Int) = s.p
  · have HC := hik (show vcc s np P nr R = 8 by rw [hC, if_pos (.inl h6)])
    clear hC p0 p1
    go_enter Try.func10, Try.ntmps10
    go_wp2_with fail
    refine hcs.mono ?_
    rintro e w1 ⟨rfl, k1⟩
    have K1 := hik (KB.out.trans k1)
    replace BX := hik (BX.out.keep k1)
    clear k1
    go_wp2_with fail
    refine (hcp _ K1).mono ?_
    rintro e w2 ⟨rfl, hw⟩
    have hw := hw.symm
    subst hw
    go_wp2_with fail
    refine (hcr _ K1).mono ?_
    rintro e w2 ⟨rfl, hw⟩
    have hw := hw.symm
    subst hw
    obtain ⟨x0, x1, x2, x3, x4, x5⟩ := BX.out.six
    go_wp2
    go_ret2
    exact MmAnsC.no HC.out (by omega) rfl K1.out
  replace h6 : (np : Int) = s.p := by omega

  have hpc := pow_cast mm
  have h16 := pow4 m4
  have hcc := fun v0 v2 v3 v4 v5 W => colCount_any (mm + 1) (by omega) v0 v2 v3 v4 v5 W
  have hcH := fun v0 v2 v3 v4 v5 W => half_any mm (by omega) v0 v2 v3 v4 v5 W
  rw [← EQ.out] at hcc hcH
  rw [← hpc] at hcH p1 hC
  have HP2 := hik (show 2 ^ (mm + 1) = 2 * 2 ^ mm by rw [Nat.pow_succ]; omega)
  rw [show (2 : Int) ^ (mm + 1) = ((2 * 2 ^ mm : Nat) : Int) by rw [← pow_cast, HP2.out]] at hcc
  rw [HP2.out]
  have h2H : 2 ≤ 2 ^ mm := by
    have := Nat.pow_le_pow_right (show 0 < 2 by omega) m1
    omega
  generalize 2 ^ mm = H at hcc hcH p1 hC h16 h2H ⊢
  clear HP2 hpc EQ m1 m4
  rw [← h6] at p1
  by_cases h7 : (H : Int) < nr
  · have HC := hik (show vcc s np P nr R = 8 by rw [hC, if_pos (.inr h7)])
    clear hC p0 p1 hcc
    go_enter Try.func10, Try.ntmps10
    go_wp2_with fail
    refine hcs.mono ?_
    rintro e w1 ⟨rfl, k1⟩
    have K1 := hik (KB.out.trans k1)
    replace BX := hik (BX.out.keep k1)
    clear k1
    go_wp2_with fail
    refine (hcp _ K1).mono ?_
    rintro e w2 ⟨rfl, hw⟩
    have hw := hw.symm
    subst hw
    go_wp2_with fail
    refine (hcr _ K1).mono ?_
    rintro e w2 ⟨rfl, hw⟩
    have hw := hw.symm
    subst hw
    obtain ⟨x0, x1, x2, x3, x4, x5⟩ := BX.out.six
    rw [← h6] at x2
    go_wp2_with fail
    refine (hcH _ _ _ _ _ _).mono ?_
    rintro e w3 ⟨rfl, k3⟩
    have K3 := hik (K1.out.trans k3)
    replace BX := hik (BX.out.keep k3)
    clear k3 x0 x1 x2 x3 x4 x5
    go_wp2
    go_ret2
    exact MmAnsC.no HC.out (by omega) rfl K3.out
  have HC := hik (show vcc s np P nr R = 0 by rw [hC, if_neg (by rintro (q | q); exact q h6; exact h7 q)])
  have h7' : ¬ (H : Int) < nr := h7
  have hnpH : np + 1 ≤ H := by omega
  have hnrH : nr ≤ H := by omega
  obtain ⟨i0, hi, hz0, hz1, hz2⟩ := info_parts infoInt
  have HI := hik hi
  have HZ0 := hik hz0
  have HZ1 := hik hz1
  have hb : i0.bytes * (2 * H) ≤ 281474976710656 := by rw [hz2]; omega
  clear hC p0 p1 hi hz0 hz1 hz2
  go_enter Try.func10, Try.ntmps10
  go_wp2_with fail
  refine hcs.mono ?_
  rintro e w1 ⟨rfl, k1⟩
  have K1 := hik (KB.out.trans k1)
  replace BX := hik (BX.out.keep k1)
  clear k1
  go_wp2_with fail
  refine (hcp _ K1).mono ?_
  rintro e w2 ⟨rfl, hw⟩
  have hw := hw.symm
  subst hw
  go_wp2_with fail
  refine (hcr _ K1).mono ?_
  rintro e w2 ⟨rfl, hw⟩
  have hw := hw.symm
  subst hw
  obtain ⟨x0, x1, x2, x3, x4, x5⟩ := BX.out.six
  rw [← h6] at x2
  go_wp2_with fail
  refine (hcH _ _ _ _ _ _).mono ?_
  rintro e w3 ⟨rfl, k3⟩
  have K3 := hik (K1.out.trans k3)
  replace BX := hik (BX.out.keep k3)
  clear k3 x0 x1 x2 x3 x4 x5
  obtain ⟨x0, x1, x2, x3, x4, x5⟩ := BX.out.six
  go_wp2_with fail
  refine (hcc _ _ _ _ _ _).mono ?_
  rintro e w4 ⟨rfl, k4⟩
  have K4 := hik (K3.out.trans k4)
  replace BX := hik (BX.out.keep k4)
  have h4s := K4.out.size
  have hneb : ¬ w.heap.size = w4.heap.size := by have := BX.out.1; omega
  clear k4 x0 x1 x2 x3 x4 x5
  go_wp2_with (first | (at_make; refine wpList_make_row _ rfl _ _ 27 rfl 3 i0 (.int .i64 0) Try.underlying27 HI.out HZ0.out HZ1.out rfl .i64 .i64 (2 * H) rfl rfl hb (by omega) ?_; (have R0 := hik (World.rowIs_made w4 (.int .i64 0) (2 * H) 3); have KA := hik ((Chg.refl nob w4).alloc (.cells (madeCells #[.int .i64 0] (2 * H)) 3)); have K5 := hik (K4.out.trans KA.out); have B5 := hik (BX.out.keep KA.out); clear BX KA; generalize w4.alloc (.cells (madeCells #[.int .i64 0] (2 * H)) 3) = W5 at R0 K5 B5 ⊢; have hg := R0.out.cell (i := 0) (by omega); have hf := R0.out.frozen 0; have R1 := hik ((R0.out.set 0 (.int .i64 1)).congr (g := iv (vcv H 0 P 0 R)) (fun i _ => by unfold iv vcv; by_cases e : i = 0 <;> simp [e] <;> omega)); have K6 := hik (K5.out.setCell (p := ⟨w4.heap.size, 0, none⟩) (fun l => absurd (show w4.heap.size < w.heap.size from l) (by have := K4.out.size; omega)) (.int .i64 1)); have B6 := hik (B5.out.chg ((Chg.refl (fun b => b = w4.heap.size) W5).setCell (p := ⟨w4.heap.size, 0, none⟩) (fun _ => rfl) (.int .i64 1)) hneb); have V6 := hik (hp.out.keep K6.out))) | ((with_reducible refine wpList_copy_ints (.tmp 48) (.tmp 49) rfl rfl w4.heap.size 1 (2 * H - 1) (2 * H - 1) c np cap ?hd ?hs R1.out V6.out (by omega) (by omega) ?_); (case hd => rfl); (case hs => rfl); intro W7 r7 k7; (have R7 := hik (r7.congr (g := iv (vcv H np P 0 R)) (fun i _ => by unfold iv; rw [spl_pub])); have K7 := hik (K6.out.near k7 (fun i e => by omega)); have BX7 := hik (B6.out.chg k7 hneb); clear r7 k7; obtain ⟨x0, x1, x2, x3, x4, x5⟩ := BX7.out.six)) | fail)
  refine (hcH _ _ _ _ _ _).mono ?_
  rintro e w8 ⟨rfl, k8⟩
  have R8 := hik (rowIs_keep R7.out k8)
  have K8 := hik (K7.out.trans k8)
  have V8 := hik (hr.out.keep K8.out)
  clear k8 x0 x1 x2 x3 x4 x5 R7 K7 BX7
  go_wp2_with ((with_reducible refine wpList_copy_ints (.tmp 54) (.tmp 55) rfl rfl w4.heap.size H (2 * H - H) (2 * H - H) d nr cad ?hd ?hs R8.out V8.out (by omega) (by omega) ?_); (case hd => rfl); (case hs => rfl); intro W9 r9 k9; (have R9 := hik (r9.congr (g := iv (vcv H np P nr R)) (fun i _ => by unfold iv; rw [spl_priv hnpH])); have K9 := hik (K8.out.near k9 (fun i e => by omega)); clear r9 k9))
  go_ret2
  exact MmAnsC.yes HC.out h4s rfl (by first | exact Nat.le_refl _ | omega) R9.out K9.out
theorem vecX_any (s : Sy) (a : SyA) (c : Option Addr) (np cap : Nat) (P : Nat → Int) (d : Option Addr) (nr cad : Nat) (R : Nat → Int) (w : World) (hv : Hid (SyV w s a)) (hs : s.small) (hp : Hid (RowV w c np (iv P))) (hr : Hid (RowV w d nr (iv R))) (hnp : np ≤ 1099511627776) (hnr : nr ≤ 1099511627776) :
    Calls Try.prog 10 #[.agg #[.int .i64 s.r, .int .i64 s.q, .int .i64 s.p, .slice a.cA s.nA a.pA, .slice a.cB s.nB a.pB, .slice a.cC s.nC a.pC], .slice c np cap, .slice d nr cad] w fun e w' => MmAns w (vcc s np P nr R) (2 ^ s.q.toNat) (vcv (2 ^ (s.q.toNat - 1)) np P nr R) e w' :=
  (vecXc_any s a c np cap P d nr cad R w hv hs hp hr hnp hnr).mono (fun _ _ h => h.out)


end Go.Proofs.Ytpcakjajnfbgdaa
