/- Several texts in one: What the program's interpolate does to a list of its own, and what its copy of a list is: contracts. Conditions: a block of the call's own, 2 to the m elements, at most 512. · What the program's EncodeWord and Ntt answer: contracts. Conditions: lists that can be read, of at most 2 to the 40. -/
import Derived.Test.YtagjffjdoimhbadBdm
import Derived.Test.YtagjffjdoimhbadWrdX
import Derived.Laws.Cover3
import Derived.Test.YtagjffjdoimhbadRowA
import Derived.Laws.CopyRow
import Derived.Laws.CopyOwn
namespace Go.Proofs.Ytagjffjdoimhbad
open Go.ChangeShapes Go.WideShapes Go.ChangeAt Go.RowKit
set_option linter.unusedVariables false
set_option maxRecDepth 100000
set_option linter.unusedSimpArgs false

end Go.Proofs.Ytagjffjdoimhbad

namespace Go.Proofs.Ytagjffjdoimhbad
open Go.ChangeShapes Go.WideShapes Go.ChangeAt Go.RowKit
set_option linter.unusedVariables false
set_option maxRecDepth 100000
set_option linter.unusedSimpArgs false

theorem row_copied (n m : Nat) (t u : Nat → El) (hl : n ≤ m) (i : Nat) (hi : i < m * 2) : (((rowA (m * 2) (pf (cA u) (cB u))).toList.take (0 + 0) ++ ((List.range (n * 2)).map (pf (cA t) (cB t))) ++ (rowA (m * 2) (pf (cA u) (cB u))).toList.drop (0 + 0 + n * 2)))[i]? = some (pf (cA (fitE t n u)) (cB (fitE t n u)) i) := by
  simp only [Nat.add_zero, Nat.zero_add, List.take_zero, List.nil_append]
  by_cases hir : i < n * 2
  · rw [List.getElem?_append_left (by simpa using hir), List.getElem?_map, List.getElem?_range hir]
    simp only [Option.map_some, Option.some.injEq]
    unfold pf cA cB fitE
    rw [if_pos (show i / 2 < n by omega)]
  · rw [List.getElem?_append_right (by simpa using Nat.le_of_not_lt hir)]
    simp only [rowA, List.toList_toArray, List.length_map, List.length_range, List.getElem?_drop]
    rw [show n * 2 + (i - n * 2) = i by omega, List.getElem?_map, List.getElem?_range hi]
    simp only [Option.map_some, Option.some.injEq]
    unfold pf cA cB fitE
    rw [if_neg (show ¬ i / 2 < n by omega)]

section
variable {ops : Array Oper} {rest : List Oper} {o : Oper} {a : Act} {Q : Exit → Act → World → Prop} {w : World}
/-- Elements copied into the beginning of a row of elements. -/
theorem wpList_copy_row (d x : Operand) (hgd : o.guard = none) (ho : o.op = .call { callee := .builtin .copy, args := #[d, x], argTypes := #[24, 24] })
    (g m cp : Nat) (c : Option Addr) (n cap : Nat) (hd : a.eval d = .slice (some ⟨g, 0, none⟩) m cp) (hs : a.eval x = .slice c n cap) {u t : Nat → El} (hr : RowE w g m u) (hv : PairE w c n t) (hl : n ≤ m) (hn1 : 1 ≤ n)
    (h : ∀ w', RowE w' g m (fitE t n u) → Chg (fun b => b = g) w w' → wpList Try.prog ops Q rest (a.put o.dst (goInt n)) w') : wpList Try.prog ops Q (o :: rest) a w := by
  have hmin : Nat.min n m = n := Nat.min_eq_left hl
  have hu : Try.prog.underlying 24 = some (.slice 28) := Try.underlying24
  obtain ⟨i, hi, _, hz1, _⟩ := info_parts infoExt
  refine wpList_plain hgd fun K hK => ?_
  obtain ⟨xb, xo, rfl, hxb, _, _⟩ := hv.at_ (i := 0) (by omega)
  have hcs : ∀ j v, ((List.range (n * 2)).map (pf (cA t) (cB t)))[j]? = some v → w.cell? ((⟨xb, xo, none⟩ : Addr).add j) = some v := by
    intro j v hj
    by_cases hjr : j < n * 2
    · rw [List.getElem?_map, List.getElem?_range hjr] at hj
      simp at hj
      subst hj
      rw [Go.WideShapes.add_plain]
      rcases (show j % 2 = 0 ∨ j % 2 = 1 by omega) with q | q
      · rw [show xo + j = xo + j / 2 * 2 by omega, hv.c0 (i := j / 2) (by omega)]
        unfold pf; rw [if_pos q]; rfl
      · rw [show xo + j = xo + j / 2 * 2 + 1 by omega, hv.c1 (i := j / 2) (by omega)]
        unfold pf; rw [if_neg (by omega)]; rfl
    · rw [List.getElem?_eq_none (by simp; omega)] at hj
      cases hj
  have hl' := run_loadCells_list (P := Try.prog) w ⟨xb, xo, none⟩ _ hcs
  have hst := run_storeCells_at Try.prog g 0 28 ((List.range (n * 2)).map (pf (cA t) (cB t))) 0 (rowA (m * 2) (pf (cA u) (cB u))) w (rowA_of hr) (by rw [rowA_size]; simp; omega) (by intro v hv; simp at hv; obtain ⟨j, _, rfl⟩ := hv; rfl)
  have hlen : ((List.range (n * 2)).map (pf (cA t) (cB t))).length = n * 2 := by simp
  rw [hlen] at hl'
  have hrun : (Builtin.copy_ #[24, 24] o.type #[.slice (some ⟨g, 0, none⟩) m cp, .slice (some ⟨xb, xo, none⟩) n cap]).run Try.prog w = .ok (goInt n) (w.setRow g ((rowA (m * 2) (pf (cA u) (cB u))).toList.take (0 + 0) ++ ((List.range (n * 2)).map (pf (cA t) (cB t))) ++ (rowA (m * 2) (pf (cA u) (cB u))).toList.drop (0 + 0 + n * 2)).toArray) := by
    rw [hlen] at hst
    simp only [Builtin.copy_, run_underlying hu, Builtin.lenOf, Builtin.firstCells, sizeOf, typeInfo, hi, hz1, hmin, Sem.run_bind, Sem.run_pure, Result.andThen_ok]
    simp [run_underlying hu, typeInfo, hi, hz1, hmin, hl', hst]
  unfold Oper.wp
  simp only [execOp, ho, resolve, invoke, builtin, List.map_toArray, List.map_cons, List.map_nil, hd, hs]
  simp [hrun, Result.andThen]
  refine hK _ _ (h _ ?_ ?_)
  · refine ⟨_, setRow_heap w g _ _ 28 _ (rowA_of hr), ?_, fun i hi => ?_⟩
    · simp [rowA_size]; omega
    · rw [List.getElem?_toArray]
      have e := row_copied n m t u hl i hi
      simpa using e
  · refine ⟨rfl, rfl, rfl, by simp [World.setRow], fun k hk hp => ?_⟩
    simp only [World.setRow, Array.getElem?_modify]
    rw [if_neg (fun e => hp e.symm)]
end

/-- EncodeWord's answers. -/
def ewc (f g : Nat → Int) (n : Nat) (rate : Int) : Int := if akc7 f g n = 0 then (if 0 ≤ rate ∧ rate ≤ 9 ∧ n * 2 ^ rate.toNat ≤ 512 then 0 else 4) else akc7 f g n
def ewn (f g : Nat → Int) (n : Nat) (rate : Int) : Nat := if ewc f g n rate = 0 then n * 2 ^ rate.toNat else 0
def ewv (f g : Nat → Int) (n : Nat) (rate : Int) : Nat → El := El.nt (n * 2 ^ rate.toNat).log2 (fitE (elF f g) n zE) (El.rtE (n * 2 ^ rate.toNat).log2)
theorem ewn_none {f g : Nat → Int} {n : Nat} {rate k : Int} (h : ewc f g n rate = k) (hk : k ≠ 0) : ewn f g n rate = 0 := if_neg (by rw [h]; exact hk)
theorem ewn_all {f g : Nat → Int} {n : Nat} {rate : Int} (h : ewc f g n rate = 0) : ewn f g n rate = n * 2 ^ rate.toNat := if_pos h
theorem shl9 {n q : Nat} (hn : n ≤ 512) (hq : q ≤ 9) : IntKind.i64.wrap ((n : Int) * 2 ^ q) = ((n * 2 ^ q : Nat) : Int) := by
  have h1 := pow_le9 hq
  have e : ((n : Int) * 2 ^ q) = ((n * 2 ^ q : Nat) : Int) := by simp
  rw [e, IntKind.wrap_i64]
  have h2 : n * 2 ^ q ≤ 512 * 512 := Nat.mul_le_mul hn h1
  generalize n * 2 ^ q = z at h2 ⊢
  omega

set_option maxHeartbeats 4000000 in
theorem encX_any (c : Option Addr) (n cap : Nat) (f g : Nat → Int) (rate : Int) (w : World) (h : Hid (PairV w c n f g)) (hn : n ≤ 1099511627776) :
    Calls Try.prog 7 #[.slice c n cap, .int .i64 rate] w fun e w' => TbC w (ewc f g n rate) (ewn f g n rate) (ewv f g n rate) e w' := by
  obtain ⟨k, hk⟩ : ∃ k, k = akc7 f g n := ⟨_, rfl⟩
  have HK := hik hk.symm
  by_cases h0 : k = 0
  · have HC0 := hik (show akc7 f g n = 0 by rw [← hk, h0])
    subst h0
    obtain ⟨hok, m, hm, hnm⟩ := akc7_ok HC0.out
    have hn5 : n ≤ 512 := by rw [hnm]; exact pow_le9 hm
    have hn1 : 1 ≤ n := by rw [hnm]; exact Nat.one_le_two_pow
    have HN := hik hnm
    have HP := hik (PairE.of h.out hok)
    clear hk hnm
    cases hr : rtb rate
    · have HC := hik (show ewc f g n rate = 4 by
        unfold ewc
        rw [if_pos HC0.out, if_neg (fun q => by rw [rtb, decide_eq_true ⟨q.1, q.2.1⟩] at hr; cases hr)])
      have HM := hik (ewn_none HC.out (by decide))
      go_enter Try.func7, Try.ntmps7
      go_wp2_with fail
      refine (wordCode_any c n cap f g _ h hn).mono ?_
      rintro e W1 ⟨rfl, k1⟩
      rw [HK.out]
      have K1 := hik k1
      clear k1
      go_wp2_with fail
      refine (isWordRate_any rate _).mono ?_
      rintro e W2 ⟨he, hw⟩
      rw [hr] at he
      subst he
      have hw' := hw.symm
      clear hw
      subst hw'
      go_wp2
      go_ret2
      exact TbC.none HC.out HM.out K1.out
    · have hr' : 0 ≤ rate ∧ rate ≤ 9 := by unfold rtb at hr; simpa using hr
      obtain ⟨r0, r9⟩ := hr'
      obtain ⟨q, hq⟩ : ∃ q : Nat, rate = (q : Int) := ⟨rate.toNat, by omega⟩
      subst hq
      have hq9 : q ≤ 9 := by omega
      obtain ⟨z, hz⟩ : ∃ z, z = n * 2 ^ q := ⟨_, rfl⟩
      have hsh : IntKind.i64.wrap ((n : Int) * 2 ^ q) = (z : Int) := by rw [hz]; exact shl9 hn5 hq9
      have HZ := hik hz
      by_cases hz5 : z ≤ 512
      · have HC := hik (show ewc f g n (q : Int) = 0 by
          unfold ewc
          rw [if_pos HC0.out, if_pos ⟨r0, r9, by rw [Int.toNat_natCast, ← hz]; exact hz5⟩])
        have HM := hik (show ewn f g n (q : Int) = z by rw [ewn_all HC.out, Int.toNat_natCast, hz])
        have hz5' : ¬ (512 : Int) < (z : Int) := by omega
        have hnz : n ≤ z := by rw [hz]; exact Nat.le_mul_of_pos_right n (Nat.two_pow_pos q)
        have HZP := hik (show z = 2 ^ (m + q) by rw [hz, HN.out, ← Nat.pow_add])
        have hmq : m + q ≤ 9 := by
          by_cases e : m + q ≤ 9
          · exact e
          · have := Nat.pow_le_pow_right (show 1 ≤ 2 by omega) (show 10 ≤ m + q by omega)
            have e2 := HZP.out
            omega
        have HL := hik (show (n * 2 ^ ((q : Nat) : Int).toNat).log2 = m + q by rw [Int.toNat_natCast, ← hz, HZP.out, Nat.log2_two_pow])
        clear hz
        obtain ⟨i0, hi, hz0, hz1, hz2⟩ := info_parts infoExt
        have HI := hik hi
        have HZ0 := hik hz0
        have HZ1 := hik hz1
        have hb16 : i0.bytes * z ≤ 281474976710656 := by rw [hz2]; omega
        clear hi hz0 hz1 hz2
        go_enter Try.func7, Try.ntmps7
        go_wp2_with fail
        refine (wordCode_any c n cap f g _ h hn).mono ?_
        rintro e W1 ⟨rfl, k1⟩
        rw [HK.out]
        have K1 := hik k1
        clear k1
        go_wp2_with fail
        refine (isWordRate_any (q : Int) _).mono ?_
        rintro e W2 ⟨he, hw⟩
        rw [hr] at he
        subst he
        have hw' := hw.symm
        clear hw
        subst hw'
        go_wp2_with (at_make; refine wpList_make_pairs _ rfl (.tmp 26) (.tmp 26) 24 rfl 28 i0 Try.underlying24 HI.out HZ0.out HZ1.out .i64 .i64 _ _ z rfl rfl rfl rfl hb16 (by omega) ?_)
        intro W5 hr5 hk5
        have R5 := hik (show RowE W5 W1.heap.size z zE from World.rowIs.congr hr5 (fun i _ => by unfold pf cA cB zE; split <;> rfl))
        have G5 := hik (K1.out.trans hk5)
        have P5 := hik (HP.out.keep G5.out)
        have h1s := K1.out.size
        clear hr5 hk5 hb16
        go_wp2_with ((with_reducible refine wpList_copy_row (.tmp 28) (.tmp 29) rfl rfl W1.heap.size z z c n cap ?hd ?hs R5.out P5.out hnz hn1 ?_); (case hd => rfl); (case hs => rfl); intro W6 r6 k6)
        have R6 := hik (RowX.of_row r6)
        have G6 := hik (Chg.near G5.out k6 (fun i e => by omega))
        clear r6 k6 R5 G5 P5
        go_wp2_with fail
        refine (wordRoot_any hmq z HZP _).mono ?_
        rintro e W7 ⟨rfl, k7⟩
        have R7 := hik (R6.out.keep k7)
        have G7 := hik (G6.out.trans k7)
        clear k7 R6 G6
        go_wp2_with fail
        refine (evl_any (m + q) 0 _ 0 z z _ z _ _ (El.rtE (m + q)) _ HZP.out hmq rfl R7 (by omega) (by omega) (Nat.le_refl _) (by omega)).mono ?_
        rintro e W8 ⟨rfl, r8, k8⟩
        have R8 := hik r8
        have G8 := hik (Chg.near G7.out k8 (fun i e => by omega))
        clear r8 k8 R7 G7
        go_wp2
        go_ret2
        refine TbC.some HC.out HM.out (Nat.le_refl _) (by omega) (OwnE.congr (RowX.own R8.out h1s) (fun i hi => ?_)) G8.out
        have e1 := sgE_in (T := fitE (elF f g) n zE) (o := 0) (u := El.nt (m + q) (fun i => fitE (elF f g) n zE (0 + i)) (El.rtE (m + q))) hi
        rw [Nat.zero_add] at e1
        have e2 : sgE (fitE (elF f g) n zE) 0 z (El.nt (m + q) (fun i => fitE (elF f g) n zE (0 + i)) (El.rtE (m + q))) i = ewv f g n (q : Int) i := by
          rw [e1]
          unfold ewv
          rw [HL.out]
          exact El.nt_congr (m + q) (El.rtE (m + q)) (fun i _ => by rw [Nat.zero_add]) i
        unfold cA cB
        rw [e2]
        exact ⟨rfl, rfl⟩
      · have HC := hik (show ewc f g n (q : Int) = 4 by
          unfold ewc
          rw [if_pos HC0.out, if_neg (fun x => hz5 (by have := x.2.2; rw [Int.toNat_natCast, ← hz] at this; exact this))])
        have HM := hik (ewn_none HC.out (by decide))
        have hz5' : (512 : Int) < (z : Int) := by omega
        clear hz
        go_enter Try.func7, Try.ntmps7
        go_wp2_with fail
        refine (wordCode_any c n cap f g _ h hn).mono ?_
        rintro e W1 ⟨rfl, k1⟩
        rw [HK.out]
        have K1 := hik k1
        clear k1
        go_wp2_with fail
        refine (isWordRate_any (q : Int) _).mono ?_
        rintro e W2 ⟨he, hw⟩
        rw [hr] at he
        subst he
        have hw' := hw.symm
        clear hw
        subst hw'
        go_wp2
        go_ret2
        exact TbC.none HC.out HM.out K1.out
  · have HC := hik (show ewc f g n rate = k by unfold ewc; rw [if_neg (by rw [← hk]; exact h0), ← hk])
    have HM := hik (ewn_none HC.out h0)
    have hb : (k != 0) = true := bne_iff_ne.2 h0
    clear hk
    go_enter Try.func7, Try.ntmps7
    go_wp2_with fail
    refine (wordCode_any c n cap f g _ h hn).mono ?_
    rintro e W1 ⟨rfl, k1⟩
    rw [HK.out]
    have K1 := hik k1
    clear k1
    go_wp2
    go_ret2
    exact TbC.none HC.out HM.out K1.out

end Go.Proofs.Ytagjffjdoimhbad
