/- Several texts in one: Words on memory: whole arrays by value, out of rows and into rows. No program is named here. · What the program's interpolate does to a list of its own, and what its copy of a list is: contracts. Conditions: a block of the call's own, 2 to the m elements, at most 512. · What the program's EncodeWord and Ntt answer: contracts. Conditions: lists that can be read, of at most 2 to the 40. · Lists of lists of elements: words on memory. No condition but those that each theorem states. -/
import Derived.Test.YtnpmhfhgnnhclarDoorBzaa
import Derived.WalkKit
import Derived.Laws.Rows
import Derived.Laws.Tables
import Derived.Deep.WholeRow
import Derived.Test.YtnpmhfhgnnhclarDoorBzay
import Derived.Test.YtnpmhfhgnnhclarDoorBzav
import Derived.Laws.Cover3
import Derived.Laws.CopyRow
import Derived.Laws.CopyOwn
import Derived.Test.YtnpmhfhgnnhclarDoorBzao
namespace Go.Proofs.YtnpmhfhgnnhclarDoor
open Go.RowKit

/-- n values in an array. -/
def rowA (n : Nat) (f : Nat → Value) : Array Value := ((List.range n).map f).toArray
theorem rowA_size (n : Nat) (f : Nat → Value) : (rowA n f).size = n := by simp [rowA]
theorem rowA_at (n : Nat) (f : Nat → Value) (i : Nat) (h : i < n) : (rowA n f)[i]? = some (f i) := by simp [rowA, h]
theorem rowA_congr {n : Nat} {f g : Nat → Value} (h : ∀ i, i < n → f i = g i) : rowA n f = rowA n g := by
  unfold rowA
  congr 1
  exact List.map_congr_left (fun i hi => h i (by simpa using hi))
theorem rowA_of {w : World} {b : Nat} {t : TypeId} {n : Nat} {f : Nat → Value} (h : w.rowIs b t n f) : w.heap[b]? = some (.cells (rowA n f) t (0, 0)) := by
  obtain ⟨c, hb, hn, hc⟩ := h
  have e : c = rowA n f := by
    apply Array.ext_getElem?
    intro i
    by_cases hi : i < n
    · rw [hc i hi, rowA_at n f i hi]
    · rw [Array.getElem?_eq_none (by omega), Array.getElem?_eq_none (by rw [rowA_size]; omega)]
  rw [hb, e]
theorem rowIs_of {w : World} {b : Nat} {t : TypeId} {n : Nat} {f : Nat → Value} (h : w.heap[b]? = some (.cells (rowA n f) t (0, 0))) : w.rowIs b t n f :=
  ⟨_, h, rowA_size n f, fun i hi => rowA_at n f i hi⟩
theorem rowIs_new (w : World) (n : Nat) (f : Nat → Value) (t : TypeId) : (w.alloc (.cells (rowA n f) t)).rowIs w.heap.size t n f :=
  rowIs_of (heap_alloc_last w _)
theorem rowIs_newOf (w : World) (n : Nat) (f : Nat → Value) (t : TypeId) (c : Array Value) (h : c = rowA n f) : (w.alloc (.cells c t)).rowIs w.heap.size t n f := by
  subst h; exact rowIs_new w n f t
theorem rowIs_at (w : World) (g : Nat) (hg : g = w.heap.size) (n : Nat) (f : Nat → Value) (t : TypeId) (c : Array Value) (h : c = rowA n f) : (w.alloc (.cells c t)).rowIs g t n f := by
  subst hg; exact rowIs_newOf w n f t c h
theorem made_at (w : World) (g : Nat) (hg : g = w.heap.size) (z : Value) (n : Nat) (t : TypeId) : (w.alloc (.cells (madeCells #[z] n) t)).rowIs g t n (fun _ => z) := by
  subst hg; exact World.rowIs_made w z n t

section
variable {P : Program}
/-- A whole array out of its row. -/
theorem wpList_load_all {ops : Array Oper} {rest : List Oper} {o : Oper} {a : Act} {w : World} {Q : Exit → Act → World → Prop} (ty : TypeId) (x : Operand) (hgd : o.guard = none) (ho : o.op = .load ty x)
    (g : Nat) (hx : a.eval x = .pointer (some ⟨g, 0, none⟩)) (n : Nat) (e : TypeId) (f : Nat → Value) (t : TypeId) (hr : w.rowIs g t n f)
    (hu : P.underlying ty = some (.array n e)) (hi : (P.info? ty).map (·.size) = some n)
    (h : wpList P ops Q rest (a.put o.dst (.agg (rowA n f))) w) : wpList P ops Q (o :: rest) a w :=
  wpList_load_row hgd ty x ho g hx t (rowA n f) (0, 0) (.array n e) (rowA_of hr) hu rfl (by rw [rowA_size]; exact hi) h
/-- A whole array into a row. -/
theorem wpList_store_all {ops : Array Oper} {rest : List Oper} {o : Oper} {a : Act} {w : World} {Q : Exit → Act → World → Prop} (ty : TypeId) (x y : Operand) (hgd : o.guard = none) (ho : o.op = .store ty x y)
    (g : Nat) (n : Nat) (f : Nat → Value) (hx : a.eval x = .pointer (some ⟨g, 0, none⟩)) (hy : a.eval y = .agg (rowA n f))
    (t : TypeId) (f0 : Nat → Value) (hr : w.rowIs g t n f0) (hi : (P.info? ty).map (·.size) = some n)
    (h1 : ∀ i, i < n → (f i).oneCell' = true)
    (h : ∀ w', w'.rowIs g t n f → Chg (fun b => b = g) w w' → wpList P ops Q rest (a.put o.dst undef) w') : wpList P ops Q (o :: rest) a w := by
  refine wpList_store_row hgd ty x y ho g (rowA n f) hx hy t (rowA n f0) (rowA_of hr) (by rw [rowA_size]; exact hi) (by rw [rowA_size, rowA_size]) ?_ (h _ ?_ ?_)
  · rw [Array.all_eq_true_iff_forall_mem]
    intro v hv
    simp only [rowA, List.mem_toArray, List.mem_map, List.mem_range] at hv
    obtain ⟨i, hi, rfl⟩ := hv
    exact h1 i hi
  · apply rowIs_of
    have := rowA_of hr
    simp [World.setRow, Array.getElem?_modify, this]
  · refine ⟨rfl, rfl, rfl, by simp [World.setRow], fun k hk hp => ?_⟩
    simp only [World.setRow, Array.getElem?_modify]
    rw [if_neg (fun e => hp e.symm)]
/-- What is handed back by value. -/
theorem results_all {fn : Func} {p : Tmp} {ty : TypeId} (h : fn.results = #[.cell p ty]) (tmps : Array Value) (w : World) (g : Nat) (hp : tmps.getD p undef = .pointer (some ⟨g, 0, none⟩)) (n : Nat) (e : TypeId) (f : Nat → Value) (t : TypeId) (hr : w.rowIs g t n f)
    (hu : P.underlying ty = some (.array n e)) (hi : (P.info? ty).map (·.size) = some n) : (results fn tmps).run P w = .ok (.agg (rowA n f)) w :=
  results_cell_row h tmps w g t (rowA n f) (0, 0) (.array n e) hp (rowA_of hr) hu rfl (by rw [rowA_size]; exact hi)
end

end Go.Proofs.YtnpmhfhgnnhclarDoor

namespace Go.Proofs.YtnpmhfhgnnhclarDoor
open Go.ChangeShapes Go.WideShapes Go.ChangeAt Go.RowKit
set_option linter.unusedVariables false
set_option maxRecDepth 100000
set_option linter.unusedSimpArgs false


end Go.Proofs.YtnpmhfhgnnhclarDoor

namespace Go.Proofs.YtnpmhfhgnnhclarDoor
open Go.ChangeShapes Go.WideShapes Go.ChangeAt Go.RowKit
set_option linter.unusedVariables false
set_option maxRecDepth 100000
set_option linter.unusedSimpArgs false

theorem row_copied (n m : Nat) (t u : Nat → El) (hl : n ≤ m) (i : Nat) (hi : i < m * 2) : (((rowA (m * 2) (pf (cA u) (cB u))).toList.take (0 + 0) ++ ((List.range (n * 2)).map (pf (cA t) (cB t))) ++ (rowA (m * 2) (pf (cA u) (cB u))).toList.drop (0 + 0 + n * 2)))[i]? = some (pf (cA (fitE t n u)) (cB (fitE t n u)) i) := by
  simp only [Nat.add_zero, Nat.zero_add, List.take_zero, List.nil_append]
  by_cases hir : i < n * 2
  · rw [List.getElem?_append_left (by simpa using hir), List.getElem?_map, List.getElem?_range hir]
    simp only [Option.map_some, Option.some.injEq]
    unfold pf cA cB fitE
    rw [if_pos (show i / 2 < n by omega)]
  · rw [List.getElem?_append_right (by simpa using Nat.le_of_not_lt hir)]
    simp only [rowA, List.toList_toArray, List.length_map, List.length_range, List.getElem?_drop]
    rw [show n * 2 + (i - n * 2) = i by omega, List.getElem?_map, List.getElem?_range hi]
    simp only [Option.map_some, Option.some.injEq]
    unfold pf cA cB fitE
    rw [if_neg (show ¬ i / 2 < n by omega)]

section
variable {ops : Array Oper} {rest : List Oper} {o : Oper} {a : Act} {Q : Exit → Act → World → Prop} {w : World}
/-- Elements copied into the beginning of a row of elements. -/
theorem wpList_copy_row (d x : Operand) (hgd : o.guard = none) (ho : o.op = .call { callee := .builtin .copy, args := #[d, x], argTypes := #[26, 26] })
    (g m cp : Nat) (c : Option Addr) (n cap : Nat) (hd : a.eval d = .slice (some ⟨g, 0, none⟩) m cp) (hs : a.eval x = .slice c n cap) {u t : Nat → El} (hr : RowE w g m u) (hv : PairE w c n t) (hl : n ≤ m) (hn1 : 1 ≤ n)
    (h : ∀ w', RowE w' g m (fitE t n u) → Chg (fun b => b = g) w w' → wpList Tryd.prog ops Q rest (a.put o.dst (goInt n)) w') : wpList Tryd.prog ops Q (o :: rest) a w := by
  have hmin : Nat.min n m = n := Nat.min_eq_left hl
  have hu : Tryd.prog.underlying 26 = some (.slice 38) := Tryd.underlying26
  obtain ⟨i, hi, _, hz1, _⟩ := info_parts infoExt
  refine wpList_plain hgd fun K hK => ?_
  obtain ⟨xb, xo, rfl, hxb, _, _⟩ := hv.at_ (i := 0) (by omega)
  have hcs : ∀ j v, ((List.range (n * 2)).map (pf (cA t) (cB t)))[j]? = some v → w.cell? ((⟨xb, xo, none⟩ : Addr).add j) = some v := by
    intro j v hj
    by_cases hjr : j < n * 2
    · rw [List.getElem?_map, List.getElem?_range hjr] at hj
      simp at hj
      subst hj
      rw [Go.WideShapes.add_plain]
      rcases (show j % 2 = 0 ∨ j % 2 = 1 by omega) with q | q
      · rw [show xo + j = xo + j / 2 * 2 by omega, hv.c0 (i := j / 2) (by omega)]
        unfold pf; rw [if_pos q]; rfl
      · rw [show xo + j = xo + j / 2 * 2 + 1 by omega, hv.c1 (i := j / 2) (by omega)]
        unfold pf; rw [if_neg (by omega)]; rfl
    · rw [List.getElem?_eq_none (by simp; omega)] at hj
      cases hj
  have hl' := run_loadCells_list (P := Tryd.prog) w ⟨xb, xo, none⟩ _ hcs
  have hst := run_storeCells_at Tryd.prog g 0 38 ((List.range (n * 2)).map (pf (cA t) (cB t))) 0 (rowA (m * 2) (pf (cA u) (cB u))) w (rowA_of hr) (by rw [rowA_size]; simp; omega) (by intro v hv; simp at hv; obtain ⟨j, _, rfl⟩ := hv; rfl)
  have hlen : ((List.range (n * 2)).map (pf (cA t) (cB t))).length = n * 2 := by simp
  rw [hlen] at hl'
  have hrun : (Builtin.copy_ #[26, 26] o.type #[.slice (some ⟨g, 0, none⟩) m cp, .slice (some ⟨xb, xo, none⟩) n cap]).run Tryd.prog w = .ok (goInt n) (w.setRow g ((rowA (m * 2) (pf (cA u) (cB u))).toList.take (0 + 0) ++ ((List.range (n * 2)).map (pf (cA t) (cB t))) ++ (rowA (m * 2) (pf (cA u) (cB u))).toList.drop (0 + 0 + n * 2)).toArray) := by
    rw [hlen] at hst
    simp only [Builtin.copy_, run_underlying hu, Builtin.lenOf, Builtin.firstCells, sizeOf, typeInfo, hi, hz1, hmin, Sem.run_bind, Sem.run_pure, Result.andThen_ok]
    simp [run_underlying hu, typeInfo, hi, hz1, hmin, hl', hst]
  unfold Oper.wp
  simp only [execOp, ho, resolve, invoke, builtin, List.map_toArray, List.map_cons, List.map_nil, hd, hs]
  simp [hrun, Result.andThen]
  refine hK _ _ (h _ ?_ ?_)
  · refine ⟨_, setRow_heap w g _ _ 38 _ (rowA_of hr), ?_, fun i hi => ?_⟩
    · simp [rowA_size]; omega
    · rw [List.getElem?_toArray]
      have e := row_copied n m t u hl i hi
      simpa using e
  · refine ⟨rfl, rfl, rfl, by simp [World.setRow], fun k hk hp => ?_⟩
    simp only [World.setRow, Array.getElem?_modify]
    rw [if_neg (fun e => hp e.symm)]
end

/-- EncodeWord's answers. -/
def ewc (f g : Nat → Int) (n : Nat) (rate : Int) : Int := if akc7 f g n = 0 then (if 0 ≤ rate ∧ rate ≤ 9 ∧ n * 2 ^ rate.toNat ≤ 512 then 0 else 4) else akc7 f g n
def ewn (f g : Nat → Int) (n : Nat) (rate : Int) : Nat := if ewc f g n rate = 0 then n * 2 ^ rate.toNat else 0
def ewv (f g : Nat → Int) (n : Nat) (rate : Int) : Nat → El := El.nt (n * 2 ^ rate.toNat).log2 (fitE (elF f g) n zE) (El.rtE (n * 2 ^ rate.toNat).log2)
theorem ewn_none {f g : Nat → Int} {n : Nat} {rate k : Int} (h : ewc f g n rate = k) (hk : k ≠ 0) : ewn f g n rate = 0 := if_neg (by rw [h]; exact hk)
theorem ewn_all {f g : Nat → Int} {n : Nat} {rate : Int} (h : ewc f g n rate = 0) : ewn f g n rate = n * 2 ^ rate.toNat := if_pos h
theorem shl9 {n q : Nat} (hn : n ≤ 512) (hq : q ≤ 9) : IntKind.i64.wrap ((n : Int) * 2 ^ q) = ((n * 2 ^ q : Nat) : Int) := by
  have h1 := pow_le9 hq
  have e : ((n : Int) * 2 ^ q) = ((n * 2 ^ q : Nat) : Int) := by simp
  rw [e, IntKind.wrap_i64]
  have h2 : n * 2 ^ q ≤ 512 * 512 := Nat.mul_le_mul hn h1
  generalize n * 2 ^ q = z at h2 ⊢
  omega

set_option maxHeartbeats 4000000 in
theorem encX_any (c : Option Addr) (n cap : Nat) (f g : Nat → Int) (rate : Int) (w : World) (h : Hid (PairV w c n f g)) (hn : n ≤ 1099511627776) :
    Calls Tryd.prog 30 #[.slice c n cap, .int .i64 rate] w fun e w' => TbC w (ewc f g n rate) (ewn f g n rate) (ewv f g n rate) e w' := by
  obtain ⟨k, hk⟩ : ∃ k, k = akc7 f g n := ⟨_, rfl⟩
  have HK := hik hk.symm
  by_cases h0 : k = 0
  · have HC0 := hik (show akc7 f g n = 0 by rw [← hk, h0])
    subst h0
    obtain ⟨hok, m, hm, hnm⟩ := akc7_ok HC0.out
    have hn5 : n ≤ 512 := by rw [hnm]; exact pow_le9 hm
    have hn1 : 1 ≤ n := by rw [hnm]; exact Nat.one_le_two_pow
    have HN := hik hnm
    have HP := hik (PairE.of h.out hok)
    clear hk hnm
    cases hr : rtb rate
    · have HC := hik (show ewc f g n rate = 4 by
        unfold ewc
        rw [if_pos HC0.out, if_neg (fun q => by rw [rtb, decide_eq_true ⟨q.1, q.2.1⟩] at hr; cases hr)])
      have HM := hik (ewn_none HC.out (by decide))
      go_enter Tryd.func30, Tryd.ntmps30
      go_wp2_with fail
      refine (wordCode_any c n cap f g _ h hn).mono ?_
      rintro e W1 ⟨rfl, k1⟩
      rw [HK.out]
      have K1 := hik k1
      clear k1
      go_wp2_with fail
      refine (isWordRate_any rate _).mono ?_
      rintro e W2 ⟨he, hw⟩
      rw [hr] at he
      subst he
      have hw' := hw.symm
      clear hw
      subst hw'
      go_wp2
      go_ret2
      exact TbC.none HC.out HM.out K1.out
    · have hr' : 0 ≤ rate ∧ rate ≤ 9 := by unfold rtb at hr; simpa using hr
      obtain ⟨r0, r9⟩ := hr'
      obtain ⟨q, hq⟩ : ∃ q : Nat, rate = (q : Int) := ⟨rate.toNat, by omega⟩
      subst hq
      have hq9 : q ≤ 9 := by omega
      obtain ⟨z, hz⟩ : ∃ z, z = n * 2 ^ q := ⟨_, rfl⟩
      have hsh : IntKind.i64.wrap ((n : Int) * 2 ^ q) = (z : Int) := by rw [hz]; exact shl9 hn5 hq9
      have HZ := hik hz
      by_cases hz5 : z ≤ 512
      · have HC := hik (show ewc f g n (q : Int) = 0 by
          unfold ewc
          rw [if_pos HC0.out, if_pos ⟨r0, r9, by rw [Int.toNat_natCast, ← hz]; exact hz5⟩])
        have HM := hik (show ewn f g n (q : Int) = z by rw [ewn_all HC.out, Int.toNat_natCast, hz])
        have hz5' : ¬ (512 : Int) < (z : Int) := by omega
        have hnz : n ≤ z := by rw [hz]; exact Nat.le_mul_of_pos_right n (Nat.two_pow_pos q)
        have HZP := hik (show z = 2 ^ (m + q) by rw [hz, HN.out, ← Nat.pow_add])
        have hmq : m + q ≤ 9 := by
          by_cases e : m + q ≤ 9
          · exact e
          · have := Nat.pow_le_pow_right (show 1 ≤ 2 by omega) (show 10 ≤ m + q by omega)
            have e2 := HZP.out
            omega
        have HL := hik (show (n * 2 ^ ((q : Nat) : Int).toNat).log2 = m + q by rw [Int.toNat_natCast, ← hz, HZP.out, Nat.log2_two_pow])
        clear hz
        obtain ⟨i0, hi, hz0, hz1, hz2⟩ := info_parts infoExt
        have HI := hik hi
        have HZ0 := hik hz0
        have HZ1 := hik hz1
        have hb16 : i0.bytes * z ≤ 281474976710656 := by rw [hz2]; omega
        clear hi hz0 hz1 hz2
        go_enter Tryd.func30, Tryd.ntmps30
        go_wp2_with fail
        refine (wordCode_any c n cap f g _ h hn).mono ?_
        rintro e W1 ⟨rfl, k1⟩
        rw [HK.out]
        have K1 := hik k1
        clear k1
        go_wp2_with fail
        refine (isWordRate_any (q : Int) _).mono ?_
        rintro e W2 ⟨he, hw⟩
        rw [hr] at he
        subst he
        have hw' := hw.symm
        clear hw
        subst hw'
        go_wp2_with (at_make; refine wpList_make_pairs _ rfl (.tmp 26) (.tmp 26) 26 rfl 38 i0 Tryd.underlying26 HI.out HZ0.out HZ1.out .i64 .i64 _ _ z rfl rfl rfl rfl hb16 (by omega) ?_)
        intro W5 hr5 hk5
        have R5 := hik (show RowE W5 W1.heap.size z zE from World.rowIs.congr hr5 (fun i _ => by unfold pf cA cB zE; split <;> rfl))
        have G5 := hik (K1.out.trans hk5)
        have P5 := hik (HP.out.keep G5.out)
        have h1s := K1.out.size
        clear hr5 hk5 hb16
        go_wp2_with ((with_reducible refine wpList_copy_row (.tmp 28) (.tmp 29) rfl rfl W1.heap.size z z c n cap ?hd ?hs R5.out P5.out hnz hn1 ?_); (case hd => rfl); (case hs => rfl); intro W6 r6 k6)
        have R6 := hik (RowX.of_row r6)
        have G6 := hik (Chg.near G5.out k6 (fun i e => by omega))
        clear r6 k6 R5 G5 P5
        go_wp2_with fail
        refine (wordRoot_any hmq z HZP _).mono ?_
        rintro e W7 ⟨rfl, k7⟩
        have R7 := hik (R6.out.keep k7)
        have G7 := hik (G6.out.trans k7)
        clear k7 R6 G6
        go_wp2_with fail
        refine (evl_any (m + q) 0 _ 0 z z _ z _ _ (El.rtE (m + q)) _ HZP.out hmq rfl R7 (by omega) (by omega) (Nat.le_refl _) (by omega)).mono ?_
        rintro e W8 ⟨rfl, r8, k8⟩
        have R8 := hik r8
        have G8 := hik (Chg.near G7.out k8 (fun i e => by omega))
        clear r8 k8 R7 G7
        go_wp2
        go_ret2
        refine TbC.some HC.out HM.out (Nat.le_refl _) (by omega) (OwnE.congr (RowX.own R8.out h1s) (fun i hi => ?_)) G8.out
        have e1 := sgE_in (T := fitE (elF f g) n zE) (o := 0) (u := El.nt (m + q) (fun i => fitE (elF f g) n zE (0 + i)) (El.rtE (m + q))) hi
        rw [Nat.zero_add] at e1
        have e2 : sgE (fitE (elF f g) n zE) 0 z (El.nt (m + q) (fun i => fitE (elF f g) n zE (0 + i)) (El.rtE (m + q))) i = ewv f g n (q : Int) i := by
          rw [e1]
          unfold ewv
          rw [HL.out]
          exact El.nt_congr (m + q) (El.rtE (m + q)) (fun i _ => by rw [Nat.zero_add]) i
        unfold cA cB
        rw [e2]
        exact ⟨rfl, rfl⟩
      · have HC := hik (show ewc f g n (q : Int) = 4 by
          unfold ewc
          rw [if_pos HC0.out, if_neg (fun x => hz5 (by have := x.2.2; rw [Int.toNat_natCast, ← hz] at this; exact this))])
        have HM := hik (ewn_none HC.out (by decide))
        have hz5' : (512 : Int) < (z : Int) := by omega
        clear hz
        go_enter Tryd.func30, Tryd.ntmps30
        go_wp2_with fail
        refine (wordCode_any c n cap f g _ h hn).mono ?_
        rintro e W1 ⟨rfl, k1⟩
        rw [HK.out]
        have K1 := hik k1
        clear k1
        go_wp2_with fail
        refine (isWordRate_any (q : Int) _).mono ?_
        rintro e W2 ⟨he, hw⟩
        rw [hr] at he
        subst he
        have hw' := hw.symm
        clear hw
        subst hw'
        go_wp2
        go_ret2
        exact TbC.none HC.out HM.out K1.out
  · have HC := hik (show ewc f g n rate = k by unfold ewc; rw [if_neg (by rw [← hk]; exact h0), ← hk])
    have HM := hik (ewn_none HC.out h0)
    have hb : (k != 0) = true := bne_iff_ne.2 h0
    clear hk
    go_enter Tryd.func30, Tryd.ntmps30
    go_wp2_with fail
    refine (wordCode_any c n cap f g _ h hn).mono ?_
    rintro e W1 ⟨rfl, k1⟩
    rw [HK.out]
    have K1 := hik k1
    clear k1
    go_wp2
    go_ret2
    exact TbC.none HC.out HM.out K1.out

end Go.Proofs.YtnpmhfhgnnhclarDoor

namespace Go.Proofs.YtnpmhfhgnnhclarDoor
open Go.ChangeShapes Go.WideShapes Go.ChangeAt Go.RowKit
set_option linter.unusedVariables false
set_option maxRecDepth 100000
set_option linter.unusedSimpArgs false

/-- n lists that can be read behind c: list i is A i, of length L i, its parts f i, g i. -/
def RowsV (w : World) (c : Option Addr) (n : Nat) (A : Nat → Option Addr) (L C : Nat → Nat) (f g : Nat → Nat → Int) : Prop :=
  ∀ i, i < n → ∃ xb xo : Nat, c = some ⟨xb, xo, none⟩ ∧ xb < w.heap.size ∧ w.cell? ⟨xb, xo + i, none⟩ = some (.slice (A i) (L i) (C i)) ∧ PairV w (A i) (L i) (f i) (g i)
theorem RowsV.keep {w w' : World} {c : Option Addr} {n : Nat} {A : Nat → Option Addr} {L C : Nat → Nat} {f g : Nat → Nat → Int} (h : RowsV w c n A L C f g) (k : Chg nob w w') : RowsV w' c n A L C f g := by
  intro i hi
  obtain ⟨xb, xo, e, l, hc, hp⟩ := h i hi
  exact ⟨xb, xo, e, Nat.lt_of_lt_of_le l k.size, k.see hc, hp.keep k⟩
/-- n lists of N elements each. -/
def RowsE (w : World) (c : Option Addr) (n N : Nat) (t : Nat → Nat → El) : Prop :=
  ∀ i, i < n → ∃ (xb xo : Nat) (A : Option Addr) (C : Nat), c = some ⟨xb, xo, none⟩ ∧ xb < w.heap.size ∧ w.cell? ⟨xb, xo + i, none⟩ = some (.slice A N C) ∧ PairE w A N (t i)
theorem RowsE.keep {w w' : World} {c : Option Addr} {n N : Nat} {t : Nat → Nat → El} (h : RowsE w c n N t) (k : Chg nob w w') : RowsE w' c n N t := by
  intro i hi
  obtain ⟨xb, xo, A, C, e, l, hc, hp⟩ := h i hi
  exact ⟨xb, xo, A, C, e, Nat.lt_of_lt_of_le l k.size, k.see hc, PairE.keep hp k⟩
theorem RowsE.of {w : World} {c : Option Addr} {n N : Nat} {A : Nat → Option Addr} {L C : Nat → Nat} {f g : Nat → Nat → Int} (h : RowsV w c n A L C f g) (hL : ∀ i, i < n → L i = N) (ho : ∀ i, i < n → okP (f i) (g i) N = true) : RowsE w c n N (fun i => elF (f i) (g i)) := by
  intro i hi
  obtain ⟨xb, xo, e, l, hc, hp⟩ := h i hi
  rw [hL i hi] at hc hp
  exact ⟨xb, xo, A i, C i, e, l, hc, PairE.of hp (ho i hi)⟩
theorem RowsE.congr {w : World} {c : Option Addr} {n N : Nat} {t u : Nat → Nat → El} (h : RowsE w c n N t) (e : ∀ i, i < n → ∀ j, j < N → t i j = u i j) : RowsE w c n N u := by
  intro i hi
  obtain ⟨xb, xo, A, C, ec, l, hc, hp⟩ := h i hi
  exact ⟨xb, xo, A, C, ec, l, hc, PairV.congr hp (fun j hj => by unfold cA cB; rw [e i hi j hj]; exact ⟨rfl, rfl⟩)⟩
/-- j lists of H elements, list i at A i in a block of its own, not below B and other than g. -/
def TbsO (W : World) (B g j H : Nat) (A : Nat → Option Addr) (u : Nat → Nat → El) : Prop :=
  ∀ i, i < j → ∃ b : Nat, A i = some ⟨b, 0, none⟩ ∧ B ≤ b ∧ b ≠ g ∧ b < W.heap.size ∧ PairE W (A i) H (u i)
theorem TbsO.keep {W W' : World} {B g j H : Nat} {A : Nat → Option Addr} {u : Nat → Nat → El} (h : TbsO W B g j H A u) (k : Chg nob W W') : TbsO W' B g j H A u := by
  intro i hi
  obtain ⟨b, e, hb, hg, hl, hp⟩ := h i hi
  exact ⟨b, e, hb, hg, Nat.lt_of_lt_of_le hl k.size, PairE.keep hp k⟩
/-- The outer list has grown: in block g, or in a new one. -/
theorem TbsO.grown {W W' : World} {B g g' j H : Nat} {A : Nat → Option Addr} {u : Nat → Nat → El} (h : TbsO W B g j H A u) (hg : W.grownBy W' (some g)) (hat : g = g' ∨ g' = W.heap.size) : TbsO W' B g' j H A u := by
  intro i hi
  obtain ⟨b, e, hb, hne, hl, hp⟩ := h i hi
  have k : Chg (fun x => x = g) W W' := (Chg.refl _ W).grown hg (fun k e _ => by cases e; rfl)
  refine ⟨b, e, hb, ?_, Nat.lt_of_lt_of_le hl k.size, PairV.chg hp k (fun xb xo e2 _ e3 => ?_)⟩
  · rcases hat with rfl | rfl
    · exact hne
    · omega
  · rw [e] at e2
    cases e2
    exact hne e3
theorem TbsO.ext {W : World} {B g j H : Nat} {A : Nat → Option Addr} {u : Nat → Nat → El} (h : TbsO W B g j H A u) {b : Nat} (hb : B ≤ b) (hne : b ≠ g) (hl : b < W.heap.size) (hp : PairE W (some ⟨b, 0, none⟩) H (u j)) : TbsO W B g (j + 1) H (fun i => if i = j then some ⟨b, 0, none⟩ else A i) u := by
  intro i hi
  by_cases e : i = j
  · subst e
    exact ⟨b, by simp only [if_true], hb, hne, hl, by simp only [if_true]; exact hp⟩
  · obtain ⟨b', e1, r⟩ := h i (by omega)
    exact ⟨b', by simp only [e, if_false]; exact e1, by simp only [e, if_false]; exact r⟩
theorem rwNews (W : World) (x : Value) (T : TypeId) : ∀ j u, ([x] : List Value)[j]? = some u → (W.alloc (.cells #[x] T)).cell? ((⟨W.heap.size, 0, none⟩ : Addr).add j) = some u := by
  intro j u hj
  match j, hj with
  | 0, hj => simp at hj; subst hj; simp [Addr.add]
  | j + 1, hj => simp at hj
/-- Lists of lists in a block of the call's own, read. -/
theorem RowsE.of_owns {W : World} {B g n cap H : Nat} {T : TypeId} {A : Nat → Option Addr} {C : Nat → Nat} {u : Nat → Nat → El} (ho : W.ownsRow B T 1 (.slice (some ⟨g, 0, none⟩) n cap) n ((List.range n).map (fun i => Value.slice (A i) H (C i)))) {B' : Nat} (ht : TbsO W B' g n H A u) : RowsE W (some ⟨g, 0, none⟩) n H u := by
  intro i hi
  obtain ⟨b, e, _, _, _, hp⟩ := ht i hi
  have hc := ho.cells (g := g) rfl i (.slice (A i) H (C i)) (by rw [List.getElem?_map, List.getElem?_range hi]; rfl)
  rw [Go.WideShapes.add_plain] at hc
  exact ⟨g, 0, A i, C i, rfl, (ho.lt g rfl).2, hc, hp⟩

/-- As RowsE, all its blocks of one sort. -/
def RowsQ (Q : Nat → Prop) (w : World) (c : Option Addr) (n N : Nat) (t : Nat → Nat → El) : Prop :=
  ∀ i, i < n → ∃ (xb xo : Nat) (A : Option Addr) (C : Nat), c = some ⟨xb, xo, none⟩ ∧ xb < w.heap.size ∧ w.cell? ⟨xb, xo + i, none⟩ = some (.slice A N C) ∧ PairE w A N (t i) ∧ Q xb ∧ ∀ b o, A = some ⟨b, o, none⟩ → Q b
theorem RowsQ.chg {Q P : Nat → Prop} {w w' : World} {c : Option Addr} {n N : Nat} {t : Nat → Nat → El} (h : RowsQ Q w c n N t) (k : Chg P w w') (hq : ∀ b, Q b → ¬ P b) : RowsQ Q w' c n N t := by
  intro i hi
  obtain ⟨xb, xo, A, C, e, l, hc, hp, q, qa⟩ := h i hi
  exact ⟨xb, xo, A, C, e, Nat.lt_of_lt_of_le l k.size, by rw [k.cell (p := ⟨xb, xo + i, none⟩) l (hq xb q)]; exact hc, PairV.chg hp k (fun b o e _ => hq b (qa b o e)), q, qa⟩
theorem RowsQ.keep {Q : Nat → Prop} {w w' : World} {c : Option Addr} {n N : Nat} {t : Nat → Nat → El} (h : RowsQ Q w c n N t) (k : Chg nob w w') : RowsQ Q w' c n N t := h.chg k (fun _ _ x => x)
theorem RowsQ.mono {Q R : Nat → Prop} {w : World} {c : Option Addr} {n N : Nat} {t : Nat → Nat → El} (h : RowsQ Q w c n N t) (hq : ∀ b, Q b → R b) : RowsQ R w c n N t := by
  intro i hi
  obtain ⟨xb, xo, A, C, e, l, hc, hp, q, qa⟩ := h i hi
  exact ⟨xb, xo, A, C, e, l, hc, hp, hq _ q, fun b o e => hq _ (qa b o e)⟩
theorem RowsQ.of_owns {W : World} {B g n cap H : Nat} {T : TypeId} {A : Nat → Option Addr} {C : Nat → Nat} {u : Nat → Nat → El} (ho : W.ownsRow B T 1 (.slice (some ⟨g, 0, none⟩) n cap) n ((List.range n).map (fun i => Value.slice (A i) H (C i)))) (ht : TbsO W B g n H A u) : RowsQ (fun b => B ≤ b ∧ b < W.heap.size) W (some ⟨g, 0, none⟩) n H u := by
  intro i hi
  obtain ⟨b, e, hb, _, hl, hp⟩ := ht i hi
  have hc := ho.cells (g := g) rfl i (.slice (A i) H (C i)) (by rw [List.getElem?_map, List.getElem?_range hi]; rfl)
  rw [Go.WideShapes.add_plain] at hc
  refine ⟨g, 0, A i, C i, rfl, (ho.lt g rfl).2, hc, hp, ho.lt g rfl, fun b' o e' => ?_⟩
  rw [e] at e'
  cases e'
  exact ⟨hb, hl⟩
/-- Lists in blocks other than those that change. -/
theorem TbsO.chg {W W' : World} {P : Nat → Prop} {B g j H : Nat} {A : Nat → Option Addr} {u : Nat → Nat → El} (h : TbsO W B g j H A u) (k : Chg P W W') (hp : ∀ i b, i < j → A i = some ⟨b, 0, none⟩ → ¬ P b) : TbsO W' B g j H A u := by
  intro i hi
  obtain ⟨b, e, hb, hne, hl, hpr⟩ := h i hi
  refine ⟨b, e, hb, hne, Nat.lt_of_lt_of_le hl k.size, PairV.chg hpr k (fun xb xo e2 _ => ?_)⟩
  rw [e] at e2
  cases e2
  exact hp i b hi e


end Go.Proofs.YtnpmhfhgnnhclarDoor
