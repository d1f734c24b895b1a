/- Several texts in one: Lists of lists that come in as an argument: what their cells hold. No condition but those that each theorem states. · What the model's look at sources answers: a contract. Condition: rows that can be read. · What the program's look at sources answers: a contract. Condition: rows that can be read. · Tables of integers as data: they read alike in every world; what reads as the tables holds them. Conditions: those of each theorem. -/
import Derived.Test.YtgiefpipflcbgaqGreatDoorBzag
import Derived.Deep.SlicePairs
import Derived.OpenShut
import Derived.Test.YtgiefpipflcbgaqGreatDoorBzad
import Derived.Test.YtgiefpipflcbgaqGreatDoorKecU
import Derived.Lib.LaidTab
namespace Go.Proofs.YtgiefpipflcbgaqGreatDoor
open Go.ChangeShapes Go.WideShapes Go.ChangeAt Go.RowKit Go.Deep
set_option linter.unusedVariables false
set_option maxRecDepth 100000
set_option linter.unusedSimpArgs false

/-- Lists of lists that came in. -/
def IsRows (w : World) (c : Option Addr) (n : Nat) (A : Nat → Option Addr) (L C : Nat → Nat) (f g : Nat → Nat → Int) : Prop :=
  (n : Int) ≤ 9223372036854775807 ∧ RowsV w c n A L C f g ∧ ∀ i, i < n → (L i : Int) ≤ 9223372036854775807
theorem cellsL2 : Tryz.prog.cellsOf 44 = 2 := by kernel_rfl
theorem cellsL1 : Tryz.prog.cellsOf 3 = 1 := by kernel_rfl
theorem cellsLS : Tryz.prog.cellsOf 23 = 1 := by kernel_rfl

section
variable {H : Type} {enc : TypeId × Value → H} {w : World} {base : Nat} {spare : Nat → Bool} {held : Bool}
theorem open_list {fuel : Nat} {v : Value} {x : DataW H × List MemPlace} (hf : DataW.trod enc Tryz.prog w base spare held fuel 23 [v] = some x) :
    ∃ q : (Option Addr × Nat × Nat) × (Nat → Int) × (Nat → Int), v = .slice q.1.1 q.1.2.1 q.1.2.2 ∧ IsPairs w q.1.1 q.1.2.1 q.1.2.2 q.2.1 q.2.2 := by
  rcases open_slice_pairs Tryz.underlying23 Tryz.underlying44 cellsL2 rfl rfl cellsL1 cellsL1 hf with ⟨hcs, _⟩ | ⟨x, l, c, m, n, V0, V1, D0, D1, P0, P1, hcs, _, hl, hm, hmm, _, hall⟩
  · simp at hcs
    subst hcs
    exact ⟨((none, 0, 0), (fun _ => 0), (fun _ => 0)), rfl, .inl ⟨rfl, rfl, rfl⟩⟩
  · simp at hcs
    subst hcs
    have hlm : l ≤ m := by rw [hmm]; split <;> omega
    refine ⟨((some x, l, c), (fun i => cint (w.cell? (x.add (i * 2)))), (fun i => cint (w.cell? (x.add (i * 2 + 1))))), rfl, .inr ⟨x, rfl, hl, hm, fun i hi => ?_⟩⟩
    have hi' : i < l := hi
    obtain ⟨h1, h2, h3, h4⟩ := hall i (by omega)
    obtain ⟨a, ea, _, _⟩ := DataW.trod_int Tryz.underlying3 h3
    obtain ⟨b, eb, _, _⟩ := DataW.trod_int Tryz.underlying3 h4
    simp at ea eb
    rw [ea] at h1
    rw [eb] at h2
    simp [h1, h2, cint]

theorem open_rows {fuel : Nat} {c : Option Addr} {n cap : Nat} {x : DataW H × List MemPlace} (hf : DataW.trod enc Tryz.prog w base spare held fuel 22 [.slice c n cap] = some x) :
    ∃ A L C f g, IsRows w c n A L C f g := by
  rcases open_slice1 Tryz.underlying22 cellsLS hf with ⟨hcs, _⟩ | ⟨a, l, cp, m, k, V, D, Pl, hcs, _, hl, hm, hmm, _, hall⟩
  · simp at hcs
    obtain ⟨rfl, rfl, rfl⟩ := hcs
    exact ⟨fun _ => none, fun _ => 0, fun _ => 0, fun _ _ => 0, fun _ _ => 0, by omega, fun i hi => absurd hi (by omega), fun i hi => absurd hi (by omega)⟩
  · simp at hcs
    obtain ⟨rfl, rfl, rfl⟩ := hcs
    have hlm : n ≤ m := by rw [hmm]; split <;> omega
    obtain ⟨q, hq⟩ := choose_lt (α := (Option Addr × Nat × Nat) × (Nat → Int) × (Nat → Int)) (n := n) (p := fun i q => w.cell? (a.add i) = some (.slice q.1.1 q.1.2.1 q.1.2.2) ∧ IsPairs w q.1.1 q.1.2.1 q.1.2.2 q.2.1 q.2.2) (fun i hi => by
      obtain ⟨h1, h2⟩ := hall i (by omega)
      obtain ⟨q, e, hp⟩ := open_list h2
      rw [e] at h1
      exact ⟨q, h1, hp⟩)
    unfold maxLen at hm
    refine ⟨fun i => (q i).1.1, fun i => (q i).1.2.1, fun i => (q i).1.2.2, fun i => (q i).2.1, fun i => (q i).2.2, by omega, fun i hi => ?_, fun i hi => (pairs_of (hq i hi).2).2⟩
    obtain ⟨h1, h2⟩ := hq i hi
    obtain ⟨b, o, spot⟩ := a
    have hs : spot = none := by simpa [Addr.add] using World.cell?_spot (hq 0 (by omega)).1
    subst hs
    rw [Go.WideShapes.add_plain] at h1
    exact ⟨b, o, rfl, block_lt_of_cell h1, h1, (pairs_of h2).1⟩
end

end Go.Proofs.YtgiefpipflcbgaqGreatDoor

namespace Go.Proofs.YtgiefpipflcbgaqGreatDoor
open Go.ChangeShapes Go.WideShapes Go.ChangeAt Go.RowKit
set_option linter.unusedVariables false
set_option maxRecDepth 100000
set_option linter.unusedSimpArgs false

/-- A source as a value. -/
def sva (c : Option Addr) (len cap : Nat) (at' : Int) (st : ByteArray) (ct : Int) : Value := .agg #[.slice c len cap, .int .i64 at', .string st, .int .i64 ct]
/-- Is it right? -/
def sokb (f g : Nat → Int) (len : Nat) (at' : Int) (st : ByteArray) (ct : Int) : Bool := decide (len ≤ 64) && okP f g len && inW at' 0 1000000 && decide (st.size = 32) && inW ct 0 1000000

set_option maxHeartbeats 2000000 in
theorem sSourceOK_any (c : Option Addr) (len cap : Nat) (at' : Int) (st : ByteArray) (ct : Int) (f g : Nat → Int) (w : World) (h : Hid (PairV w c len f g)) (hl : (len : Int) ≤ 9223372036854775807) (hs : (st.size : Int) ≤ 9223372036854775807) :
    Calls Tryz.prog 26 #[.agg #[.slice c len cap, .int .i64 at', .string st, .int .i64 ct]] w fun e w' => e = .returned (.bool (sokb f g len at' st ct)) ∧ Chg nob w w' := by
  by_cases h1 : (len : Int) ≤ 64
  · have e1 : decide (len ≤ 64) = true := decide_eq_true (by omega)
    have hl40 : len ≤ 1099511627776 := by omega
    cases h2 : okP f g len
    · have E := hik (show sokb f g len at' st ct = false by unfold sokb; rw [h2]; simp)
      go_enter Tryz.func26, Tryz.ntmps26
      go_wp2_with (go_at_call 49; refine (l02List_any c len cap f g _ (hik (h.out.keep ((Chg.refl nob w).alloc _))) hl40).mono ?_; rintro e W1 ⟨he, k1⟩; rw [h2] at he; subst he; have G1 := hik (((Chg.refl nob w).alloc (.cells #[.slice c len cap, .int .i64 at', .string st, .int .i64 ct] 31)).trans k1); clear k1)
      go_ret
      exact ⟨by rw [E.out]; rfl, G1.out⟩
    · cases h3 : inW at' 0 1000000
      · have E := hik (show sokb f g len at' st ct = false by unfold sokb; rw [h3]; simp)
        go_enter Tryz.func26, Tryz.ntmps26
        go_wp2_with (first | (go_at_call 49; refine (l02List_any c len cap f g _ (hik (h.out.keep ((Chg.refl nob w).alloc _))) hl40).mono ?_; rintro e W1 ⟨he, k1⟩; rw [h2] at he; subst he; have G1 := hik (((Chg.refl nob w).alloc (.cells #[.slice c len cap, .int .i64 at', .string st, .int .i64 ct] 31)).trans k1); obtain ⟨hc1, _, _⟩ := kcell k1 (w.heap.size + 1) (by simp); clear k1) | (go_at_call 41; refine (l01In_any _ _ _ _).mono ?_; rintro e W2 ⟨he, hw⟩; rw [h3] at he; subst he; have hw := hw.symm; subst hw))
        go_ret
        exact ⟨by rw [E.out]; rfl, G1.out⟩
      · by_cases h4 : (st.size : Int) = 32
        · have e4 : decide (st.size = 32) = true := decide_eq_true (by omega)
          have E := hik (show sokb f g len at' st ct = inW ct 0 1000000 by unfold sokb; rw [e1, h2, h3, e4]; simp)
          cases h5 : inW ct 0 1000000
          · go_enter Tryz.func26, Tryz.ntmps26
            go_wp2_with (first | (go_at_call 49; refine (l02List_any c len cap f g _ (hik (h.out.keep ((Chg.refl nob w).alloc _))) hl40).mono ?_; rintro e W1 ⟨he, k1⟩; rw [h2] at he; subst he; have G1 := hik (((Chg.refl nob w).alloc (.cells #[.slice c len cap, .int .i64 at', .string st, .int .i64 ct] 31)).trans k1); obtain ⟨hc1, _, _⟩ := kcell k1 (w.heap.size + 1) (by simp); clear k1) | (go_at_call 41; refine (l01In_any _ _ _ _).mono ?_; rintro e W2 ⟨he, hw⟩; (first | rw [h3] at he | rw [h5] at he); subst he; have hw := hw.symm; subst hw))
            go_ret
            exact ⟨by rw [E.out, h5]; rfl, G1.out⟩
          · go_enter Tryz.func26, Tryz.ntmps26
            go_wp2_with (first | (go_at_call 49; refine (l02List_any c len cap f g _ (hik (h.out.keep ((Chg.refl nob w).alloc _))) hl40).mono ?_; rintro e W1 ⟨he, k1⟩; rw [h2] at he; subst he; have G1 := hik (((Chg.refl nob w).alloc (.cells #[.slice c len cap, .int .i64 at', .string st, .int .i64 ct] 31)).trans k1); obtain ⟨hc1, _, _⟩ := kcell k1 (w.heap.size + 1) (by simp); clear k1) | (go_at_call 41; refine (l01In_any _ _ _ _).mono ?_; rintro e W2 ⟨he, hw⟩; (first | rw [h3] at he | rw [h5] at he); subst he; have hw := hw.symm; subst hw))
            go_ret
            exact ⟨by rw [E.out, h5]; rfl, G1.out⟩
        · have E := hik (show sokb f g len at' st ct = false by
            have e4 : decide (st.size = 32) = false := decide_eq_false (by omega)
            unfold sokb; rw [e4]; simp)
          go_enter Tryz.func26, Tryz.ntmps26
          go_wp2_with (first | (go_at_call 49; refine (l02List_any c len cap f g _ (hik (h.out.keep ((Chg.refl nob w).alloc _))) hl40).mono ?_; rintro e W1 ⟨he, k1⟩; rw [h2] at he; subst he; have G1 := hik (((Chg.refl nob w).alloc (.cells #[.slice c len cap, .int .i64 at', .string st, .int .i64 ct] 31)).trans k1); obtain ⟨hc1, _, _⟩ := kcell k1 (w.heap.size + 1) (by simp); clear k1) | (go_at_call 41; refine (l01In_any _ _ _ _).mono ?_; rintro e W2 ⟨he, hw⟩; rw [h3] at he; subst he; have hw := hw.symm; subst hw))
          go_ret
          exact ⟨by rw [E.out]; rfl, G1.out⟩
  · have E := hik (show sokb f g len at' st ct = false by
      have e1 : decide (len ≤ 64) = false := decide_eq_false (by omega)
      unfold sokb; rw [e1]; rfl)
    go_enter Tryz.func26, Tryz.ntmps26
    go_wp2
    go_ret
    exact ⟨by rw [E.out]; rfl, (Chg.refl _ _).alloc _⟩

end Go.Proofs.YtgiefpipflcbgaqGreatDoor

namespace Go.Proofs.YtgiefpipflcbgaqGreatDoor
open Go.ChangeShapes Go.WideShapes Go.ChangeAt Go.RowKit
set_option linter.unusedVariables false
set_option maxRecDepth 100000
set_option linter.unusedSimpArgs false

theorem inW_no {n a b : Int} (h : ¬ (a ≤ n ∧ n ≤ b)) : inW n a b = false := decide_eq_false h
theorem inW_yes {n a b : Int} (h : a ≤ n ∧ n ≤ b) : inW n a b = true := decide_eq_true h

set_option maxHeartbeats 2000000 in
theorem sourceOK_any (c : Option Addr) (len cap : Nat) (at' : Int) (st : ByteArray) (ct : Int) (f g : Nat → Int) (w : World) (h : Hid (PairV w c len f g)) (hl : (len : Int) ≤ 9223372036854775807) (hs : (st.size : Int) ≤ 9223372036854775807) :
    Calls Tryz.prog 32 #[.agg #[.slice c len cap, .int .i64 at', .string st, .int .i64 ct]] w fun e w' => e = .returned (.bool (sokb f g len at' st ct)) ∧ Chg nob w w' := by
  by_cases h1 : (len : Int) ≤ 64
  · have e1 : decide (len ≤ 64) = true := decide_eq_true (by omega)
    have hl40 : len ≤ 1099511627776 := by omega
    cases h2 : okP f g len
    · have E := hik (show sokb f g len at' st ct = false by unfold sokb; rw [h2]; simp)
      go_enter Tryz.func32, Tryz.ntmps32
      go_wp2_with (go_at_call 56; refine (extsOK_any c len cap f g _ (hik (h.out.keep ((Chg.refl nob w).alloc _))) hl40).mono ?_; rintro e W1 ⟨he, k1⟩; rw [h2] at he; subst he; have G1 := hik (((Chg.refl nob w).alloc (.cells #[.slice c len cap, .int .i64 at', .string st, .int .i64 ct] 31)).trans k1); obtain ⟨hc1, _, _⟩ := kcell k1 (w.heap.size + 1) (by simp); clear k1)
      go_ret
      exact ⟨by rw [E.out]; rfl, G1.out⟩
    by_cases h4 : (st.size : Int) = 32
    · have e4 : decide (st.size = 32) = true := decide_eq_true (by omega)
      by_cases a0 : 0 ≤ at'
      · by_cases a1 : at' ≤ 1000000
        · have e3 : inW at' 0 1000000 = true := inW_yes ⟨a0, a1⟩
          by_cases c0 : 0 ≤ ct
          · have E := hik (show sokb f g len at' st ct = decide (ct ≤ 1000000) by
              unfold sokb inW
              rw [e1, h2, e4]
              simp [a0, a1, c0])
            go_enter Tryz.func32, Tryz.ntmps32
            go_wp2_with (go_at_call 56; refine (extsOK_any c len cap f g _ (hik (h.out.keep ((Chg.refl nob w).alloc _))) hl40).mono ?_; rintro e W1 ⟨he, k1⟩; rw [h2] at he; subst he; have G1 := hik (((Chg.refl nob w).alloc (.cells #[.slice c len cap, .int .i64 at', .string st, .int .i64 ct] 31)).trans k1); obtain ⟨hc1, _, _⟩ := kcell k1 (w.heap.size + 1) (by simp); clear k1)
            go_ret
            exact ⟨by rw [E.out]; rfl, G1.out⟩
          · have E := hik (show sokb f g len at' st ct = false by unfold sokb; rw [inW_no (n := ct) (fun x => c0 x.1)]; simp)
            go_enter Tryz.func32, Tryz.ntmps32
            go_wp2_with (go_at_call 56; refine (extsOK_any c len cap f g _ (hik (h.out.keep ((Chg.refl nob w).alloc _))) hl40).mono ?_; rintro e W1 ⟨he, k1⟩; rw [h2] at he; subst he; have G1 := hik (((Chg.refl nob w).alloc (.cells #[.slice c len cap, .int .i64 at', .string st, .int .i64 ct] 31)).trans k1); obtain ⟨hc1, _, _⟩ := kcell k1 (w.heap.size + 1) (by simp); clear k1)
            go_ret
            exact ⟨by rw [E.out]; rfl, G1.out⟩
        · have E := hik (show sokb f g len at' st ct = false by unfold sokb; rw [inW_no (n := at') (fun x => a1 x.2)]; simp)
          go_enter Tryz.func32, Tryz.ntmps32
          go_wp2_with (go_at_call 56; refine (extsOK_any c len cap f g _ (hik (h.out.keep ((Chg.refl nob w).alloc _))) hl40).mono ?_; rintro e W1 ⟨he, k1⟩; rw [h2] at he; subst he; have G1 := hik (((Chg.refl nob w).alloc (.cells #[.slice c len cap, .int .i64 at', .string st, .int .i64 ct] 31)).trans k1); obtain ⟨hc1, _, _⟩ := kcell k1 (w.heap.size + 1) (by simp); clear k1)
          go_ret
          exact ⟨by rw [E.out]; rfl, G1.out⟩
      · have E := hik (show sokb f g len at' st ct = false by unfold sokb; rw [inW_no (n := at') (fun x => a0 x.1)]; simp)
        go_enter Tryz.func32, Tryz.ntmps32
        go_wp2_with (go_at_call 56; refine (extsOK_any c len cap f g _ (hik (h.out.keep ((Chg.refl nob w).alloc _))) hl40).mono ?_; rintro e W1 ⟨he, k1⟩; rw [h2] at he; subst he; have G1 := hik (((Chg.refl nob w).alloc (.cells #[.slice c len cap, .int .i64 at', .string st, .int .i64 ct] 31)).trans k1); obtain ⟨hc1, _, _⟩ := kcell k1 (w.heap.size + 1) (by simp); clear k1)
        go_ret
        exact ⟨by rw [E.out]; rfl, G1.out⟩
    · have E := hik (show sokb f g len at' st ct = false by
        have e4 : decide (st.size = 32) = false := decide_eq_false (by omega)
        unfold sokb; rw [e4]; simp)
      go_enter Tryz.func32, Tryz.ntmps32
      go_wp2_with (go_at_call 56; refine (extsOK_any c len cap f g _ (hik (h.out.keep ((Chg.refl nob w).alloc _))) hl40).mono ?_; rintro e W1 ⟨he, k1⟩; rw [h2] at he; subst he; have G1 := hik (((Chg.refl nob w).alloc (.cells #[.slice c len cap, .int .i64 at', .string st, .int .i64 ct] 31)).trans k1); obtain ⟨hc1, _, _⟩ := kcell k1 (w.heap.size + 1) (by simp); clear k1)
      go_ret
      exact ⟨by rw [E.out]; rfl, G1.out⟩
  · have E := hik (show sokb f g len at' st ct = false by
      have e1 : decide (len ≤ 64) = false := decide_eq_false (by omega)
      unfold sokb; rw [e1]; rfl)
    go_enter Tryz.func32, Tryz.ntmps32
    go_wp2
    go_ret
    exact ⟨by rw [E.out]; rfl, (Chg.refl _ _).alloc _⟩

end Go.Proofs.YtgiefpipflcbgaqGreatDoor

namespace Go.Proofs.YtgiefpipflcbgaqGreatDoor
open Go.RowKit

section
variable {H : Type} {enc : TypeId × Value → H} {P : Program} {w w' : World} {base : Nat} {sp sp' : Nat → Bool} {held held' : Bool} {t e : TypeId} {k : IntKind}
theorem int_indep {fuel : Nat} {cs : List Value} (he : P.underlying e = some (.int k)) : DataW.trod enc P w' base sp' held' fuel e cs = DataW.trod enc P w base sp held fuel e cs := by
  cases fuel with
  | zero => simp [DataW.trod]
  | succ m =>
    by_cases h : ∃ n, cs = [Value.int k n]
    · obtain ⟨n, rfl⟩ := h
      simp [DataW.trod, he]
    · have no : ∀ (u : World) (sp : Nat → Bool) (hd : Bool), DataW.trod enc P u base sp hd (m + 1) e cs = none := by
        intro u sp hd
        cases hx : DataW.trod enc P u base sp hd (m + 1) e cs with
        | none => rfl
        | some x =>
          obtain ⟨n, hs, _⟩ := DataW.trod_int he hx
          exact absurd ⟨n, hs⟩ h
      rw [no, no]
theorem ints_indep {fuel n : Nat} {cs : List Value} (ht : P.underlying t = some (.array n e)) (he : P.underlying e = some (.int k)) : DataW.trod enc P w' base sp' held' fuel t cs = DataW.trod enc P w base sp held fuel t cs := by
  cases fuel with
  | zero => simp [DataW.trod]
  | succ m =>
    simp only [DataW.trod, ht]
    have e1 : (fun i => DataW.trod enc P w' base sp' held' m e ((cs.drop (i * P.cellsOf e)).take (P.cellsOf e))) = fun i => DataW.trod enc P w base sp held m e ((cs.drop (i * P.cellsOf e)).take (P.cellsOf e)) := funext fun i => int_indep he
    rw [e1]
end
/-- The tables' numbers. -/
def shz : List Int := shl.map (fun n : Nat => (n : Int))
def rcz : List Int := rcl.map (fun n : Nat => (n : Int))
theorem shz_at (i : Nat) (h : i < 25) : (shz.map fun z => Value.int .u64 z)[i]? = some (.int .u64 (sh i : Int)) := by
  have : ∀ i : Fin 25, shl[i.val]? = some (sh i.val) := by decide
  unfold shz
  rw [List.map_map, List.getElem?_map, this ⟨i, h⟩]
  rfl
theorem rcz_at (i : Nat) (h : i < 24) : (rcz.map fun z => Value.int .u64 z)[i]? = some (.int .u64 (rcn i : Int)) := by
  have : ∀ i : Fin 24, rcl[i.val]? = some (rcn i.val) := by decide
  unfold rcz
  rw [List.map_map, List.getElem?_map, this ⟨i, h⟩]
  rfl
theorem cellsU : Tryz.prog.cellsOf 133 = 1 := by kernel_rfl
theorem cellsU64 : Tryz.prog.cellsOf 121 = 1 := by kernel_rfl
theorem cellsSh : Tryz.prog.cellsOf 143 = 25 := by kernel_rfl
theorem cellsRc : Tryz.prog.cellsOf 141 = 24 := by kernel_rfl

end Go.Proofs.YtgiefpipflcbgaqGreatDoor
