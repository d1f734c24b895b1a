/- For all codes (slices of bytes): the law FnPowers holds: powers add their exponents, to the prime less one each but 0 is 1, many are inverted as one by one. No condition. -/
import Derived.Test.YtbmeikbiibfpmaaRows
import Derived.WalkKit
import Derived.ProofKit
import Derived.OpenShut
import Derived.Test.YtbmeikbiibfpmaaWalks
import Derived.Test.YtbmeikbiibfpmaaFermat
import Derived.Test.YtbmeikbiibfpmaaSrc
import Derived.Test.YtbmeikbiibfpmaaSrcOf
import Derived.Test.YtbmeikbiibfpmaaOkW
import Derived.Test.YtbmeikbiibfpmaaBatch
import Derived.Test.YtbmeikbiibfpmaaSBatch
import Derived.Test.YtbmeikbiibfpmaaSameW
import Derived.Test.YtbmeikbiibfpmaaPowW
import Derived.ShutString
import Derived.ChangeOld
import Derived.Below
namespace Go.Proofs.Ytbmeikbiibfpmaa.fnPowers
open Go.ChangeShapes Go.WideShapes Go.ChangeAt Go.RowKit
open Go.ChangeMaps (open_string shut_string)
set_option linter.unusedVariables false

theorem own : ownKnob Try.prog.godebug = none := by kernel_rfl
theorem laidOut : laidOutB Try.prog = true := by kernel_rfl

/-- WHAT THE WALK IS TOLD OF A SLICE OF INTEGERS THAT CAME IN: it is nil; or it leads to a row of 'cap' cells, the numbers 'zs' (the first 'len' are its elements, the rest its spare room), each fitting its kind. -/
def IsRow (k : IntKind) (w : World) (a : Option Addr) (len cap : Nat) (zs : List Int) : Prop :=
  (a = none ∧ len = 0 ∧ cap = 0 ∧ zs = []) ∨
  ∃ x, a = some x ∧ len ≤ cap ∧ cap ≤ maxLen ∧ zs.length = cap ∧ (∀ i, i < zs.length → w.cell? (x.add i) = some (.int k (zs.getD i 0))) ∧ ∀ n ∈ zs, (Lit.int k n).wf = true

set_option maxRecDepth 100000 in
set_option maxHeartbeats 4000000 in
theorem walk (a0 : Option Addr) (len0 cap0 : Nat) (z0 : List Int) (a1 : Option Addr) (len1 cap1 : Nat) (z1 : List Int) (w : World) (w0 : IsRow .u8 w a0 len0 cap0 z0) (w1 : IsRow .u8 w a1 len1 cap1 z1) :
    Calls Try.prog 4 #[.slice a0 len0 cap0, .slice a1 len1 cap1] w fun e w' => e = .returned (.bool true) ∧ Below w.heap.size w w' := by
  obtain ⟨hB0, hl0⟩ := bytes_of_row w0
  obtain ⟨hB1, hl1⟩ := bytes_of_row w1
  have HB0 := hide hB0
  have HB1 := hide hB1
  clear w0 w1 hB0 hB1
  by_cases hm : 1048576 < len0
  · have hm' : 1048576 < (len0 : Int) := by omega
    go_enter Try.func4, Try.ntmps4
    go_wp2_with fail
    go_ret
    exact ⟨rfl, Below.refl _ _⟩
  by_cases hn : 1048576 < len1
  · have hm' : ¬ 1048576 < (len0 : Int) := by omega
    have hn' : 1048576 < (len1 : Int) := by omega
    go_enter Try.func4, Try.ntmps4
    go_wp2_with fail
    go_ret
    exact ⟨rfl, Below.refl _ _⟩
  have hm' : ¬ 1048576 < (len0 : Int) := by omega
  have hn' : ¬ 1048576 < (len1 : Int) := by omega
  go_enter Try.func4, Try.ntmps4
  go_wp2_with fail
  refine (fieldOf_any a0 len0 cap0 _ HB0.out hl0).mono ?_
  rintro e W1 ⟨a, rfl, a0', a1', hb1⟩
  have G1 := hide (Chg.of_below hb1)
  have K1 := hide (HB1.out.below hb1)
  clear hb1
  go_wp2_with fail
  refine (at_any a1 len1 cap1 0 60 _ K1.out hl1 (by omega) (by omega) (by omega) (by omega)).mono ?_
  rintro e W2 ⟨m, rfl, m0, m1, hb2⟩
  have G2 := hide (G1.out.trans (Chg.of_below hb2))
  have K2 := hide (K1.out.below hb2)
  clear hb2 K1 G1
  go_wp2_with fail
  refine (at_any a1 len1 cap1 1 60 _ K2.out hl1 (by omega) (by omega) (by omega) (by omega)).mono ?_
  rintro e W3 ⟨n, rfl, n0, n1, hb3⟩
  have G3 := hide (G2.out.trans (Chg.of_below hb3))
  clear hb3 K2 G2 HB0 HB1
  have E1 := pow_adds a m n m0 n0
  by_cases hz : a = 0
  · subst hz
    have E2 := pow_zero0 0 rfl
    go_wp2_with (first | (go_at_call 14; refine (pow_ok _ _ _ (by omega) (by omega) (by omega) (by omega)).mono ?_; rintro e w' ⟨rfl, rfl⟩) | (go_at_call 8; refine (mul_ok _ _ _ (by omega) (by omega) (by omega) (by omega)).mono ?_; rintro e w' ⟨rfl, rfl⟩))
    go_ret
    exact ⟨rfl, G3.out.wide.below (Nat.le_refl _)⟩
  · have hz' : (a == 0) = false := by simp [hz]
    have hz2 : (a != 0) = true := by simp [hz]
    have hp : 0 < a := by omega
    have E2 := Fld.fermat a hp (by omega)
    have HL := hide (lst_code a hp (by omega))
    clear hz
    go_wp2_with (first | (go_at_call 14; refine (pow_ok _ _ _ (by omega) (by omega) (by omega) (by omega)).mono ?_; rintro e w' ⟨rfl, rfl⟩) | (go_at_call 8; refine (mul_ok _ _ _ (by omega) (by omega) (by omega) (by omega)).mono ?_; rintro e w' ⟨rfl, rfl⟩))
    refine (batch_yes _ 4 4 (lst a) _ (lst_row a _ _) HL.out).mono ?_
    rintro e W4 ⟨g, hg, rfl, r4, c4⟩
    have G4 := hide ((G3.out.alloc _).trans c4)
    have R4 := hide r4
    have L4 := hide ((lst_row a _ _).keep c4)
    clear r4 c4
    go_wp2_with fail
    refine (sBatch_any _ 4 4 (lst a) _ L4.out (by omega)).mono ?_
    rintro e W5 hS
    rcases hS with ⟨hb, _⟩ | ⟨_, c0, k0, rfl, hW0, c5⟩
    · exact absurd HL.out hb
    have G5 := hide (G4.out.trans c5)
    have R5 := hide (rowIs_keep R4.out c5)
    have HW0 := hide hW0
    have c0' : W5.cell? ⟨g, 0, none⟩ = some (.int .i64 (invN a)) := R5.out.cell (by omega)
    have c1' : W5.cell? ⟨g, 1, none⟩ = some (.int .i64 1) := by rw [R5.out.cell (by omega)]; show some (Value.int .i64 (invN 1)) = _; rw [invN_one]
    have c2' : W5.cell? ⟨g, 2, none⟩ = some (.int .i64 2130706432) := by rw [R5.out.cell (by omega)]; show some (Value.int .i64 (invN 2130706432)) = _; rw [invN_neg]
    have c3' : W5.cell? ⟨g, 3, none⟩ = some (.int .i64 (invN a)) := R5.out.cell (by omega)
    clear c5 hW0 hg
    go_wp2_with fail
    go_quiet ((go_at_call 17; exact Calls.quiet_of (sameInts_any (some ⟨g, 0, none⟩) c0 4 4 4 k0 (fun i => invN (lst a i)) (fun i => invN (lst a i)) _ (RowV.of_row R5.out (Nat.le_refl _)) HW0 rfl (fun _ _ => rfl) (by omega))))
    go_wp2
    go_ret
    exact ⟨rfl, (G5.out.wide.drewN _).below (Nat.le_refl _)⟩

set_option maxRecDepth 100000 in
theorem lifted (os : Os) (started : os.Started) (H : Type) (enc : TypeId × Value → H) :
    ReturnsInHanded {} Try.checked os 4 .any (Rows.fnPowersSpec.pre6 enc Try.prog Try.f4 Rows.fnPowersRow.domain false) (Rows.fnPowersSpec.post enc Try.prog Try.f4 false true false false) := by
  refine returnsInHanded_of_change (C := Try.checked) own started (by kernel_rfl) Try.func4
    (ChangeSpec.witness6 (enc := enc) (C := Try.checked) false ⟨#[], #[.slice none 0 0, .slice none 0 0], []⟩ 8 (by kernel_rfl) (by kernel_rfl) (by kernel_rfl) (by kernel_rfl)) ?_
  intro W base args ds gs before hval0 hW hcnd _
  have hval : ∀ (j : Nat) t v, Try.f4.params[j]? = some t → args[j]? = some v → Value.okWide Try.prog W .any base t v := hval0
  have hW' := hW
  obtain ⟨p, q, hA0, hV, rfl, hfz, hnd⟩ := hW
  have hA : DataW.TrodAll enc Try.prog W 0 (fun _ => true) true Try.f4.params.toList args.toList ds p := hA0
  rw [Try.params4] at hA hval
  obtain ⟨v0, vs0, d0, ds0, p0, q0, hargs, rfl, rfl, h0, r0⟩ := trodAll_cons hA
  obtain ⟨v1, vs1, d1, ds1, p1, q1, rfl, rfl, rfl, h1, r1⟩ := trodAll_cons r0
  obtain ⟨rfl, rfl, rfl⟩ := trodAll_nil r1
  obtain rfl : args = #[v0, v1] := by cases args; simp_all
  obtain ⟨rfl, rfl⟩ := trodVars_none hV
  obtain ⟨a0, len0, cap0, rfl⟩ := okWide_slice Try.underlying22 (hval 0 22 v0 rfl rfl)
  have k0 := h0
  have lt0 : ∀ x ∈ p0, x.block < W.heap.size := by obtain ⟨m, hm⟩ := k0; exact DataW.trod_lt m _ _ _ hm
  obtain ⟨z0, w0⟩ : ∃ zs, IsRow .u8 W a0 len0 cap0 zs := by
    obtain ⟨fuel, hf⟩ := h0
    rcases open_ints Try.underlying22 Try.underlying5 (by kernel_rfl) hf with ⟨hcs, _⟩ | ⟨x, l, c, zs, hcs, _, hl, hm, hz, _, hcell, hwz⟩
    · simp [Value.cells] at hcs
      obtain ⟨rfl, rfl, rfl⟩ := hcs
      exact ⟨[], .inl ⟨rfl, rfl, rfl, rfl⟩⟩
    · simp [Value.cells] at hcs
      obtain ⟨rfl, rfl, rfl⟩ := hcs
      exact ⟨zs, .inr ⟨_, rfl, hl, hm, by simpa using hz, hcell, hwz⟩⟩
  obtain ⟨a1, len1, cap1, rfl⟩ := okWide_slice Try.underlying22 (hval 1 22 v1 rfl rfl)
  have k1 := h1
  have lt1 : ∀ x ∈ p1, x.block < W.heap.size := by obtain ⟨m, hm⟩ := k1; exact DataW.trod_lt m _ _ _ hm
  obtain ⟨z1, w1⟩ : ∃ zs, IsRow .u8 W a1 len1 cap1 zs := by
    obtain ⟨fuel, hf⟩ := h1
    rcases open_ints Try.underlying22 Try.underlying5 (by kernel_rfl) hf with ⟨hcs, _⟩ | ⟨x, l, c, zs, hcs, _, hl, hm, hz, _, hcell, hwz⟩
    · simp [Value.cells] at hcs
      obtain ⟨rfl, rfl, rfl⟩ := hcs
      exact ⟨[], .inl ⟨rfl, rfl, rfl, rfl⟩⟩
    · simp [Value.cells] at hcs
      obtain ⟨rfl, rfl, rfl⟩ := hcs
      exact ⟨zs, .inr ⟨_, rfl, hl, hm, by simpa using hz, hcell, hwz⟩⟩
  clear hA0 hval0
  refine (walk a0 len0 cap0 z0 a1 len1 cap1 z1 W w0 w1).mono fun e W' ⟨he, bel⟩ => ?_
  subst he
  exact ⟨_, rfl, _, _, _, [], _, [], hW', trodAll_mk1 (shut_bool Try.underlying4 _), (trodAll_cons_mk (Below.trod laidOut (by kernel_rfl) (of_decide_eq_true (by kernel_rfl)) k0 bel lt0) (trodAll_cons_mk (Below.trod laidOut (by kernel_rfl) (of_decide_eq_true (by kernel_rfl)) k1 bel lt1) trodAll_mk0)), rfl, bel.frame _, fun h => by cases h⟩

theorem over : Rows.fnPowersRow.holds Try.pinned (OpenSpec.ofChange Rows.fnPowersSpec) :=
  OpenClaim.holds_of_wide 4 Try.f4 rfl rfl rfl rfl rfl rfl rfl ⟨rfl, rfl, rfl, rfl, rfl⟩ rfl rfl rfl rfl rfl (by kernel_rfl) Try.func4 (by kernel_rfl)
    (of_decide_eq_true (by kernel_rfl)) (by unfold Func.isWrapper; first | (rw [if_pos (by decide +kernel)]; kernel_rfl) | (rw [if_neg (by decide +kernel)]; exact ⟨rfl, rfl⟩))
    (fun os started H enc _ => lifted os started H enc)

end Go.Proofs.Ytbmeikbiibfpmaa.fnPowers
namespace Go.Proofs.Ytbmeikbiibfpmaa
theorem FnPowers_holds : Rows.FnPowersSaid := fnPowers.over
#print axioms FnPowers_holds
end Go.Proofs.Ytbmeikbiibfpmaa
