/- For all bytes, every system and every setting: ReadProof answers as its model does, writes into no argument and keeps nothing of one, and its answer owns its memory. No condition. -/
import Derived.Test.YtppiilbcnkphbaaGreatRows
import Derived.WalkKit
import Derived.ProofKit
import Derived.OpenShut
import Derived.Test.YtppiilbcnkphbaaGreatBzbk
import Derived.Test.YtppiilbcnkphbaaGreatBzbj
import Derived.Test.YtppiilbcnkphbaaGreatBzbr
import Derived.ShutString
import Derived.ChangeOld
import Derived.Below
import Derived.Lib.SmallJoins
import Derived.Deep.SlicePairs
namespace Go.Proofs.YtppiilbcnkphbaaGreat.fnExactReadProof
open Go.ChangeShapes Go.WideShapes Go.ChangeAt Go.RowKit Go.Joins Go.Deep
set_option linter.unusedVariables false
set_option linter.unusedSimpArgs false

theorem own : ownKnob Tryz.prog.godebug = none := by kernel_rfl
theorem laidOut : laidOutB Tryz.prog = true := by kernel_rfl
theorem cellsZ : Tryz.prog.cellsOf 27 = 3 := by kernel_rfl

set_option maxRecDepth 100000 in
set_option maxHeartbeats 4000000 in
theorem walk (c0 : Option Addr) (len0 cap0 : Nat) (z0 : Nat → Int) (s1 : Sy) (y1 : SyA) (a2 b2 d2 : Int) (w : World) (w0 : RowV w c0 len0 (bw z0)) (bg0 : (∀ j, 0 ≤ z0 j ∧ z0 j < 256) ∧ len0 ≤ 9223372036854775807) (w1 : SyV w s1 y1) (bg1 : s1.nA ≤ 9223372036854775807 ∧ s1.nB ≤ 9223372036854775807 ∧ s1.nC ≤ 9223372036854775807) :
    Calls Tryz.prog 3 #[.slice c0 len0 cap0, .agg #[.int .i64 s1.r, .int .i64 s1.q, .int .i64 s1.p, .slice y1.cA s1.nA y1.pA, .slice y1.cB s1.nB y1.pB, .slice y1.cC s1.nC y1.pC], .agg #[.int .i64 a2, .int .i64 b2, .int .i64 d2]] w fun e w' => e = .returned (.bool true) ∧ Below w.heap.size w w' := by
  exact walkReadProof c0 len0 cap0 z0 s1 y1 a2 b2 d2 w w0 bg0 w1 bg1

set_option maxRecDepth 100000 in
theorem lifted (os : Os) (started : os.Started) (H : Type) (enc : TypeId × Value → H) :
    ReturnsInHanded {} Tryz.checked os 3 .any (Rows.fnExactReadProofSpec.pre6 enc Tryz.prog Tryz.f3 Rows.fnExactReadProofRow.domain false) (Rows.fnExactReadProofSpec.post enc Tryz.prog Tryz.f3 false true false false) := by
  refine returnsInHanded_of_change (C := Tryz.checked) own started (by kernel_rfl) Tryz.func3
    (ChangeSpec.witness6 (enc := enc) (C := Tryz.checked) false ⟨#[], #[.slice none 0 0, .agg #[.int .i64 0, .int .i64 0, .int .i64 0, .slice none 0 0, .slice none 0 0, .slice none 0 0], .agg #[.int .i64 0, .int .i64 0, .int .i64 0]], []⟩ 8 (by kernel_rfl) (by kernel_rfl) (by kernel_rfl) (by kernel_rfl)) ?_
  intro W base args ds gs before hval0 hW hcnd _
  have hval : ∀ (j : Nat) t v, Tryz.f3.params[j]? = some t → args[j]? = some v → Value.okWide Tryz.prog W .any base t v := hval0
  have hW' := hW
  obtain ⟨p, q, hA0, hV, rfl, hfz, hnd⟩ := hW
  have hA : DataW.TrodAll enc Tryz.prog W 0 (fun _ => true) true Tryz.f3.params.toList args.toList ds p := hA0
  rw [Tryz.params3] at hA hval
  obtain ⟨v0, vs0, d0, ds0, p0, q0, hargs, rfl, rfl, h0, r0⟩ := trodAll_cons hA
  obtain ⟨v1, vs1, d1, ds1, p1, q1, rfl, rfl, rfl, h1, r1⟩ := trodAll_cons r0
  obtain ⟨v2, vs2, d2, ds2, p2, q2, rfl, rfl, rfl, h2, r2⟩ := trodAll_cons r1
  obtain ⟨rfl, rfl, rfl⟩ := trodAll_nil r2
  obtain rfl : args = #[v0, v1, v2] := by cases args; simp_all
  obtain ⟨rfl, rfl⟩ := trodVars_none hV
  have k0 := h0
  have lt0 : ∀ x ∈ p0, x.block < W.heap.size := by obtain ⟨m, hm⟩ := k0; exact DataW.trod_lt m _ _ _ hm
  obtain ⟨c0, len0, cap0, z0, rfl, w0, bg0⟩ : ∃ c n cap z, v0 = .slice c n cap ∧ RowV W c n (bw z) ∧ (∀ j, 0 ≤ z j ∧ z j < 256) ∧ n ≤ 9223372036854775807 := by
    obtain ⟨c, n, cap, rfl⟩ := okWide_slice Tryz.underlying22 (hval 0 22 v0 rfl rfl)
    obtain ⟨fuel, hf⟩ := h0
    exact in_bytes hf
  have k1 := h1
  have lt1 : ∀ x ∈ p1, x.block < W.heap.size := by obtain ⟨m, hm⟩ := k1; exact DataW.trod_lt m _ _ _ hm
  obtain ⟨s1, y1, rfl, w1, bg1⟩ := in_system (hval 1 25 v1 rfl rfl) h1
  have k2 := h2
  have lt2 : ∀ x ∈ p2, x.block < W.heap.size := by obtain ⟨m, hm⟩ := k2; exact DataW.trod_lt m _ _ _ hm
  obtain ⟨x2, z2, t2, y2, u2, o2, m2, rfl, rfl, rfl, hy2, hu2, ho2⟩ := open_agg3 Tryz.underlying27 (by kernel_rfl) cellsZ (hval 2 27 v2 rfl rfl) h2
  obtain ⟨a2, e2, rfl, wa2⟩ := DataW.trod_int Tryz.underlying3 hy2
  obtain ⟨b2, e'2, rfl, wb2⟩ := DataW.trod_int Tryz.underlying3 hu2
  obtain ⟨d2, e''2, rfl, wd2⟩ := DataW.trod_int Tryz.underlying3 ho2
  simp at e2 e'2 e''2
  subst e2 e'2 e''2
  clear hA0 hval0
  refine (walk c0 len0 cap0 z0 s1 y1 a2 b2 d2 W w0 bg0 w1 bg1).mono fun e W' ⟨he, bel⟩ => ?_
  subst he
  exact ⟨_, rfl, _, _, _, [], _, [], hW', trodAll_mk1 (shut_bool Tryz.underlying4 _), (trodAll_cons_mk (Below.trod laidOut (by kernel_rfl) (of_decide_eq_true (by kernel_rfl)) k0 bel lt0) (trodAll_cons_mk (Below.trod laidOut (by kernel_rfl) (of_decide_eq_true (by kernel_rfl)) k1 bel lt1) (trodAll_cons_mk (Below.trod laidOut (by kernel_rfl) (of_decide_eq_true (by kernel_rfl)) k2 bel lt2) trodAll_mk0))), rfl, bel.frame _, fun h => by cases h⟩

theorem over : Rows.fnExactReadProofRow.holds Tryz.pinned (OpenSpec.ofChange Rows.fnExactReadProofSpec) :=
  OpenClaim.holds_of_wide 3 Tryz.f3 rfl rfl rfl rfl rfl rfl rfl ⟨rfl, rfl, rfl, rfl, rfl⟩ rfl rfl rfl rfl rfl (by kernel_rfl) Tryz.func3 (by kernel_rfl)
    (of_decide_eq_true (by kernel_rfl)) (by unfold Func.isWrapper; first | (rw [if_pos (by decide +kernel)]; kernel_rfl) | (rw [if_neg (by decide +kernel)]; exact ⟨rfl, rfl⟩))
    (fun os started H enc _ => lifted os started H enc)


end Go.Proofs.YtppiilbcnkphbaaGreat.fnExactReadProof
namespace Go.Proofs.YtppiilbcnkphbaaGreat
theorem FnExactReadProof_holds : Rows.FnExactReadProofSaid := fnExactReadProof.over
#print axioms FnExactReadProof_holds

end Go.Proofs.YtppiilbcnkphbaaGreat
