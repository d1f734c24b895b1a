/- For every slice of entries, every integer and every slice of ints: MulMatrix answers as its model does, writes into no argument, and its answer owns its memory. No condition. -/
import Derived.Test.YtcajmdpopngpgaaRows
import Derived.WalkKit
import Derived.ProofKit
import Derived.OpenShut
import Derived.Test.YtcajmdpopngpgaaMulS
import Derived.Test.YtcajmdpopngpgaaLawEk
import Derived.Test.YtcajmdpopngpgaaOpnY
import Derived.Test.YtcajmdpopngpgaaLawSy
import Derived.ShutString
import Derived.ChangeOld
import Derived.Below
import Derived.Lib.SmallJoins
import Derived.Deep.SlicePairs
namespace Go.Proofs.Ytcajmdpopngpgaa.fnExactMulMatrix
open Go.ChangeShapes Go.WideShapes Go.ChangeAt Go.RowKit Go.Joins Go.Deep
set_option linter.unusedVariables false
set_option linter.unusedSimpArgs false

theorem own : ownKnob Try.prog.godebug = none := by kernel_rfl
theorem laidOut : laidOutB Try.prog = true := by kernel_rfl

set_option maxRecDepth 100000 in
set_option maxHeartbeats 4000000 in
theorem walk (c0 : Option Addr) (len0 cap0 : Nat) (X0 : Nat → En) (a1 : Int) (h1 : (Lit.int .i64 a1).wf = true) (c2 : Option Addr) (len2 cap2 : Nat) (f2 : Nat → Int) (w : World) (w0 : EntV w c0 len0 X0) (bg0 : len0 ≤ 9223372036854775807) (w2 : RowV w c2 len2 (iv f2)) (bg2 : len2 ≤ 9223372036854775807) :
    Calls Try.prog 5 #[.slice c0 len0 cap0, .int .i64 a1, .slice c2 len2 cap2] w fun e w' => e = .returned (.bool true) ∧ Below w.heap.size w w' := by
  have HE := hik w0
  have HZ := hik w2
  clear w0 w2
  by_cases hmz : 1048576 < len2
  · have hmz' : (1048576 : Int) < len2 := by omega
    go_enter Try.func5, Try.ntmps5
    go_wp2
    go_ret
    exact ⟨rfl, Below.refl _ _⟩
  have hmz' : ¬ (1048576 : Int) < len2 := by omega
  by_cases hm : 1048576 < len0
  · go_enter Try.func5, Try.ntmps5
    go_wp2_with (go_at_call 24; refine (szEntryS_no _ _ _ _ _ (by omega) (by omega) (by omega)).mono ?_; rintro e w' ⟨rfl, rfl⟩)
    go_ret
    exact ⟨rfl, Below.refl _ _⟩
  have hp : ¬ (1048576 : Int) - (len0 : Int) < 0 := by omega
  have HS := hik (fun (c c' : Option Addr) (p p' : Nat) (w' : World) (h : Hid (EntV w' c len0 X0)) (h' : Hid (RowV w' c' len2 (iv f2))) => sMulMx_any c len0 p X0 a1 c' len2 p' f2 w' h h' (by omega) (by omega))
  have HI := hik (fun (c c' : Option Addr) (p p' : Nat) (w' : World) (h : Hid (EntV w' c len0 X0)) (h' : Hid (RowV w' c' len2 (iv f2))) => mulMx_any c len0 p X0 a1 c' len2 p' f2 w' h h' (by omega) (by omega))
  have hMb : (if mmc len0 X0 a1 len2 f2 = 0 then 2 ^ a1.toNat else 0) ≤ 32 := by
    split
    · rename_i h0
      have hl : lgb a1 = true := by
        cases hl : lgb a1 with
        | true => rfl
        | false =>
          exfalso
          unfold mmc at h0
          split at h0
          · cases h0
          · rw [if_pos (.inl hl)] at h0; cases h0
      have : 1 ≤ a1 ∧ a1 ≤ 5 := by simpa [lgb] using hl
      exact pow5 (by omega)
    · omega
  have OAns : ∀ {w0 w' : World} {c : Option Addr}, (mmc len0 X0 a1 len2 f2 = 0 → ∃ g, w0.heap.size ≤ g ∧ c = some ⟨g, 0, none⟩ ∧ w'.rowIs g 3 (2 ^ a1.toNat) (iv (rsE X0 f2 len0))) → OwnI w' w0.heap.size c (if mmc len0 X0 a1 len2 f2 = 0 then 2 ^ a1.toNat else 0) (rsE X0 f2 len0) := by
    intro w0 w' c h
    split
    · rename_i h0
      obtain ⟨g, h1, h2, h3⟩ := h h0
      exact .inr ⟨g, h1, h2, h3⟩
    · exact .inl rfl
  unfold MmAns at HS HI
  generalize hMM : (if mmc len0 X0 a1 len2 f2 = 0 then 2 ^ a1.toNat else 0) = M at HS HI hMb OAns
  generalize rsE X0 f2 len0 = Fn at HS HI OAns
  generalize mmc len0 X0 a1 len2 f2 = Cd at HS HI OAns
  clear hMM
  have G := hik (Chg.refl nob w)
  have s1 := hik (Nat.le_refl w.heap.size)
  go_enter Try.func5, Try.ntmps5
  go_wp2_with fail
  refine (szEntryS_ok _ _ _ _ _ (by omega) (by omega)).mono ?_
  rintro e w' ⟨rfl, hw⟩
  have hw := hw.symm
  subst hw
  go_wp2_with fail
  refine (toEntryS_any c0 len0 cap0 X0 _ (hik (HE.out.keep G.out)) (by omega)).mono ?_
  rintro e W2 ⟨rfl, rr, kk⟩
  have s2 := hik kk.size
  replace G := hik (G.out.trans kk)
  have EA := hik rr
  clear rr
  clear kk
  have LEA := hik (show w.heap.size < W2.heap.size from EA.out.lt)
  go_wp2_with fail
  refine (toIntS_any c2 len2 cap2 f2 _ (hik (HZ.out.keep G.out)) (by omega)).mono ?_
  rintro e W3 ⟨rfl, rr, kk⟩
  have s3 := hik kk.size
  replace G := hik (G.out.trans kk)
  replace EA := hik (rowIs_keep EA.out kk)
  have IA := hik rr
  clear rr
  clear kk
  have LIA := hik (show W2.heap.size < W3.heap.size from IA.out.lt)
  go_wp2_with fail
  refine (HS.out _ _ _ _ _ (hik (EntV.of_row EA.out (Nat.le_refl _) (fun _ _ => rfl))) (hik (RowV.of_row IA.out (Nat.le_refl _)))).mono ?_
  rintro e W4 ⟨cw, pw, rfl, oo, kk⟩
  have s4 := hik kk.size
  replace G := hik (G.out.trans kk)
  replace EA := hik (rowIs_keep EA.out kk)
  replace IA := hik (rowIs_keep IA.out kk)
  have OW := hik (show OwnI W4 W3.heap.size cw M Fn from OAns oo)
  have UOW := hik OW.out.upper
  clear oo kk
  clear EA IA
  go_wp2_with fail
  refine (toEntryS_any c0 len0 cap0 X0 _ (hik (HE.out.keep G.out)) (by omega)).mono ?_
  rintro e W5 ⟨rfl, rr, kk⟩
  have s5 := hik kk.size
  replace G := hik (G.out.trans kk)
  replace OW := hik (OW.out.keep kk)
  have EX := hik rr
  clear rr
  clear kk
  have LEX := hik (show W4.heap.size < W5.heap.size from EX.out.lt)
  go_wp2_with fail
  refine (toIntS_any c2 len2 cap2 f2 _ (hik (HZ.out.keep G.out)) (by omega)).mono ?_
  rintro e W6 ⟨rfl, rr, kk⟩
  have s6 := hik kk.size
  replace G := hik (G.out.trans kk)
  replace OW := hik (OW.out.keep kk)
  replace EX := hik (rowIs_keep EX.out kk)
  have IX := hik rr
  clear rr
  clear kk
  have LIX := hik (show W5.heap.size < W6.heap.size from IX.out.lt)
  go_wp2_with fail
  refine (HI.out _ _ _ _ _ (hik (EntV.of_row EX.out (Nat.le_refl _) (fun _ _ => rfl))) (hik (RowV.of_row IX.out (Nat.le_refl _)))).mono ?_
  rintro e W7 ⟨cg, pg, rfl, oo, kk⟩
  have s7 := hik kk.size
  replace G := hik (G.out.trans kk)
  replace OW := hik (OW.out.keep kk)
  replace EX := hik (rowIs_keep EX.out kk)
  replace IX := hik (rowIs_keep IX.out kk)
  have OG := hik (show OwnI W7 W6.heap.size cg M Fn from OAns oo)
  have UOG := hik OG.out.upper
  clear oo kk
  go_wp2_with fail
  refine (eqIntS_any _ _ M M _ _ Fn Fn _ (hik OG.out.row) (hik OW.out.row) rfl (fun _ _ => rfl) (by omega)).mono ?_
  rintro e W8 ⟨rfl, kk⟩
  have s8 := hik kk.size
  replace G := hik (G.out.trans kk)
  replace OW := hik (OW.out.keep kk)
  replace EX := hik (rowIs_keep EX.out kk)
  replace IX := hik (rowIs_keep IX.out kk)
  replace OG := hik (OG.out.keep kk)
  clear kk
  go_wp2_with fail
  refine (toEntryS_any c0 len0 cap0 X0 _ (hik (HE.out.keep G.out)) (by omega)).mono ?_
  rintro e W9 ⟨rfl, rr, kk⟩
  have s9 := hik kk.size
  replace G := hik (G.out.trans kk)
  replace OW := hik (OW.out.keep kk)
  replace EX := hik (rowIs_keep EX.out kk)
  replace IX := hik (rowIs_keep IX.out kk)
  replace OG := hik (OG.out.keep kk)
  have EB := hik rr
  clear rr
  clear kk
  have LEB := hik (show W8.heap.size < W9.heap.size from EB.out.lt)
  go_wp2_with fail
  refine (eqEntryS_any _ _ len0 _ _ X0 _ (hik (EntV.of_row EX.out (Nat.le_refl _) (fun _ _ => rfl))) (hik (EntV.of_row EB.out (Nat.le_refl _) (fun _ _ => rfl))) (by omega)).mono ?_
  rintro e W10 ⟨rfl, kk⟩
  have s10 := hik kk.size
  replace G := hik (G.out.trans kk)
  replace OW := hik (OW.out.keep kk)
  replace EX := hik (rowIs_keep EX.out kk)
  replace IX := hik (rowIs_keep IX.out kk)
  replace OG := hik (OG.out.keep kk)
  replace EB := hik (rowIs_keep EB.out kk)
  clear kk
  clear EB
  go_wp2_with fail
  refine (toIntS_any c2 len2 cap2 f2 _ (hik (HZ.out.keep G.out)) (by omega)).mono ?_
  rintro e W11 ⟨rfl, rr, kk⟩
  have s11 := hik kk.size
  replace G := hik (G.out.trans kk)
  replace OW := hik (OW.out.keep kk)
  replace EX := hik (rowIs_keep EX.out kk)
  replace IX := hik (rowIs_keep IX.out kk)
  replace OG := hik (OG.out.keep kk)
  have IB := hik rr
  clear rr
  clear kk
  have LIB := hik (show W10.heap.size < W11.heap.size from IB.out.lt)
  go_wp2_with fail
  refine (eqIntS_any _ _ len2 len2 _ _ f2 f2 _ (hik (RowV.of_row IX.out (Nat.le_refl _))) (hik (RowV.of_row IB.out (Nat.le_refl _))) rfl (fun _ _ => rfl) (by omega)).mono ?_
  rintro e W12 ⟨rfl, kk⟩
  have s12 := hik kk.size
  replace G := hik (G.out.trans kk)
  replace OW := hik (OW.out.keep kk)
  replace EX := hik (rowIs_keep EX.out kk)
  replace IX := hik (rowIs_keep IX.out kk)
  replace OG := hik (OG.out.keep kk)
  replace IB := hik (rowIs_keep IB.out kk)
  clear kk
  clear IB
  go_wp2_with fail
  refine (markEntryS_any W4.heap.size len0 len0 X0 1 _ EX (by omega) (by omega) (by omega)).mono ?_
  rintro e W13 ⟨rfl, rr, kk⟩
  have s13 := hik kk.size
  replace G := hik (G.out.near kk (fun b m => by have := s1.out; have := s2.out; have := LEA.out; have := s3.out; have := LIA.out; have := s4.out; have := s5.out; have := LEX.out; have := s6.out; have := LIX.out; have := s7.out; have := s8.out; have := s9.out; have := LEB.out; have := s10.out; have := s11.out; have := LIB.out; have := s12.out; have := s13.out; omega))
  replace OW := hik (OW.out.far kk (fun b hb ec => ((UOW.out b ec).imp id (fun q m => by have m : b = _ := m; have := s1.out; have := s2.out; have := LEA.out; have := s3.out; have := LIA.out; have := s4.out; have := s5.out; have := LEX.out; have := s6.out; have := LIX.out; have := s7.out; have := s8.out; have := s9.out; have := LEB.out; have := s10.out; have := s11.out; have := LIB.out; have := s12.out; omega))))
  replace IX := hik (rowIs_chg IX.out kk (fun m => by have := s1.out; have := s2.out; have := LEA.out; have := s3.out; have := LIA.out; have := s4.out; have := s5.out; have := LEX.out; have := s6.out; have := LIX.out; have := s7.out; have := s8.out; have := s9.out; have := LEB.out; have := s10.out; have := s11.out; have := LIB.out; have := s12.out; have := s13.out; omega))
  replace OG := hik (OG.out.far kk (fun b hb ec => ((UOG.out b ec).imp id (fun q m => by have m : b = _ := m; have := s1.out; have := s2.out; have := LEA.out; have := s3.out; have := LIA.out; have := s4.out; have := s5.out; have := LEX.out; have := s6.out; have := LIX.out; have := s7.out; have := s8.out; have := s9.out; have := LEB.out; have := s10.out; have := s11.out; have := LIB.out; have := s12.out; omega))))
  replace EX := hik rr
  clear rr EX
  clear kk
  go_wp2_with fail
  refine (markIntS_q W5.heap.size len2 len2 f2 (1 + 3 * len0) _ IX (by omega) (by omega) (by omega)).mono ?_
  rintro e W14 ⟨rfl, kk⟩
  have s14 := hik kk.size
  replace G := hik (G.out.near kk (fun b m => by have := s1.out; have := s2.out; have := LEA.out; have := s3.out; have := LIA.out; have := s4.out; have := s5.out; have := LEX.out; have := s6.out; have := LIX.out; have := s7.out; have := s8.out; have := s9.out; have := LEB.out; have := s10.out; have := s11.out; have := LIB.out; have := s12.out; have := s13.out; have := s14.out; omega))
  replace OW := hik (OW.out.far kk (fun b hb ec => ((UOW.out b ec).imp id (fun q m => by have m : b = _ := m; have := s1.out; have := s2.out; have := LEA.out; have := s3.out; have := LIA.out; have := s4.out; have := s5.out; have := LEX.out; have := s6.out; have := LIX.out; have := s7.out; have := s8.out; have := s9.out; have := LEB.out; have := s10.out; have := s11.out; have := LIB.out; have := s12.out; have := s13.out; omega))))
  replace OG := hik (OG.out.far kk (fun b hb ec => ((UOG.out b ec).imp id (fun q m => by have m : b = _ := m; have := s1.out; have := s2.out; have := LEA.out; have := s3.out; have := LIA.out; have := s4.out; have := s5.out; have := LEX.out; have := s6.out; have := LIX.out; have := s7.out; have := s8.out; have := s9.out; have := LEB.out; have := s10.out; have := s11.out; have := LIB.out; have := s12.out; have := s13.out; omega))))
  clear IX
  clear kk
  have hkp : ¬ (1 : Int) + 3 * (len0 : Int) + (len2 : Int) < 0 := by omega
  go_wp2_with fail
  refine (eqIntS_any _ _ M M _ _ Fn Fn _ (hik OG.out.row) (hik OW.out.row) rfl (fun _ _ => rfl) (by omega)).mono ?_
  rintro e W15 ⟨rfl, kk⟩
  have s15 := hik kk.size
  replace G := hik (G.out.trans kk)
  replace OW := hik (OW.out.keep kk)
  replace OG := hik (OG.out.keep kk)
  clear kk
  have hkp2 : ¬ (1 : Int) + (M : Int) < 0 := by omega
  go_wp2_with fail
  refine (markI_own W6.heap.size cg M pg Fn _ OG (by omega)).mono ?_
  rintro e W16 ⟨rfl, og, kk⟩
  have s16 := hik kk.size
  replace G := hik (G.out.near kk (fun b m => by have m1 := m.1; have := s1.out; have := s2.out; have := LEA.out; have := s3.out; have := LIA.out; have := s4.out; have := s5.out; have := LEX.out; have := s6.out; have := LIX.out; have := s7.out; have := s8.out; have := s9.out; have := LEB.out; have := s10.out; have := s11.out; have := LIB.out; have := s12.out; have := s13.out; have := s14.out; have := s15.out; have := s16.out; omega))
  replace OW := hik (OW.out.far kk (fun b hb ec => ((UOW.out b ec).imp id (fun q m => by have m1 := m.1; have := s1.out; have := s2.out; have := LEA.out; have := s3.out; have := LIA.out; have := s4.out; have := s5.out; have := LEX.out; have := s6.out; have := LIX.out; have := s7.out; have := s8.out; have := s9.out; have := LEB.out; have := s10.out; have := s11.out; have := LIB.out; have := s12.out; have := s13.out; have := s14.out; have := s15.out; omega))))
  replace OG := hik og
  clear og
  clear kk
  go_wp2_with fail
  refine (heldIntS_any cg M pg _ (hik OG.out.row) (by omega)).mono ?_
  rintro e W17 ⟨rfl, kk⟩
  have s17 := hik kk.size
  replace G := hik (G.out.trans kk)
  replace OW := hik (OW.out.keep kk)
  replace OG := hik (OG.out.keep kk)
  clear kk
  go_wp2_with fail
  refine (toEntryS_any c0 len0 cap0 X0 _ (hik (HE.out.keep G.out)) (by omega)).mono ?_
  rintro e W18 ⟨rfl, rr, kk⟩
  have s18 := hik kk.size
  replace G := hik (G.out.trans kk)
  replace OW := hik (OW.out.keep kk)
  replace OG := hik (OG.out.keep kk)
  have EC := hik rr
  clear rr
  clear kk
  have LEC := hik (show W17.heap.size < W18.heap.size from EC.out.lt)
  go_wp2_with fail
  refine (toIntS_any c2 len2 cap2 f2 _ (hik (HZ.out.keep G.out)) (by omega)).mono ?_
  rintro e W19 ⟨rfl, rr, kk⟩
  have s19 := hik kk.size
  replace G := hik (G.out.trans kk)
  replace OW := hik (OW.out.keep kk)
  replace OG := hik (OG.out.keep kk)
  replace EC := hik (rowIs_keep EC.out kk)
  have IC := hik rr
  clear rr
  clear kk
  have LIC := hik (show W18.heap.size < W19.heap.size from IC.out.lt)
  go_wp2_with fail
  refine (HI.out _ _ _ _ _ (hik (EntV.of_row EC.out (Nat.le_refl _) (fun _ _ => rfl))) (hik (RowV.of_row IC.out (Nat.le_refl _)))).mono ?_
  rintro e W20 ⟨ch, ph, rfl, oo, kk⟩
  have s20 := hik kk.size
  replace G := hik (G.out.trans kk)
  replace OW := hik (OW.out.keep kk)
  replace OG := hik (OG.out.keep kk)
  replace EC := hik (rowIs_keep EC.out kk)
  replace IC := hik (rowIs_keep IC.out kk)
  have OH := hik (show OwnI W20 W19.heap.size ch M Fn from OAns oo)
  have UOH := hik OH.out.upper
  clear oo kk
  go_wp2_with fail
  refine (eqIntS_any _ _ M M _ _ Fn Fn _ (hik OH.out.row) (hik OW.out.row) rfl (fun _ _ => rfl) (by omega)).mono ?_
  rintro e W21 ⟨rfl, kk⟩
  have s21 := hik kk.size
  replace G := hik (G.out.trans kk)
  replace OW := hik (OW.out.keep kk)
  replace OG := hik (OG.out.keep kk)
  replace EC := hik (rowIs_keep EC.out kk)
  replace IC := hik (rowIs_keep IC.out kk)
  replace OH := hik (OH.out.keep kk)
  clear kk
  go_wp2_with fail
  refine (heldIntS_any cg M pg _ (hik OG.out.row) (by omega)).mono ?_
  rintro e W22 ⟨rfl, kk⟩
  have s22 := hik kk.size
  replace G := hik (G.out.trans kk)
  replace OW := hik (OW.out.keep kk)
  replace OG := hik (OG.out.keep kk)
  replace EC := hik (rowIs_keep EC.out kk)
  replace IC := hik (rowIs_keep IC.out kk)
  replace OH := hik (OH.out.keep kk)
  clear kk
  go_wp2
  go_ret
  exact ⟨rfl, G.out.belowAll⟩

set_option maxRecDepth 100000 in
theorem lifted (os : Os) (started : os.Started) (H : Type) (enc : TypeId × Value → H) :
    ReturnsInHanded {} Try.checked os 5 .any (Rows.fnExactMulMatrixSpec.pre6 enc Try.prog Try.f5 Rows.fnExactMulMatrixRow.domain false) (Rows.fnExactMulMatrixSpec.post enc Try.prog Try.f5 false true false false) := by
  refine returnsInHanded_of_change (C := Try.checked) own started (by kernel_rfl) Try.func5
    (ChangeSpec.witness6 (enc := enc) (C := Try.checked) false ⟨#[], #[.slice none 0 0, .int .i64 0, .slice none 0 0], []⟩ 8 (by kernel_rfl) (by kernel_rfl) (by kernel_rfl) (by kernel_rfl)) ?_
  intro W base args ds gs before hval0 hW hcnd _
  have hval : ∀ (j : Nat) t v, Try.f5.params[j]? = some t → args[j]? = some v → Value.okWide Try.prog W .any base t v := hval0
  have hW' := hW
  obtain ⟨p, q, hA0, hV, rfl, hfz, hnd⟩ := hW
  have hA : DataW.TrodAll enc Try.prog W 0 (fun _ => true) true Try.f5.params.toList args.toList ds p := hA0
  rw [Try.params5] at hA hval
  obtain ⟨v0, vs0, d0, ds0, p0, q0, hargs, rfl, rfl, h0, r0⟩ := trodAll_cons hA
  obtain ⟨v1, vs1, d1, ds1, p1, q1, rfl, rfl, rfl, h1, r1⟩ := trodAll_cons r0
  obtain ⟨v2, vs2, d2, ds2, p2, q2, rfl, rfl, rfl, h2, r2⟩ := trodAll_cons r1
  obtain ⟨rfl, rfl, rfl⟩ := trodAll_nil r2
  obtain rfl : args = #[v0, v1, v2] := by cases args; simp_all
  obtain ⟨rfl, rfl⟩ := trodVars_none hV
  have k0 := h0
  have lt0 : ∀ x ∈ p0, x.block < W.heap.size := by obtain ⟨m, hm⟩ := k0; exact DataW.trod_lt m _ _ _ hm
  obtain ⟨c0, len0, cap0, X0, rfl, w0, bg0⟩ : ∃ c n cap X, v0 = .slice c n cap ∧ EntV W c n X ∧ n ≤ 9223372036854775807 := by
    obtain ⟨c, n, cap, rfl⟩ := okWide_slice Try.underlying44 (hval 0 44 v0 rfl rfl)
    obtain ⟨fuel, hf⟩ := h0
    exact in_ents hf
  have k1 := h1
  have lt1 : ∀ x ∈ p1, x.block < W.heap.size := by obtain ⟨m, hm⟩ := k1; exact DataW.trod_lt m _ _ _ hm
  obtain ⟨a1, rfl, rfl, rfl, wi1⟩ := open_int Try.underlying3 (hval 1 3 v1 rfl rfl) h1
  have k2 := h2
  have lt2 : ∀ x ∈ p2, x.block < W.heap.size := by obtain ⟨m, hm⟩ := k2; exact DataW.trod_lt m _ _ _ hm
  obtain ⟨c2, len2, cap2, f2, rfl, w2, bg2⟩ : ∃ c n cap f, v2 = .slice c n cap ∧ RowV W c n (iv f) ∧ n ≤ 9223372036854775807 := by
    obtain ⟨c, n, cap, rfl⟩ := okWide_slice Try.underlying27 (hval 2 27 v2 rfl rfl)
    obtain ⟨fuel, hf⟩ := h2
    exact in_ints hf
  clear hA0 hval0
  refine (walk c0 len0 cap0 X0 a1 wi1 c2 len2 cap2 f2 W w0 bg0 w2 bg2).mono fun e W' ⟨he, bel⟩ => ?_
  subst he
  exact ⟨_, rfl, _, _, _, [], _, [], hW', trodAll_mk1 (shut_bool Try.underlying4 _), (trodAll_cons_mk (Below.trod laidOut (by kernel_rfl) (of_decide_eq_true (by kernel_rfl)) k0 bel lt0) (trodAll_cons_mk (Below.trod laidOut (by kernel_rfl) (of_decide_eq_true (by kernel_rfl)) k1 bel lt1) (trodAll_cons_mk (Below.trod laidOut (by kernel_rfl) (of_decide_eq_true (by kernel_rfl)) k2 bel lt2) trodAll_mk0))), rfl, bel.frame _, fun h => by cases h⟩

theorem over : Rows.fnExactMulMatrixRow.holds Try.pinned (OpenSpec.ofChange Rows.fnExactMulMatrixSpec) :=
  OpenClaim.holds_of_wide 5 Try.f5 rfl rfl rfl rfl rfl rfl rfl ⟨rfl, rfl, rfl, rfl, rfl⟩ rfl rfl rfl rfl rfl (by kernel_rfl) Try.func5 (by kernel_rfl)
    (of_decide_eq_true (by kernel_rfl)) (by unfold Func.isWrapper; first | (rw [if_pos (by decide +kernel)]; kernel_rfl) | (rw [if_neg (by decide +kernel)]; exact ⟨rfl, rfl⟩))
    (fun os started H enc _ => lifted os started H enc)

end Go.Proofs.Ytcajmdpopngpgaa.fnExactMulMatrix
namespace Go.Proofs.Ytcajmdpopngpgaa
theorem FnExactMulMatrix_holds : Rows.FnExactMulMatrixSaid := fnExactMulMatrix.over
#print axioms FnExactMulMatrix_holds
end Go.Proofs.Ytcajmdpopngpgaa
