/- For every text: ReadNumbers answers as its model does, and its answer owns its memory; the library's tables and errors are laid by its own text (the card ties them). -/
import Derived.Test.YtppiilbcnkphbaaDoorCards
import Derived.Test.YtppiilbcnkphbaaDoorTie
import Derived.WalkKit
import Derived.ProofKit
import Derived.OpenShut
import Derived.ChangeVars
import Derived.LaidMore
import Derived.Deep.DeepHandedRow
import Derived.Deep.DeepWitnessRowRef
import Derived.ShutString
import Derived.ChangeOld
import Derived.Below
import Derived.Lib.LaidTab
import Derived.Lib.SmallJoins
import Derived.Stop.LaidErr
import Derived.MakeChecks
import Derived.Test.YtppiilbcnkphbaaDoorNumS
import Derived.Test.YtppiilbcnkphbaaDoorNumX
import Derived.Test.YtppiilbcnkphbaaDoorIGro
import Derived.Test.YtppiilbcnkphbaaDoorLawH
import Derived.Deep.Strs
namespace Go.Proofs.YtppiilbcnkphbaaDoor
theorem rn_cnt (s : List UInt8) : (if rnc s = 0 then rnn s else 0) ≤ 4096 := by
  by_cases h : rnc s = 0
  · rw [if_pos h]
    unfold rnc at h
    by_cases h1 : 65536 < s.length
    · rw [if_pos h1] at h
      omega
    · rw [if_neg h1] at h
      cases hb : rnb s
      · rw [hb, if_neg (by decide)] at h
        omega
      · rw [hb, if_pos rfl] at h
        by_cases h2 : 4096 < rnn s
        · rw [if_pos h2] at h
          omega
        · omega
  · rw [if_neg h]
    omega

end Go.Proofs.YtppiilbcnkphbaaDoor
namespace Go.Proofs.YtppiilbcnkphbaaDoor.fnExactReadNumbers
open Go.ChangeShapes Go.WideShapes Go.ChangeAt Go.RowKit
open Go.Joins Go.Deep
open Go.ChangeMaps (open_string shut_string)
set_option linter.unusedVariables false
set_option maxRecDepth 100000
set_option linter.unusedSimpArgs false

theorem own : ownKnob Tryd.prog.godebug = none := by kernel_rfl
theorem laidOut : laidOutB Tryd.prog = true := by kernel_rfl
theorem tPw : ((Tryd.prog.globalNamed pwN).bind fun g => (Tryd.prog.globals[g]?).map (·.type)) = some 100 := by kernel_rfl
theorem laid_pw : (Rows.laid_internal_strconv_uint64pow10 : DataW Unit) = Go.Lib.tabData .u64 Go.Lib.pow10Tab := by rfl
/-- What the row's list gives: the library's table holds the powers of ten. -/
theorem pows {W : World} (h : laidMetH Tryd.prog Rows.fnExactReadNumbersRow.laid W) : Pw10 W := by
  obtain ⟨ps, ⟨g1, t1, cs1, f1, p1, q1, hg1, ht1, hv1, hd1, ⟨g2, t2, cs2, f2, p2, q2, hg2, ht2, hv2, hd2, ⟨g3, t3, cs3, f3, p3, q3, hg3, ht3, hv3, hd3, _, _⟩, _⟩, _⟩, _⟩ := h
  have e3 := tPw
  rw [show Tryd.prog.globalNamed pwN = some g3 from hg3, Option.bind_some] at e3
  obtain rfl := Option.some.inj (e3.symm.trans ht3)
  rw [laid_pw] at hd3
  have hc := Go.Lib.cells_of_tab (zs := Go.Lib.pow10Tab) Tryd.underlying100 Tryd.underlying85 (by kernel_rfl) (by kernel_rfl) hd3
  have hv : W.var? Tryd.prog pwN = some cs3 := hv3
  show W.var? Tryd.prog pwN = some _
  rw [hv, ← hc]
/-- The names of the other two that are read. -/
def erN : String := (Rows.fnExactReadNumbersRow.laid.map (·.1)).getD 3 ""
def asN : String := (Rows.fnExactReadNumbersRow.laid.map (·.1)).getD 6 ""
theorem gEr : Tryd.prog.globalNamed erN = some 5 := by kernel_rfl
theorem tEr : (Tryd.prog.globals[5]?).map (·.type) = some 62 := by kernel_rfl
theorem gAs : Tryd.prog.globalNamed asN = some 1 := by kernel_rfl
theorem tAs : (Tryd.prog.globals[1]?).map (·.type) = some 58 := by kernel_rfl
theorem laid_as : (Rows.laid_strings_asciiSpace : DataW Unit) = Go.Lib.tabData .u8 Go.Lib.asciiSpaceTab := by rfl
theorem asps {W : World} (h : laidMetH Tryd.prog Rows.fnExactReadNumbersRow.laid W) : Asp W := by
  obtain ⟨ps, ⟨g1, t1, cs1, f1, p1, q1, hg1, ht1, hv1, hd1, ⟨g2, t2, cs2, f2, p2, q2, hg2, ht2, hv2, hd2, ⟨g3, t3, cs3, f3, p3, q3, hg3, ht3, hv3, hd3, ⟨g4, t4, cs4, f4, p4, q4, hg4, ht4, hv4, hd4, ⟨g5, t5, cs5, f5, p5, q5, hg5, ht5, hv5, hd5, ⟨g6, t6, cs6, f6, p6, q6, hg6, ht6, hv6, hd6, ⟨g7, t7, cs7, f7, p7, q7, hg7, ht7, hv7, hd7, _, _⟩, _⟩, _⟩, _⟩, _⟩, _⟩, _⟩, _⟩ := h
  obtain rfl := Option.some.inj (gAs.symm.trans (show Tryd.prog.globalNamed asN = some g7 from hg7))
  obtain rfl := Option.some.inj (tAs.symm.trans ht7)
  rw [laid_as] at hd7
  have hc := Go.Lib.cells_of_tab (zs := Go.Lib.asciiSpaceTab) Tryd.underlying58 Tryd.underlying5 (by kernel_rfl) (by kernel_rfl) hd7
  have hv : W.var? Tryd.prog asN = some cs7 := hv7
  have ht : Go.Lib.TabIs Tryd.prog W asN .u8 Go.Lib.asciiSpaceTab := by
    show W.var? Tryd.prog asN = some _
    rw [hv, ← hc]
  exact fun c hc => by rw [ht.cell gAs c (by rw [Go.Lib.asciiSpaceTab_length]; exact hc), Go.Lib.asciiSpaceTab_at c hc]
theorem ergs {W : World} (h : laidMetH Tryd.prog Rows.fnExactReadNumbersRow.laid W) : Erg W := by
  have h0 : laidMet Tryd.prog Rows.fnExactReadNumbersRow.laid W := by
    rw [← Go.MakeChecks.laidMetH_plain Tryd.prog Rows.fnExactReadNumbersRow.laid W (by rfl)]
    exact h
  have h3 := h0.tail.tail.tail
  obtain ⟨a, s, hv, -, -, -⟩ := laid_sentinel h3 gEr tEr Tryd.underlying62 (fun u hu => typeName_ptr_named (nm := "errors.errorString") (tp := 112) (by kernel_rfl) (by kernel_rfl) (by decide) u (hu.trans (congrArg some (by kernel_rfl)))) Tryd.underlying112 Tryd.underlying114 rfl rfl Tryd.underlying9 (by kernel_rfl) (by kernel_rfl)
  have hx := World.var?_cell gEr hv 0
  exact ⟨_, _, by simpa using hx⟩

set_option maxRecDepth 100000 in
set_option maxHeartbeats 4000000 in
theorem walk (s0 : ByteArray) (w : World) (hp : Hid (Pw10 w)) (he : Hid (Erg w)) (ha : Hid (Asp w)) :
    Calls Tryd.prog 3 #[.string s0] w fun e w' => e = .returned (.bool true) ∧ Below w.heap.size w w' := by
  have K0 := hik (Chg.refl nob w)
  by_cases hm : 1048576 < s0.size
  · have hm' : (1048576 : Int) < (s0.size : Int) := by omega
    go_enter Tryd.func3, Tryd.ntmps3
    go_wp2
    go_ret
    exact ⟨rfl, K0.out.belowAll⟩
  have hm' : ¬ (1048576 : Int) < (s0.size : Int) := by omega
  have HSC := hik (fun w' => sReadNumbers_any s0 (by omega) w')
  have HI := hik (fun w' (k : Chg nob w w') => readNumbers_any s0 (by omega) w' (hik (hp.out.keep k)) (hik (he.out.keep k)) (hik (ha.out.keep k)))
  have hn9 : (if rnc s0.data.toList = 0 then rnn s0.data.toList else 0) ≤ 4096 := rn_cnt s0.data.toList
  unfold RnAns at HSC HI
  generalize (if rnc s0.data.toList = 0 then rnn s0.data.toList else 0) = n at HSC HI hn9
  generalize rvs (wds s0.data.toList) = f at HSC HI
  generalize rnc s0.data.toList = cd at HSC HI
  have HN := hik hn9
  clear hn9 hm
  go_enter Tryd.func3, Tryd.ntmps3
  go_wp2_with fail
  refine (HSC.out _).mono ?_
  rintro e W1 ⟨v, rfl, ig, kk⟩
  replace K0 := hik (K0.out.trans kk)
  obtain ⟨c1, p1, e1, _, _, _⟩ := ig.row
  subst e1
  have O1 := hik ig.own
  have HU := hik (fun b o (e : c1 = some ⟨b, o, none⟩) => ig.own.upper b o e)
  have HS1 := hik K0.out.size
  clear ig kk
  go_wp2_with fail
  refine (HI.out _ K0.out).mono ?_
  rintro e W2 ⟨v, rfl, ig, kk⟩
  replace K0 := hik (K0.out.trans kk)
  replace O1 := hik (O1.out.keep kk)
  obtain ⟨c2, p2, e2, _, _, _⟩ := ig.row
  subst e2
  have O2 := hik ig.own
  clear ig kk
  go_wp2_with fail
  refine (eqIntS_any c2 c1 n n p2 p1 f f _ (hik O2.out.row) (hik O1.out.row) rfl (fun _ _ => rfl) (by have := HN.out; omega)).mono ?_
  rintro e W3 ⟨rfl, kk⟩
  replace K0 := hik (K0.out.trans kk)
  replace O1 := hik (O1.out.keep kk)
  replace O2 := hik (O2.out.keep kk)
  clear kk
  go_wp2_with fail
  refine (markJ_own W1.heap.size c2 n p2 f _ O2 (by have := HN.out; omega)).mono ?_
  rintro e W4 ⟨rfl, o2, kk⟩
  replace K0 := hik (K0.out.near kk (fun b m => by have := HS1.out; have := m.1; omega))
  replace O1 := hik (O1.out.far kk (fun b oo hb e => (HU.out b oo e).imp id (fun h m => by have := m.1; omega)))
  replace O2 := hik o2
  clear o2 kk
  have hmk : ¬ (1 + (n : Int)) < 0 := by omega
  go_wp2_with fail
  refine (heldIntS_any c2 n p2 _ (hik O2.out.row) (by have := HN.out; omega)).mono ?_
  rintro e W5 ⟨rfl, kk⟩
  replace K0 := hik (K0.out.trans kk)
  replace O1 := hik (O1.out.keep kk)
  replace O2 := hik (O2.out.keep kk)
  clear kk
  go_wp2_with fail
  refine (HI.out _ K0.out).mono ?_
  rintro e W6 ⟨v, rfl, ig, kk⟩
  replace K0 := hik (K0.out.trans kk)
  replace O1 := hik (O1.out.keep kk)
  replace O2 := hik (O2.out.keep kk)
  obtain ⟨c3, p3, e3, _, _, _⟩ := ig.row
  subst e3
  have O3 := hik ig.own
  clear ig kk
  go_wp2_with fail
  refine (eqIntS_any c3 c1 n n p3 p1 f f _ (hik O3.out.row) (hik O1.out.row) rfl (fun _ _ => rfl) (by have := HN.out; omega)).mono ?_
  rintro e W7 ⟨rfl, kk⟩
  replace K0 := hik (K0.out.trans kk)
  replace O1 := hik (O1.out.keep kk)
  replace O2 := hik (O2.out.keep kk)
  clear kk
  go_wp2_with fail
  refine (heldIntS_any c2 n p2 _ (hik O2.out.row) (by have := HN.out; omega)).mono ?_
  rintro e W8 ⟨rfl, kk⟩
  replace K0 := hik (K0.out.trans kk)
  replace O1 := hik (O1.out.keep kk)
  replace O2 := hik (O2.out.keep kk)
  clear kk
  go_wp2
  go_ret
  exact ⟨rfl, K0.out.belowAll⟩

theorem contract (H : Type) (enc : TypeId × Value → H) (W : World) (base : Nat) (args : Array Value) (ds gs : List (DataW H)) (before : List MemPlace)
    (hval : ∀ (j : Nat) t v, Tryd.f3.params[j]? = some t → args[j]? = some v → Value.okWide Tryd.prog W .any base t v)
    (hW : DataW.Whole enc Tryd.prog Tryd.f3.params.toList Rows.fnExactReadNumbersSpec.vars false W args.toList ds gs before) (hL : laidMetH Tryd.prog Rows.fnExactReadNumbersRow.laid W) :
    Calls Tryd.prog 3 args W fun e W' => ∃ v, e = .returned v ∧ Rows.fnExactReadNumbersSpec.post enc Tryd.prog Tryd.f3 false true false false W args v W' := by
  have hW' := hW
  obtain ⟨p, q, hA0, hV, rfl, hfz, hnd⟩ := hW
  have hA : DataW.TrodAll enc Tryd.prog W 0 (fun _ => true) true Tryd.f3.params.toList args.toList ds p := hA0
  rw [Tryd.params3] at hA hval
  obtain ⟨v0, vs0, d0, ds0, p0, q0, hargs0, rfl, rfl, h0, r0⟩ := trodAll_cons hA
  obtain ⟨rfl, rfl, rfl⟩ := trodAll_nil r0
  obtain rfl : args = #[v0] := by cases args; simp_all
  obtain ⟨rfl, rfl⟩ := trodVars_none hV
  have kt0 := h0
  have lt0 : ∀ x ∈ p0, x.block < W.heap.size := by obtain ⟨m, hm⟩ := kt0; exact DataW.trod_lt m _ _ _ hm
  obtain ⟨s0, rfl, rfl, rfl, w0⟩ := open_string Tryd.underlying9 (hval 0 9 v0 rfl rfl) h0
  clear hA0
  refine (walk s0 W (hik (pows hL)) (hik (ergs hL)) (hik (asps hL))).mono fun e W' ⟨he, hbl⟩ => ?_
  subst he
  exact ⟨_, rfl, _, _, _, [], _, [], hW', trodAll_mk1 (shut_bool Tryd.underlying4 _), (trodAll_cons_mk (Below.trod laidOut (by kernel_rfl) (of_decide_eq_true (by kernel_rfl)) kt0 hbl lt0) trodAll_mk0),
    rfl, hbl.frame _, fun h => by cases h⟩

theorem laid_met (os : Os) : laidMetH Tryd.prog Rows.fnExactReadNumbersRow.laid ((World.doorLaid Tryd.prog 400 os).forCall (fun _ _ => 0) ⟨#[], #[.string ⟨#[]⟩], []⟩).memory :=
  laidMet_of_run' 16 (by kernel_rfl) (by kernel_rfl)

set_option maxRecDepth 100000 in
theorem lifted (os : Os) (started : os.Started) (H : Type) (enc : TypeId × Value → H) (F : Stop.Interp) :
    ReturnsInHanded {} Tryd.checked os 3 .any ((OpenSpec.ofChange Rows.fnExactReadNumbersSpec).preRow enc Tryd.prog Tryd.f3 Rows.fnExactReadNumbersRow.domain false Rows.fnExactReadNumbersRow.laid) (((OpenSpec.ofChange Rows.fnExactReadNumbersSpec).at F).post enc Tryd.prog Tryd.f3 false true false false) := by
  obtain ⟨x, hx⟩ : ∃ x, DataW.whole enc Tryd.prog ((World.doorLaid Tryd.prog 400 os).forCall (fun _ _ => 0) ⟨#[], #[.string ⟨#[]⟩], []⟩).memory Tryd.f3.params.toList Rows.fnExactReadNumbersSpec.vars false #[.string ⟨#[]⟩].toList 8 = some x := ⟨([.lit (.string [])], [], []), by kernel_rfl⟩
  refine returnsInHanded_of_row (C := Tryd.checked) (s := OpenSpec.ofChange Rows.fnExactReadNumbersSpec) own started (by kernel_rfl) Tryd.func3
    (witness_row_atRef (enc := enc) (C := Tryd.checked) false (World.doorLaid Tryd.prog 400 os) #[.string ⟨#[]⟩] rfl (by kernel_rfl) (by kernel_rfl) (by kernel_rfl)
      (OpenSpec.preRow_of_cond 8 hx (by kernel_rfl) (fun k hk => by cases hk) (by kernel_rfl) (laid_met os))) ?_
  intro W base args ds gs before hval hW _ _ _ hL _ _
  exact contract H enc W base args ds gs before hval hW hL

theorem said : Rows.FnExactReadNumbersSaid :=
  OpenClaim.holds_of_cond 3 Tryd.f3 rfl rfl rfl rfl rfl rfl rfl ⟨rfl, rfl, rfl, rfl, rfl⟩ rfl rfl rfl rfl rfl (by kernel_rfl) Tryd.func3 (by kernel_rfl)
    (of_decide_eq_true (by kernel_rfl)) (by unfold Func.isWrapper; first | (rw [if_pos (by decide +kernel)]; kernel_rfl) | (rw [if_neg (by decide +kernel)]; exact ⟨rfl, rfl⟩))
    (fun os started H enc _ F => by rw [OpenClaim.pre_eq_preRow]; exact lifted os started H enc F)

/-- No parameter wants a stand-in. -/
theorem plain (f : FuncId) (fn : Func) (hf : Tryd.pinned.checked.prog.funcNamed Rows.fnExactReadNumbersRow.func = some f) (hfn : Tryd.pinned.checked.prog.funcs[f]? = some fn) :
    true = Tryd.pinned.checked.prog.looks [] ∧ ∀ (j : Nat) t, fn.params[j]? = some t → Tryd.pinned.checked.prog.wantsStandIn t = false := by
  obtain rfl : f = 3 := Option.some.inj ((show Tryd.prog.funcNamed Rows.fnExactReadNumbersRow.func = some 3 by kernel_rfl).symm.trans hf) |>.symm
  obtain rfl : fn = Tryd.f3 := (Option.some.inj (Tryd.func3.symm.trans hfn)).symm
  refine ⟨by kernel_rfl, fun j t ht => ?_⟩
  rw [Tryd.params3] at ht
  obtain rfl : t = 9 := by simpa using Array.mem_of_getElem? ht
  exact (show Tryd.prog.wantsStandIn 9 = false by kernel_rfl)

end Go.Proofs.YtppiilbcnkphbaaDoor.fnExactReadNumbers
namespace Go.Proofs.YtppiilbcnkphbaaDoor
theorem FnExactReadNumbers_holds : Rows.FnExactReadNumbersCardSaid :=
  Claim7.holds_tied_plain_at .later [] _ _ _ _ fnExactReadNumbers.said (fun _ h => by cases h) (by kernel_rfl) (fun _ h => by cases h) fnExactReadNumbers_row_tie rfl ⟨rfl, rfl⟩ (by kernel_rfl) rfl fnExactReadNumbers.plain (by kernel_rfl)
#print axioms FnExactReadNumbers_holds

end Go.Proofs.YtppiilbcnkphbaaDoor
