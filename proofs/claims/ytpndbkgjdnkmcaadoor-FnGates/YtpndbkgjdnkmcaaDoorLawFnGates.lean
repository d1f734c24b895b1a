/- A right circuit's gates are read back from their texts, whatever the codes; the tables of shapes and of powers of ten, the library's two errors and the world's shape are what the row gives (the card ties them). -/
import Derived.Test.YtpndbkgjdnkmcaaDoorCards
import Derived.Test.YtpndbkgjdnkmcaaDoorTie
import Derived.WalkKit
import Derived.ProofKit
import Derived.OpenShut
import Derived.ChangeVars
import Derived.LaidMore
import Derived.Deep.DeepHandedRow
import Derived.Deep.DeepWitnessRowRef
import Derived.ShutString
import Derived.ChangeOld
import Derived.Below
import Derived.Lib.LaidTab
import Derived.Lib.SmallJoins
import Derived.Stop.LaidErr
import Derived.MakeChecks
import Derived.Deep.SlicePairs
import Derived.Deep.RegionHeld3
import Derived.Shelf.Vars
import Derived.Lay
import Derived.Deep.Strs
import Derived.Test.YtpndbkgjdnkmcaaDoorBzbm
import Derived.Test.YtpndbkgjdnkmcaaDoorOpnC
import Derived.Test.YtpndbkgjdnkmcaaDoorBzal
namespace Go.Proofs.YtpndbkgjdnkmcaaDoor.fnGates
open Go.ChangeShapes Go.WideShapes Go.ChangeAt Go.RowKit
open Go.Joins Go.Deep
open Go.ChangeMaps (open_string shut_string)
set_option linter.unusedVariables false
set_option maxRecDepth 100000
set_option linter.unusedSimpArgs false

def IsRow (k : IntKind) (w : World) (a : Option Addr) (len cap : Nat) (zs : List Int) : Prop :=
  (a = none ∧ len = 0 ∧ cap = 0 ∧ zs = []) ∨
  ∃ x, a = some x ∧ len ≤ cap ∧ cap ≤ maxLen ∧ zs.length = cap ∧ (∀ i, i < zs.length → w.cell? (x.add i) = some (.int k (zs.getD i 0))) ∧ ∀ n ∈ zs, (Lit.int k n).wf = true
theorem own : ownKnob Tryd.prog.godebug = none := by kernel_rfl
theorem laidOut : laidOutB Tryd.prog = true := by kernel_rfl
theorem gTab : Tryd.prog.globalNamed (Rows.fnGatesSpec.vars.headD default) = some 0 := by kernel_rfl
theorem tTab : (Tryd.prog.globals[0]?).map (·.type) = some 63 := by kernel_rfl
/-- The table as data. -/
def shD (i : Nat) : DataW Unit := .agg [.lit (.string (shWs.getD i [])), .lit (.int .i64 (shp i)), .lit (.bool (shn i))]
theorem laid_eq : (Rows.laid_loop_example_g00348_impl_shapes : DataW Unit) = .agg ((List.range 8).map shD) := by rfl
theorem tPw : ((Tryd.prog.globalNamed pwN).bind fun g => (Tryd.prog.globals[g]?).map (·.type)) = some 101 := by kernel_rfl
theorem laid_pw : (Rows.laid_internal_strconv_uint64pow10 : DataW Unit) = Go.Lib.tabData .u64 Go.Lib.pow10Tab := by rfl
/-- What the row's list gives: the library's table holds the powers of ten. -/
theorem pows {W : World} (h : laidMetH Tryd.prog Rows.fnGatesRow.laid W) : Pw10 W := by
  obtain ⟨ps, ⟨g1, t1, cs1, f1, p1, q1, hg1, ht1, hv1, hd1, ⟨g2, t2, cs2, f2, p2, q2, hg2, ht2, hv2, hd2, ⟨g3, t3, cs3, f3, p3, q3, hg3, ht3, hv3, hd3, _, _⟩, _⟩, _⟩, _⟩ := h
  have e3 := tPw
  rw [show Tryd.prog.globalNamed pwN = some g3 from hg3, Option.bind_some] at e3
  obtain rfl := Option.some.inj (e3.symm.trans ht3)
  rw [laid_pw] at hd3
  have hc := Go.Lib.cells_of_tab (zs := Go.Lib.pow10Tab) Tryd.underlying101 Tryd.underlying89 (by kernel_rfl) (by kernel_rfl) hd3
  have hv : W.var? Tryd.prog pwN = some cs3 := hv3
  show W.var? Tryd.prog pwN = some _
  rw [hv, ← hc]
/-- What the row's list gives: the table holds its shapes. -/
theorem table {W : World} (h : laidMetH Tryd.prog Rows.fnGatesRow.laid W) : Shp W := by
  obtain ⟨ps, ⟨g1, t1, cs1, f1, p1, q1, hg1, ht1, hv1, hd1, ⟨g2, t2, cs2, f2, p2, q2, hg2, ht2, hv2, hd2, ⟨g3, t3, cs3, f3, p3, q3, hg3, ht3, hv3, hd3, ⟨g4, t4, cs4, f4, p4, q4, hg4, ht4, hv4, hd4, ⟨g5, t5, cs5, f5, p5, q5, hg5, ht5, hv5, hd5, ⟨g6, t6, cs6, f6, p6, q6, hg6, ht6, hv6, hd6, ⟨g7, t7, cs7, f7, p7, q7, hg7, ht7, hv7, hd7, _, _⟩, _⟩, _⟩, _⟩, _⟩, _⟩, _⟩, _⟩ := h
  obtain rfl := Option.some.inj (gTab.symm.trans hg7)
  obtain rfl := Option.some.inj (tTab.symm.trans ht7)
  rw [laid_eq] at hd7
  obtain ⟨xs, m, rfl, hx, hcl, hn, hel⟩ := DataW.trod_array Tryd.underlying63 hd7
  simp only [Prod.mk.injEq, DataW.agg.injEq] at hx
  have each : ∀ i, i < 8 → (cs7.toList.drop (i * 3)).take 3 = [.string (shw i), .int .i64 (shp i), .bool (shn i)] := by
    intro i hi
    have h0 := hel i hi
    rw [cellsSp, List.getElem?_eq_getElem (by omega)] at h0
    have h2 : (xs.map (·.1))[i]? = some (shD i) := by rw [← hx.1, List.getElem?_map, List.getElem?_range hi]; rfl
    rw [List.getElem?_map, List.getElem?_eq_getElem (by omega)] at h2
    simp only [Option.map_some, Option.some.injEq] at h2
    have h3 : xs[i]'(by omega) = (shD i, (xs[i]'(by omega)).2) := by rw [← h2]
    rw [h3] at h0
    exact shape_cells h0
  have cell : ∀ i j v, i < 8 → j < 3 → [Value.string (shw i), .int .i64 (shp i), .bool (shn i)][j]? = some v → W.cell? ⟨0, i * 3 + j, none⟩ = some v := by
    intro i j v hi hj hv
    rw [World.var?_cell hg7 hv7 (i * 3 + j), ← Array.getElem?_toList]
    have := each i hi
    rw [← hv, ← this, List.getElem?_take, if_pos hj, List.getElem?_drop]
  exact ⟨fun i hi => cell i 0 _ hi (by omega) rfl, fun i hi => cell i 1 _ hi (by omega) rfl, fun i hi => cell i 2 _ hi (by omega) rfl⟩
/-- The names of the two errors. -/
def erN : String := (Rows.fnGatesRow.laid.map (·.1)).getD 4 ""
def esN : String := (Rows.fnGatesRow.laid.map (·.1)).getD 5 ""
theorem gEr : Tryd.prog.globalNamed erN = some 3 := by kernel_rfl
theorem tEr : (Tryd.prog.globals[3]?).map (·.type) = some 72 := by kernel_rfl
theorem gEs : Tryd.prog.globalNamed esN = some 2 := by kernel_rfl
theorem tEs : (Tryd.prog.globals[2]?).map (·.type) = some 72 := by kernel_rfl
theorem plainLaid {W : World} (h : laidMetH Tryd.prog Rows.fnGatesRow.laid W) : laidMet Tryd.prog Rows.fnGatesRow.laid W := by
  rw [← Go.MakeChecks.laidMetH_plain Tryd.prog Rows.fnGatesRow.laid W (by rfl)]
  exact h
theorem ergs {W : World} (h : laidMetH Tryd.prog Rows.fnGatesRow.laid W) : Erg W := by
  have h3 := (plainLaid h).tail.tail.tail.tail
  obtain ⟨a, s, hv, -, -, -⟩ := laid_sentinel h3 gEr tEr Tryd.underlying72 (fun u hu => typeName_ptr_named (nm := "errors.errorString") (tp := 113) (by kernel_rfl) (by kernel_rfl) (by decide) u (hu.trans (congrArg some (by kernel_rfl)))) Tryd.underlying113 Tryd.underlying115 rfl rfl Tryd.underlying9 (by kernel_rfl) (by kernel_rfl)
  have hx := World.var?_cell gEr hv 0
  exact ⟨_, _, by simpa using hx⟩
theorem erss {W : World} (h : laidMetH Tryd.prog Rows.fnGatesRow.laid W) : Ers W := by
  have h3 := (plainLaid h).tail.tail.tail.tail.tail
  obtain ⟨a, s, hv, -, -, -⟩ := laid_sentinel h3 gEs tEs Tryd.underlying72 (fun u hu => typeName_ptr_named (nm := "errors.errorString") (tp := 113) (by kernel_rfl) (by kernel_rfl) (by decide) u (hu.trans (congrArg some (by kernel_rfl)))) Tryd.underlying113 Tryd.underlying115 rfl rfl Tryd.underlying9 (by kernel_rfl) (by kernel_rfl)
  exact ⟨_, _, (show esN = "strconv.ErrSyntax" by kernel_rfl) ▸ hv⟩
/-- The library's bound is some number: the world's shape says so. -/
theorem mxls {W : World} (h : W.ShapedOpen Tryd.prog) : Mxl W :=
  cell_of_shapedOpen_int (g := 1) (t := 3) (zero := #[.int .i64 0]) (k := .i64) h (of_decide_eq_true (by kernel_rfl)) (by kernel_rfl) rfl (by kernel_rfl) (by kernel_rfl) Tryd.underlying3

set_option maxRecDepth 100000 in
set_option maxHeartbeats 4000000 in
theorem walk (a0 : Option Addr) (len0 cap0 : Nat) (z0 : List Int) (a1 : Option Addr) (len1 cap1 : Nat) (z1 : List Int) (w : World) (w0 : IsRow .u8 w a0 len0 cap0 z0) (w1 : IsRow .u8 w a1 len1 cap1 z1) (h : Hid (Shp w)) (hp : Hid (Pw10 w)) (he : Hid (Erg w)) (hy : Hid (Ers w)) (hm : Hid (Mxl w)) :
    Calls Tryd.prog 4 #[.slice a0 len0 cap0, .slice a1 len1 cap1] w fun e w' => e = .returned (.bool true) ∧ Below w.heap.size w w' := by
  obtain ⟨hB0, hl0⟩ := bytes_of_row w0
  exact fnGates_walk a0 len0 cap0 a1 len1 cap1 w hB0 hl0 h hp he hy hm

theorem contract (H : Type) (enc : TypeId × Value → H) (W : World) (base : Nat) (args : Array Value) (ds gs : List (DataW H)) (before : List MemPlace)
    (hval : ∀ (j : Nat) t v, Tryd.f4.params[j]? = some t → args[j]? = some v → Value.okWide Tryd.prog W .any base t v)
    (hW : DataW.Whole enc Tryd.prog Tryd.f4.params.toList Rows.fnGatesSpec.vars false W args.toList ds gs before) (hL : laidMetH Tryd.prog Rows.fnGatesRow.laid W) (hsh : W.ShapedOpen Tryd.prog) :
    Calls Tryd.prog 4 args W fun e W' => ∃ v, e = .returned v ∧ Rows.fnGatesSpec.post enc Tryd.prog Tryd.f4 false true false false W args v W' := by
  have hW' := hW
  obtain ⟨p, q, hA0, hV, rfl, hfz, hnd⟩ := hW
  have hA : DataW.TrodAll enc Tryd.prog W 0 (fun _ => true) true Tryd.f4.params.toList args.toList ds p := hA0
  rw [Tryd.params4] at hA hval
  obtain ⟨v0, vs0, d0, ds0, p0, q0, hargs0, rfl, rfl, h0, r0⟩ := trodAll_cons hA
  obtain ⟨v1, vs1, d1, ds1, p1, q1, hargs1, rfl, rfl, h1, r1⟩ := trodAll_cons r0
  obtain ⟨rfl, rfl, rfl⟩ := trodAll_nil r1
  obtain rfl : args = #[v0, v1] := by cases args; simp_all
  obtain ⟨g, t, cs, fuel, d, pv, rfl, hg, ht, hvar, hd, rfl⟩ := trodVars_one hV
  obtain rfl := Option.some.inj (gTab.symm.trans hg)
  obtain rfl := Option.some.inj (tTab.symm.trans ht)
  obtain ⟨a0, len0, cap0, rfl⟩ := okWide_slice Tryd.underlying28 (hval 0 28 v0 rfl rfl)
  have k0 := h0
  have lt0 : ∀ x ∈ p0, x.block < W.heap.size := by obtain ⟨m, hm⟩ := k0; exact DataW.trod_lt m _ _ _ hm
  obtain ⟨z0, w0⟩ : ∃ zs, IsRow .u8 W a0 len0 cap0 zs := by
    obtain ⟨fuel, hf⟩ := h0
    rcases open_ints Tryd.underlying28 Tryd.underlying5 (by kernel_rfl) hf with ⟨hcs, _⟩ | ⟨x, l, c, zs, hcs, _, hl, hm, hz, _, hcell, hwz⟩
    · simp [Value.cells] at hcs
      obtain ⟨rfl, rfl, rfl⟩ := hcs
      exact ⟨[], .inl ⟨rfl, rfl, rfl, rfl⟩⟩
    · simp [Value.cells] at hcs
      obtain ⟨rfl, rfl, rfl⟩ := hcs
      exact ⟨zs, .inr ⟨_, rfl, hl, hm, by simpa using hz, hcell, hwz⟩⟩
  obtain ⟨a1, len1, cap1, rfl⟩ := okWide_slice Tryd.underlying28 (hval 1 28 v1 rfl rfl)
  have k1 := h1
  have lt1 : ∀ x ∈ p1, x.block < W.heap.size := by obtain ⟨m, hm⟩ := k1; exact DataW.trod_lt m _ _ _ hm
  obtain ⟨z1, w1⟩ : ∃ zs, IsRow .u8 W a1 len1 cap1 zs := by
    obtain ⟨fuel, hf⟩ := h1
    rcases open_ints Tryd.underlying28 Tryd.underlying5 (by kernel_rfl) hf with ⟨hcs, _⟩ | ⟨x, l, c, zs, hcs, _, hl, hm, hz, _, hcell, hwz⟩
    · simp [Value.cells] at hcs
      obtain ⟨rfl, rfl, rfl⟩ := hcs
      exact ⟨[], .inl ⟨rfl, rfl, rfl, rfl⟩⟩
    · simp [Value.cells] at hcs
      obtain ⟨rfl, rfl, rfl⟩ := hcs
      exact ⟨zs, .inr ⟨_, rfl, hl, hm, by simpa using hz, hcell, hwz⟩⟩
  clear hA0
  have hT := table hL
  have hpos : 0 < W.heap.size := World.block_lt_of_cell? W _ (hT.w0 0 (by omega))
  have ltv : ∀ x ∈ pv, x.block < W.heap.size := DataW.trod_lt fuel _ _ _ hd
  refine (walk a0 len0 cap0 z0 a1 len1 cap1 z1 W w0 w1 (hik hT) (hik (pows hL)) (hik (ergs hL)) (hik (erss hL)) (hik (mxls hsh))).mono fun e W' ⟨he, hbl⟩ => ?_
  subst he
  obtain ⟨fu, hfu⟩ := Below.trod laidOut (by kernel_rfl) (of_decide_eq_true (by kernel_rfl)) (v := .agg cs) ⟨fuel, hd⟩ hbl ltv
  exact ⟨_, rfl, _, _, _, [], _, _, hW', trodAll_mk1 (shut_bool Tryd.underlying4 _), (trodAll_cons_mk (Below.trod laidOut (by kernel_rfl) (of_decide_eq_true (by kernel_rfl)) k0 hbl lt0) (trodAll_cons_mk (Below.trod laidOut (by kernel_rfl) (of_decide_eq_true (by kernel_rfl)) k1 hbl lt1) trodAll_mk0)),
    trodVars_mk1 hg ht (var?_below hbl hg hpos hvar) hfu, hbl.frame _, fun h => by cases h⟩

theorem laid_met (os : Os) : laidMetH Tryd.prog Rows.fnGatesRow.laid ((World.laidAll Tryd.prog os Rows.fnGatesRow.laid).forCall (fun _ _ => 0) ⟨#[], #[.slice none 0 0, .slice none 0 0], []⟩).memory := by
  rw [Go.MakeChecks.laidMetH_plain _ _ _ (by kernel_rfl)]
  exact laidMet_laidAll _ (by kernel_rfl) (by kernel_rfl)
theorem laid_shape (os : Os) : ((World.laidAll Tryd.prog os Rows.fnGatesRow.laid).forCall (fun _ _ => 0) ⟨#[], #[.slice none 0 0, .slice none 0 0], []⟩).Shaped Tryd.checked.prog :=
  World.shaped_of_ZipB (by kernel_rfl) (by kernel_rfl)
theorem laid_ok (os : Os) : Input.okWideB Tryd.checked.prog ((World.laidAll Tryd.prog os Rows.fnGatesRow.laid).forCall (fun _ _ => 0) ⟨#[], #[.slice none 0 0, .slice none 0 0], []⟩) 4 ⟨#[], #[.slice none 0 0, .slice none 0 0], []⟩ = true := by kernel_rfl

set_option maxRecDepth 100000 in
theorem lifted (os : Os) (started : os.Started) (H : Type) (enc : TypeId × Value → H) (F : Stop.Interp) :
    ReturnsInHanded {} Tryd.checked os 4 .any ((OpenSpec.ofChange Rows.fnGatesSpec).preRow enc Tryd.prog Tryd.f4 Rows.fnGatesRow.domain false Rows.fnGatesRow.laid) (((OpenSpec.ofChange Rows.fnGatesSpec).at F).post enc Tryd.prog Tryd.f4 false true false false) := by
  obtain ⟨x, hx⟩ : ∃ x, DataW.whole enc Tryd.prog ((World.laidAll Tryd.prog os Rows.fnGatesRow.laid).forCall (fun _ _ => 0) ⟨#[], #[.slice none 0 0, .slice none 0 0], []⟩).memory Tryd.f4.params.toList Rows.fnGatesSpec.vars false #[.slice none 0 0, .slice none 0 0].toList 8 = some x := ⟨([.nil, .nil], [Rows.laid_loop_example_g00348_impl_shapes], MemPlace.row ⟨0, 0, none⟩ 24), by kernel_rfl⟩
  refine returnsInHanded_of_row (C := Tryd.checked) (s := OpenSpec.ofChange Rows.fnGatesSpec) own started (by kernel_rfl) Tryd.func4
    ⟨World.laidAll Tryd.prog os Rows.fnGatesRow.laid, fun _ _ => 0, ⟨#[], #[.slice none 0 0, .slice none 0 0], []⟩, World.laidAll_os _ _ _, laid_shape os, (Input.okWide_of_okWideB (base := 0) (laid_ok os)).1, (Input.okWide_of_okWideB (laid_ok os)).2,
      OpenSpec.preRow_of_cond 8 hx (by kernel_rfl) (fun k hk => by cases hk) (by kernel_rfl) (laid_met os), by
      simp only [Assume.holds]
      exact ⟨by simp, by simp, fun _ => Modest.zero, by simp, by simp⟩⟩ ?_
  intro W base args ds gs before hval hW _ _ _ hL hsh _
  exact contract H enc W base args ds gs before hval hW hL hsh

theorem said : Rows.FnGatesSaid :=
  OpenClaim.holds_of_cond 4 Tryd.f4 rfl rfl rfl rfl rfl rfl rfl ⟨rfl, rfl, rfl, rfl, rfl⟩ rfl rfl rfl rfl rfl (by kernel_rfl) Tryd.func4 (by kernel_rfl)
    (of_decide_eq_true (by kernel_rfl)) (by unfold Func.isWrapper; first | (rw [if_pos (by decide +kernel)]; kernel_rfl) | (rw [if_neg (by decide +kernel)]; exact ⟨rfl, rfl⟩))
    (fun os started H enc _ F => by rw [OpenClaim.pre_eq_preRow]; exact lifted os started H enc F)

/-- No parameter wants a stand-in. -/
theorem plain (f : FuncId) (fn : Func) (hf : Tryd.pinned.checked.prog.funcNamed Rows.fnGatesRow.func = some f) (hfn : Tryd.pinned.checked.prog.funcs[f]? = some fn) :
    true = Tryd.pinned.checked.prog.looks [] ∧ ∀ (j : Nat) t, fn.params[j]? = some t → Tryd.pinned.checked.prog.wantsStandIn t = false := by
  obtain rfl : f = 4 := Option.some.inj ((show Tryd.prog.funcNamed Rows.fnGatesRow.func = some 4 by kernel_rfl).symm.trans hf) |>.symm
  obtain rfl : fn = Tryd.f4 := (Option.some.inj (Tryd.func4.symm.trans hfn)).symm
  refine ⟨by kernel_rfl, fun j t ht => ?_⟩
  rw [Tryd.params4] at ht
  obtain rfl : t = 28 := by simpa using Array.mem_of_getElem? ht
  exact (show Tryd.prog.wantsStandIn 28 = false by kernel_rfl)

end Go.Proofs.YtpndbkgjdnkmcaaDoor.fnGates
namespace Go.Proofs.YtpndbkgjdnkmcaaDoor
theorem FnGates_holds : Rows.FnGatesCardSaid :=
  Claim7.holds_tied_plain_at .later [] _ _ _ _ fnGates.said (fun _ h => by cases h) (by kernel_rfl) (fun _ h => by cases h) fnGates_row_tie rfl ⟨rfl, rfl⟩ (by kernel_rfl) rfl fnGates.plain (by kernel_rfl)
#print axioms FnGates_holds

end Go.Proofs.YtpndbkgjdnkmcaaDoor
