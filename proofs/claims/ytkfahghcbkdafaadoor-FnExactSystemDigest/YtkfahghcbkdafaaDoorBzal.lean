/- Several texts in one: The library's sort and equality at entries, its comparison at ints: that this program's texts of them are the shelf's. · The comparison of two entries as the program hands it to the library's sort; the sort itself: contracts. -/
import Derived.Shelf.SlSortCmp.WholeK
import Derived.Shelf.SlicesQ.Equal
import Derived.Shelf.SlicesG.Cmp
import Derived.Test.YtkfahghcbkdafaaDoorProg
import Derived.Test.YtkfahghcbkdafaaDoorBzag
import Derived.Deep.RegionHeld3
import Derived.Handy
namespace Go.Proofs.YtkfahghcbkdafaaDoor
open Go.Shelf
def sortE_ren : Go.Shelf.Ren := ⟨fun | 6 => 48 | 15 => 52 | 14 => 51 | 28 => 63 | 29 => 64 | 20 => 55 | 21 => 56 | 22 => 57 | 23 => 58 | 24 => 59 | 25 => 60 | 26 => 61 | 27 => 62 | 46 => 66 | 47 => 67 | 48 => 68 | 49 => 69 | 50 => 70 | 57 => 71 | n => n, fun | 22 => 28 | 24 => 43 | 25 => 82 | 3 => 3 | 39 => 47 | 0 => 0 | 53 => 96 | 55 => 59 | 4 => 4 | 46 => 89 | 45 => 88 | 50 => 93 | 5 => 5 | 9 => 9 | 66 => 99 | 70 => 103 | 76 => 105 | 77 => 106 | n => n, fun | n => n⟩
theorem sortE : Go.Proofs.SlLaysF0.n6 Tryd.prog sortE_ren := {
  mixed := by kernel_rfl
  f6 := ⟨Tryd.f48.name, by decide, Tryd.func48.trans (congrArg some (by kernel_rfl))⟩
  f14 := ⟨Tryd.f51.name, by decide, Tryd.func51.trans (congrArg some (by kernel_rfl))⟩
  f15 := Tryd.func52.trans (congrArg some (by kernel_rfl))
  f20 := ⟨Tryd.f55.name, by decide, Tryd.func55.trans (congrArg some (by kernel_rfl))⟩
  f21 := ⟨Tryd.f56.name, by decide, Tryd.func56.trans (congrArg some (by kernel_rfl))⟩
  f22 := ⟨Tryd.f57.name, by decide, Tryd.func57.trans (congrArg some (by kernel_rfl))⟩
  f23 := ⟨Tryd.f58.name, by decide, Tryd.func58.trans (congrArg some (by kernel_rfl))⟩
  f24 := ⟨Tryd.f59.name, by decide, Tryd.func59.trans (congrArg some (by kernel_rfl))⟩
  f25 := ⟨Tryd.f60.name, by decide, Tryd.func60.trans (congrArg some (by kernel_rfl))⟩
  f26 := ⟨Tryd.f61.name, by decide, Tryd.func61.trans (congrArg some (by kernel_rfl))⟩
  f27 := ⟨Tryd.f62.name, by decide, Tryd.func62.trans (congrArg some (by kernel_rfl))⟩
  f28 := Tryd.func63.trans (congrArg some (by kernel_rfl))
  f29 := Tryd.func64.trans (congrArg some (by kernel_rfl))
  f46 := ⟨Tryd.f66.name, by decide, Tryd.func66.trans (congrArg some (by kernel_rfl))⟩
  f47 := Tryd.func67.trans (congrArg some (by kernel_rfl))
  f48 := Tryd.func68.trans (congrArg some (by kernel_rfl))
  f49 := ⟨Tryd.f69.name, by decide, Tryd.func69.trans (congrArg some (by kernel_rfl))⟩
  f50 := ⟨Tryd.f70.name, by decide, Tryd.func70.trans (congrArg some (by kernel_rfl))⟩
  f57 := ⟨Tryd.f71.name, by decide, Tryd.func71.trans (congrArg some (by kernel_rfl))⟩
  t0 := Tryd.underlying0
  a0 := Tryd.isAgg0
  z0 := Tryd.sizeOf0
  v0 := Tryd.zeroValue0
  t3 := Tryd.underlying3
  a3 := Tryd.isAgg3
  z3 := Tryd.sizeOf3
  v3 := Tryd.zeroValue3
  t4 := Tryd.underlying4
  a4 := Tryd.isAgg4
  z4 := Tryd.sizeOf4
  v4 := Tryd.zeroValue4
  t5 := Tryd.underlying5
  a5 := Tryd.isAgg5
  z5 := Tryd.sizeOf5
  v5 := Tryd.zeroValue5
  t9 := Tryd.underlying9
  a9 := Tryd.isAgg9
  z9 := Tryd.sizeOf9
  v9 := Tryd.zeroValue9
  t22 := Tryd.underlying28
  a22 := Tryd.isAgg28
  z22 := Tryd.sizeOf28
  v22 := Tryd.zeroValue28
  t25 := Tryd.underlying82
  a25 := Tryd.isAgg82
  z25 := Tryd.sizeOf82
  v25 := Tryd.zeroValue82
  t39 := Tryd.underlying47
  a39 := Tryd.isAgg47
  z39 := Tryd.sizeOf47
  v39 := Tryd.zeroValue47
  t45 := Tryd.underlying88
  a45 := Tryd.isAgg88
  z45 := Tryd.sizeOf88
  v45 := Tryd.zeroValue88
  t46 := Tryd.underlying89
  a46 := Tryd.isAgg89
  z46 := Tryd.sizeOf89
  v46 := Tryd.zeroValue89
  t50 := Tryd.underlying93
  a50 := Tryd.isAgg93
  z50 := Tryd.sizeOf93
  v50 := Tryd.zeroValue93
  t53 := Tryd.underlying96
  a53 := Tryd.isAgg96
  z53 := Tryd.sizeOf96
  v53 := Tryd.zeroValue96
  t55 := Tryd.underlying59
  a55 := Tryd.isAgg59
  z55 := Tryd.sizeOf59
  v55 := Tryd.zeroValue59
  t66 := Tryd.underlying99
  a66 := Tryd.isAgg99
  z66 := Tryd.sizeOf99
  v66 := Tryd.zeroValue99
  t70 := Tryd.underlying103
  a70 := Tryd.isAgg103
  z70 := Tryd.sizeOf103
  v70 := Tryd.zeroValue103
  t76 := Tryd.underlying105
  a76 := Tryd.isAgg105
  z76 := Tryd.sizeOf105
  v76 := Tryd.zeroValue105
  t77 := Tryd.underlying106
  a77 := Tryd.isAgg106
  z77 := Tryd.sizeOf106
  v77 := Tryd.zeroValue106 }
def cmpI_ren : Go.Shelf.Ren := ⟨fun | 5 => 54 | 7 => 65 | n => n, fun | 22 => 3 | 3 => 3 | 4 => 4 | n => n, fun | n => n⟩
theorem cmpI : Go.Proofs.SlLaysC2.n5 Tryd.prog cmpI_ren := {
  mixed := by kernel_rfl
  f5 := ⟨Tryd.f54.name, by decide, Tryd.func54.trans (congrArg some (by kernel_rfl))⟩
  f7 := ⟨Tryd.f65.name, by decide, Tryd.func65.trans (congrArg some (by kernel_rfl))⟩
  t3 := Tryd.underlying3
  a3 := Tryd.isAgg3
  z3 := Tryd.sizeOf3
  v3 := Tryd.zeroValue3
  t4 := Tryd.underlying4
  a4 := Tryd.isAgg4
  z4 := Tryd.sizeOf4
  v4 := Tryd.zeroValue4
  t22 := Tryd.underlying3
  a22 := Tryd.isAgg3
  z22 := Tryd.sizeOf3
  v22 := Tryd.zeroValue3 }
def equE_ren : Go.Shelf.Ren := ⟨fun | 8 => 43 | n => n, fun | 22 => 28 | 24 => 43 | 4 => 4 | 3 => 3 | 0 => 0 | n => n, fun | n => n⟩
theorem equE : Go.Proofs.SlLaysQ.n8 Tryd.prog equE_ren := {
  mixed := by kernel_rfl
  f8 := ⟨Tryd.f43.name, by decide, Tryd.func43.trans (congrArg some (by kernel_rfl))⟩
  t0 := Tryd.underlying0
  a0 := Tryd.isAgg0
  z0 := Tryd.sizeOf0
  v0 := Tryd.zeroValue0
  t3 := Tryd.underlying3
  a3 := Tryd.isAgg3
  z3 := Tryd.sizeOf3
  v3 := Tryd.zeroValue3
  t4 := Tryd.underlying4
  a4 := Tryd.isAgg4
  z4 := Tryd.sizeOf4
  v4 := Tryd.zeroValue4
  t22 := Tryd.underlying28
  a22 := Tryd.isAgg28
  z22 := Tryd.sizeOf28
  v22 := Tryd.zeroValue28 }

end Go.Proofs.YtkfahghcbkdafaaDoor

namespace Go.Proofs.YtkfahghcbkdafaaDoor
open Go.ChangeShapes Go.WideShapes Go.ChangeAt Go.RowKit
open Go.Shelf Go.Lib Go.Sort
set_option linter.unusedVariables false
set_option maxRecDepth 100000
set_option linter.unusedSimpArgs false

/-- An entry's cells. -/
def ecE (x : En) : List Value := [.int .i64 x.1, .int .i64 x.2.1, .int .i64 x.2.2]
/-- The first of two that is not 0. -/
def orI (x y : Int) : Int := if x = 0 then y else x
/-- What the comparison answers. -/
def cfE (x y : En) : Int := orI (Lib.compareInt x.1 y.1) (Lib.compareInt x.2.1 y.2.1)
theorem ltE (x y : En) : ltOf cfE x y = enlt x y := by
  unfold ltOf cfE orI enlt Lib.compareInt
  by_cases h1 : x.1 < y.1
  · simp [h1]
  · by_cases h2 : y.1 < x.1
    · simp [h1, h2, show ¬ x.1 = y.1 by omega]
    · have e : x.1 = y.1 := by omega
      by_cases h3 : x.2.1 < y.2.1
      · simp [h3, e]
      · by_cases h4 : y.2.1 < x.2.1 <;> simp [h3, h4, e]
theorem swoE : SWO (ltOf cfE) where
  irrefl x := by rw [ltE]; exact enlt_irr x
  trans x y z h1 h2 := by rw [ltE] at *; exact enlt_trans h1 h2
  ntrans x y z h1 h2 := by rw [ltE] at *; simp [enlt] at *; omega

set_option maxHeartbeats 1000000 in
theorem or_any (b : Nat) (x y : Int) (W : World) (h0 : W.cell? ⟨b, 0, none⟩ = some (.int .i64 x)) (h1 : W.cell? ⟨b, 1, none⟩ = some (.int .i64 y)) :
    Calls Tryd.prog 53 #[.slice (some ⟨b, 0, none⟩) 2 2] W fun e w' => e = .returned (.int .i64 (orI x y)) ∧ w' = W := by
  unfold orI
  by_cases hx : x = 0
  · by_cases hy : y = 0
    · go_enter Tryd.func53, Tryd.ntmps53
      go_wp2
      go_rounds 3
      go_ret
      simp [hx, hy]
    · go_enter Tryd.func53, Tryd.ntmps53
      go_wp2
      go_rounds 3
      go_ret
      simp [hx, hy]
  · go_enter Tryd.func53, Tryd.ntmps53
    go_wp2
    go_rounds 3
    go_ret
    simp [hx]

set_option maxHeartbeats 4000000 in
theorem byCell_any (x y : En) (W : World) : Calls Tryd.prog 49 #[.agg #[.int .i64 x.1, .int .i64 x.2.1, .int .i64 x.2.2], .agg #[.int .i64 y.1, .int .i64 y.2.1, .int .i64 y.2.2]] W fun e w' => e = .returned (.int .i64 (cfE x y)) ∧ ∃ q os', w' = grow (W.drewN q) os' := by
  have hcon := fun x y W' => AnyG.cmp_Compare_int cmpI x y W'
  change ∀ x y W', Calls Tryd.prog 54 _ _ _ at hcon
  obtain ⟨x1, x2, x3⟩ := x
  obtain ⟨y1, y2, y3⟩ := y
  unfold cfE
  generalize Lib.compareInt = cm at hcon ⊢
  go_enter Tryd.func49, Tryd.ntmps49
  go_upto_region 1 with fail
  have c0 : World.cell? ((W.alloc (.cells #[.int .i64 x1, .int .i64 x2, .int .i64 x3] 43)).alloc (.cells #[.int .i64 y1, .int .i64 y2, .int .i64 y3] 43)) ⟨W.heap.size, 0, none⟩ = some (.int .i64 x1) := by go_simp
  have c1 : World.cell? ((W.alloc (.cells #[.int .i64 x1, .int .i64 x2, .int .i64 x3] 43)).alloc (.cells #[.int .i64 y1, .int .i64 y2, .int .i64 y3] 43)) ⟨W.heap.size, 1, none⟩ = some (.int .i64 x2) := by go_simp
  have d0 : World.cell? ((W.alloc (.cells #[.int .i64 x1, .int .i64 x2, .int .i64 x3] 43)).alloc (.cells #[.int .i64 y1, .int .i64 y2, .int .i64 y3] 43)) ⟨W.heap.size + 1, 0, none⟩ = some (.int .i64 y1) := by go_simp
  have d1 : World.cell? ((W.alloc (.cells #[.int .i64 x1, .int .i64 x2, .int .i64 x3] 43)).alloc (.cells #[.int .i64 y1, .int .i64 y2, .int .i64 y3] 43)) ⟨W.heap.size + 1, 1, none⟩ = some (.int .i64 y2) := by go_simp
  have hz : Hid (∃ os', ((W.alloc (.cells #[.int .i64 x1, .int .i64 x2, .int .i64 x3] 43)).alloc (.cells #[.int .i64 y1, .int .i64 y2, .int .i64 y3] 43)) = grow W os') := hik ⟨_, by rw [alloc_eq_grow, alloc_eq_grow, grow_grow]⟩
  generalize ((W.alloc (.cells #[.int .i64 x1, .int .i64 x2, .int .i64 x3] 43)).alloc (.cells #[.int .i64 y1, .int .i64 y2, .int .i64 y3] 43)) = A at c0 c1 d0 d1 hz ⊢
  go_region_held3 (fun w' => w'.cell? ⟨W.heap.size, 0, none⟩ = some (.int .i64 x1) ∧ w'.cell? ⟨W.heap.size, 1, none⟩ = some (.int .i64 x2) ∧ w'.cell? ⟨W.heap.size + 1, 0, none⟩ = some (.int .i64 y1) ∧ w'.cell? ⟨W.heap.size + 1, 1, none⟩ = some (.int .i64 y2)) (first | (exact ⟨c0, c1, d0, d1⟩) | (exact ⟨((Chg.refl nob _).alloc _).see c0, ((Chg.refl nob _).alloc _).see c1, ((Chg.refl nob _).alloc _).see d0, ((Chg.refl nob _).alloc _).see d1⟩)) (first | (go_at_call 54; refine (hcon _ _ _).mono ?_; rintro e w' ⟨rfl, rfl⟩) | (go_at_call 53; refine (or_any A.heap.size (cm x1 y1) (cm x2 y2) _ (by go_simp) (by go_simp)).mono ?_; rintro e w' ⟨rfl, rfl⟩))
  go_wp2
  go_ret
  refine ⟨rfl, 1, ?_⟩
  obtain ⟨os', e⟩ := hz.out
  exact ⟨_, by rw [e, alloc_eq_grow, grow_grow]; rfl⟩
theorem cmpLaysE (blk off size : Nat) (w : World) : CmpLays Tryd.prog 49 #[] ecE 3 cfE blk off size w :=
  fun _ _ _ _ x y => byCell_any x y _

end Go.Proofs.YtkfahghcbkdafaaDoor
