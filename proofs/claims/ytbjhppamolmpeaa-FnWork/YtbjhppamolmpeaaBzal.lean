/- Several texts in one: The library's sort and equality at entries, its comparison at ints: that this program's texts of them are the shelf's. · The comparison of two entries as the program hands it to the library's sort; the sort itself: contracts. -/
import Derived.Shelf.SlSortCmp.WholeK
import Derived.Shelf.SlicesQ.Equal
import Derived.Shelf.SlicesG.Cmp
import Derived.Test.YtbjhppamolmpeaaProg
import Derived.Test.YtbjhppamolmpeaaBzag
import Derived.Deep.RegionHeld3
import Derived.Handy
namespace Go.Proofs.Ytbjhppamolmpeaa
open Go.Shelf
def sortE_ren : Go.Shelf.Ren := ⟨fun | 6 => 79 | 15 => 82 | 14 => 81 | 28 => 93 | 29 => 94 | 20 => 85 | 21 => 86 | 22 => 87 | 23 => 88 | 24 => 89 | 25 => 90 | 26 => 91 | 27 => 92 | 46 => 96 | 47 => 97 | 48 => 98 | 49 => 99 | 50 => 100 | 57 => 101 | n => n, fun | 22 => 44 | 24 => 69 | 25 => 93 | 3 => 3 | 39 => 66 | 0 => 0 | 53 => 106 | 55 => 81 | 4 => 4 | 46 => 99 | 45 => 98 | 50 => 103 | 5 => 5 | 9 => 9 | 66 => 109 | 70 => 113 | 76 => 115 | 77 => 24 | n => n, fun | n => n⟩
theorem sortE : Go.Proofs.SlLaysF0.n6 Try.prog sortE_ren := {
  mixed := by kernel_rfl
  f6 := ⟨Try.f79.name, by decide, Try.func79.trans (congrArg some (by kernel_rfl))⟩
  f14 := ⟨Try.f81.name, by decide, Try.func81.trans (congrArg some (by kernel_rfl))⟩
  f15 := Try.func82.trans (congrArg some (by kernel_rfl))
  f20 := ⟨Try.f85.name, by decide, Try.func85.trans (congrArg some (by kernel_rfl))⟩
  f21 := ⟨Try.f86.name, by decide, Try.func86.trans (congrArg some (by kernel_rfl))⟩
  f22 := ⟨Try.f87.name, by decide, Try.func87.trans (congrArg some (by kernel_rfl))⟩
  f23 := ⟨Try.f88.name, by decide, Try.func88.trans (congrArg some (by kernel_rfl))⟩
  f24 := ⟨Try.f89.name, by decide, Try.func89.trans (congrArg some (by kernel_rfl))⟩
  f25 := ⟨Try.f90.name, by decide, Try.func90.trans (congrArg some (by kernel_rfl))⟩
  f26 := ⟨Try.f91.name, by decide, Try.func91.trans (congrArg some (by kernel_rfl))⟩
  f27 := ⟨Try.f92.name, by decide, Try.func92.trans (congrArg some (by kernel_rfl))⟩
  f28 := Try.func93.trans (congrArg some (by kernel_rfl))
  f29 := Try.func94.trans (congrArg some (by kernel_rfl))
  f46 := ⟨Try.f96.name, by decide, Try.func96.trans (congrArg some (by kernel_rfl))⟩
  f47 := Try.func97.trans (congrArg some (by kernel_rfl))
  f48 := Try.func98.trans (congrArg some (by kernel_rfl))
  f49 := ⟨Try.f99.name, by decide, Try.func99.trans (congrArg some (by kernel_rfl))⟩
  f50 := ⟨Try.f100.name, by decide, Try.func100.trans (congrArg some (by kernel_rfl))⟩
  f57 := ⟨Try.f101.name, by decide, Try.func101.trans (congrArg some (by kernel_rfl))⟩
  t0 := Try.underlying0
  a0 := Try.isAgg0
  z0 := Try.sizeOf0
  v0 := Try.zeroValue0
  t3 := Try.underlying3
  a3 := Try.isAgg3
  z3 := Try.sizeOf3
  v3 := Try.zeroValue3
  t4 := Try.underlying4
  a4 := Try.isAgg4
  z4 := Try.sizeOf4
  v4 := Try.zeroValue4
  t5 := Try.underlying5
  a5 := Try.isAgg5
  z5 := Try.sizeOf5
  v5 := Try.zeroValue5
  t9 := Try.underlying9
  a9 := Try.isAgg9
  z9 := Try.sizeOf9
  v9 := Try.zeroValue9
  t22 := Try.underlying44
  a22 := Try.isAgg44
  z22 := Try.sizeOf44
  v22 := Try.zeroValue44
  t25 := Try.underlying93
  a25 := Try.isAgg93
  z25 := Try.sizeOf93
  v25 := Try.zeroValue93
  t39 := Try.underlying66
  a39 := Try.isAgg66
  z39 := Try.sizeOf66
  v39 := Try.zeroValue66
  t45 := Try.underlying98
  a45 := Try.isAgg98
  z45 := Try.sizeOf98
  v45 := Try.zeroValue98
  t46 := Try.underlying99
  a46 := Try.isAgg99
  z46 := Try.sizeOf99
  v46 := Try.zeroValue99
  t50 := Try.underlying103
  a50 := Try.isAgg103
  z50 := Try.sizeOf103
  v50 := Try.zeroValue103
  t53 := Try.underlying106
  a53 := Try.isAgg106
  z53 := Try.sizeOf106
  v53 := Try.zeroValue106
  t55 := Try.underlying81
  a55 := Try.isAgg81
  z55 := Try.sizeOf81
  v55 := Try.zeroValue81
  t66 := Try.underlying109
  a66 := Try.isAgg109
  z66 := Try.sizeOf109
  v66 := Try.zeroValue109
  t70 := Try.underlying113
  a70 := Try.isAgg113
  z70 := Try.sizeOf113
  v70 := Try.zeroValue113
  t76 := Try.underlying115
  a76 := Try.isAgg115
  z76 := Try.sizeOf115
  v76 := Try.zeroValue115
  t77 := Try.underlying24
  a77 := Try.isAgg24
  z77 := Try.sizeOf24
  v77 := Try.zeroValue24 }
def cmpI_ren : Go.Shelf.Ren := ⟨fun | 5 => 84 | 7 => 95 | n => n, fun | 22 => 3 | 3 => 3 | 4 => 4 | n => n, fun | n => n⟩
theorem cmpI : Go.Proofs.SlLaysC2.n5 Try.prog cmpI_ren := {
  mixed := by kernel_rfl
  f5 := ⟨Try.f84.name, by decide, Try.func84.trans (congrArg some (by kernel_rfl))⟩
  f7 := ⟨Try.f95.name, by decide, Try.func95.trans (congrArg some (by kernel_rfl))⟩
  t3 := Try.underlying3
  a3 := Try.isAgg3
  z3 := Try.sizeOf3
  v3 := Try.zeroValue3
  t4 := Try.underlying4
  a4 := Try.isAgg4
  z4 := Try.sizeOf4
  v4 := Try.zeroValue4
  t22 := Try.underlying3
  a22 := Try.isAgg3
  z22 := Try.sizeOf3
  v22 := Try.zeroValue3 }
def equE_ren : Go.Shelf.Ren := ⟨fun | 8 => 77 | n => n, fun | 22 => 44 | 24 => 69 | 4 => 4 | 3 => 3 | 0 => 0 | n => n, fun | n => n⟩
theorem equE : Go.Proofs.SlLaysQ.n8 Try.prog equE_ren := {
  mixed := by kernel_rfl
  f8 := ⟨Try.f77.name, by decide, Try.func77.trans (congrArg some (by kernel_rfl))⟩
  t0 := Try.underlying0
  a0 := Try.isAgg0
  z0 := Try.sizeOf0
  v0 := Try.zeroValue0
  t3 := Try.underlying3
  a3 := Try.isAgg3
  z3 := Try.sizeOf3
  v3 := Try.zeroValue3
  t4 := Try.underlying4
  a4 := Try.isAgg4
  z4 := Try.sizeOf4
  v4 := Try.zeroValue4
  t22 := Try.underlying44
  a22 := Try.isAgg44
  z22 := Try.sizeOf44
  v22 := Try.zeroValue44 }

end Go.Proofs.Ytbjhppamolmpeaa

namespace Go.Proofs.Ytbjhppamolmpeaa
open Go.ChangeShapes Go.WideShapes Go.ChangeAt Go.RowKit
open Go.Shelf Go.Lib Go.Sort
set_option linter.unusedVariables false
set_option maxRecDepth 100000
set_option linter.unusedSimpArgs false

/-- An entry's cells. -/
def ecE (x : En) : List Value := [.int .i64 x.1, .int .i64 x.2.1, .int .i64 x.2.2]
/-- The first of two that is not 0. -/
def orI (x y : Int) : Int := if x = 0 then y else x
/-- What the comparison answers. -/
def cfE (x y : En) : Int := orI (Lib.compareInt x.1 y.1) (Lib.compareInt x.2.1 y.2.1)
theorem ltE (x y : En) : ltOf cfE x y = enlt x y := by
  unfold ltOf cfE orI enlt Lib.compareInt
  by_cases h1 : x.1 < y.1
  · simp [h1]
  · by_cases h2 : y.1 < x.1
    · simp [h1, h2, show ¬ x.1 = y.1 by omega]
    · have e : x.1 = y.1 := by omega
      by_cases h3 : x.2.1 < y.2.1
      · simp [h3, e]
      · by_cases h4 : y.2.1 < x.2.1 <;> simp [h3, h4, e]
theorem swoE : SWO (ltOf cfE) where
  irrefl x := by rw [ltE]; exact enlt_irr x
  trans x y z h1 h2 := by rw [ltE] at *; exact enlt_trans h1 h2
  ntrans x y z h1 h2 := by rw [ltE] at *; simp [enlt] at *; omega

set_option maxHeartbeats 1000000 in
theorem or_any (b : Nat) (x y : Int) (W : World) (h0 : W.cell? ⟨b, 0, none⟩ = some (.int .i64 x)) (h1 : W.cell? ⟨b, 1, none⟩ = some (.int .i64 y)) :
    Calls Try.prog 83 #[.slice (some ⟨b, 0, none⟩) 2 2] W fun e w' => e = .returned (.int .i64 (orI x y)) ∧ w' = W := by
  unfold orI
  by_cases hx : x = 0
  · by_cases hy : y = 0
    · go_enter Try.func83, Try.ntmps83
      go_wp2
      go_rounds 3
      go_ret
      simp [hx, hy]
    · go_enter Try.func83, Try.ntmps83
      go_wp2
      go_rounds 3
      go_ret
      simp [hx, hy]
  · go_enter Try.func83, Try.ntmps83
    go_wp2
    go_rounds 3
    go_ret
    simp [hx]

set_option maxHeartbeats 4000000 in
theorem byCell_any (x y : En) (W : World) : Calls Try.prog 80 #[.agg #[.int .i64 x.1, .int .i64 x.2.1, .int .i64 x.2.2], .agg #[.int .i64 y.1, .int .i64 y.2.1, .int .i64 y.2.2]] W fun e w' => e = .returned (.int .i64 (cfE x y)) ∧ ∃ q os', w' = grow (W.drewN q) os' := by
  have hcon := fun x y W' => AnyG.cmp_Compare_int cmpI x y W'
  change ∀ x y W', Calls Try.prog 84 _ _ _ at hcon
  obtain ⟨x1, x2, x3⟩ := x
  obtain ⟨y1, y2, y3⟩ := y
  unfold cfE
  generalize Lib.compareInt = cm at hcon ⊢
  go_enter Try.func80, Try.ntmps80
  go_upto_region 1 with fail
  have c0 : World.cell? ((W.alloc (.cells #[.int .i64 x1, .int .i64 x2, .int .i64 x3] 69)).alloc (.cells #[.int .i64 y1, .int .i64 y2, .int .i64 y3] 69)) ⟨W.heap.size, 0, none⟩ = some (.int .i64 x1) := by go_simp
  have c1 : World.cell? ((W.alloc (.cells #[.int .i64 x1, .int .i64 x2, .int .i64 x3] 69)).alloc (.cells #[.int .i64 y1, .int .i64 y2, .int .i64 y3] 69)) ⟨W.heap.size, 1, none⟩ = some (.int .i64 x2) := by go_simp
  have d0 : World.cell? ((W.alloc (.cells #[.int .i64 x1, .int .i64 x2, .int .i64 x3] 69)).alloc (.cells #[.int .i64 y1, .int .i64 y2, .int .i64 y3] 69)) ⟨W.heap.size + 1, 0, none⟩ = some (.int .i64 y1) := by go_simp
  have d1 : World.cell? ((W.alloc (.cells #[.int .i64 x1, .int .i64 x2, .int .i64 x3] 69)).alloc (.cells #[.int .i64 y1, .int .i64 y2, .int .i64 y3] 69)) ⟨W.heap.size + 1, 1, none⟩ = some (.int .i64 y2) := by go_simp
  have hz : Hid (∃ os', ((W.alloc (.cells #[.int .i64 x1, .int .i64 x2, .int .i64 x3] 69)).alloc (.cells #[.int .i64 y1, .int .i64 y2, .int .i64 y3] 69)) = grow W os') := hik ⟨_, by rw [alloc_eq_grow, alloc_eq_grow, grow_grow]⟩
  generalize ((W.alloc (.cells #[.int .i64 x1, .int .i64 x2, .int .i64 x3] 69)).alloc (.cells #[.int .i64 y1, .int .i64 y2, .int .i64 y3] 69)) = A at c0 c1 d0 d1 hz ⊢
  go_region_held3 (fun w' => w'.cell? ⟨W.heap.size, 0, none⟩ = some (.int .i64 x1) ∧ w'.cell? ⟨W.heap.size, 1, none⟩ = some (.int .i64 x2) ∧ w'.cell? ⟨W.heap.size + 1, 0, none⟩ = some (.int .i64 y1) ∧ w'.cell? ⟨W.heap.size + 1, 1, none⟩ = some (.int .i64 y2)) (first | (exact ⟨c0, c1, d0, d1⟩) | (exact ⟨((Chg.refl nob _).alloc _).see c0, ((Chg.refl nob _).alloc _).see c1, ((Chg.refl nob _).alloc _).see d0, ((Chg.refl nob _).alloc _).see d1⟩)) (first | (go_at_call 84; refine (hcon _ _ _).mono ?_; rintro e w' ⟨rfl, rfl⟩) | (go_at_call 83; refine (or_any A.heap.size (cm x1 y1) (cm x2 y2) _ (by go_simp) (by go_simp)).mono ?_; rintro e w' ⟨rfl, rfl⟩))
  go_wp2
  go_ret
  refine ⟨rfl, 1, ?_⟩
  obtain ⟨os', e⟩ := hz.out
  exact ⟨_, by rw [e, alloc_eq_grow, grow_grow]; rfl⟩
theorem cmpLaysE (blk off size : Nat) (w : World) : CmpLays Try.prog 80 #[] ecE 3 cfE blk off size w :=
  fun _ _ _ _ x y => byCell_any x y _

end Go.Proofs.Ytbjhppamolmpeaa
