/- The comparison of two entries as the program hands it to the library's sort; the sort itself: contracts. -/
import Derived.Test.YtfbjlohnbpienaaGrdT
import Derived.Test.YtfbjlohnbpienaaSorL
import Derived.Deep.RegionHeld3
import Derived.Handy
namespace Go.Proofs.Ytfbjlohnbpienaa
open Go.ChangeShapes Go.WideShapes Go.ChangeAt Go.RowKit
open Go.Shelf Go.Lib Go.Sort
set_option linter.unusedVariables false
set_option maxRecDepth 100000
set_option linter.unusedSimpArgs false

/-- An entry's cells. -/
def ecE (x : En) : List Value := [.int .i64 x.1, .int .i64 x.2.1, .int .i64 x.2.2]
/-- The first of two that is not 0. -/
def orI (x y : Int) : Int := if x = 0 then y else x
/-- What the comparison answers. -/
def cfE (x y : En) : Int := orI (Lib.compareInt x.1 y.1) (Lib.compareInt x.2.1 y.2.1)
theorem ltE (x y : En) : ltOf cfE x y = enlt x y := by
  unfold ltOf cfE orI enlt Lib.compareInt
  by_cases h1 : x.1 < y.1
  · simp [h1]
  · by_cases h2 : y.1 < x.1
    · simp [h1, h2, show ¬ x.1 = y.1 by omega]
    · have e : x.1 = y.1 := by omega
      by_cases h3 : x.2.1 < y.2.1
      · simp [h3, e]
      · by_cases h4 : y.2.1 < x.2.1 <;> simp [h3, h4, e]
theorem swoE : SWO (ltOf cfE) where
  irrefl x := by rw [ltE]; exact enlt_irr x
  trans x y z h1 h2 := by rw [ltE] at *; exact enlt_trans h1 h2
  ntrans x y z h1 h2 := by rw [ltE] at *; simp [enlt] at *; omega

set_option maxHeartbeats 1000000 in
theorem or_any (b : Nat) (x y : Int) (W : World) (h0 : W.cell? ⟨b, 0, none⟩ = some (.int .i64 x)) (h1 : W.cell? ⟨b, 1, none⟩ = some (.int .i64 y)) :
    Calls Try.prog 105 #[.slice (some ⟨b, 0, none⟩) 2 2] W fun e w' => e = .returned (.int .i64 (orI x y)) ∧ w' = W := by
  unfold orI
  by_cases hx : x = 0
  · by_cases hy : y = 0
    · go_enter Try.func105, Try.ntmps105
      go_wp2
      go_rounds 3
      go_ret
      simp [hx, hy]
    · go_enter Try.func105, Try.ntmps105
      go_wp2
      go_rounds 3
      go_ret
      simp [hx, hy]
  · go_enter Try.func105, Try.ntmps105
    go_wp2
    go_rounds 3
    go_ret
    simp [hx]

set_option maxHeartbeats 4000000 in
theorem byCell_any (x y : En) (W : World) : Calls Try.prog 100 #[.agg #[.int .i64 x.1, .int .i64 x.2.1, .int .i64 x.2.2], .agg #[.int .i64 y.1, .int .i64 y.2.1, .int .i64 y.2.2]] W fun e w' => e = .returned (.int .i64 (cfE x y)) ∧ ∃ q os', w' = grow (W.drewN q) os' := by
  have hcon := fun x y W' => AnyG.cmp_Compare_int cmpI x y W'
  change ∀ x y W', Calls Try.prog 106 _ _ _ at hcon
  obtain ⟨x1, x2, x3⟩ := x
  obtain ⟨y1, y2, y3⟩ := y
  unfold cfE
  generalize Lib.compareInt = cm at hcon ⊢
  go_enter Try.func100, Try.ntmps100
  go_upto_region 1 with fail
  have c0 : World.cell? ((W.alloc (.cells #[.int .i64 x1, .int .i64 x2, .int .i64 x3] 117)).alloc (.cells #[.int .i64 y1, .int .i64 y2, .int .i64 y3] 117)) ⟨W.heap.size, 0, none⟩ = some (.int .i64 x1) := by go_simp
  have c1 : World.cell? ((W.alloc (.cells #[.int .i64 x1, .int .i64 x2, .int .i64 x3] 117)).alloc (.cells #[.int .i64 y1, .int .i64 y2, .int .i64 y3] 117)) ⟨W.heap.size, 1, none⟩ = some (.int .i64 x2) := by go_simp
  have d0 : World.cell? ((W.alloc (.cells #[.int .i64 x1, .int .i64 x2, .int .i64 x3] 117)).alloc (.cells #[.int .i64 y1, .int .i64 y2, .int .i64 y3] 117)) ⟨W.heap.size + 1, 0, none⟩ = some (.int .i64 y1) := by go_simp
  have d1 : World.cell? ((W.alloc (.cells #[.int .i64 x1, .int .i64 x2, .int .i64 x3] 117)).alloc (.cells #[.int .i64 y1, .int .i64 y2, .int .i64 y3] 117)) ⟨W.heap.size + 1, 1, none⟩ = some (.int .i64 y2) := by go_simp
  have hz : Hid (∃ os', ((W.alloc (.cells #[.int .i64 x1, .int .i64 x2, .int .i64 x3] 117)).alloc (.cells #[.int .i64 y1, .int .i64 y2, .int .i64 y3] 117)) = grow W os') := hik ⟨_, by rw [alloc_eq_grow, alloc_eq_grow, grow_grow]⟩
  generalize ((W.alloc (.cells #[.int .i64 x1, .int .i64 x2, .int .i64 x3] 117)).alloc (.cells #[.int .i64 y1, .int .i64 y2, .int .i64 y3] 117)) = A at c0 c1 d0 d1 hz ⊢
  go_region_held3 (fun w' => w'.cell? ⟨W.heap.size, 0, none⟩ = some (.int .i64 x1) ∧ w'.cell? ⟨W.heap.size, 1, none⟩ = some (.int .i64 x2) ∧ w'.cell? ⟨W.heap.size + 1, 0, none⟩ = some (.int .i64 y1) ∧ w'.cell? ⟨W.heap.size + 1, 1, none⟩ = some (.int .i64 y2)) (first | (exact ⟨c0, c1, d0, d1⟩) | (exact ⟨((Chg.refl nob _).alloc _).see c0, ((Chg.refl nob _).alloc _).see c1, ((Chg.refl nob _).alloc _).see d0, ((Chg.refl nob _).alloc _).see d1⟩)) (first | (go_at_call 106; refine (hcon _ _ _).mono ?_; rintro e w' ⟨rfl, rfl⟩) | (go_at_call 105; refine (or_any A.heap.size (cm x1 y1) (cm x2 y2) _ (by go_simp) (by go_simp)).mono ?_; rintro e w' ⟨rfl, rfl⟩))
  go_wp2
  go_ret
  refine ⟨rfl, 1, ?_⟩
  obtain ⟨os', e⟩ := hz.out
  exact ⟨_, by rw [e, alloc_eq_grow, grow_grow]; rfl⟩
theorem cmpLaysE (blk off size : Nat) (w : World) : CmpLays Try.prog 100 #[] ecE 3 cfE blk off size w :=
  fun _ _ _ _ x y => byCell_any x y _
end Go.Proofs.Ytfbjlohnbpienaa
