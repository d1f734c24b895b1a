/- Several texts in one: The program's map of a matrix: entries taken into it; entries within a matrix: contracts. · The comparison of two entries as the program hands it to the library's sort; the sort itself: contracts. -/
import Derived.Test.YtkpohajmcngjcaaDoorBzah
import Derived.Test.YtkpohajmcngjcaaDoorBzac
import Derived.Test.YtkpohajmcngjcaaDoorBzaa
import Derived.WalkKit
import Derived.Deep.RegionHeld3
import Derived.Handy
namespace Go.Proofs.YtkpohajmcngjcaaDoor
open Go.ChangeShapes Go.WideShapes Go.ChangeAt Go.RowKit
open Go.Maps (Keyed IsMap Tidy)
set_option linter.unusedVariables false
set_option maxRecDepth 100000
set_option linter.unusedSimpArgs false

theorem wf64 {a : Int} (h0 : -9223372036854775808 ≤ a) (h1 : a ≤ 9223372036854775807) : (Lit.int .i64 a).wf = true := by
  exact WalkArith.wf_i64 ⟨h0, h1⟩

/-- Block b is a map of places. -/
def Grd (w : World) (b n : Nat) (D : DataW Unit) : Prop := w.ownsMap Tryd.prog 111 (plainElem Tryd.prog 3) b n D
theorem Grd.chg {P : Nat → Prop} {w w' : World} {b n : Nat} {D : DataW Unit} (h : Grd w b n D) (k : Chg P w w') (hp : ¬ P b) : Grd w' b n D := by
  have hl := h.lt
  obtain ⟨es, ck, hb, r⟩ := h
  exact ⟨es, ck, (k.block b hl hp).trans hb, r⟩
theorem Grd.keep {w w' : World} {b n : Nat} {D : DataW Unit} (h : Grd w b n D) (k : Chg nob w w') : Grd w' b n D := h.chg k (fun x => x)
theorem Grd.mapAt {w : World} {b n : Nat} {D : DataW Unit} (h : Grd w b n D) : ∃ es ck, w.heap[b]? = some (.map es ck) := by
  obtain ⟨es, ck, hb, _⟩ := h
  exact ⟨es, ck, hb⟩

set_option maxHeartbeats 4000000 in
theorem within_any (x : En) (R C : Int) (w : World) : Calls Tryd.prog 48 #[.agg #[.int .i64 x.1, .int .i64 x.2.1, .int .i64 x.2.2], .int .i64 R, .int .i64 C] w fun e w' => e = .returned (.bool (win R C x)) ∧ Chg nob w w' := by
  obtain ⟨r, c, v⟩ := x
  have KK := hik ((Chg.refl nob w).alloc (.cells #[.int .i64 r, .int .i64 c, .int .i64 v] 44))
  unfold win
  go_enter Tryd.func48, Tryd.ntmps48
  go_wp2
  all_goals
    go_ret
    refine ⟨?_, KK.out⟩
    simp_all <;> omega

set_option maxHeartbeats 4000000 in
theorem take_any (b n0 : Nat) (D0 : DataW Unit) (c : Option Addr) (n cap : Nat) (X : Nat → En) (w : World) (hg : Hid (Grd w b n0 D0)) (hv : Hid (EntV w c n X)) (hn : n ≤ 200) (hw : Hid (∀ i, i < n → (Lit.int .i64 (X i).1).wf = true ∧ (Lit.int .i64 (X i).2.1).wf = true ∧ (Lit.int .i64 (X i).2.2).wf = true)) :
    Calls Tryd.prog 68 #[.map (some b), .slice c n cap] w fun e w' => e = .returned (.tuple #[]) ∧ (∃ D, Grd w' b n D ∧ Fmd D (fmE X n)) ∧ Chg (fun k => k = b) w w' := by
  have HB := hik (show ∀ xb xo, c = some ⟨xb, xo, none⟩ → 0 < n → xb ≠ b from by obtain ⟨es, ck, hb⟩ := hg.out.mapAt; exact hv.out.noMap hb)
  obtain ⟨w1, hclr, h1, k1⟩ := run_clear_own (ty := 0) hg.out Tryd.underlying59
  have hclr : ∀ ty, (Builtin.clear_ #[59] ty #[.map (some b)]).run Tryd.prog w = .ok (.tuple #[]) w1 := fun _ => hclr
  have G1 := hik (show Grd w1 b 0 (.map []) from h1)
  have K1 := hik k1
  have V1 := hik (hv.out.chg k1 (fun xb xo e hp _ => HB.out xb xo e hp))
  clear h1 k1 hg hv
  go_enter Tryd.func68, Tryd.ntmps68
  go_wp2
  clear hclr
  go_loopw [9] (fun s9 wr => ∃ k : Nat, k ≤ n ∧ s9 = .int .i64 k ∧ Hid (∃ D, Grd wr b k D ∧ Fmd D (fmE X k)) ∧ Hid (Chg (fun i => i = b) w wr) ∧ Hid (EntV wr c n X)) (fun s9 _ => n - (intOf s9).toNat)
  case atStart => exact ⟨0, Nat.zero_le _, rfl, hik ⟨_, G1.out, Fmd.empty X⟩, K1, V1⟩
  case round =>
    obtain ⟨k, hk, rfl, GD, KW, VW⟩ := hrel
    by_cases hlt : k < n
    · obtain ⟨xb, xo, rfl, hxb, c0, c1, c2⟩ := VW.out k hlt
      obtain ⟨wx, wy, wz⟩ := hw.out k hlt
      obtain ⟨D, gD, fD⟩ := GD.out
      have hkey := keyC wx wy
      have hkn : ((k : Nat) : Int) < n := by omega
      have HX := hik fD
      have HXb := hik hxb
      generalize hx1 : (X k).1 = x1 at c0 wx hkey
      generalize hx2 : (X k).2.1 = x2 at c1 wy hkey
      generalize hx3 : (X k).2.2 = x3 at c2 wz
      have HE := hik (And.intro hx1 (And.intro hx2 hx3))
      clear hx1 hx2 hx3 fD
      have gA := hik (gD.alloc (.cells #[.int .i64 x1, .int .i64 x2, .int .i64 x3] 44))
      clear gD
      go_wp2_with (at_mapUpdate; refine wpList_mapUpdate_own _ rfl _ _ _ 59 rfl 111 3 lawC Tryd.underlying59 _ b k D rfl gA.out (by unfold maxLen; omega) _ _ (kyE x1 x2) rfl rfl hkey (.lit (.int .i64 x3)) [] (plainElem_int Tryd.underlying3 wz) ?_; intro w2 hown2 hgrow2)
      go_wp2
      go_roundw
      case rel =>
        obtain ⟨e1, e2, e3⟩ := HE.out
        subst e1 e2 e3
        refine ⟨k + 1, by omega, by go_num, hik ⟨_, hown2, HX.out.put gA.out.isMap wx wy⟩, hik ((KW.out.alloc _).grown hgrow2 (fun i e _ => by cases e; rfl)), hik ?_⟩
        exact VW.out.chg (((Chg.refl (fun i => i = b) _).alloc _).grown hgrow2 (fun i e _ => by cases e; rfl)) (fun yb yo e hp _ => HB.out yb yo e hp)
      case measure => simp [intOf]; omega
    · obtain rfl : k = n := by omega
      go_wp2
      go_end0
      exact ⟨rfl, GD.out, KW.out⟩

end Go.Proofs.YtkpohajmcngjcaaDoor

namespace Go.Proofs.YtkpohajmcngjcaaDoor
open Go.ChangeShapes Go.WideShapes Go.ChangeAt Go.RowKit
open Go.Shelf Go.Lib Go.Sort
set_option linter.unusedVariables false
set_option maxRecDepth 100000
set_option linter.unusedSimpArgs false

/-- An entry's cells. -/
def ecE (x : En) : List Value := [.int .i64 x.1, .int .i64 x.2.1, .int .i64 x.2.2]
/-- The first of two that is not 0. -/
def orI (x y : Int) : Int := if x = 0 then y else x
/-- What the comparison answers. -/
def cfE (x y : En) : Int := orI (Lib.compareInt x.1 y.1) (Lib.compareInt x.2.1 y.2.1)
theorem ltE (x y : En) : ltOf cfE x y = enlt x y := by
  unfold ltOf cfE orI enlt Lib.compareInt
  by_cases h1 : x.1 < y.1
  · simp [h1]
  · by_cases h2 : y.1 < x.1
    · simp [h1, h2, show ¬ x.1 = y.1 by omega]
    · have e : x.1 = y.1 := by omega
      by_cases h3 : x.2.1 < y.2.1
      · simp [h3, e]
      · by_cases h4 : y.2.1 < x.2.1 <;> simp [h3, h4, e]
theorem swoE : SWO (ltOf cfE) where
  irrefl x := by rw [ltE]; exact enlt_irr x
  trans x y z h1 h2 := by rw [ltE] at *; exact enlt_trans h1 h2
  ntrans x y z h1 h2 := by rw [ltE] at *; simp [enlt] at *; omega

set_option maxHeartbeats 1000000 in
theorem or_any (b : Nat) (x y : Int) (W : World) (h0 : W.cell? ⟨b, 0, none⟩ = some (.int .i64 x)) (h1 : W.cell? ⟨b, 1, none⟩ = some (.int .i64 y)) :
    Calls Tryd.prog 89 #[.slice (some ⟨b, 0, none⟩) 2 2] W fun e w' => e = .returned (.int .i64 (orI x y)) ∧ w' = W := by
  unfold orI
  by_cases hx : x = 0
  · by_cases hy : y = 0
    · go_enter Tryd.func89, Tryd.ntmps89
      go_wp2
      go_rounds 3
      go_ret
      simp [hx, hy]
    · go_enter Tryd.func89, Tryd.ntmps89
      go_wp2
      go_rounds 3
      go_ret
      simp [hx, hy]
  · go_enter Tryd.func89, Tryd.ntmps89
    go_wp2
    go_rounds 3
    go_ret
    simp [hx]

set_option maxHeartbeats 4000000 in
theorem byCell_any (x y : En) (W : World) : Calls Tryd.prog 84 #[.agg #[.int .i64 x.1, .int .i64 x.2.1, .int .i64 x.2.2], .agg #[.int .i64 y.1, .int .i64 y.2.1, .int .i64 y.2.2]] W fun e w' => e = .returned (.int .i64 (cfE x y)) ∧ ∃ q os', w' = grow (W.drewN q) os' := by
  have hcon := fun x y W' => AnyG.cmp_Compare_int cmpI x y W'
  change ∀ x y W', Calls Tryd.prog 90 _ _ _ at hcon
  obtain ⟨x1, x2, x3⟩ := x
  obtain ⟨y1, y2, y3⟩ := y
  unfold cfE
  generalize Lib.compareInt = cm at hcon ⊢
  go_enter Tryd.func84, Tryd.ntmps84
  go_upto_region 1 with fail
  have c0 : World.cell? ((W.alloc (.cells #[.int .i64 x1, .int .i64 x2, .int .i64 x3] 44)).alloc (.cells #[.int .i64 y1, .int .i64 y2, .int .i64 y3] 44)) ⟨W.heap.size, 0, none⟩ = some (.int .i64 x1) := by go_simp
  have c1 : World.cell? ((W.alloc (.cells #[.int .i64 x1, .int .i64 x2, .int .i64 x3] 44)).alloc (.cells #[.int .i64 y1, .int .i64 y2, .int .i64 y3] 44)) ⟨W.heap.size, 1, none⟩ = some (.int .i64 x2) := by go_simp
  have d0 : World.cell? ((W.alloc (.cells #[.int .i64 x1, .int .i64 x2, .int .i64 x3] 44)).alloc (.cells #[.int .i64 y1, .int .i64 y2, .int .i64 y3] 44)) ⟨W.heap.size + 1, 0, none⟩ = some (.int .i64 y1) := by go_simp
  have d1 : World.cell? ((W.alloc (.cells #[.int .i64 x1, .int .i64 x2, .int .i64 x3] 44)).alloc (.cells #[.int .i64 y1, .int .i64 y2, .int .i64 y3] 44)) ⟨W.heap.size + 1, 1, none⟩ = some (.int .i64 y2) := by go_simp
  have hz : Hid (∃ os', ((W.alloc (.cells #[.int .i64 x1, .int .i64 x2, .int .i64 x3] 44)).alloc (.cells #[.int .i64 y1, .int .i64 y2, .int .i64 y3] 44)) = grow W os') := hik ⟨_, by rw [alloc_eq_grow, alloc_eq_grow, grow_grow]⟩
  generalize ((W.alloc (.cells #[.int .i64 x1, .int .i64 x2, .int .i64 x3] 44)).alloc (.cells #[.int .i64 y1, .int .i64 y2, .int .i64 y3] 44)) = A at c0 c1 d0 d1 hz ⊢
  go_region_held3 (fun w' => w'.cell? ⟨W.heap.size, 0, none⟩ = some (.int .i64 x1) ∧ w'.cell? ⟨W.heap.size, 1, none⟩ = some (.int .i64 x2) ∧ w'.cell? ⟨W.heap.size + 1, 0, none⟩ = some (.int .i64 y1) ∧ w'.cell? ⟨W.heap.size + 1, 1, none⟩ = some (.int .i64 y2)) (first | (exact ⟨c0, c1, d0, d1⟩) | (exact ⟨((Chg.refl nob _).alloc _).see c0, ((Chg.refl nob _).alloc _).see c1, ((Chg.refl nob _).alloc _).see d0, ((Chg.refl nob _).alloc _).see d1⟩)) (first | (go_at_call 90; refine (hcon _ _ _).mono ?_; rintro e w' ⟨rfl, rfl⟩) | (go_at_call 89; refine (or_any A.heap.size (cm x1 y1) (cm x2 y2) _ (by go_simp) (by go_simp)).mono ?_; rintro e w' ⟨rfl, rfl⟩))
  go_wp2
  go_ret
  refine ⟨rfl, 1, ?_⟩
  obtain ⟨os', e⟩ := hz.out
  exact ⟨_, by rw [e, alloc_eq_grow, grow_grow]; rfl⟩
theorem cmpLaysE (blk off size : Nat) (w : World) : CmpLays Tryd.prog 84 #[] ecE 3 cfE blk off size w :=
  fun _ _ _ _ x y => byCell_any x y _

end Go.Proofs.YtkpohajmcngjcaaDoor
