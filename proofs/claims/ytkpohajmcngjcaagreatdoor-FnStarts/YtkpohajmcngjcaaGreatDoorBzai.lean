/- Several texts in one: The program's map of a matrix: entries taken into it; entries within a matrix: contracts. · The comparison of two entries as the program hands it to the library's sort; the sort itself: contracts. · Entries that the library sorts; entries told out of a map, by their order: contracts. · Entries in memory, told by lists; lists that grow by append: words and laws. No condition but those that each theorem states. -/
import Derived.Test.YtkpohajmcngjcaaGreatDoorBzah
import Derived.Test.YtkpohajmcngjcaaGreatDoorBzac
import Derived.Test.YtkpohajmcngjcaaGreatDoorBzaa
import Derived.WalkKit
import Derived.Deep.RegionHeld3
import Derived.Handy
import Derived.Deep.AppendLies
import Derived.Laws.AppendOwn
namespace Go.Proofs.YtkpohajmcngjcaaGreatDoor
open Go.ChangeShapes Go.WideShapes Go.ChangeAt Go.RowKit
open Go.Maps (Keyed IsMap Tidy)
set_option linter.unusedVariables false
set_option maxRecDepth 100000
set_option linter.unusedSimpArgs false

theorem wf64 {a : Int} (h0 : -9223372036854775808 ≤ a) (h1 : a ≤ 9223372036854775807) : (Lit.int .i64 a).wf = true := by
  exact WalkArith.wf_i64 ⟨h0, h1⟩

/-- Block b is a map of places. -/
def Grd (w : World) (b n : Nat) (D : DataW Unit) : Prop := w.ownsMap Tryz.prog 162 (plainElem Tryz.prog 3) b n D
theorem Grd.chg {P : Nat → Prop} {w w' : World} {b n : Nat} {D : DataW Unit} (h : Grd w b n D) (k : Chg P w w') (hp : ¬ P b) : Grd w' b n D := by
  have hl := h.lt
  obtain ⟨es, ck, hb, r⟩ := h
  exact ⟨es, ck, (k.block b hl hp).trans hb, r⟩
theorem Grd.keep {w w' : World} {b n : Nat} {D : DataW Unit} (h : Grd w b n D) (k : Chg nob w w') : Grd w' b n D := h.chg k (fun x => x)
theorem Grd.mapAt {w : World} {b n : Nat} {D : DataW Unit} (h : Grd w b n D) : ∃ es ck, w.heap[b]? = some (.map es ck) := by
  obtain ⟨es, ck, hb, _⟩ := h
  exact ⟨es, ck, hb⟩

set_option maxHeartbeats 4000000 in
theorem within_any (x : En) (R C : Int) (w : World) : Calls Tryz.prog 96 #[.agg #[.int .i64 x.1, .int .i64 x.2.1, .int .i64 x.2.2], .int .i64 R, .int .i64 C] w fun e w' => e = .returned (.bool (win R C x)) ∧ Chg nob w w' := by
  obtain ⟨r, c, v⟩ := x
  have KK := hik ((Chg.refl nob w).alloc (.cells #[.int .i64 r, .int .i64 c, .int .i64 v] 106))
  unfold win
  go_enter Tryz.func96, Tryz.ntmps96
  go_wp2
  all_goals
    go_ret
    refine ⟨?_, KK.out⟩
    simp_all <;> omega

set_option maxHeartbeats 4000000 in
theorem take_any (b n0 : Nat) (D0 : DataW Unit) (c : Option Addr) (n cap : Nat) (X : Nat → En) (w : World) (hg : Hid (Grd w b n0 D0)) (hv : Hid (EntV w c n X)) (hn : n ≤ 200) (hw : Hid (∀ i, i < n → (Lit.int .i64 (X i).1).wf = true ∧ (Lit.int .i64 (X i).2.1).wf = true ∧ (Lit.int .i64 (X i).2.2).wf = true)) :
    Calls Tryz.prog 112 #[.map (some b), .slice c n cap] w fun e w' => e = .returned (.tuple #[]) ∧ (∃ D, Grd w' b n D ∧ Fmd D (fmE X n)) ∧ Chg (fun k => k = b) w w' := by
  have HB := hik (show ∀ xb xo, c = some ⟨xb, xo, none⟩ → 0 < n → xb ≠ b from by obtain ⟨es, ck, hb⟩ := hg.out.mapAt; exact hv.out.noMap hb)
  obtain ⟨w1, hclr, h1, k1⟩ := run_clear_own (ty := 0) hg.out Tryz.underlying102
  have hclr : ∀ ty, (Builtin.clear_ #[102] ty #[.map (some b)]).run Tryz.prog w = .ok (.tuple #[]) w1 := fun _ => hclr
  have G1 := hik (show Grd w1 b 0 (.map []) from h1)
  have K1 := hik k1
  have V1 := hik (hv.out.chg k1 (fun xb xo e hp _ => HB.out xb xo e hp))
  clear h1 k1 hg hv
  go_enter Tryz.func112, Tryz.ntmps112
  go_wp2
  clear hclr
  go_loopw [9] (fun s9 wr => ∃ k : Nat, k ≤ n ∧ s9 = .int .i64 k ∧ Hid (∃ D, Grd wr b k D ∧ Fmd D (fmE X k)) ∧ Hid (Chg (fun i => i = b) w wr) ∧ Hid (EntV wr c n X)) (fun s9 _ => n - (intOf s9).toNat)
  case atStart => exact ⟨0, Nat.zero_le _, rfl, hik ⟨_, G1.out, Fmd.empty X⟩, K1, V1⟩
  case round =>
    obtain ⟨k, hk, rfl, GD, KW, VW⟩ := hrel
    by_cases hlt : k < n
    · obtain ⟨xb, xo, rfl, hxb, c0, c1, c2⟩ := VW.out k hlt
      obtain ⟨wx, wy, wz⟩ := hw.out k hlt
      obtain ⟨D, gD, fD⟩ := GD.out
      have hkey := keyC wx wy
      have hkn : ((k : Nat) : Int) < n := by omega
      have HX := hik fD
      have HXb := hik hxb
      generalize hx1 : (X k).1 = x1 at c0 wx hkey
      generalize hx2 : (X k).2.1 = x2 at c1 wy hkey
      generalize hx3 : (X k).2.2 = x3 at c2 wz
      have HE := hik (And.intro hx1 (And.intro hx2 hx3))
      clear hx1 hx2 hx3 fD
      have gA := hik (gD.alloc (.cells #[.int .i64 x1, .int .i64 x2, .int .i64 x3] 106))
      clear gD
      go_wp2_with (at_mapUpdate; refine wpList_mapUpdate_own _ rfl _ _ _ 102 rfl 162 3 lawC Tryz.underlying102 _ b k D rfl gA.out (by unfold maxLen; omega) _ _ (kyE x1 x2) rfl rfl hkey (.lit (.int .i64 x3)) [] (plainElem_int Tryz.underlying3 wz) ?_; intro w2 hown2 hgrow2)
      go_wp2
      go_roundw
      case rel =>
        obtain ⟨e1, e2, e3⟩ := HE.out
        subst e1 e2 e3
        refine ⟨k + 1, by omega, by go_num, hik ⟨_, hown2, HX.out.put gA.out.isMap wx wy⟩, hik ((KW.out.alloc _).grown hgrow2 (fun i e _ => by cases e; rfl)), hik ?_⟩
        exact VW.out.chg (((Chg.refl (fun i => i = b) _).alloc _).grown hgrow2 (fun i e _ => by cases e; rfl)) (fun yb yo e hp _ => HB.out yb yo e hp)
      case measure => simp [intOf]; omega
    · obtain rfl : k = n := by omega
      go_wp2
      go_end0
      exact ⟨rfl, GD.out, KW.out⟩

end Go.Proofs.YtkpohajmcngjcaaGreatDoor

namespace Go.Proofs.YtkpohajmcngjcaaGreatDoor
open Go.ChangeShapes Go.WideShapes Go.ChangeAt Go.RowKit
open Go.Shelf Go.Lib Go.Sort
set_option linter.unusedVariables false
set_option maxRecDepth 100000
set_option linter.unusedSimpArgs false

/-- An entry's cells. -/
def ecE (x : En) : List Value := [.int .i64 x.1, .int .i64 x.2.1, .int .i64 x.2.2]
/-- The first of two that is not 0. -/
def orI (x y : Int) : Int := if x = 0 then y else x
/-- What the comparison answers. -/
def cfE (x y : En) : Int := orI (Lib.compareInt x.1 y.1) (Lib.compareInt x.2.1 y.2.1)
theorem ltE (x y : En) : ltOf cfE x y = enlt x y := by
  unfold ltOf cfE orI enlt Lib.compareInt
  by_cases h1 : x.1 < y.1
  · simp [h1]
  · by_cases h2 : y.1 < x.1
    · simp [h1, h2, show ¬ x.1 = y.1 by omega]
    · have e : x.1 = y.1 := by omega
      by_cases h3 : x.2.1 < y.2.1
      · simp [h3, e]
      · by_cases h4 : y.2.1 < x.2.1 <;> simp [h3, h4, e]
theorem swoE : SWO (ltOf cfE) where
  irrefl x := by rw [ltE]; exact enlt_irr x
  trans x y z h1 h2 := by rw [ltE] at *; exact enlt_trans h1 h2
  ntrans x y z h1 h2 := by rw [ltE] at *; simp [enlt] at *; omega

set_option maxHeartbeats 1000000 in
theorem or_any (b : Nat) (x y : Int) (W : World) (h0 : W.cell? ⟨b, 0, none⟩ = some (.int .i64 x)) (h1 : W.cell? ⟨b, 1, none⟩ = some (.int .i64 y)) :
    Calls Tryz.prog 136 #[.slice (some ⟨b, 0, none⟩) 2 2] W fun e w' => e = .returned (.int .i64 (orI x y)) ∧ w' = W := by
  unfold orI
  by_cases hx : x = 0
  · by_cases hy : y = 0
    · go_enter Tryz.func136, Tryz.ntmps136
      go_wp2
      go_rounds 3
      go_ret
      simp [hx, hy]
    · go_enter Tryz.func136, Tryz.ntmps136
      go_wp2
      go_rounds 3
      go_ret
      simp [hx, hy]
  · go_enter Tryz.func136, Tryz.ntmps136
    go_wp2
    go_rounds 3
    go_ret
    simp [hx]

set_option maxHeartbeats 4000000 in
theorem byCell_any (x y : En) (W : World) : Calls Tryz.prog 125 #[.agg #[.int .i64 x.1, .int .i64 x.2.1, .int .i64 x.2.2], .agg #[.int .i64 y.1, .int .i64 y.2.1, .int .i64 y.2.2]] W fun e w' => e = .returned (.int .i64 (cfE x y)) ∧ ∃ q os', w' = grow (W.drewN q) os' := by
  have hcon := fun x y W' => AnyG.cmp_Compare_int cmpI x y W'
  change ∀ x y W', Calls Tryz.prog 137 _ _ _ at hcon
  obtain ⟨x1, x2, x3⟩ := x
  obtain ⟨y1, y2, y3⟩ := y
  unfold cfE
  generalize Lib.compareInt = cm at hcon ⊢
  go_enter Tryz.func125, Tryz.ntmps125
  go_upto_region 1 with fail
  have c0 : World.cell? ((W.alloc (.cells #[.int .i64 x1, .int .i64 x2, .int .i64 x3] 106)).alloc (.cells #[.int .i64 y1, .int .i64 y2, .int .i64 y3] 106)) ⟨W.heap.size, 0, none⟩ = some (.int .i64 x1) := by go_simp
  have c1 : World.cell? ((W.alloc (.cells #[.int .i64 x1, .int .i64 x2, .int .i64 x3] 106)).alloc (.cells #[.int .i64 y1, .int .i64 y2, .int .i64 y3] 106)) ⟨W.heap.size, 1, none⟩ = some (.int .i64 x2) := by go_simp
  have d0 : World.cell? ((W.alloc (.cells #[.int .i64 x1, .int .i64 x2, .int .i64 x3] 106)).alloc (.cells #[.int .i64 y1, .int .i64 y2, .int .i64 y3] 106)) ⟨W.heap.size + 1, 0, none⟩ = some (.int .i64 y1) := by go_simp
  have d1 : World.cell? ((W.alloc (.cells #[.int .i64 x1, .int .i64 x2, .int .i64 x3] 106)).alloc (.cells #[.int .i64 y1, .int .i64 y2, .int .i64 y3] 106)) ⟨W.heap.size + 1, 1, none⟩ = some (.int .i64 y2) := by go_simp
  have hz : Hid (∃ os', ((W.alloc (.cells #[.int .i64 x1, .int .i64 x2, .int .i64 x3] 106)).alloc (.cells #[.int .i64 y1, .int .i64 y2, .int .i64 y3] 106)) = grow W os') := hik ⟨_, by rw [alloc_eq_grow, alloc_eq_grow, grow_grow]⟩
  generalize ((W.alloc (.cells #[.int .i64 x1, .int .i64 x2, .int .i64 x3] 106)).alloc (.cells #[.int .i64 y1, .int .i64 y2, .int .i64 y3] 106)) = A at c0 c1 d0 d1 hz ⊢
  go_region_held3 (fun w' => w'.cell? ⟨W.heap.size, 0, none⟩ = some (.int .i64 x1) ∧ w'.cell? ⟨W.heap.size, 1, none⟩ = some (.int .i64 x2) ∧ w'.cell? ⟨W.heap.size + 1, 0, none⟩ = some (.int .i64 y1) ∧ w'.cell? ⟨W.heap.size + 1, 1, none⟩ = some (.int .i64 y2)) (first | (exact ⟨c0, c1, d0, d1⟩) | (exact ⟨((Chg.refl nob _).alloc _).see c0, ((Chg.refl nob _).alloc _).see c1, ((Chg.refl nob _).alloc _).see d0, ((Chg.refl nob _).alloc _).see d1⟩)) (first | (go_at_call 137; refine (hcon _ _ _).mono ?_; rintro e w' ⟨rfl, rfl⟩) | (go_at_call 136; refine (or_any A.heap.size (cm x1 y1) (cm x2 y2) _ (by go_simp) (by go_simp)).mono ?_; rintro e w' ⟨rfl, rfl⟩))
  go_wp2
  go_ret
  refine ⟨rfl, 1, ?_⟩
  obtain ⟨os', e⟩ := hz.out
  exact ⟨_, by rw [e, alloc_eq_grow, grow_grow]; rfl⟩
theorem cmpLaysE (blk off size : Nat) (w : World) : CmpLays Tryz.prog 125 #[] ecE 3 cfE blk off size w :=
  fun _ _ _ _ x y => byCell_any x y _

end Go.Proofs.YtkpohajmcngjcaaGreatDoor

namespace Go.Proofs.YtkpohajmcngjcaaGreatDoor
open Go.ChangeShapes Go.WideShapes Go.ChangeAt Go.RowKit
open Go.Shelf Go.Lib Go.Sort
open Go.Maps (Keyed IsMap Tidy has)
set_option linter.unusedVariables false
set_option maxRecDepth 100000
set_option linter.unusedSimpArgs false

theorem infoEn : (Tryz.prog.info? 106).map (fun i => (i.zero, i.size, i.bytes)) = some (some (.agg #[.int .i64 0, .int .i64 0, .int .i64 0]), 3, 24) := by kernel_rfl
/-- One entry more. -/
def upN (X : Nat → En) (n : Nat) (x : En) (i : Nat) : En := if i = n then x else X i
theorem eLs_snoc (n : Nat) (X : Nat → En) (x : En) : eLs (n + 1) (upN X n x) = eLs n X ++ [x] := by
  simp only [eLs, List.range_succ, List.map_append, List.map_cons, List.map_nil]
  congr 1
  · apply List.map_congr_left
    intro i hi
    simp at hi
    simp [upN, show i ≠ n by omega]
  · simp [upN]
theorem tfs_snoc (n : Nat) (X : Nat → En) (x : En) : (List.range ((n + 1) * 3)).map (tf (upN X n x)) = (List.range (n * 3)).map (tf X) ++ ecE x := by
  rw [show (n + 1) * 3 = n * 3 + 1 + 1 + 1 by omega]
  simp only [List.range_succ, List.map_append, List.map_cons, List.map_nil, List.append_assoc]
  congr 1
  · apply List.map_congr_left
    intro i hi
    simp at hi
    simp [tf, upN, show i / 3 ≠ n by omega]
  · simp [tf_0, tf_1, tf_2, upN, ecE]
theorem holdsE {w : World} {g : Nat} {cur : Array Value} {e : TypeId} {n : Nat} {X : Nat → En} (hb : w.heap[g]? = some (.cells cur e (0, 0))) (ht : cur.toList.take (n * 3) = (List.range (n * 3)).map (tf X)) : HoldsK ecE 3 w g 0 (eLs n X).toArray := by
  intro j hj
  rw [size_flatK] at hj
  have hj' : j < n * 3 := by simpa [eLs_len] using hj
  rw [get_flatK _ _ _ _ (by simpa [eLs_len] using hj)]
  refine ⟨?_, by simp [World.frozen?, hb]⟩
  have h1 : (cur.toList.take (n * 3))[j]? = ((List.range (n * 3)).map (tf X))[j]? := by rw [ht]
  rw [List.getElem?_take_of_lt hj', List.getElem?_map, List.getElem?_range hj'] at h1
  simp only [World.cell?, hb, Nat.zero_add]
  simp only [Option.isSome_none, Bool.false_eq_true, if_false]
  rw [← Array.getElem?_toList, h1]
  have e1 : (eLs n X).toArray[j / 3]! = X (j / 3) := by
    rw [getElem!_pos _ _ (by simp [eLs_len]; omega)]
    simp [eLs]
  rw [e1]
  rcases (show j % 3 = 0 ∨ j % 3 = 1 ∨ j % 3 = 2 by omega) with q | q | q <;> simp [tf, ecE, q]

set_option maxHeartbeats 1000000 in
theorem sort_any (g cap : Nat) (n : Nat) (X : Nat → En) (w : World) (hH : Hid (HoldsK ecE 3 w g 0 (eLs n X).toArray)) (hg : Hid (g < w.heap.size)) (hn : n ≤ 1099511627776) :
    Calls Tryz.prog 124 #[.slice (some ⟨g, 0, none⟩) n cap, .func (.func 125) #[] #[]] w fun e w' => e = .returned (.tuple #[]) ∧
      (∃ Y : Nat → En, (eLs n Y).Perm (eLs n X) ∧ (eLs n Y).Pairwise (fun a b => enlt b a = false) ∧ EntV w' (some ⟨g, 0, none⟩) n Y) ∧ Chg (fun k => k = g) w w' := by
  have eg : ∀ args w, (callFunc 125 args).run Tryz.prog w = .ok (.enter 125 args) w := enters_of Tryz.func125 (by kernel_rfl) rfl
  have hcon := AnyQ.slices_SortFunc sortE 3 Tryz.isAgg106 Tryz.sizeOf106 ecE (fun _ => rfl) (fun x v hv => by simp [ecE] at hv; rcases hv with rfl | rfl | rfl <;> rfl) cfE swoE 125 #[] g 0 cap (eLs n X).toArray w eg (cmpLaysE g 0 _ w) hH.out hg.out (by simp [eLs_len]; omega)
  change Calls Tryz.prog 124 _ _ _ at hcon
  have hsz : (eLs n X).toArray.size = n := by simp [eLs_len]
  rw [hsz] at hcon
  refine hcon.mono ?_
  rintro e w' ⟨rfl, d, m, os, hp, hs, rfl⟩
  obtain ⟨hds, _, hpm⟩ := hp
  rw [hsz] at hds
  have hdl : d.toList = eLs n (fun i => d[i]!) := by
    apply List.ext_getElem
    · simp [eLs_len, hds]
    · intro i h1 h2
      rw [eLs_get, getElem!_pos d i (by simpa using h1)]
      simp
  refine ⟨rfl, ⟨fun i => d[i]!, ?_, ?_, ?_⟩, ?_⟩
  · rw [← hdl]
    have e1 : (d.extract 0 n).toList = d.toList := by rw [← hds]; simp
    have e2 : ((eLs n X).toArray.extract 0 n).toList = eLs n X := by simp [List.take_of_length_le, eLs_len]
    rwa [e1, e2] at hpm
  · rw [← hdl, List.pairwise_iff_getElem]
    intro i j hi hj hij
    have := hs i j (Nat.zero_le _) hij (by rw [← hds]; simpa using hj)
    rw [ltE, getElem!_pos d i (by simpa using hi), getElem!_pos d j (by simpa using hj)] at this
    simpa using this
  · have hk : HoldsK ecE 3 (sortWorldK ecE 3 w g 0 m d os) g 0 d := by
      unfold sortWorldK
      refine holdsK_grow ecE 3 _ _ _ _ _ ?_ (holdsK_putRowK ecE 3 _ _ _ (eLs n X).toArray d (holdsK_ahead ecE 3 _ _ _ _ _ hH.out) (by rw [hds, hsz]))
      simpa [putRowK, putRow, mapBlock, Sort.ahead] using hg.out
    intro i hi
    refine ⟨g, 0, rfl, ?_, ?_, ?_, ?_⟩
    · have := hg.out
      simp [sortWorldK, grow, putRowK, putRow, mapBlock, Sort.ahead]
      omega
    · exact (hk.cell (i := i) (c := 0) (by omega) (by omega)).1
    · exact (hk.cell (i := i) (c := 1) (by omega) (by omega)).1
    · exact (hk.cell (i := i) (c := 2) (by omega) (by omega)).1
  · refine ⟨rfl, rfl, rfl, by simp [sortWorldK, grow, putRowK, putRow, mapBlock, Sort.ahead], fun k hk hne => ?_⟩
    unfold sortWorldK
    rw [heap_grow_old _ _ (by simpa [putRowK, putRow, mapBlock, Sort.ahead] using hk)]
    simp [putRowK, putRow, mapBlock, Sort.ahead, Array.getElem?_modify, show g ≠ k from fun e => hne e.symm]

/-- The places that have come up so far. -/
structure Cld (D : DataW Unit) (m : Int → Int → Option Int) (left : Lit → Bool) (acc : List En) : Prop where
  is : ∀ e ∈ acc, m e.1 e.2.1 = some e.2.2 ∧ left (kyE e.1 e.2.1) = false ∧ (Lit.int .i64 e.1).wf = true ∧ (Lit.int .i64 e.2.1).wf = true
  all : ∀ r c v, (Lit.int .i64 r).wf = true → (Lit.int .i64 c).wf = true → m r c = some v → left (kyE r c) = false → (r, c, v) ∈ acc
  ne : acc.Pairwise (fun a b => ¬ (a.1 = b.1 ∧ a.2.1 = b.2.1))
theorem Cld.start {D : DataW Unit} {m : Int → Int → Option Int} (h : Fmd D m) : Cld D m (has D) [] :=
  ⟨fun e he => (by cases he), fun r c v wr wc hm hl => (by
    have := Maps.has_true_of_atKey (h.som r c v wr wc hm)
    rw [hl] at this; cases this), List.Pairwise.nil⟩
theorem Cld.step {D : DataW Unit} {m : Int → Int → Option Int} {left : Lit → Bool} {acc : List En} (h : Cld D m left acc) (hf : Fmd D m) {r c v : Int} (wr : (Lit.int .i64 r).wf = true) (wc : (Lit.int .i64 c).wf = true) (hl : left (kyE r c) = true) (hat : ∀ z, D.atKey (kyE r c) z = .lit (.int .i64 v)) :
    Cld D m (fun z => left z && !z.sameKey (kyE r c)) (acc ++ [(r, c, v)]) := by
  have hm : m r c = some v := by
    cases e : m r c with
    | none =>
      have := Maps.has_true_of_atKey hat
      rw [hf.non r c wr wc e] at this; cases this
    | some u =>
      have h1 := hf.som r c u wr wc e (.lit (.int .i64 0))
      rw [hat] at h1
      simp at h1
      rw [h1]
  constructor
  · intro e he
    rcases List.mem_append.1 he with he | he
    · obtain ⟨h1, h2, h3⟩ := h.is e he
      exact ⟨h1, by simp [h2], h3⟩
    · simp at he
      subst he
      exact ⟨hm, by simp [WideAt.sameKey_self (kyE_key r c)], wr, wc⟩
  · intro r' c' v' wr' wc' hm' hl'
    simp only [Bool.and_eq_false_iff, Bool.not_eq_false'] at hl'
    rcases hl' with h1 | h1
    · exact List.mem_append_left _ (h.all r' c' v' wr' wc' hm' h1)
    · obtain ⟨rfl, rfl⟩ := kyE_inj wr' wc' wr wc (WideAt.sameKey_eq h1)
      rw [hm] at hm'
      cases hm'
      simp
  · rw [List.pairwise_append]
    refine ⟨h.ne, by simp, ?_⟩
    intro a ha b hb
    simp at hb
    subst hb
    rintro ⟨e1, e2⟩
    have := (h.is a ha).2.1
    rw [e1, e2, hl] at this
    cases this
theorem Cld.told {D : DataW Unit} {X : Nat → En} {n : Nat} {left : Lit → Bool} {acc S : List En} (h : Cld D (fmE X n) left acc) (hl : ∀ k, left k = false) (hw : ∀ i, i < n → (Lit.int .i64 (X i).1).wf = true ∧ (Lit.int .i64 (X i).2.1).wf = true) (hp : S.Perm acc) (hs : S.Pairwise (fun a b => enlt b a = false)) : Told (fmE X n) S := by
  constructor
  · intro e he
    exact (h.is e (hp.mem_iff.1 he)).1
  · intro r c v hm
    obtain ⟨i, hi, e⟩ := fmE_some hm
    obtain ⟨w1, w2⟩ := hw i hi
    rw [e] at w1 w2
    exact hp.mem_iff.2 (h.all r c v w1 w2 hm (hl _))
  · exact pw_of hs (((hp.pairwise_iff (fun {a b} q k => q ⟨k.1.symm, k.2.symm⟩)).2 h.ne))

theorem rowE_at {w : World} {B g m cap : Nat} {xs : List Value} (h : w.ownsRow B 106 3 (.slice (some ⟨g, 0, none⟩) m cap) m xs) : B ≤ g ∧ ∃ cur, w.heap[g]? = some (.cells cur 106 (0, 0)) ∧ cur.toList.take (m * 3) = xs := by
  rcases h.2 with ⟨e, _⟩ | ⟨b, cp, cur, ev, hb, hcur, hl, _, hsz, ht⟩
  · cases e
  · cases ev
    exact ⟨hb, cur, hcur, ht⟩
theorem iter_ne {P : Program} {k : TypeId} {R : Value → Option (DataW Unit × List MemPlace)} {w : World} {b r n g : Nat} {D : DataW Unit} {left : Lit → Bool} {cnt : Nat} (h : w.ranges P k R b r n D left cnt) {cur : Array Value} {e : TypeId} {fr : Nat × Nat} (hg : w.heap[g]? = some (.cells cur e fr)) : r ≠ g := by
  obtain ⟨_, _, _, _, _, _, _, _, _, hr, _⟩ := h
  intro q
  rw [q, hg] at hr
  cases hr
theorem news3 (w : World) (a b c : Int) (t : TypeId) (H : Nat) (hH : w.heap.size = H) : ∀ j u, (ecE (a, b, c))[j]? = some u → (w.alloc (.cells #[.int .i64 a, .int .i64 b, .int .i64 c] t)).cell? (Addr.add ⟨H, 0, none⟩ j) = some u := by
  intro j u h
  subst hH
  match j, h with
  | 0, h => simp [ecE] at h; subst h; rw [Go.WideShapes.add_plain]; go_simp
  | 1, h => simp [ecE] at h; subst h; rw [Go.WideShapes.add_plain]; go_simp
  | 2, h => simp [ecE] at h; subst h; rw [Go.WideShapes.add_plain]; go_simp
  | j + 3, h => simp [ecE] at h
theorem ecE_one (x : En) : ∀ u ∈ ecE x, u.oneCell' = true := by
  intro u hu
  simp [ecE] at hu
  rcases hu with rfl | rfl | rfl <;> rfl

set_option maxHeartbeats 4000000 in
theorem entries_any (b N : Nat) (D : DataW Unit) (X : Nat → En) (n : Nat) (w : World) (hg : Hid (Grd w b N D)) (hf : Hid (Fmd D (fmE X n))) (hN : N ≤ 200) (hw : Hid (∀ i, i < n → (Lit.int .i64 (X i).1).wf = true ∧ (Lit.int .i64 (X i).2.1).wf = true)) :
    Calls Tryz.prog 114 #[.map (some b)] w fun e w' => ∃ (g m cap : Nat) (Y : Nat → En), e = .returned (.slice (some ⟨g, 0, none⟩) m cap) ∧ m ≤ 200 ∧ w.heap.size ≤ g ∧ EntV w' (some ⟨g, 0, none⟩) m Y ∧ Told (fmE X n) (eLs m Y) ∧ Chg nob w w' := by
  obtain ⟨i0, hi, hz0, hz1, hz2⟩ := info_parts infoEn
  have HI := hik hi
  have HZ0 := hik hz0
  have HZ1 := hik hz1
  have HZ2 := hik hz2
  have hsz : Maps.size D ≤ 200 := by
    obtain ⟨es, ck, hb, F, hs, hD⟩ := hg.out
    rw [hD, Maps.size_eq, length_sorted]
    simp; omega
  have hb0 : i0.bytes * Maps.size D ≤ 281474976710656 := by rw [hz2]; omega
  clear hi hz0 hz1 hz2
  have HB := hik hg.out.lt
  go_enter Tryz.func114, Tryz.ntmps114
  go_wp2_with (first
    | (at_len; refine wpList_len_own _ rfl _ 102 rfl 162 3 Tryz.underlying102 _ b N D rfl hg.out ?_)
    | (at_make; refine wpList_make_own _ rfl _ _ 38 rfl w.heap.size 106 i0 (.agg #[.int .i64 0, .int .i64 0, .int .i64 0]) 3 Tryz.underlying38 HI.out HZ0.out HZ1.out .i64 .i64 _ (Maps.size D) rfl rfl rfl hb0 (by unfold maxLen; omega) (Nat.le_refl _) ?_; intro w1 hrow1 hg1)
    | (at_range; refine wpList_range_own _ rfl _ 102 rfl 162 3 lawC Tryz.underlying102 _ b N _ rfl (World.ownsMap.kept hg.out hg1 (by simp)) ?_; intro w0 hrg0 hg0 hs0)
    | go_in)
  go_frame
  clear hb0
  have K1 := hik ((Chg.refl nob w).grown hg1 (fun k e => by cases e))
  have K0 := hik (K1.out.grown hg0 (fun k e => by cases e))
  have R0 := hik hrg0
  have S0 := hik (hrow1.kept hg0 (.inr (by simp [Value.ownBlock])))
  have L1 := hik hg1.size
  clear hrow1 hg1 hrg0 hg0 hs0
  go_loopw [3] (fun s3 wr => ∃ (left : Lit → Bool) (cnt g m cap : Nat) (Y : Nat → En), s3 = .slice (some ⟨g, 0, none⟩) m cap ∧ m + cnt ≤ Maps.size D ∧ Hid (wr.ranges Tryz.prog 162 (plainElem Tryz.prog 3) b w1.heap.size N D left cnt) ∧ Hid (wr.ownsRow w.heap.size 106 3 (.slice (some ⟨g, 0, none⟩) m cap) m ((List.range (m * 3)).map (tf Y))) ∧ Hid (Cld D (fmE X n) left (eLs m Y)) ∧ Hid (Chg nob w wr)) (fun _ wr => wr.rangeLeft b w1.heap.size)
  case atStart => exact ⟨_, _, _, 0, _, fun _ => (0, 0, 0), rfl, by omega, R0, S0, hik (Cld.start hf.out), K0⟩
  case round =>
    obtain ⟨left, cnt, g, m, cap, Y, rfl, hmc, RG, RW, CL, KW⟩ := hrel
    go_wp2_with (first
      | (at_next; refine wpList_next_ranges _ rfl _ rfl 162 lawC (plainElem Tryz.prog 3) (fun x : Int × Int => .agg #[.int .i64 x.1, .int .i64 x.2]) (Value.int .i64) (fun key kl hk => by obtain ⟨x, hx, _⟩ := keyC_inv hk; exact ⟨x, hx⟩) (fun v y hv => by obtain ⟨c, rfl, _⟩ := plainElem_int_inv Tryz.underlying3 hv; exact ⟨c, rfl⟩) b w1.heap.size N _ _ _ rfl RG.out ?_ ?_)
      | go_in)
    · intro hc0 hl0
      have HL := hik hl0
      clear hl0 hc0
      obtain ⟨hbg, cur, hcur, htk⟩ := rowE_at RW.out
      have HH := hik (holdsE hcur htk)
      have HG := hik (show g < wr.heap.size from (Array.getElem?_eq_some_iff.1 hcur).1)
      have HBG := hik hbg
      clear hcur htk hbg
      go_wp2_with fail
      refine (sort_any g cap m Y _ HH HG (by omega)).mono ?_
      rintro e w3 ⟨rfl, ⟨Z, hp, hs, hv⟩, k3⟩
      have A1 := hik hp
      have A2 := hik hs
      have A3 := hik hv
      have A4 := hik (KW.out.near k3 (fun i e => by rw [e]; exact HBG.out))
      clear hp hs hv k3
      go_wp2
      go_ret
      exact ⟨g, m, cap, Z, rfl, by omega, HBG.out, A3.out, CL.out.told HL.out hw.out A1.out A2.out, A4.out⟩
    · intro x1 x2 c kl yd yp w2 cnt2 hkey hlk hv hat hrg2 hlt hg2 hs2 hen
      obtain ⟨x', ex, wx, wy⟩ := keyC_inv hkey
      simp at ex
      obtain ⟨e1, e2⟩ := ex
      rw [← e1] at wx
      rw [← e2] at wy
      clear e1 e2
      rw [keyC wx wy] at hkey
      cases hkey
      obtain ⟨c', ec, ey, wc⟩ := plainElem_int_inv Tryz.underlying3 hv
      cases ec
      cases ey
      have C2 := hik (CL.out.step hf.out wx wy hlk hat)
      obtain ⟨hbg, cur, hcur, htk⟩ := rowE_at RW.out
      have hrg := iter_ne RG.out hcur
      have RW2 := hik (RW.out.kept hg2 (.inr (by simp [Value.ownBlock]; exact fun e => hrg e.symm)))
      have RG2 := hik hrg2
      have KW2 := hik (KW.out.grown hg2 (fun k e _ => by cases e; have := L1.out; omega))
      have HBG := hik hbg
      have HLT := hik hlt
      have HMC := hik hmc
      have L2 := hik KW2.out.size
      clear hlk hv hat hrg2 hs2 hcur htk hbg wc wx wy hlt hg2
      go_wp2_with (first
        | (at_builtin; refine wpList_append_lies _ rfl _ _ 38 rfl w.heap.size 106 i0 (.agg #[.int .i64 0, .int .i64 0, .int .i64 0]) 3 24 Tryz.underlying38 HI.out HZ0.out HZ1.out HZ2.out rfl (by decide) (.slice (some ⟨g, 0, none⟩) m cap) m _ rfl ((RW2.out.alloc _).alloc _) ⟨_, 0, none⟩ 1 1 (ecE (x1, x2, c)) rfl rfl (news3 _ x1 x2 c _ _ (by simp)) (ecE_one _) (by decide) (by unfold maxLen; omega) (by omega) (by have := L2.out; simp; omega) _ rfl ?_; intro g' cap' w3 hown3 hg3 hli3 hl3; go_frame)
        | go_in)
      have hrg3 := ((RG2.out.alloc (.cells #[.int .i64 x1, .int .i64 x2] 162)).alloc (.cells #[.int .i64 x1, .int .i64 x2, .int .i64 c] 106)).kept hg3 (by simp [Value.ownBlock]; have := HB.out; have := HBG.out; omega) (by simp [Value.ownBlock]; exact hrg)
      go_roundw
      case rel =>
        refine ⟨_, cnt2, g', m + 1, cap', upN Y m (x1, x2, c), rfl, by have := HLT.out; have := HMC.out; omega, hik hrg3, ?_, ?_, ?_⟩
        · rw [tfs_snoc]; exact hik hown3
        · rw [eLs_snoc]; exact C2
        · exact hik (((KW2.out.alloc _).alloc _).grown hg3 (fun k e _ => by simp [Value.ownBlock] at e; have := HBG.out; omega))
      case measure => rw [hrg3.left_eq, RG.out.left_eq]; exact HLT.out

end Go.Proofs.YtkpohajmcngjcaaGreatDoor

namespace Go.Proofs.YtkpohajmcngjcaaGreatDoor
open Go.ChangeShapes Go.WideShapes Go.ChangeAt Go.RowKit
set_option linter.unusedVariables false
set_option maxRecDepth 100000
set_option linter.unusedSimpArgs false

/-- A list's cells. -/
def efl (l : List En) : List Value := l.flatMap ecE
theorem efl_len : ∀ (l : List En), (efl l).length = l.length * 3
  | [] => rfl
  | x :: l => by
    have := efl_len l
    unfold efl at this ⊢
    rw [List.flatMap_cons, List.length_append, this]
    show 3 + _ = _
    simp
    omega
theorem efl_app (a b : List En) : efl (a ++ b) = efl a ++ efl b := by unfold efl; rw [List.flatMap_append]
theorem efl_one (l : List En) : ∀ u ∈ efl l, u.oneCell' = true := by
  intro u hu
  obtain ⟨x, _, hx⟩ := List.mem_flatMap.1 hu
  exact ecE_one x u hx
theorem efl_get : ∀ (l : List En) (i : Nat), i < l.length → (efl l)[i * 3]? = some (.int .i64 (lfn l i).1) ∧ (efl l)[i * 3 + 1]? = some (.int .i64 (lfn l i).2.1) ∧ (efl l)[i * 3 + 2]? = some (.int .i64 (lfn l i).2.2)
  | [], i, h => by simp at h
  | x :: l, 0, _ => ⟨rfl, rfl, rfl⟩
  | x :: l, i + 1, h => by
    have ih := efl_get l i (by simpa using h)
    have e : ∀ j, (efl (x :: l))[j + 3]? = (efl l)[j]? := fun j => rfl
    rw [show (i + 1) * 3 = i * 3 + 3 by omega, show i * 3 + 3 + 1 = i * 3 + 1 + 3 by omega, show i * 3 + 3 + 2 = i * 3 + 2 + 3 by omega, e, e, e]
    exact ih
/-- A list of entries in block g. -/
def EnL (W : World) (g : Nat) (l : List En) : Prop := g < W.heap.size ∧ ∀ j u, (efl l)[j]? = some u → W.cell? ⟨g, j, none⟩ = some u
theorem EnL.chg {P : Nat → Prop} {W W' : World} {g : Nat} {l : List En} (h : EnL W g l) (k : Chg P W W') (hp : ¬ P g) : EnL W' g l :=
  ⟨Nat.lt_of_lt_of_le h.1 k.size, fun j u hj => by rw [k.cell (p := ⟨g, j, none⟩) h.1 hp]; exact h.2 j u hj⟩
theorem EnL.keep {W W' : World} {g : Nat} {l : List En} (h : EnL W g l) (k : Chg nob W W') : EnL W' g l := h.chg k (fun x => x)
theorem EnL.ent {W : World} {g : Nat} {l : List En} (h : EnL W g l) : EntV W (some ⟨g, 0, none⟩) l.length (lfn l) := by
  intro i hi
  obtain ⟨a, b, c⟩ := efl_get l i hi
  refine ⟨g, 0, rfl, h.1, ?_, ?_, ?_⟩
  · rw [Nat.zero_add]; exact h.2 _ _ a
  · rw [Nat.zero_add]; exact h.2 _ _ b
  · rw [Nat.zero_add]; exact h.2 _ _ c
theorem EnL.take {W : World} {g : Nat} {l : List En} (h : EnL W g l) (k : Nat) : ∀ j u, (efl (l.take k))[j]? = some u → W.cell? ((⟨g, 0, none⟩ : Addr).add j) = some u := by
  intro j u hj
  rw [Go.WideShapes.add_plain, Nat.zero_add]
  refine h.2 j u ?_
  have e : efl l = efl (l.take k) ++ efl (l.drop k) := by rw [← efl_app, List.take_append_drop]
  rw [e, List.getElem?_append_left]
  · exact hj
  · exact (List.getElem?_eq_some_iff.1 hj).1
theorem EnL.drop {W : World} {g : Nat} {l : List En} (h : EnL W g l) {k : Nat} (hk : k ≤ l.length) : ∀ j u, (efl (l.drop k))[j]? = some u → W.cell? ((⟨g, k * 3, none⟩ : Addr).add j) = some u := by
  intro j u hj
  rw [Go.WideShapes.add_plain]
  refine h.2 _ u ?_
  have e : efl l = efl (l.take k) ++ efl (l.drop k) := by rw [← efl_app, List.take_append_drop]
  have hl : (efl (l.take k)).length = k * 3 := by rw [efl_len, List.length_take, Nat.min_eq_left hk]
  rw [e, List.getElem?_append_right (by omega), hl, Nat.add_sub_cancel_left]
  exact hj
/-- A list that a call made, and that may grow. -/
def EGr (W : World) (B : Nat) (v : Value) (l : List En) : Prop := W.ownsRow B 106 3 v l.length (efl l) ∧ v ≠ .slice none 0 0
theorem EGr.keep {W W' : World} {B : Nat} {v : Value} {l : List En} (h : EGr W B v l) (c : Chg nob W W') : EGr W' B v l := by
  refine ⟨?_, h.2⟩
  obtain ⟨h1, h2⟩ := h.1
  refine ⟨h1, ?_⟩
  rcases h2 with q | ⟨g, cap, cur, e, hb, hcur, r⟩
  · exact .inl q
  · exact .inr ⟨g, cap, cur, e, hb, (c.block g (Array.getElem?_eq_some_iff.1 hcur).1 (fun x => x)).trans hcur, r⟩
theorem EGr.chg9 {P : Nat → Prop} {W W' : World} {B : Nat} {v : Value} {l : List En} (h : EGr W B v l) (c : Chg P W W') (hp : ∀ i, B ≤ i → ¬ P i) : EGr W' B v l := by
  refine ⟨?_, h.2⟩
  obtain ⟨h1, h2⟩ := h.1
  refine ⟨h1, ?_⟩
  rcases h2 with q | ⟨g, cap, cur, e, hb, hcur, r⟩
  · exact .inl q
  · exact .inr ⟨g, cap, cur, e, hb, (c.block g (Array.getElem?_eq_some_iff.1 hcur).1 (hp g hb)).trans hcur, r⟩
theorem EGr.fresh (W : World) (B : Nat) (hB : B ≤ W.heap.size) : EGr (W.alloc (.cells #[] 106)) B (.slice (some ⟨W.heap.size, 0, none⟩) 0 0) [] :=
  ⟨⟨by simp [efl], .inr ⟨W.heap.size, 0, #[], rfl, hB, Array.getElem?_push_size, Nat.le_refl _, Nat.zero_le _, by simp, by simp [efl]⟩⟩, by simp⟩
theorem EGr.shape {W : World} {B : Nat} {v : Value} {l : List En} (h : EGr W B v l) : ∃ g cap, v = .slice (some ⟨g, 0, none⟩) l.length cap ∧ l.length ≤ cap ∧ cap ≤ maxLen ∧ B ≤ g ∧ EnL W g l := by
  have hc := h.1
  rcases h.1.2 with ⟨e, _⟩ | ⟨g, cap, cur, rfl, hb, hcur, h1, h2, _⟩
  · exact absurd e h.2
  · refine ⟨g, cap, rfl, h1, h2, hb, (Array.getElem?_eq_some_iff.1 hcur).1, fun j u hj => ?_⟩
    have := hc.cells rfl j u hj
    rw [Go.WideShapes.add_plain, Nat.zero_add] at this
    exact this
theorem EGr.len {W : World} {B : Nat} {v : Value} {l : List En} (h : EGr W B v l) {b : Nat} (e : v.ownBlock = some b) : B ≤ b := (h.1.lt b e).1
section
variable {w : World} {ops : Array Oper} {rest : List Oper} {o : Oper} {a : Act} {Q : Exit → Act → World → Prop}
/-- append(x, y...) of entries. -/
theorem wpList_appE (hgd : o.guard = none) (x y : Operand) (hop : o.op = .call { callee := .builtin .append, args := #[x, y], argTypes := #[38, 38] }) (B : Nat) (v : Value) (l : List En) (hx : a.eval x = v) (hown : EGr w B v l)
    (ad : Addr) (m c : Nat) (l' : List En) (hy : a.eval y = .slice (some ad) m c) (hm : m = l'.length) (hc : ∀ j u, (efl l')[j]? = some u → w.cell? (ad.add j) = some u) (hn : l.length + m ≤ 100000) (hB : B ≤ w.heap.size)
    (h : ∀ v' w', EGr w' B v' (l ++ l') → Chg (fun i => B ≤ i) w w' → wpList Tryz.prog ops Q rest (a.put o.dst v') w') : wpList Tryz.prog ops Q (o :: rest) a w := by
  obtain ⟨i0, hi, hz0, hz1, hz2⟩ := info_parts infoEn
  subst hm
  refine wpList_append_own w hgd x y 38 hop B 106 i0 (.agg #[.int .i64 0, .int .i64 0, .int .i64 0]) 3 24 Tryz.underlying38 hi hz0 hz1 hz2 rfl (by decide) v l.length (efl l) hx hown.1 ad l'.length c (efl l') hy (efl_len l') hc (efl_one l') (by unfold maxLen; omega) (by omega) hB ?_
  intro v' w' ho hg hnil
  refine h v' w' ⟨by rw [List.length_append, efl_app]; exact ho, fun e => hown.2 (hnil.1 e).1⟩ ((Chg.refl _ w).grown hg (fun b e _ => hown.len e))
end

end Go.Proofs.YtkpohajmcngjcaaGreatDoor
