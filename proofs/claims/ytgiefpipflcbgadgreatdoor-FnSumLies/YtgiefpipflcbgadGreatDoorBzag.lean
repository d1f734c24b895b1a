/- Several texts in one: What the program's kinds of sums answer: combinationOf, productValue, gateValue: contracts. Conditions: elements of the greater field, lists that can be read. · What the program's closures over tables, its sums and rounds answer: placesOf, sumOver, sum, allBound, cubesFrom, round: contracts. Conditions: tables by value of at most 64 elements of the greater field. -/
import Derived.Test.YtgiefpipflcbgadGreatDoorBzaf
import Derived.Test.YtgiefpipflcbgadGreatDoorBzac
import Derived.Laws.EntriesVeiled
import Derived.Test.YtgiefpipflcbgadGreatDoorBzah
namespace Go.Proofs.YtgiefpipflcbgadGreatDoor
open Go.ChangeShapes Go.WideShapes Go.ChangeAt Go.RowKit
set_option linter.unusedVariables false
set_option maxRecDepth 100000
set_option linter.unusedSimpArgs false

/-- Three values. -/
def pv3 (u v x : Value) (i : Nat) : Value := if i = 0 then u else if i = 1 then v else x
theorem row3_new (W : World) (u v x : Value) (t : TypeId) : (W.alloc (.cells #[u, v, x] t)).rowIs W.heap.size t 3 (pv3 u v x) :=
  World.rowIs_alloc W #[u, v, x] t (pv3 u v x) (fun i hi => by
    match i, hi with
    | 0, _ => rfl
    | 1, _ => rfl
    | 2, _ => rfl)
theorem row3_set {W : World} {g : Nat} {ty : TypeId} {f : Nat → Value} (h : W.rowIs g ty 3 f) (u v x : Value) : (((W.setCell ⟨g, 0, none⟩ u).setCell ⟨g, 1, none⟩ v).setCell ⟨g, 2, none⟩ x).rowIs g ty 3 (pv3 u v x) :=
  (((h.set 0 u).set 1 v).set 2 x).congr (fun i hi => by
    match i, hi with
    | 0, _ => rfl
    | 1, _ => rfl
    | 2, _ => rfl)
theorem chg3_set {P : Nat → Prop} {w W : World} (h : Chg P w W) (g : Nat) (hg : g < w.heap.size → P g) (u v x : Value) : Chg P w (((W.setCell ⟨g, 0, none⟩ u).setCell ⟨g, 1, none⟩ v).setCell ⟨g, 2, none⟩ x) :=
  ((h.setCell (p := ⟨g, 0, none⟩) hg u).setCell (p := ⟨g, 1, none⟩) hg v).setCell (p := ⟨g, 2, none⟩) hg x
/-- A combination's block. -/
def CmB (W : World) (b : Nat) (t d : Int) (F : Value) : Prop := W.rowIs b 55 3 (pv3 (.int .i64 t) (.int .i64 d) F)
section
variable {W W' : World} {b : Nat} {t d : Int} {F : Value}
theorem CmB.new (W : World) (t d : Int) (F : Value) : CmB (W.alloc (.cells #[.int .i64 t, .int .i64 d, F] 55)) W.heap.size t d F := row3_new W _ _ _ _
theorem CmB.keep (h : CmB W b t d F) (k : Chg nob W W') : CmB W' b t d F := rowIs_keep h k
theorem CmB.chg {P : Nat → Prop} (h : CmB W b t d F) (k : Chg P W W') (hp : ¬ P b) : CmB W' b t d F := rowIs_chg h k hp
theorem CmB.lt (h : CmB W b t d F) : b < W.heap.size := World.rowIs.lt h
theorem CmB.c0 (h : CmB W b t d F) : W.cell? ⟨b, 0, none⟩ = some (.int .i64 t) := World.rowIs.cell h (by omega)
theorem CmB.c1 (h : CmB W b t d F) : W.cell? ⟨b, 1, none⟩ = some (.int .i64 d) := World.rowIs.cell h (by omega)
theorem CmB.c2 (h : CmB W b t d F) : W.cell? ⟨b, 2, none⟩ = some F := World.rowIs.cell h (by omega)
theorem CmB.fz (h : CmB W b t d F) (o : Nat) : W.frozen? ⟨b, o, none⟩ = false := World.rowIs.frozen h o
theorem CmB.set (h : CmB W b t d F) (t' d' : Int) (F' : Value) : CmB (((W.setCell ⟨b, 0, none⟩ (.int .i64 t')).setCell ⟨b, 1, none⟩ (.int .i64 d')).setCell ⟨b, 2, none⟩ F') b t' d' F' := row3_set h _ _ _
end
/-- A kind, how many tables it has, its degree, the function that combines. -/
def KD (k : Nat) (t d : Int) (f : Nat) : Prop := (k = 1 ∧ t = 2 ∧ d = 2 ∧ f = 77) ∨ (k = 2 ∧ t = 4 ∧ d = 3 ∧ f = 78)
theorem KD.ex {k : Nat} (hk : k = 1 ∨ k = 2) : ∃ t d f, KD k t d f ∧ t = 2 * (k : Int) ∧ d = (k : Int) + 1 := by
  rcases hk with rfl | rfl
  · exact ⟨2, 2, _, .inl ⟨rfl, rfl, rfl, rfl⟩, rfl, rfl⟩
  · exact ⟨4, 3, _, .inr ⟨rfl, rfl, rfl, rfl⟩, rfl, rfl⟩
theorem KD.run {k : Nat} {t d : Int} {f : Nat} (h : KD k t d f) (args : Array Value) (w : World) : (callFunc f args).run Tryz.prog w = .ok (.enter f args) w := by
  rcases h with ⟨_, _, _, rfl⟩ | ⟨_, _, _, rfl⟩
  · exact run_go Tryz.func77 (by kernel_rfl) (by kernel_rfl) _ _
  · exact run_go Tryz.func78 (by kernel_rfl) (by kernel_rfl) _ _

set_option maxHeartbeats 1000000 in
theorem co_ok {k : Nat} {t d : Int} {f : Nat} (h : KD k t d f) (w : World) : Calls Tryz.prog 40 #[.int .i64 (k : Int)] w fun e w' => e = .returned (.tuple #[.agg #[.int .i64 t, .int .i64 d, .func (.func f) #[] #[]], .int .i64 0]) ∧ Chg nob w w' := by
  have E := hik (CmB.new w 0 0 .nilFunc)
  have G := hik ((Chg.refl nob w).alloc (.cells #[.int .i64 0, .int .i64 0, .nilFunc] 55))
  have f0 := E.out.fz 0
  have f1 := E.out.fz 1
  have f2 := E.out.fz 2
  rcases h with ⟨rfl, rfl, rfl, rfl⟩ | ⟨rfl, rfl, rfl, rfl⟩
  · go_enter Tryz.func40, Tryz.ntmps40
    go_wp2
    have u := hik (E.out.set 2 2 (.func (.func 77) #[] #[]))
    have u0 := u.out.c0
    have u1 := u.out.c1
    have u2 := u.out.c2
    exact bodyPost_ret (v := .tuple #[.agg #[.int .i64 2, .int .i64 2, .func (.func 77) #[] #[]], .int .i64 0]) (by simp [results, Tryz.results40, go_sem, u0, u1, u2]) rfl ⟨rfl, (Chg.refl nob w).alloc _⟩
  · go_enter Tryz.func40, Tryz.ntmps40
    go_wp2
    have u := hik (E.out.set 4 3 (.func (.func 78) #[] #[]))
    have u0 := u.out.c0
    have u1 := u.out.c1
    have u2 := u.out.c2
    exact bodyPost_ret (v := .tuple #[.agg #[.int .i64 4, .int .i64 3, .func (.func 78) #[] #[]], .int .i64 0]) (by simp [results, Tryz.results40, go_sem, u0, u1, u2]) rfl ⟨rfl, (Chg.refl nob w).alloc _⟩

set_option maxHeartbeats 1000000 in
theorem co_no (K : Int) (h : kdb K = false) (w : World) : Calls Tryz.prog 40 #[.int .i64 K] w fun e w' => e = .returned (.tuple #[.agg #[.int .i64 0, .int .i64 0, .nilFunc], .int .i64 4]) ∧ Chg nob w w' := by
  have hn := of_decide_eq_false h
  have h1 : ¬ K = 1 := fun e => hn (.inl e)
  have h2 : ¬ K = 2 := fun e => hn (.inr e)
  have b1 : (K == 1) = false := by simpa using h1
  have b2 : (K == 2) = false := by simpa using h2
  have E := hik (CmB.new w 0 0 .nilFunc)
  have G := hik ((Chg.refl nob w).alloc (.cells #[.int .i64 0, .int .i64 0, .nilFunc] 55))
  have f0 := E.out.fz 0
  have f1 := E.out.fz 1
  have f2 := E.out.fz 2
  clear hn h h1 h2
  go_enter Tryz.func40, Tryz.ntmps40
  go_wp2
  have u := hik (E.out.set 0 0 .nilFunc)
  have u0 := u.out.c0
  have u1 := u.out.c1
  have u2 := u.out.c2
  exact bodyPost_ret (v := .tuple #[.agg #[.int .i64 0, .int .i64 0, .nilFunc], .int .i64 4]) (by simp [results, Tryz.results40, go_sem, u0, u1, u2]) rfl ⟨rfl, (Chg.refl nob w).alloc _⟩

set_option maxHeartbeats 2000000 in
theorem prodV_any (c : Option Addr) (cap : Nat) (v : Nat → El) (w : World) (h : Hid (PairE w c 2 v)) : Calls Tryz.prog 77 #[.slice c 2 cap] w fun e w' => e = .returned (.agg #[.int .i64 (El.ml (v 0) (v 1)).v.1, .int .i64 (El.ml (v 0) (v 1)).v.2]) ∧ Chg nob w w' := by
  obtain ⟨xb, xo, ec, hxb, _, _⟩ := PairE.at_ h.out (show 0 < 2 by omega)
  subst ec
  have HU := hik (PairE.keep h.out ((Chg.refl nob w).alloc (.cells #[.int .i64 0, .int .i64 0] 31)))
  have EZ := hik (ElB.zero w)
  have G0 := hik ((Chg.refl nob w).alloc (.cells #[.int .i64 0, .int .i64 0] 31))
  go_enter Tryz.func77, Tryz.ntmps77
  go_upto_region 1 with fail
  generalize hE : w.alloc (.cells #[.int .i64 0, .int .i64 0] 31) = W0 at HU EZ G0 ⊢
  clear hE
  have a0 : W0.cell? ⟨xb, xo, none⟩ = some (.int .i64 (v 0).v.1) := by have q := PairE.c0 HU.out (i := 0) (by omega); simpa using q
  have a1 : W0.cell? ⟨xb, xo + 1, none⟩ = some (.int .i64 (v 0).v.2) := by have q := PairE.c1 HU.out (i := 0) (by omega); simpa using q
  have b0 : W0.cell? ⟨xb, xo + 2, none⟩ = some (.int .i64 (v 1).v.1) := by have q := PairE.c0 HU.out (i := 1) (by omega); simpa using q
  have b1 : W0.cell? ⟨xb, xo + 2 + 1, none⟩ = some (.int .i64 (v 1).v.2) := by have q := PairE.c1 HU.out (i := 1) (by omega); simpa using q
  have KW := hik ((Chg.refl nob W0).drew1)
  have SA := hik (fun (WW : World) (kW : Chg nob W0 WW) => (show (WW.cell? ⟨xb, xo, none⟩ = some (.int .i64 (v 0).v.1) ∧ WW.cell? ⟨xb, xo + 1, none⟩ = some (.int .i64 (v 0).v.2) ∧ WW.cell? ⟨xb, xo + 2, none⟩ = some (.int .i64 (v 1).v.1) ∧ WW.cell? ⟨xb, xo + 2 + 1, none⟩ = some (.int .i64 (v 1).v.2)) from ⟨kW.see a0, kW.see a1, kW.see b0, kW.see b1⟩))
  refine wp_regionL (L := 7) (S := fun w' => w'.cell? ⟨xb, xo, none⟩ = some (.int .i64 (v 0).v.1) ∧ w'.cell? ⟨xb, xo + 1, none⟩ = some (.int .i64 (v 0).v.2) ∧ w'.cell? ⟨xb, xo + 2, none⟩ = some (.int .i64 (v 1).v.1) ∧ w'.cell? ⟨xb, xo + 2 + 1, none⟩ = some (.int .i64 (v 1).v.2)) (by kernel_rfl) ⟨a0, a1, b0, b1⟩ (fun hHeld => ?_)
  refine wpAnyL_take (i := 0) (v := ?_) rfl (by kernel_rfl) (by kernel_rfl) (by kernel_rfl) (fun _ _ _ h => h) (by rfl) (by kernel_rfl) (by kernel_rfl) (Or.inl ⟨by rfl, ?_⟩) (by assumption) ?_
  rotate_left 1
  · (intro w' hSw; (try dsimp only at hSw); go_simp; try with_reducible rfl)
  try simp only [Act.put, List.setIfInBounds_toArray, List.set_cons_zero, List.set_cons_succ, List.getElem_toArray, List.getElem_cons_zero, List.getElem_cons_succ]
  refine wpAnyL_take (i := 1) (v := ?_) rfl (by kernel_rfl) (by kernel_rfl) (by kernel_rfl) (fun _ _ _ h => h) (by rfl) (by kernel_rfl) (by kernel_rfl) (Or.inl ⟨by rfl, ?_⟩) (by assumption) ?_
  rotate_left 1
  · (intro w' hSw; (try dsimp only at hSw); go_simp; try with_reducible rfl)
  try simp only [Act.put, List.setIfInBounds_toArray, List.set_cons_zero, List.set_cons_succ, List.getElem_toArray, List.getElem_cons_zero, List.getElem_cons_succ]
  refine wpAnyL_take (i := 2) (v := ?_) rfl (by kernel_rfl) (by kernel_rfl) (by kernel_rfl) (fun _ _ _ h => h) (by rfl) (by kernel_rfl) (by kernel_rfl) (Or.inl ⟨by rfl, ?_⟩) (by assumption) ?_
  rotate_left 1
  · (intro w' hSw; (try dsimp only at hSw); go_simp; try with_reducible rfl)
  try simp only [Act.put, List.setIfInBounds_toArray, List.set_cons_zero, List.set_cons_succ, List.getElem_toArray, List.getElem_cons_zero, List.getElem_cons_succ]
  refine wpAnyL_take (i := 3) (v := ?_) rfl (by kernel_rfl) (by kernel_rfl) (by kernel_rfl) (fun _ _ _ h => h) (by rfl) (by kernel_rfl) (by kernel_rfl) (Or.inl ⟨by rfl, ?_⟩) (by assumption) ?_
  rotate_left 1
  · (intro w' hSw; (try dsimp only at hSw); go_simp; try with_reducible rfl)
  try simp only [Act.put, List.setIfInBounds_toArray, List.set_cons_zero, List.set_cons_succ, List.getElem_toArray, List.getElem_cons_zero, List.getElem_cons_succ]
  refine wpAnyL_take (i := 4) (v := ?_) rfl (by kernel_rfl) (by kernel_rfl) (by kernel_rfl) (fun _ _ _ h => h) (by rfl) (by kernel_rfl) (by kernel_rfl) (Or.inl ⟨by rfl, ?_⟩) (by assumption) ?_
  rotate_left 1
  · (intro w' hSw; (try dsimp only at hSw); go_simp; try with_reducible rfl)
  try simp only [Act.put, List.setIfInBounds_toArray, List.set_cons_zero, List.set_cons_succ, List.getElem_toArray, List.getElem_cons_zero, List.getElem_cons_succ]
  refine wpAnyL_take (i := 5) (v := ?_) rfl (by kernel_rfl) (by kernel_rfl) (by kernel_rfl) (fun _ _ _ h => h) (by rfl) (by kernel_rfl) (by kernel_rfl) (Or.inl ⟨by rfl, ?_⟩) (by assumption) ?_
  rotate_left 1
  · (intro w' hSw; (try dsimp only at hSw); go_simp; try with_reducible rfl)
  try simp only [Act.put, List.setIfInBounds_toArray, List.set_cons_zero, List.set_cons_succ, List.getElem_toArray, List.getElem_cons_zero, List.getElem_cons_succ]
  refine wpAnyL_ready (rs := [6]) (by kernel_rfl) (by simp) ?_
  refine AllReadyL.cons rfl (fun K hK => ?_) AllReadyL.nil
  refine stepL_callN 81 #[.tmp 5, .tmp 8] #[31, 31] (by rfl) (by rfl) #[.agg #[.int .i64 (v 0).v.1, .int .i64 (v 0).v.2], .agg #[.int .i64 (v 1).v.1, .int .i64 (v 1).v.2]] (by simp only [List.map_toArray, List.map_cons, List.map_nil] <;> rfl) (run_go Tryz.func81 (by kernel_rfl) (by kernel_rfl) _ _) (ml_el (v 0) (v 1) _) ?_
  rintro e U1 ⟨he, kk⟩
  refine ⟨_, he, ?_⟩
  replace KW := hik (KW.out.trans kk)
  refine hK.out _ _ (SA.out _ KW.out) (fun hHeld => ?_)
  clear hK K
  try simp only [Act.put, List.setIfInBounds_toArray, List.set_cons_zero, List.set_cons_succ, List.getElem_toArray, List.getElem_cons_zero, List.getElem_cons_succ]
  clear he kk
  refine wpAnyL_ready (rs := [7]) (by kernel_rfl) (by simp) ?_
  refine AllReadyL.last rfl (by kernel_rfl) (fun K hK => ?_)
  have EN := hik (EZ.out.keep KW.out)
  have g0 : U1.cell? ⟨w.heap.size, 0, none⟩ = some (.int .i64 0) := EN.out.c0
  have g1 : U1.cell? ⟨w.heap.size, 1, none⟩ = some (.int .i64 0) := EN.out.c1
  have f0 := EN.out.fz 0
  have f1 := EN.out.fz 1
  have ln : w.heap.size < U1.heap.size := EN.out.lt
  simp only [List.getElem_toArray, List.getElem_cons_zero, List.getElem_cons_succ]
  go_simp
  refine hK.out _ _ ?_
  clear hK K
  try simp only [Act.put, List.setIfInBounds_toArray, List.set_cons_zero, List.set_cons_succ, List.getElem_toArray, List.getElem_cons_zero, List.getElem_cons_succ]
  clear g0 g1 f0 f1 ln
  refine wpAnyL_done (by kernel_rfl) ?_ _
  have u0 := (EN.out.set (El.ml (v 0) (v 1))).c0
  have u1 := (EN.out.set (El.ml (v 0) (v 1))).c1
  have GE := hik (chg2_at (G0.out.trans KW.out) w.heap.size (fun l => absurd l (by omega)) 0 1 (.int .i64 (El.ml (v 0) (v 1)).v.1) (.int .i64 (El.ml (v 0) (v 1)).v.2))
  go_wp2
  exact bodyPost_ret (v := .agg #[.int .i64 (El.ml (v 0) (v 1)).v.1, .int .i64 (El.ml (v 0) (v 1)).v.2]) (by simp [results, Tryz.results77, go_sem, u0, u1]) rfl ⟨rfl, GE.out⟩

set_option maxHeartbeats 2000000 in
theorem gateV_any (c : Option Addr) (cap : Nat) (v : Nat → El) (w : World) (h : Hid (PairE w c 4 v)) : Calls Tryz.prog 78 #[.slice c 4 cap] w fun e w' => e = .returned (.agg #[.int .i64 (El.ml (v 0) (El.sb (El.ml (v 1) (v 2)) (v 3))).v.1, .int .i64 (El.ml (v 0) (El.sb (El.ml (v 1) (v 2)) (v 3))).v.2]) ∧ Chg nob w w' := by
  obtain ⟨xb, xo, ec, hxb, _, _⟩ := PairE.at_ h.out (show 0 < 4 by omega)
  subst ec
  have HU := hik (PairE.keep h.out ((Chg.refl nob w).alloc (.cells #[.int .i64 0, .int .i64 0] 31)))
  have EZ := hik (ElB.zero w)
  have G0 := hik ((Chg.refl nob w).alloc (.cells #[.int .i64 0, .int .i64 0] 31))
  go_enter Tryz.func78, Tryz.ntmps78
  go_upto_region 1 with fail
  generalize hE : w.alloc (.cells #[.int .i64 0, .int .i64 0] 31) = W0 at HU EZ G0 ⊢
  clear hE
  have a0 : W0.cell? ⟨xb, xo, none⟩ = some (.int .i64 (v 0).v.1) := by have q := PairE.c0 HU.out (i := 0) (by omega); simpa using q
  have a1 : W0.cell? ⟨xb, xo + 1, none⟩ = some (.int .i64 (v 0).v.2) := by have q := PairE.c1 HU.out (i := 0) (by omega); simpa using q
  have b0 : W0.cell? ⟨xb, xo + 2, none⟩ = some (.int .i64 (v 1).v.1) := by have q := PairE.c0 HU.out (i := 1) (by omega); simpa using q
  have b1 : W0.cell? ⟨xb, xo + 2 + 1, none⟩ = some (.int .i64 (v 1).v.2) := by have q := PairE.c1 HU.out (i := 1) (by omega); simpa using q
  have c0 : W0.cell? ⟨xb, xo + 4, none⟩ = some (.int .i64 (v 2).v.1) := by have q := PairE.c0 HU.out (i := 2) (by omega); simpa using q
  have c1 : W0.cell? ⟨xb, xo + 4 + 1, none⟩ = some (.int .i64 (v 2).v.2) := by have q := PairE.c1 HU.out (i := 2) (by omega); simpa using q
  have d0 : W0.cell? ⟨xb, xo + 6, none⟩ = some (.int .i64 (v 3).v.1) := by have q := PairE.c0 HU.out (i := 3) (by omega); simpa using q
  have d1 : W0.cell? ⟨xb, xo + 6 + 1, none⟩ = some (.int .i64 (v 3).v.2) := by have q := PairE.c1 HU.out (i := 3) (by omega); simpa using q
  have KW := hik ((Chg.refl nob W0).drew1)
  have SA := hik (fun (WW : World) (kW : Chg nob W0 WW) => (show (WW.cell? ⟨xb, xo, none⟩ = some (.int .i64 (v 0).v.1) ∧ WW.cell? ⟨xb, xo + 1, none⟩ = some (.int .i64 (v 0).v.2) ∧ WW.cell? ⟨xb, xo + 2, none⟩ = some (.int .i64 (v 1).v.1) ∧ WW.cell? ⟨xb, xo + 2 + 1, none⟩ = some (.int .i64 (v 1).v.2) ∧ WW.cell? ⟨xb, xo + 4, none⟩ = some (.int .i64 (v 2).v.1) ∧ WW.cell? ⟨xb, xo + 4 + 1, none⟩ = some (.int .i64 (v 2).v.2) ∧ WW.cell? ⟨xb, xo + 6, none⟩ = some (.int .i64 (v 3).v.1) ∧ WW.cell? ⟨xb, xo + 6 + 1, none⟩ = some (.int .i64 (v 3).v.2)) from ⟨kW.see a0, kW.see a1, kW.see b0, kW.see b1, kW.see c0, kW.see c1, kW.see d0, kW.see d1⟩))
  refine wp_regionL (L := 15) (S := fun w' => w'.cell? ⟨xb, xo, none⟩ = some (.int .i64 (v 0).v.1) ∧ w'.cell? ⟨xb, xo + 1, none⟩ = some (.int .i64 (v 0).v.2) ∧ w'.cell? ⟨xb, xo + 2, none⟩ = some (.int .i64 (v 1).v.1) ∧ w'.cell? ⟨xb, xo + 2 + 1, none⟩ = some (.int .i64 (v 1).v.2) ∧ w'.cell? ⟨xb, xo + 4, none⟩ = some (.int .i64 (v 2).v.1) ∧ w'.cell? ⟨xb, xo + 4 + 1, none⟩ = some (.int .i64 (v 2).v.2) ∧ w'.cell? ⟨xb, xo + 6, none⟩ = some (.int .i64 (v 3).v.1) ∧ w'.cell? ⟨xb, xo + 6 + 1, none⟩ = some (.int .i64 (v 3).v.2)) (by kernel_rfl) ⟨a0, a1, b0, b1, c0, c1, d0, d1⟩ (fun hHeld => ?_)
  refine wpAnyL_take (i := 0) (v := ?_) rfl (by kernel_rfl) (by kernel_rfl) (by kernel_rfl) (fun _ _ _ h => h) (by rfl) (by kernel_rfl) (by kernel_rfl) (Or.inl ⟨by rfl, ?_⟩) (by assumption) ?_
  rotate_left 1
  · (intro w' hSw; (try dsimp only at hSw); go_simp; try with_reducible rfl)
  try simp only [Act.put, List.setIfInBounds_toArray, List.set_cons_zero, List.set_cons_succ, List.getElem_toArray, List.getElem_cons_zero, List.getElem_cons_succ]
  refine wpAnyL_take (i := 1) (v := ?_) rfl (by kernel_rfl) (by kernel_rfl) (by kernel_rfl) (fun _ _ _ h => h) (by rfl) (by kernel_rfl) (by kernel_rfl) (Or.inl ⟨by rfl, ?_⟩) (by assumption) ?_
  rotate_left 1
  · (intro w' hSw; (try dsimp only at hSw); go_simp; try with_reducible rfl)
  try simp only [Act.put, List.setIfInBounds_toArray, List.set_cons_zero, List.set_cons_succ, List.getElem_toArray, List.getElem_cons_zero, List.getElem_cons_succ]
  refine wpAnyL_take (i := 2) (v := ?_) rfl (by kernel_rfl) (by kernel_rfl) (by kernel_rfl) (fun _ _ _ h => h) (by rfl) (by kernel_rfl) (by kernel_rfl) (Or.inl ⟨by rfl, ?_⟩) (by assumption) ?_
  rotate_left 1
  · (intro w' hSw; (try dsimp only at hSw); go_simp; try with_reducible rfl)
  try simp only [Act.put, List.setIfInBounds_toArray, List.set_cons_zero, List.set_cons_succ, List.getElem_toArray, List.getElem_cons_zero, List.getElem_cons_succ]
  refine wpAnyL_take (i := 3) (v := ?_) rfl (by kernel_rfl) (by kernel_rfl) (by kernel_rfl) (fun _ _ _ h => h) (by rfl) (by kernel_rfl) (by kernel_rfl) (Or.inl ⟨by rfl, ?_⟩) (by assumption) ?_
  rotate_left 1
  · (intro w' hSw; (try dsimp only at hSw); go_simp; try with_reducible rfl)
  try simp only [Act.put, List.setIfInBounds_toArray, List.set_cons_zero, List.set_cons_succ, List.getElem_toArray, List.getElem_cons_zero, List.getElem_cons_succ]
  refine wpAnyL_take (i := 4) (v := ?_) rfl (by kernel_rfl) (by kernel_rfl) (by kernel_rfl) (fun _ _ _ h => h) (by rfl) (by kernel_rfl) (by kernel_rfl) (Or.inl ⟨by rfl, ?_⟩) (by assumption) ?_
  rotate_left 1
  · (intro w' hSw; (try dsimp only at hSw); go_simp; try with_reducible rfl)
  try simp only [Act.put, List.setIfInBounds_toArray, List.set_cons_zero, List.set_cons_succ, List.getElem_toArray, List.getElem_cons_zero, List.getElem_cons_succ]
  refine wpAnyL_take (i := 5) (v := ?_) rfl (by kernel_rfl) (by kernel_rfl) (by kernel_rfl) (fun _ _ _ h => h) (by rfl) (by kernel_rfl) (by kernel_rfl) (Or.inl ⟨by rfl, ?_⟩) (by assumption) ?_
  rotate_left 1
  · (intro w' hSw; (try dsimp only at hSw); go_simp; try with_reducible rfl)
  try simp only [Act.put, List.setIfInBounds_toArray, List.set_cons_zero, List.set_cons_succ, List.getElem_toArray, List.getElem_cons_zero, List.getElem_cons_succ]
  refine wpAnyL_take (i := 6) (v := ?_) rfl (by kernel_rfl) (by kernel_rfl) (by kernel_rfl) (fun _ _ _ h => h) (by rfl) (by kernel_rfl) (by kernel_rfl) (Or.inl ⟨by rfl, ?_⟩) (by assumption) ?_
  rotate_left 1
  · (intro w' hSw; (try dsimp only at hSw); go_simp; try with_reducible rfl)
  try simp only [Act.put, List.setIfInBounds_toArray, List.set_cons_zero, List.set_cons_succ, List.getElem_toArray, List.getElem_cons_zero, List.getElem_cons_succ]
  refine wpAnyL_take (i := 7) (v := ?_) rfl (by kernel_rfl) (by kernel_rfl) (by kernel_rfl) (fun _ _ _ h => h) (by rfl) (by kernel_rfl) (by kernel_rfl) (Or.inl ⟨by rfl, ?_⟩) (by assumption) ?_
  rotate_left 1
  · (intro w' hSw; (try dsimp only at hSw); go_simp; try with_reducible rfl)
  try simp only [Act.put, List.setIfInBounds_toArray, List.set_cons_zero, List.set_cons_succ, List.getElem_toArray, List.getElem_cons_zero, List.getElem_cons_succ]
  refine wpAnyL_take (i := 8) (v := ?_) rfl (by kernel_rfl) (by kernel_rfl) (by kernel_rfl) (fun _ _ _ h => h) (by rfl) (by kernel_rfl) (by kernel_rfl) (Or.inl ⟨by rfl, ?_⟩) (by assumption) ?_
  rotate_left 1
  · (intro w' hSw; (try dsimp only at hSw); go_simp; try with_reducible rfl)
  try simp only [Act.put, List.setIfInBounds_toArray, List.set_cons_zero, List.set_cons_succ, List.getElem_toArray, List.getElem_cons_zero, List.getElem_cons_succ]
  refine wpAnyL_take (i := 10) (v := ?_) rfl (by kernel_rfl) (by kernel_rfl) (by kernel_rfl) (fun _ _ _ h => h) (by rfl) (by kernel_rfl) (by kernel_rfl) (Or.inl ⟨by rfl, ?_⟩) (by assumption) ?_
  rotate_left 1
  · (intro w' hSw; (try dsimp only at hSw); go_simp; try with_reducible rfl)
  try simp only [Act.put, List.setIfInBounds_toArray, List.set_cons_zero, List.set_cons_succ, List.getElem_toArray, List.getElem_cons_zero, List.getElem_cons_succ]
  refine wpAnyL_take (i := 11) (v := ?_) rfl (by kernel_rfl) (by kernel_rfl) (by kernel_rfl) (fun _ _ _ h => h) (by rfl) (by kernel_rfl) (by kernel_rfl) (Or.inl ⟨by rfl, ?_⟩) (by assumption) ?_
  rotate_left 1
  · (intro w' hSw; (try dsimp only at hSw); go_simp; try with_reducible rfl)
  try simp only [Act.put, List.setIfInBounds_toArray, List.set_cons_zero, List.set_cons_succ, List.getElem_toArray, List.getElem_cons_zero, List.getElem_cons_succ]
  refine wpAnyL_take (i := 12) (v := ?_) rfl (by kernel_rfl) (by kernel_rfl) (by kernel_rfl) (fun _ _ _ h => h) (by rfl) (by kernel_rfl) (by kernel_rfl) (Or.inl ⟨by rfl, ?_⟩) (by assumption) ?_
  rotate_left 1
  · (intro w' hSw; (try dsimp only at hSw); go_simp; try with_reducible rfl)
  try simp only [Act.put, List.setIfInBounds_toArray, List.set_cons_zero, List.set_cons_succ, List.getElem_toArray, List.getElem_cons_zero, List.getElem_cons_succ]
  refine wpAnyL_ready (rs := [9]) (by kernel_rfl) (by simp) ?_
  refine AllReadyL.cons rfl (fun K hK => ?_) AllReadyL.nil
  refine stepL_callN 81 #[.tmp 8, .tmp 11] #[31, 31] (by rfl) (by rfl) #[.agg #[.int .i64 (v 1).v.1, .int .i64 (v 1).v.2], .agg #[.int .i64 (v 2).v.1, .int .i64 (v 2).v.2]] (by simp only [List.map_toArray, List.map_cons, List.map_nil] <;> rfl) (run_go Tryz.func81 (by kernel_rfl) (by kernel_rfl) _ _) (ml_el (v 1) (v 2) _) ?_
  rintro e U1 ⟨he, kk⟩
  refine ⟨_, he, ?_⟩
  replace KW := hik (KW.out.trans kk)
  refine hK.out _ _ (SA.out _ KW.out) (fun hHeld => ?_)
  clear hK K
  try simp only [Act.put, List.setIfInBounds_toArray, List.set_cons_zero, List.set_cons_succ, List.getElem_toArray, List.getElem_cons_zero, List.getElem_cons_succ]
  clear he kk
  refine wpAnyL_ready (rs := [13]) (by kernel_rfl) (by simp) ?_
  refine AllReadyL.cons rfl (fun K hK => ?_) AllReadyL.nil
  refine stepL_callN 80 #[.tmp 12, .tmp 15] #[31, 31] (by rfl) (by rfl) #[.agg #[.int .i64 (El.ml (v 1) (v 2)).v.1, .int .i64 (El.ml (v 1) (v 2)).v.2], .agg #[.int .i64 (v 3).v.1, .int .i64 (v 3).v.2]] (by simp only [List.map_toArray, List.map_cons, List.map_nil] <;> rfl) (run_go Tryz.func80 (by kernel_rfl) (by kernel_rfl) _ _) (sb_el (El.ml (v 1) (v 2)) (v 3) _) ?_
  rintro e U2 ⟨he, kk⟩
  refine ⟨_, he, ?_⟩
  replace KW := hik (KW.out.trans kk)
  refine hK.out _ _ (SA.out _ KW.out) (fun hHeld => ?_)
  clear hK K
  try simp only [Act.put, List.setIfInBounds_toArray, List.set_cons_zero, List.set_cons_succ, List.getElem_toArray, List.getElem_cons_zero, List.getElem_cons_succ]
  clear he kk
  refine wpAnyL_ready (rs := [14]) (by kernel_rfl) (by simp) ?_
  refine AllReadyL.cons rfl (fun K hK => ?_) AllReadyL.nil
  refine stepL_callN 81 #[.tmp 5, .tmp 16] #[31, 31] (by rfl) (by rfl) #[.agg #[.int .i64 (v 0).v.1, .int .i64 (v 0).v.2], .agg #[.int .i64 (El.sb (El.ml (v 1) (v 2)) (v 3)).v.1, .int .i64 (El.sb (El.ml (v 1) (v 2)) (v 3)).v.2]] (by simp only [List.map_toArray, List.map_cons, List.map_nil] <;> rfl) (run_go Tryz.func81 (by kernel_rfl) (by kernel_rfl) _ _) (ml_el (v 0) (El.sb (El.ml (v 1) (v 2)) (v 3)) _) ?_
  rintro e U3 ⟨he, kk⟩
  refine ⟨_, he, ?_⟩
  replace KW := hik (KW.out.trans kk)
  refine hK.out _ _ (SA.out _ KW.out) (fun hHeld => ?_)
  clear hK K
  try simp only [Act.put, List.setIfInBounds_toArray, List.set_cons_zero, List.set_cons_succ, List.getElem_toArray, List.getElem_cons_zero, List.getElem_cons_succ]
  clear he kk
  refine wpAnyL_ready (rs := [15]) (by kernel_rfl) (by simp) ?_
  refine AllReadyL.last rfl (by kernel_rfl) (fun K hK => ?_)
  have EN := hik (EZ.out.keep KW.out)
  have g0 : U3.cell? ⟨w.heap.size, 0, none⟩ = some (.int .i64 0) := EN.out.c0
  have g1 : U3.cell? ⟨w.heap.size, 1, none⟩ = some (.int .i64 0) := EN.out.c1
  have f0 := EN.out.fz 0
  have f1 := EN.out.fz 1
  have ln : w.heap.size < U3.heap.size := EN.out.lt
  simp only [List.getElem_toArray, List.getElem_cons_zero, List.getElem_cons_succ]
  go_simp
  refine hK.out _ _ ?_
  clear hK K
  try simp only [Act.put, List.setIfInBounds_toArray, List.set_cons_zero, List.set_cons_succ, List.getElem_toArray, List.getElem_cons_zero, List.getElem_cons_succ]
  clear g0 g1 f0 f1 ln
  refine wpAnyL_done (by kernel_rfl) ?_ _
  have u0 := (EN.out.set (El.ml (v 0) (El.sb (El.ml (v 1) (v 2)) (v 3)))).c0
  have u1 := (EN.out.set (El.ml (v 0) (El.sb (El.ml (v 1) (v 2)) (v 3)))).c1
  have GE := hik (chg2_at (G0.out.trans KW.out) w.heap.size (fun l => absurd l (by omega)) 0 1 (.int .i64 (El.ml (v 0) (El.sb (El.ml (v 1) (v 2)) (v 3))).v.1) (.int .i64 (El.ml (v 0) (El.sb (El.ml (v 1) (v 2)) (v 3))).v.2))
  go_wp2
  exact bodyPost_ret (v := .agg #[.int .i64 (El.ml (v 0) (El.sb (El.ml (v 1) (v 2)) (v 3))).v.1, .int .i64 (El.ml (v 0) (El.sb (El.ml (v 1) (v 2)) (v 3))).v.2]) (by simp [results, Tryz.results78, go_sem, u0, u1]) rfl ⟨rfl, GE.out⟩

/-- What a kind's function answers. -/
theorem KD.val {k : Nat} {t d : Int} {f : Nat} (h : KD k t d f) (c : Option Addr) (n cap : Nat) (hn : n = 2 * k) (v : Nat → El) (w : World) (hp : Hid (PairE w c n v)) : Calls Tryz.prog f #[.slice c n cap] w fun e w' => e = .returned (.agg #[.int .i64 (cmb k v).v.1, .int .i64 (cmb k v).v.2]) ∧ Chg nob w w' := by
  subst hn
  rcases h with ⟨rfl, _, _, rfl⟩ | ⟨rfl, _, _, rfl⟩
  · exact prodV_any c cap v w hp
  · exact gateV_any c cap v w hp

end Go.Proofs.YtgiefpipflcbgadGreatDoor

namespace Go.Proofs.YtgiefpipflcbgadGreatDoor
open Go.ChangeShapes Go.WideShapes Go.ChangeAt Go.RowKit
set_option linter.unusedVariables false
set_option maxRecDepth 100000
set_option linter.unusedSimpArgs false

theorem RowE.chg {P : Nat → Prop} {w w' : World} {b n : Nat} {t : Nat → El} (h : RowE w b n t) (k : Chg P w w') (hp : ¬ P b) : RowE w' b n t := rowIs_chg h k hp
theorem RowE.fz {w : World} {b n : Nat} {t : Nat → El} (h : RowE w b n t) (o : Nat) : w.frozen? ⟨b, o, none⟩ = false := World.rowIs.frozen h o
theorem Chg.seeQ {P : Nat → Prop} {w w' : World} (h : Chg P w w') {b o : Nat} {v : Value} (c : w.cell? ⟨b, o, none⟩ = some v) (hp : ¬ P b) : w'.cell? ⟨b, o, none⟩ = some v :=
  (h.cell (p := ⟨b, o, none⟩) (World.block_lt_of_cell? w _ c) hp).trans c
theorem upE_fill {V G : Nat → El} {j : Nat} (h : ∀ i, i < j → V i = G i) : ∀ i, i < j + 1 → upE V j (G j) i = G i := fun i hi => by
  unfold upE
  by_cases q : i = j
  · rw [if_pos q, q]
  · rw [if_neg q]; exact h i (by omega)
/-- What a closure over tables holds: a box with the tables, one with a list of its own, a combination. -/
def PlI (w : World) (bt bv bc b vb n : Nat) (t d : Int) (f : Nat) (S : Nat → Nat) (T : Nat → Nat → El) : Prop :=
  w.rowIs bt 56 1 (fun _ => .slice (some ⟨b, 0, none⟩) n n) ∧ w.rowIs bv 26 1 (fun _ => .slice (some ⟨vb, 0, none⟩) n n) ∧ CmB w bc t d (.func (.func f) #[] #[]) ∧ Cbs w b n S T ∧ ∃ V, RowE w vb n V
section
variable {w w' : World} {bt bv bc b vb n : Nat} {t d : Int} {f : Nat} {S : Nat → Nat} {T : Nat → Nat → El}
theorem PlI.keep (h : PlI w bt bv bc b vb n t d f S T) (k : Chg nob w w') : PlI w' bt bv bc b vb n t d f S T := by
  obtain ⟨h1, h2, h3, h4, V, h5⟩ := h
  exact ⟨rowIs_keep h1 k, rowIs_keep h2 k, h3.keep k, h4.keep k, V, h5.keep k⟩
/-- All but the closure's own list. -/
theorem PlI.rest (h : PlI w bt bv bc b vb n t d f S T) (k : Chg (fun x => x = vb) w w') : w'.rowIs bt 56 1 (fun _ => .slice (some ⟨b, 0, none⟩) n n) ∧ w'.rowIs bv 26 1 (fun _ => .slice (some ⟨vb, 0, none⟩) n n) ∧ CmB w' bc t d (.func (.func f) #[] #[]) ∧ Cbs w' b n S T := by
  obtain ⟨h1, h2, h3, h4, V, h5⟩ := h
  exact ⟨rowIs_chg h1 k (fun e => absurd (rowIs_kind (e ▸ h1) h5) (by decide)), rowIs_chg h2 k (fun e => absurd (rowIs_kind (e ▸ h2) h5) (by decide)), h3.chg k (fun e => absurd (rowIs_kind (e ▸ h3) h5) (by decide)), h4.chg k (fun e => absurd (rowIs_kind (e ▸ h4) h5) (by decide))⟩
end

set_option maxHeartbeats 4000000 in
theorem clo_any {k : Nat} {t d : Int} {f : Nat} (h : KD k t d f) (bt bv bc b vb n p : Nat) (hn : n = 2 * k) (hp : p < 64) (S : Nat → Nat) (T : Nat → Nat → El) (w : World) (hI : Hid (PlI w bt bv bc b vb n t d f S T)) :
    Calls Tryz.prog 93 #[.int .i64 (p : Int), .pointer (some ⟨bt, 0, none⟩), .pointer (some ⟨bv, 0, none⟩), .pointer (some ⟨bc, 0, none⟩)] w fun e w' => e = .returned (.agg #[.int .i64 (cmb k (fun j => T j p)).v.1, .int .i64 (cmb k (fun j => T j p)).v.2]) ∧ PlI w' bt bv bc b vb n t d f S T ∧ Chg (fun x => x = vb) w w' := by
  have HK := hik h
  have HN := hik hn
  have hn4 : n ≤ 4 := by rcases h with ⟨rfl, _⟩ | ⟨rfl, _⟩ <;> omega
  have hcf := KD.run h
  clear h hn
  obtain ⟨R, hRR⟩ : ∃ R, R = cmb k (fun j => T j p) := ⟨_, rfl⟩
  have HRR := hik hRR
  rw [← hRR]
  clear hRR
  have hp0 : (0 : Int) ≤ (p : Int) := by omega
  have hp1 : (p : Int) < 64 := by omega
  have HI2 := hik (show vb < w.heap.size from hI.out.2.2.2.2.elim (fun V h => h.lt))
  have hc0 := hI.out.1.cell (show 0 < 1 by omega)
  have hl0 : bt < w.heap.size := hI.out.1.lt
  go_enter Tryz.func93, Tryz.ntmps93
  go_wp2
  go_loopw [9] (fun i W => ∃ (j : Nat) (V : Nat → El), j ≤ n ∧ i = .int .i64 (j : Int) ∧ Hid (∀ i, i < j → V i = T i p) ∧ Hid (RowE W vb n V) ∧ Hid (ElB W w.heap.size El.zr) ∧ Hid (Chg (fun x => x = vb) w W)) (fun i _ => n - (intOf i).toNat)
  case atStart =>
    obtain ⟨_, _, _, _, V, hV⟩ := hI.out
    exact ⟨0, V, Nat.zero_le _, rfl, hik (fun i hi => absurd hi (by omega)), hik (hV.keep ((Chg.refl nob w).alloc _)), hik (ElB.zero w), hik ((Chg.refl _ w).alloc _)⟩
  case round =>
    clear hc0 hl0
    obtain ⟨j, V, hj, rfl, HV, HR, HZ, HG⟩ := hrel
    rename World => wi
    obtain ⟨hA, hB, hC, hD⟩ := hI.out.rest HG.out
    have HA := hik hA
    have HB := hik hB
    have HC := hik hC
    have HD := hik hD
    clear hA hB hC hD
    have ca := HA.out.cell (show 0 < 1 by omega)
    have cb_ := HB.out.cell (show 0 < 1 by omega)
    by_cases hlt : j < n
    · have hj1 : (j : Int) < (n : Int) := by omega
      have hj0 : (0 : Int) ≤ (j : Int) := by omega
      have x0 := HD.out.c0 hlt hp
      have x1 := HD.out.c1 hlt hp
      go_wp2
      have KW := hik ((Chg.refl nob wi).drew1)
      have SA := hik (fun (WW : World) (kW : Chg nob wi WW) => (show (WW.cell? ⟨bv, 0, none⟩ = some (.slice (some ⟨vb, 0, none⟩) n n) ∧ WW.cell? ⟨bt, 0, none⟩ = some (.slice (some ⟨b, 0, none⟩) n n) ∧ WW.cell? ⟨b, j * 129 + 1 + p * 2, none⟩ = some (.int .i64 (T j p).v.1) ∧ WW.cell? ⟨b, j * 129 + 1 + p * 2 + 1, none⟩ = some (.int .i64 (T j p).v.2)) from ⟨kW.see cb_, kW.see ca, kW.see x0, kW.see x1⟩))
      refine wp_regionL (L := 10) (S := fun w' => w'.cell? ⟨bv, 0, none⟩ = some (.slice (some ⟨vb, 0, none⟩) n n) ∧ w'.cell? ⟨bt, 0, none⟩ = some (.slice (some ⟨b, 0, none⟩) n n) ∧ w'.cell? ⟨b, j * 129 + 1 + p * 2, none⟩ = some (.int .i64 (T j p).v.1) ∧ w'.cell? ⟨b, j * 129 + 1 + p * 2 + 1, none⟩ = some (.int .i64 (T j p).v.2)) (by kernel_rfl) ⟨cb_, ca, x0, x1⟩ (fun hHeld => ?_)
      refine wpAnyL_take (i := 0) (v := ?_) rfl (by kernel_rfl) (by kernel_rfl) (by kernel_rfl) (fun _ _ _ h => h) (by rfl) (by kernel_rfl) (by kernel_rfl) (Or.inl ⟨by rfl, ?_⟩) (by assumption) ?_
      rotate_left 1
      · (intro w' hSw; (try dsimp only at hSw); go_simp; try with_reducible rfl)
      try simp only [Act.put, List.setIfInBounds_toArray, List.set_cons_zero, List.set_cons_succ, List.getElem_toArray, List.getElem_cons_zero, List.getElem_cons_succ]
      refine wpAnyL_take (i := 1) (v := ?_) rfl (by kernel_rfl) (by kernel_rfl) (by kernel_rfl) (fun _ _ _ h => h) (by rfl) (by kernel_rfl) (by kernel_rfl) (Or.inl ⟨by rfl, ?_⟩) (by assumption) ?_
      rotate_left 1
      · (intro w' hSw; (try dsimp only at hSw); go_simp; try with_reducible rfl)
      try simp only [Act.put, List.setIfInBounds_toArray, List.set_cons_zero, List.set_cons_succ, List.getElem_toArray, List.getElem_cons_zero, List.getElem_cons_succ]
      refine wpAnyL_take (i := 2) (v := ?_) rfl (by kernel_rfl) (by kernel_rfl) (by kernel_rfl) (fun _ _ _ h => h) (by rfl) (by kernel_rfl) (by kernel_rfl) (Or.inl ⟨by rfl, ?_⟩) (by assumption) ?_
      rotate_left 1
      · (intro w' hSw; (try dsimp only at hSw); go_simp; try with_reducible rfl)
      try simp only [Act.put, List.setIfInBounds_toArray, List.set_cons_zero, List.set_cons_succ, List.getElem_toArray, List.getElem_cons_zero, List.getElem_cons_succ]
      refine wpAnyL_take (i := 3) (v := ?_) rfl (by kernel_rfl) (by kernel_rfl) (by kernel_rfl) (fun _ _ _ h => h) (by rfl) (by kernel_rfl) (by kernel_rfl) (Or.inl ⟨by rfl, ?_⟩) (by assumption) ?_
      rotate_left 1
      · (intro w' hSw; (try dsimp only at hSw); go_simp; try with_reducible rfl)
      try simp only [Act.put, List.setIfInBounds_toArray, List.set_cons_zero, List.set_cons_succ, List.getElem_toArray, List.getElem_cons_zero, List.getElem_cons_succ]
      refine wpAnyL_take (i := 4) (v := ?_) rfl (by kernel_rfl) (by kernel_rfl) (by kernel_rfl) (fun _ _ _ h => h) (by rfl) (by kernel_rfl) (by kernel_rfl) (Or.inl ⟨by rfl, ?_⟩) (by assumption) ?_
      rotate_left 1
      · (intro w' hSw; (try dsimp only at hSw); go_simp; try with_reducible rfl)
      try simp only [Act.put, List.setIfInBounds_toArray, List.set_cons_zero, List.set_cons_succ, List.getElem_toArray, List.getElem_cons_zero, List.getElem_cons_succ]
      refine wpAnyL_take (i := 5) (v := ?_) rfl (by kernel_rfl) (by kernel_rfl) (by kernel_rfl) (fun _ _ _ h => h) (by rfl) (by kernel_rfl) (by kernel_rfl) (Or.inl ⟨by rfl, ?_⟩) (by assumption) ?_
      rotate_left 1
      · (intro w' hSw; (try dsimp only at hSw); go_simp; try with_reducible rfl)
      try simp only [Act.put, List.setIfInBounds_toArray, List.set_cons_zero, List.set_cons_succ, List.getElem_toArray, List.getElem_cons_zero, List.getElem_cons_succ]
      refine wpAnyL_take (i := 6) (v := ?_) rfl (by kernel_rfl) (by kernel_rfl) (by kernel_rfl) (fun _ _ _ h => h) (by rfl) (by kernel_rfl) (by kernel_rfl) (Or.inl ⟨by rfl, ?_⟩) (by assumption) ?_
      rotate_left 1
      · (intro w' hSw; (try dsimp only at hSw); go_simp; try with_reducible rfl)
      try simp only [Act.put, List.setIfInBounds_toArray, List.set_cons_zero, List.set_cons_succ, List.getElem_toArray, List.getElem_cons_zero, List.getElem_cons_succ]
      refine wpAnyL_take (i := 7) (v := ?_) rfl (by kernel_rfl) (by kernel_rfl) (by kernel_rfl) (fun _ _ _ h => h) (by rfl) (by kernel_rfl) (by kernel_rfl) (Or.inl ⟨by rfl, ?_⟩) (by assumption) ?_
      rotate_left 1
      · (intro w' hSw; (try dsimp only at hSw); go_simp; try with_reducible rfl)
      try simp only [Act.put, List.setIfInBounds_toArray, List.set_cons_zero, List.set_cons_succ, List.getElem_toArray, List.getElem_cons_zero, List.getElem_cons_succ]
      refine wpAnyL_take (i := 8) (v := ?_) rfl (by kernel_rfl) (by kernel_rfl) (by kernel_rfl) (fun _ _ _ h => h) (by rfl) (by kernel_rfl) (by kernel_rfl) (Or.inl ⟨by rfl, ?_⟩) (by assumption) ?_
      rotate_left 1
      · (intro w' hSw; (try dsimp only at hSw); go_simp; try with_reducible rfl)
      try simp only [Act.put, List.setIfInBounds_toArray, List.set_cons_zero, List.set_cons_succ, List.getElem_toArray, List.getElem_cons_zero, List.getElem_cons_succ]
      refine wpAnyL_take (i := 9) (v := ?_) rfl (by kernel_rfl) (by kernel_rfl) (by kernel_rfl) (fun _ _ _ h => h) (by rfl) (by kernel_rfl) (by kernel_rfl) (Or.inl ⟨by rfl, ?_⟩) (by assumption) ?_
      rotate_left 1
      · (intro w' hSw; (try dsimp only at hSw); go_simp; try with_reducible rfl)
      try simp only [Act.put, List.setIfInBounds_toArray, List.set_cons_zero, List.set_cons_succ, List.getElem_toArray, List.getElem_cons_zero, List.getElem_cons_succ]
      refine wpAnyL_ready (rs := [10]) (by kernel_rfl) (by simp) ?_
      refine AllReadyL.last rfl (by kernel_rfl) (fun K hK => ?_)
      have g0 : wi.drew.cell? ⟨vb, j * 2, none⟩ = some (.int .i64 (V j).v.1) := RowE.c0 (HR.out.keep KW.out) hlt
      have g1 : wi.drew.cell? ⟨vb, j * 2 + 1, none⟩ = some (.int .i64 (V j).v.2) := RowE.c1 (HR.out.keep KW.out) hlt
      have f0 := RowE.fz (HR.out.keep KW.out) (j * 2)
      have f1 := RowE.fz (HR.out.keep KW.out) (j * 2 + 1)
      have ln : vb < wi.drew.heap.size := RowE.lt (HR.out.keep KW.out)
      have g2 := HR.out.c0 hlt
      have g3 := HR.out.c1 hlt
      have f2 := HR.out.fz (j * 2)
      have f3 := HR.out.fz (j * 2 + 1)
      simp only [List.getElem_toArray, List.getElem_cons_zero, List.getElem_cons_succ]
      go_simp
      refine hK.out _ _ ?_
      clear hK K
      try simp only [Act.put, List.setIfInBounds_toArray, List.set_cons_zero, List.set_cons_succ, List.getElem_toArray, List.getElem_cons_zero, List.getElem_cons_succ]
      clear g0 g1 f0 f1 ln g2 g3 f2 f3
      refine wpAnyL_done (by kernel_rfl) ?_ _
      have hvz : ¬ w.heap.size = vb := fun e => by have := HI2.out; omega
      go_wp2
      go_roundw
      case rel => exact ⟨j + 1, upE V j (T j p), hlt, by go_num, hik (upE_fill (G := fun i => T i p) HV.out), hik (RowE.set (HR.out.keep KW.out) j (T j p)), hik (ElB.other (HZ.out.keep KW.out) hvz _ _ _ _), hik (chg2_at (HG.out.trans KW.out.wide) vb (fun _ => rfl) _ _ _ _)⟩
      case measure => simp [intOf]; omega
    · obtain rfl : j = n := by omega
      have c2 := HC.out.c2
      have QV := hik (fun (W : World) (hw : Hid (PairE W (some ⟨vb, 0, none⟩) j (fun i => T i p))) => HK.out.val (some ⟨vb, 0, none⟩) j j HN.out (fun i => T i p) W hw)
      rw [← HRR.out] at QV
      go_wp2_with fail
      refine (QV.out _ (hik (RowE.pairs (HR.out.congr HV.out)))).mono ?_
      rintro e W2 ⟨rfl, k2⟩
      have E2 := hik (HZ.out.keep k2)
      have hvz : w.heap.size ≠ vb := fun e => by have := HI2.out; omega
      have G2 := hik (HG.out.trans k2.wide)
      have hA := rowIs_keep HA.out k2
      have hB := rowIs_keep HB.out k2
      have hC := HC.out.keep k2
      have hD := HD.out.keep k2
      have hR := HR.out.keep k2
      have c0 : W2.cell? ⟨w.heap.size, 0, none⟩ = some (.int .i64 0) := E2.out.c0
      have c1 : W2.cell? ⟨w.heap.size, 1, none⟩ = some (.int .i64 0) := E2.out.c1
      have f0 := E2.out.fz 0
      have f1 := E2.out.fz 1
      have HE := hik (show PlI ((W2.setCell ⟨w.heap.size, 0, none⟩ (.int .i64 R.v.1)).setCell ⟨w.heap.size, 1, none⟩ (.int .i64 R.v.2)) bt bv bc b vb j t d f S T from by
        have l1 := hI.out.1.lt
        have l2 := hI.out.2.1.lt
        have l3 := hI.out.2.2.1.lt
        have l4 := hI.out.2.2.2.1.lt
        have q := chg2_set (Chg.refl (fun x => x = w.heap.size) W2) w.heap.size (fun _ => rfl) (.int .i64 R.v.1) (.int .i64 R.v.2)
        exact ⟨rowIs_chg hA q (by omega), rowIs_chg hB q (by omega), hC.chg q (by omega), hD.chg q (by omega), _, hR.chg q (by omega)⟩)
      clear hA hB hC hD hR k2 HA HB HC HD HR c2 ca cb_
      go_wp2
      have u0 := (E2.out.set R).c0
      have u1 := (E2.out.set R).c1
      exact bodyPost_ret (v := .agg #[.int .i64 R.v.1, .int .i64 R.v.2]) (by simp [results, Tryz.results93, go_sem, u0, u1]) rfl ⟨rfl, HE.out, chg2_set G2.out w.heap.size (fun l => absurd l (by omega)) _ _⟩

set_option maxHeartbeats 2000000 in
theorem places_any {k : Nat} {t d : Int} {f : Nat} (b n : Nat) (hn : n ≤ 4) (S : Nat → Nat) (T : Nat → Nat → El) (w : World) (hC : Hid (Cbs w b n S T)) :
    Calls Tryz.prog 64 #[.agg #[.int .i64 t, .int .i64 d, .func (.func f) #[] #[]], .slice (some ⟨b, 0, none⟩) n n] w fun e w' => ∃ bt bv bc vb, e = .returned (.func (.func 93) #[] #[.pointer (some ⟨bt, 0, none⟩), .pointer (some ⟨bv, 0, none⟩), .pointer (some ⟨bc, 0, none⟩)]) ∧ PlI w' bt bv bc b vb n t d f S T ∧ w.heap.size ≤ vb ∧ Chg nob w w' := by
  have hmf : ∀ (fn : Fn) (first cap : Array Value) (w : World), (Instr.makeFunc fn first cap).run Tryz.prog w = .ok (.func fn first cap) w := fun _ _ _ _ => rfl
  obtain ⟨i0, hi, hz0, hz1, hz2⟩ := info_parts infoExt
  have HI := hik hi
  have HZ0 := hik hz0
  have HZ1 := hik hz1
  have hb16 : i0.bytes * n ≤ 281474976710656 := by rw [hz2]; omega
  have HB16 := hik hb16
  clear hi hz0 hz1 hz2 hb16
  have E1 := hik ((CmB.new w t d (.func (.func f) #[] #[])).keep ((Chg.refl nob _).alloc (.cells #[.slice (some ⟨b, 0, none⟩) n n] 56)))
  have E2 := hik (show ((w.alloc (.cells #[.int .i64 t, .int .i64 d, .func (.func f) #[] #[]] 55)).alloc (.cells #[.slice (some ⟨b, 0, none⟩) n n] 56)).rowIs (w.heap.size + 1) 56 1 (fun _ => .slice (some ⟨b, 0, none⟩) n n) from rowIs_at (w.alloc (.cells #[.int .i64 t, .int .i64 d, .func (.func f) #[] #[]] 55)) (w.heap.size + 1) (by simp) 1 _ _ _ rfl)
  have G1 := hik (((Chg.refl nob w).alloc (.cells #[.int .i64 t, .int .i64 d, .func (.func f) #[] #[]] 55)).alloc (.cells #[.slice (some ⟨b, 0, none⟩) n n] 56))
  go_enter Tryz.func64, Tryz.ntmps64
  go_wp2_with (at_make; refine wpList_make_pairs _ rfl (.tmp 7) (.tmp 7) 26 rfl 31 i0 Tryz.underlying26 HI.out HZ0.out HZ1.out .i64 .i64 _ _ n rfl rfl rfl rfl HB16.out (by omega) ?_)
  intro W1 r1 k1
  have R1 := hik (show RowE W1 (w.heap.size + 2) n zE from r1)
  have F1 := hik (E1.out.keep k1)
  have F2 := hik (rowIs_keep E2.out k1)
  have G2 := hik (G1.out.trans k1)
  clear r1 k1 E1 E2 G1
  go_wp2
  go_ret
  refine ⟨w.heap.size + 1, W1.heap.size, w.heap.size, w.heap.size + 2, rfl, ⟨rowIs_keep F2.out ((Chg.refl nob W1).alloc _), rowIs_at W1 W1.heap.size rfl 1 _ _ _ rfl, F1.out.keep ((Chg.refl nob W1).alloc _), Cbs.keep (hC.out.keep G2.out) ((Chg.refl nob W1).alloc _), zE, R1.out.keep ((Chg.refl nob W1).alloc _)⟩, by omega, G2.out.alloc _⟩

set_option maxHeartbeats 4000000 in
theorem over_any {k : Nat} {t d : Int} {f : Nat} (h : KD k t d f) (bt bv bc b vb n N : Nat) (hn : n = 2 * k) (hN : N ≤ 64) (S : Nat → Nat) (T : Nat → Nat → El) (w : World) (hI : Hid (PlI w bt bv bc b vb n t d f S T)) :
    Calls Tryz.prog 63 #[.int .i64 (N : Int), .func (.func 93) #[] #[.pointer (some ⟨bt, 0, none⟩), .pointer (some ⟨bv, 0, none⟩), .pointer (some ⟨bc, 0, none⟩)]] w fun e w' => e = .returned (.agg #[.int .i64 (sms k T N).v.1, .int .i64 (sms k T N).v.2]) ∧ Chg (fun x => x = vb) w w' := by
  have HK := hik h
  have HN := hik hn
  clear h hn
  obtain ⟨F, hF⟩ : ∃ F, F = fun i => cmb k (fun j => T j i) := ⟨_, rfl⟩
  have HF := hik (show ∀ i, cmb k (fun j => T j i) = F i from fun i => by rw [hF])
  have HS := hik (show sms k T N = El.sm F N by rw [hF]; rfl)
  rw [HS.out]
  clear hF
  have hvl : vb < w.heap.size := hI.out.2.2.2.2.elim (fun V h => h.lt)
  have HVL := hik hvl
  have Z0 := hik ((ElB.zero w).keep ((Chg.refl nob _).alloc (.cells #[.int .i64 0, .int .i64 0] 31)))
  have Y0 := hik (by simpa using ElB.zero (w.alloc (.cells #[.int .i64 0, .int .i64 0] 31)) : ElB ((w.alloc (.cells #[.int .i64 0, .int .i64 0] 31)).alloc (.cells #[.int .i64 0, .int .i64 0] 31)) (w.heap.size + 1) El.zr)
  have G0 := hik (((Chg.refl (fun x => x = vb) w).alloc (.cells #[.int .i64 0, .int .i64 0] 31)).alloc (.cells #[.int .i64 0, .int .i64 0] 31))
  have I0 := hik (hI.out.keep (((Chg.refl nob w).alloc (.cells #[.int .i64 0, .int .i64 0] 31)).alloc (.cells #[.int .i64 0, .int .i64 0] 31)))
  go_enter Tryz.func63, Tryz.ntmps63
  go_wp2
  generalize hE : (w.alloc (.cells #[.int .i64 0, .int .i64 0] 31)).alloc (.cells #[.int .i64 0, .int .i64 0] 31) = W0 at Z0 Y0 G0 I0 ⊢
  clear hE
  go_loopw [9] (fun i W => ∃ j : Nat, j ≤ N ∧ i = .int .i64 (j : Int) ∧ Hid (ElB W (w.heap.size + 1) (El.sm F j)) ∧ Hid (ElB W w.heap.size El.zr) ∧ Hid (PlI W bt bv bc b vb n t d f S T) ∧ Hid (Chg (fun x => x = vb) w W)) (fun i _ => N - (intOf i).toNat)
  case atStart => exact ⟨0, Nat.zero_le _, rfl, Y0, Z0, I0, G0⟩
  case round =>
    clear Z0 Y0 G0 I0
    obtain ⟨j, hj, rfl, HY, HZ, HI, HG⟩ := hrel
    rename World => wi
    by_cases hlt : j < N
    · have hj1 : (j : Int) < (N : Int) := by omega
      have y0 := HY.out.c0
      have y1 := HY.out.c1
      have hyl : w.heap.size + 1 < wi.heap.size := HY.out.lt
      go_wp2
      have QC := hik (fun (W : World) (hw : Hid (PlI W bt bv bc b vb n t d f S T)) => clo_any HK.out bt bv bc b vb n j HN.out (by omega) S T W hw)
      replace HI := hik (HI.out.keep (Chg.refl nob wi).drew1)
      have KW := hik ((Chg.refl (fun x => x = vb) wi).drew1)
      have SA := hik (fun (WW : World) (kW : Chg (fun x => x = vb) wi WW) => (show (WW.cell? ⟨w.heap.size + 1, 0, none⟩ = some (.int .i64 (El.sm F j).v.1) ∧ WW.cell? ⟨w.heap.size + 1, 1, none⟩ = some (.int .i64 (El.sm F j).v.2)) from ⟨kW.seeQ y0 (by omega), kW.seeQ y1 (by omega)⟩))
      refine wp_regionL (L := 5) (S := fun w' => w'.cell? ⟨w.heap.size + 1, 0, none⟩ = some (.int .i64 (El.sm F j).v.1) ∧ w'.cell? ⟨w.heap.size + 1, 1, none⟩ = some (.int .i64 (El.sm F j).v.2)) (by kernel_rfl) (SA.out _ KW.out) (fun hHeld => ?_)
      refine wpAnyL_take (i := 0) (v := ?_) rfl (by kernel_rfl) (by kernel_rfl) (by kernel_rfl) (fun _ _ _ h => h) (by rfl) (by kernel_rfl) (by kernel_rfl) (Or.inl ⟨by rfl, ?_⟩) (by assumption) ?_
      rotate_left 1
      · (intro w' hSw; (try dsimp only at hSw); go_simp; try with_reducible rfl)
      try simp only [Act.put, List.setIfInBounds_toArray, List.set_cons_zero, List.set_cons_succ, List.getElem_toArray, List.getElem_cons_zero, List.getElem_cons_succ]
      refine wpAnyL_take (i := 1) (v := ?_) rfl (by kernel_rfl) (by kernel_rfl) (by kernel_rfl) (fun _ _ _ h => h) (by rfl) (by kernel_rfl) (by kernel_rfl) (Or.inl ⟨by rfl, ?_⟩) (by assumption) ?_
      rotate_left 1
      · (intro w' hSw; (try dsimp only at hSw); go_simp; try with_reducible rfl)
      try simp only [Act.put, List.setIfInBounds_toArray, List.set_cons_zero, List.set_cons_succ, List.getElem_toArray, List.getElem_cons_zero, List.getElem_cons_succ]
      refine wpAnyL_take (i := 2) (v := ?_) rfl (by kernel_rfl) (by kernel_rfl) (by kernel_rfl) (fun _ _ _ h => h) (by rfl) (by kernel_rfl) (by kernel_rfl) (Or.inl ⟨by rfl, ?_⟩) (by assumption) ?_
      rotate_left 1
      · (intro w' hSw; (try dsimp only at hSw); go_simp; try with_reducible rfl)
      try simp only [Act.put, List.setIfInBounds_toArray, List.set_cons_zero, List.set_cons_succ, List.getElem_toArray, List.getElem_cons_zero, List.getElem_cons_succ]
      refine wpAnyL_ready (rs := [3]) (by kernel_rfl) (by simp) ?_
      refine AllReadyL.cons rfl (fun K hK => ?_) AllReadyL.nil
      refine stepL_callV 93 (.tmp 13) #[] #[.pointer (some ⟨bt, 0, none⟩), .pointer (some ⟨bv, 0, none⟩), .pointer (some ⟨bc, 0, none⟩)] #[.tmp 14] #[3] (by rfl) (by rfl) (by rfl) #[.int .i64 (j : Int), .pointer (some ⟨bt, 0, none⟩), .pointer (some ⟨bv, 0, none⟩), .pointer (some ⟨bc, 0, none⟩)] (by first | (simp [Act.eval]; done) | (simp only [List.map_toArray, List.map_cons, List.map_nil, List.append_toArray, List.nil_append, List.cons_append] <;> rfl)) (run_go Tryz.func93 (by kernel_rfl) (by kernel_rfl) _ _) (QC.out _ HI) ?_
      rintro e U1 ⟨he, hI2, kk⟩
      rw [HF.out j] at he
      replace HI := hik hI2
      clear hI2
      refine ⟨_, he, ?_⟩
      replace KW := hik (KW.out.trans kk)
      refine hK.out _ _ (SA.out _ KW.out) (fun hHeld => ?_)
      clear hK K
      try simp only [Act.put, List.setIfInBounds_toArray, List.set_cons_zero, List.set_cons_succ, List.getElem_toArray, List.getElem_cons_zero, List.getElem_cons_succ]
      clear he kk
      refine wpAnyL_ready (rs := [4]) (by kernel_rfl) (by simp) ?_
      refine AllReadyL.cons rfl (fun K hK => ?_) AllReadyL.nil
      refine stepL_callN 41 #[.tmp 12, .tmp 15] #[31, 31] (by rfl) (by rfl) #[.agg #[.int .i64 (El.sm F j).v.1, .int .i64 (El.sm F j).v.2], .agg #[.int .i64 (F j).v.1, .int .i64 (F j).v.2]] (by simp only [List.map_toArray, List.map_cons, List.map_nil] <;> rfl) (run_go Tryz.func41 (by kernel_rfl) (by kernel_rfl) _ _) (ad_el (El.sm F j) (F j) _) ?_
      rintro e U2 ⟨he, kk⟩
      replace HI := hik (HI.out.keep kk)
      replace kk := (Chg.wide (P := fun x => x = vb) kk)
      refine ⟨_, he, ?_⟩
      replace KW := hik (KW.out.trans kk)
      refine hK.out _ _ (SA.out _ KW.out) (fun hHeld => ?_)
      clear hK K
      try simp only [Act.put, List.setIfInBounds_toArray, List.set_cons_zero, List.set_cons_succ, List.getElem_toArray, List.getElem_cons_zero, List.getElem_cons_succ]
      clear he kk
      refine wpAnyL_ready (rs := [5]) (by kernel_rfl) (by simp) ?_
      refine AllReadyL.last rfl (by kernel_rfl) (fun K hK => ?_)
      have EN := hik (HY.out.chg KW.out (by omega))
      have ZN := hik (HZ.out.chg KW.out (by omega))
      have g0 : U2.cell? ⟨w.heap.size + 1, 0, none⟩ = _ := EN.out.c0
      have g1 : U2.cell? ⟨w.heap.size + 1, 1, none⟩ = _ := EN.out.c1
      have f0 := EN.out.fz 0
      have f1 := EN.out.fz 1
      have ln : w.heap.size + 1 < U2.heap.size := EN.out.lt
      simp only [List.getElem_toArray, List.getElem_cons_zero, List.getElem_cons_succ]
      go_simp
      refine hK.out _ _ ?_
      clear hK K
      try simp only [Act.put, List.setIfInBounds_toArray, List.set_cons_zero, List.set_cons_succ, List.getElem_toArray, List.getElem_cons_zero, List.getElem_cons_succ]
      clear g0 g1 f0 f1 ln
      refine wpAnyL_done (by kernel_rfl) ?_ _
      have q := chg2_set (Chg.refl (fun x => x = w.heap.size + 1) U2) (w.heap.size + 1) (fun _ => rfl) (.int .i64 (El.ad (El.sm F j) (F j)).v.1) (.int .i64 (El.ad (El.sm F j) (F j)).v.2)
      have HI3 := hik (show PlI ((U2.setCell ⟨w.heap.size + 1, 0, none⟩ (.int .i64 (El.ad (El.sm F j) (F j)).v.1)).setCell ⟨w.heap.size + 1, 1, none⟩ (.int .i64 (El.ad (El.sm F j) (F j)).v.2)) bt bv bc b vb n t d f S T from by
        have l1 := hI.out.1.lt
        have l2 := hI.out.2.1.lt
        have l3 := hI.out.2.2.1.lt
        have l4 := hI.out.2.2.2.1.lt
        obtain ⟨hA, hB, hC, hD, V, hR⟩ := HI.out
        exact ⟨rowIs_chg hA q (by omega), rowIs_chg hB q (by omega), hC.chg q (by omega), hD.chg q (by omega), V, hR.chg q (by omega)⟩)
      have ZN2 := hik (ZN.out.chg q (by omega))
      clear q
      go_wp2
      go_roundw
      case rel => exact ⟨j + 1, hlt, by go_num, hik (EN.out.set (El.ad (El.sm F j) (F j))), ZN2, HI3, hik (chg2_set (HG.out.trans KW.out) (w.heap.size + 1) (fun l => absurd l (by omega)) _ _)⟩
      case measure => simp [intOf]; omega
    · obtain rfl : j = N := by omega
      have y0 := HY.out.c0
      have y1 := HY.out.c1
      have c0 := HZ.out.c0
      have c1 := HZ.out.c1
      have f0 := HZ.out.fz 0
      have f1 := HZ.out.fz 1
      go_wp2
      have u0 := (HZ.out.set (El.sm F j)).c0
      have u1 := (HZ.out.set (El.sm F j)).c1
      exact bodyPost_ret (v := .agg #[.int .i64 (El.sm F j).v.1, .int .i64 (El.sm F j).v.2]) (by simp [results, Tryz.results63, go_sem, u0, u1]) rfl ⟨rfl, chg2_set HG.out w.heap.size (fun l => absurd l (by omega)) _ _⟩

set_option maxHeartbeats 4000000 in
theorem sum_any {k : Nat} {t d : Int} {f : Nat} (h : KD k t d f) (b n N : Nat) (hn : n = 2 * k) (hN : N ≤ 64) (T : Nat → Nat → El) (w : World) (hC : Hid (Cbs w b n (fun _ => N) T)) :
    Calls Tryz.prog 26 #[.agg #[.int .i64 t, .int .i64 d, .func (.func f) #[] #[]], .slice (some ⟨b, 0, none⟩) n n] w fun e w' => e = .returned (.agg #[.int .i64 (sms k T N).v.1, .int .i64 (sms k T N).v.2]) ∧ Chg nob w w' := by
  have HK := hik h
  have HN := hik hn
  have hn4 : n ≤ 4 := by rcases h with ⟨rfl, _⟩ | ⟨rfl, _⟩ <;> omega
  have hn0 : 0 < n := by rcases h with ⟨rfl, _⟩ | ⟨rfl, _⟩ <;> omega
  have hn0' : (0 : Int) < (n : Int) := by omega
  clear h hn
  obtain ⟨V, hV⟩ : ∃ V, V = sms k T N := ⟨_, rfl⟩
  have QO := hik (fun (bt bv bc vb : Nat) (W : World) (hw : Hid (PlI W bt bv bc b vb n t d f (fun _ => N) T)) => over_any HK.out bt bv bc b vb n N HN.out hN (fun _ => N) T W hw)
  rw [← hV] at QO ⊢
  clear hV
  have E1 := hik ((CmB.new w t d (.func (.func f) #[] #[])).keep ((Chg.refl nob _).alloc (.cells #[.int .i64 0, .int .i64 0] 31)))
  have Z1 := hik (by simpa using ElB.zero (w.alloc (.cells #[.int .i64 t, .int .i64 d, .func (.func f) #[] #[]] 55)) : ElB ((w.alloc (.cells #[.int .i64 t, .int .i64 d, .func (.func f) #[] #[]] 55)).alloc (.cells #[.int .i64 0, .int .i64 0] 31)) (w.heap.size + 1) El.zr)
  have G1 := hik (((Chg.refl nob w).alloc (.cells #[.int .i64 t, .int .i64 d, .func (.func f) #[] #[]] 55)).alloc (.cells #[.int .i64 0, .int .i64 0] 31))
  have C1 := hik (hC.out.keep G1.out)
  have s1 : ((w.alloc (.cells #[.int .i64 t, .int .i64 d, .func (.func f) #[] #[]] 55)).alloc (.cells #[.int .i64 0, .int .i64 0] 31)).heap.size = w.heap.size + 2 := by simp
  go_enter Tryz.func26, Tryz.ntmps26
  go_upto_region 1 with fail
  generalize hE : (w.alloc (.cells #[.int .i64 t, .int .i64 d, .func (.func f) #[] #[]] 55)).alloc (.cells #[.int .i64 0, .int .i64 0] 31) = W0 at E1 Z1 G1 C1 s1 ⊢
  clear hE
  have x0 : W0.cell? ⟨b, 0, none⟩ = some (.int .i64 (N : Int)) := by have q := C1.out.c hn0; simpa using q
  have m0 := E1.out.c0
  have m1 := E1.out.c1
  have m2 := E1.out.c2
  have KW := hik ((Chg.refl nob W0).drew1)
  have SA := hik (fun (WW : World) (kW : Chg nob W0 WW) => (show (WW.cell? ⟨b, 0, none⟩ = some (.int .i64 (N : Int)) ∧ WW.cell? ⟨w.heap.size, 0, none⟩ = some (.int .i64 t) ∧ WW.cell? ⟨w.heap.size, 1, none⟩ = some (.int .i64 d) ∧ WW.cell? ⟨w.heap.size, 2, none⟩ = some (.func (.func f) #[] #[])) from ⟨kW.see x0, kW.see m0, kW.see m1, kW.see m2⟩))
  refine wp_regionL (L := 8) (S := fun w' => w'.cell? ⟨b, 0, none⟩ = some (.int .i64 (N : Int)) ∧ w'.cell? ⟨w.heap.size, 0, none⟩ = some (.int .i64 t) ∧ w'.cell? ⟨w.heap.size, 1, none⟩ = some (.int .i64 d) ∧ w'.cell? ⟨w.heap.size, 2, none⟩ = some (.func (.func f) #[] #[])) (by kernel_rfl) ⟨x0, m0, m1, m2⟩ (fun hHeld => ?_)
  refine wpAnyL_take (i := 0) (v := ?_) rfl (by kernel_rfl) (by kernel_rfl) (by kernel_rfl) (fun _ _ _ h => h) (by rfl) (by kernel_rfl) (by kernel_rfl) (Or.inl ⟨by rfl, ?_⟩) (by assumption) ?_
  rotate_left 1
  · (intro w' hSw; (try dsimp only at hSw); go_simp; try with_reducible rfl)
  try simp only [Act.put, List.setIfInBounds_toArray, List.set_cons_zero, List.set_cons_succ, List.getElem_toArray, List.getElem_cons_zero, List.getElem_cons_succ]
  refine wpAnyL_take (i := 1) (v := ?_) rfl (by kernel_rfl) (by kernel_rfl) (by kernel_rfl) (fun _ _ _ h => h) (by rfl) (by kernel_rfl) (by kernel_rfl) (Or.inl ⟨by rfl, ?_⟩) (by assumption) ?_
  rotate_left 1
  · (intro w' hSw; (try dsimp only at hSw); go_simp; try with_reducible rfl)
  try simp only [Act.put, List.setIfInBounds_toArray, List.set_cons_zero, List.set_cons_succ, List.getElem_toArray, List.getElem_cons_zero, List.getElem_cons_succ]
  refine wpAnyL_take (i := 2) (v := ?_) rfl (by kernel_rfl) (by kernel_rfl) (by kernel_rfl) (fun _ _ _ h => h) (by rfl) (by kernel_rfl) (by kernel_rfl) (Or.inl ⟨by rfl, ?_⟩) (by assumption) ?_
  rotate_left 1
  · (intro w' hSw; (try dsimp only at hSw); go_simp; try with_reducible rfl)
  try simp only [Act.put, List.setIfInBounds_toArray, List.set_cons_zero, List.set_cons_succ, List.getElem_toArray, List.getElem_cons_zero, List.getElem_cons_succ]
  refine wpAnyL_take (i := 3) (v := ?_) rfl (by kernel_rfl) (by kernel_rfl) (by kernel_rfl) (fun _ _ _ h => h) (by rfl) (by kernel_rfl) (by kernel_rfl) (Or.inl ⟨by rfl, ?_⟩) (by assumption) ?_
  rotate_left 1
  · (intro w' hSw; (try dsimp only at hSw); go_simp; try with_reducible rfl)
  try simp only [Act.put, List.setIfInBounds_toArray, List.set_cons_zero, List.set_cons_succ, List.getElem_toArray, List.getElem_cons_zero, List.getElem_cons_succ]
  refine wpAnyL_take (i := 4) (v := ?_) rfl (by kernel_rfl) (by kernel_rfl) (by kernel_rfl) (fun _ _ _ h => h) (by rfl) (by kernel_rfl) (by kernel_rfl) (Or.inl ⟨by rfl, ?_⟩) (by assumption) ?_
  rotate_left 1
  · (intro w' hSw; (try dsimp only at hSw); go_simp; try with_reducible rfl)
  try simp only [Act.put, List.setIfInBounds_toArray, List.set_cons_zero, List.set_cons_succ, List.getElem_toArray, List.getElem_cons_zero, List.getElem_cons_succ]
  refine wpAnyL_take (i := 5) (v := ?_) rfl (by kernel_rfl) (by kernel_rfl) (by kernel_rfl) (fun _ _ _ h => h) (by rfl) (by kernel_rfl) (by kernel_rfl) (Or.inl ⟨by rfl, ?_⟩) (by assumption) ?_
  rotate_left 1
  · (intro w' hSw; (try dsimp only at hSw); go_simp; try with_reducible rfl)
  try simp only [Act.put, List.setIfInBounds_toArray, List.set_cons_zero, List.set_cons_succ, List.getElem_toArray, List.getElem_cons_zero, List.getElem_cons_succ]
  refine wpAnyL_ready (rs := [6]) (by kernel_rfl) (by simp) ?_
  refine AllReadyL.cons rfl (fun K hK => ?_) AllReadyL.nil
  refine stepL_callN 64 #[.tmp 9, .tmp 10] #[55, 56] (by rfl) (by rfl) #[.agg #[.int .i64 t, .int .i64 d, .func (.func f) #[] #[]], .slice (some ⟨b, 0, none⟩) n n] (by simp only [List.map_toArray, List.map_cons, List.map_nil] <;> rfl) (run_go Tryz.func64 (by kernel_rfl) (by kernel_rfl) _ _) (places_any (k := k) b n hn4 (fun _ => N) T _ (hik (C1.out.keep KW.out))) ?_
  rintro e U1 ⟨bt, bv, bc, vb, he, hPI, hvb, kk⟩
  have PI := hik hPI
  have hvb2 : W0.heap.size ≤ vb := Nat.le_trans KW.out.size hvb
  clear hPI hvb
  refine ⟨_, he, ?_⟩
  replace KW := hik (KW.out.trans kk)
  refine hK.out _ _ (SA.out _ KW.out) (fun hHeld => ?_)
  clear hK K
  try simp only [Act.put, List.setIfInBounds_toArray, List.set_cons_zero, List.set_cons_succ, List.getElem_toArray, List.getElem_cons_zero, List.getElem_cons_succ]
  clear he kk
  refine wpAnyL_ready (rs := [7]) (by kernel_rfl) (by simp) ?_
  refine AllReadyL.cons rfl (fun K hK => ?_) AllReadyL.nil
  refine stepL_callN 63 #[.tmp 8, .tmp 11] #[3, 98] (by rfl) (by rfl) #[.int .i64 (N : Int), .func (.func 93) #[] #[.pointer (some ⟨bt, 0, none⟩), .pointer (some ⟨bv, 0, none⟩), .pointer (some ⟨bc, 0, none⟩)]] (by simp only [List.map_toArray, List.map_cons, List.map_nil] <;> rfl) (run_go Tryz.func63 (by kernel_rfl) (by kernel_rfl) _ _) (QO.out bt bv bc vb _ PI) ?_
  rintro e U2 ⟨he, kk⟩
  replace kk := Chg.near KW.out kk (fun i (e : i = vb) => by omega)
  replace KW := hik (Chg.refl nob W0)
  refine ⟨_, he, ?_⟩
  replace KW := hik (KW.out.trans kk)
  refine hK.out _ _ (SA.out _ KW.out) (fun hHeld => ?_)
  clear hK K
  try simp only [Act.put, List.setIfInBounds_toArray, List.set_cons_zero, List.set_cons_succ, List.getElem_toArray, List.getElem_cons_zero, List.getElem_cons_succ]
  clear he kk
  refine wpAnyL_ready (rs := [8]) (by kernel_rfl) (by simp) ?_
  refine AllReadyL.last rfl (by kernel_rfl) (fun K hK => ?_)
  have EN := hik (Z1.out.keep KW.out)
  have g0 : U2.cell? ⟨w.heap.size + 1, 0, none⟩ = some (.int .i64 0) := EN.out.c0
  have g1 : U2.cell? ⟨w.heap.size + 1, 1, none⟩ = some (.int .i64 0) := EN.out.c1
  have f0 := EN.out.fz 0
  have f1 := EN.out.fz 1
  have ln : w.heap.size + 1 < U2.heap.size := EN.out.lt
  simp only [List.getElem_toArray, List.getElem_cons_zero, List.getElem_cons_succ]
  go_simp
  refine hK.out _ _ ?_
  clear hK K
  try simp only [Act.put, List.setIfInBounds_toArray, List.set_cons_zero, List.set_cons_succ, List.getElem_toArray, List.getElem_cons_zero, List.getElem_cons_succ]
  clear g0 g1 f0 f1 ln
  refine wpAnyL_done (by kernel_rfl) ?_ _
  have u0 := (EN.out.set V).c0
  have u1 := (EN.out.set V).c1
  have GE := hik (chg2_set (G1.out.trans KW.out) (w.heap.size + 1) (fun l => absurd l (by omega)) (.int .i64 V.v.1) (.int .i64 V.v.2))
  go_wp2
  exact bodyPost_ret (v := .agg #[.int .i64 V.v.1, .int .i64 V.v.2]) (by simp [results, Tryz.results26, go_sem, u0, u1]) rfl ⟨rfl, GE.out⟩

end Go.Proofs.YtgiefpipflcbgadGreatDoor
