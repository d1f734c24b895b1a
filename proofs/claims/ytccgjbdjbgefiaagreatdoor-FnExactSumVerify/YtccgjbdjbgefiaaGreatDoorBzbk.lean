/- Several texts in one: What the program's kinds of sums answer: combinationOf, productValue, gateValue: contracts. Conditions: elements of the greater field, lists that can be read. · What the program's roundsOK and sumClaimCode answer: contracts. Conditions: lists of lists that can be read, of at most 2 to the 40. -/
import Derived.Test.YtccgjbdjbgefiaaGreatDoorBzai
import Derived.Test.YtccgjbdjbgefiaaGreatDoorBzaf
import Derived.Test.YtccgjbdjbgefiaaGreatDoorBzab
import Derived.Laws.EntriesVeiled
import Derived.Test.YtccgjbdjbgefiaaGreatDoorBzba
import Derived.Test.YtccgjbdjbgefiaaGreatDoorBzax
namespace Go.Proofs.YtccgjbdjbgefiaaGreatDoor
open Go.ChangeShapes Go.WideShapes Go.ChangeAt Go.RowKit
set_option linter.unusedVariables false
set_option maxRecDepth 100000
set_option linter.unusedSimpArgs false

/-- Three values. -/
def pv3 (u v x : Value) (i : Nat) : Value := if i = 0 then u else if i = 1 then v else x
theorem row3_new (W : World) (u v x : Value) (t : TypeId) : (W.alloc (.cells #[u, v, x] t)).rowIs W.heap.size t 3 (pv3 u v x) :=
  World.rowIs_alloc W #[u, v, x] t (pv3 u v x) (fun i hi => by
    match i, hi with
    | 0, _ => rfl
    | 1, _ => rfl
    | 2, _ => rfl)
theorem row3_set {W : World} {g : Nat} {ty : TypeId} {f : Nat → Value} (h : W.rowIs g ty 3 f) (u v x : Value) : (((W.setCell ⟨g, 0, none⟩ u).setCell ⟨g, 1, none⟩ v).setCell ⟨g, 2, none⟩ x).rowIs g ty 3 (pv3 u v x) :=
  (((h.set 0 u).set 1 v).set 2 x).congr (fun i hi => by
    match i, hi with
    | 0, _ => rfl
    | 1, _ => rfl
    | 2, _ => rfl)
/-- A combination's block. -/
def CmB (W : World) (b : Nat) (t d : Int) (F : Value) : Prop := W.rowIs b 60 3 (pv3 (.int .i64 t) (.int .i64 d) F)
section
variable {W W' : World} {b : Nat} {t d : Int} {F : Value}
theorem CmB.new (W : World) (t d : Int) (F : Value) : CmB (W.alloc (.cells #[.int .i64 t, .int .i64 d, F] 60)) W.heap.size t d F := row3_new W _ _ _ _
theorem CmB.keep (h : CmB W b t d F) (k : Chg nob W W') : CmB W' b t d F := rowIs_keep h k
theorem CmB.chg {P : Nat → Prop} (h : CmB W b t d F) (k : Chg P W W') (hp : ¬ P b) : CmB W' b t d F := rowIs_chg h k hp
theorem CmB.lt (h : CmB W b t d F) : b < W.heap.size := World.rowIs.lt h
theorem CmB.c0 (h : CmB W b t d F) : W.cell? ⟨b, 0, none⟩ = some (.int .i64 t) := World.rowIs.cell h (by omega)
theorem CmB.c1 (h : CmB W b t d F) : W.cell? ⟨b, 1, none⟩ = some (.int .i64 d) := World.rowIs.cell h (by omega)
theorem CmB.c2 (h : CmB W b t d F) : W.cell? ⟨b, 2, none⟩ = some F := World.rowIs.cell h (by omega)
theorem CmB.fz (h : CmB W b t d F) (o : Nat) : W.frozen? ⟨b, o, none⟩ = false := World.rowIs.frozen h o
theorem CmB.set (h : CmB W b t d F) (t' d' : Int) (F' : Value) : CmB (((W.setCell ⟨b, 0, none⟩ (.int .i64 t')).setCell ⟨b, 1, none⟩ (.int .i64 d')).setCell ⟨b, 2, none⟩ F') b t' d' F' := row3_set h _ _ _
end
/-- A kind, how many tables it has, its degree, the function that combines. -/
def KD (k : Nat) (t d : Int) (f : Nat) : Prop := (k = 1 ∧ t = 2 ∧ d = 2 ∧ f = 47) ∨ (k = 2 ∧ t = 4 ∧ d = 3 ∧ f = 48)
theorem KD.ex {k : Nat} (hk : k = 1 ∨ k = 2) : ∃ t d f, KD k t d f ∧ t = 2 * (k : Int) ∧ d = (k : Int) + 1 := by
  rcases hk with rfl | rfl
  · exact ⟨2, 2, _, .inl ⟨rfl, rfl, rfl, rfl⟩, rfl, rfl⟩
  · exact ⟨4, 3, _, .inr ⟨rfl, rfl, rfl, rfl⟩, rfl, rfl⟩
theorem KD.run {k : Nat} {t d : Int} {f : Nat} (h : KD k t d f) (args : Array Value) (w : World) : (callFunc f args).run Tryz.prog w = .ok (.enter f args) w := by
  rcases h with ⟨_, _, _, rfl⟩ | ⟨_, _, _, rfl⟩
  · exact run_go Tryz.func47 (by kernel_rfl) (by kernel_rfl) _ _
  · exact run_go Tryz.func48 (by kernel_rfl) (by kernel_rfl) _ _

set_option maxHeartbeats 1000000 in
theorem co_ok {k : Nat} {t d : Int} {f : Nat} (h : KD k t d f) (w : World) : Calls Tryz.prog 31 #[.int .i64 (k : Int)] w fun e w' => e = .returned (.tuple #[.agg #[.int .i64 t, .int .i64 d, .func (.func f) #[] #[]], .int .i64 0]) ∧ Chg nob w w' := by
  have E := hik (CmB.new w 0 0 .nilFunc)
  have G := hik ((Chg.refl nob w).alloc (.cells #[.int .i64 0, .int .i64 0, .nilFunc] 60))
  have f0 := E.out.fz 0
  have f1 := E.out.fz 1
  have f2 := E.out.fz 2
  rcases h with ⟨rfl, rfl, rfl, rfl⟩ | ⟨rfl, rfl, rfl, rfl⟩
  · go_enter Tryz.func31, Tryz.ntmps31
    go_wp2
    have u := hik (E.out.set 2 2 (.func (.func 47) #[] #[]))
    have u0 := u.out.c0
    have u1 := u.out.c1
    have u2 := u.out.c2
    exact bodyPost_ret (v := .tuple #[.agg #[.int .i64 2, .int .i64 2, .func (.func 47) #[] #[]], .int .i64 0]) (by simp [results, Tryz.results31, go_sem, u0, u1, u2]) rfl ⟨rfl, (Chg.refl nob w).alloc _⟩
  · go_enter Tryz.func31, Tryz.ntmps31
    go_wp2
    have u := hik (E.out.set 4 3 (.func (.func 48) #[] #[]))
    have u0 := u.out.c0
    have u1 := u.out.c1
    have u2 := u.out.c2
    exact bodyPost_ret (v := .tuple #[.agg #[.int .i64 4, .int .i64 3, .func (.func 48) #[] #[]], .int .i64 0]) (by simp [results, Tryz.results31, go_sem, u0, u1, u2]) rfl ⟨rfl, (Chg.refl nob w).alloc _⟩

set_option maxHeartbeats 1000000 in
theorem co_no (K : Int) (h : kdb K = false) (w : World) : Calls Tryz.prog 31 #[.int .i64 K] w fun e w' => e = .returned (.tuple #[.agg #[.int .i64 0, .int .i64 0, .nilFunc], .int .i64 4]) ∧ Chg nob w w' := by
  have hn := of_decide_eq_false h
  have h1 : ¬ K = 1 := fun e => hn (.inl e)
  have h2 : ¬ K = 2 := fun e => hn (.inr e)
  have b1 : (K == 1) = false := by simpa using h1
  have b2 : (K == 2) = false := by simpa using h2
  have E := hik (CmB.new w 0 0 .nilFunc)
  have G := hik ((Chg.refl nob w).alloc (.cells #[.int .i64 0, .int .i64 0, .nilFunc] 60))
  have f0 := E.out.fz 0
  have f1 := E.out.fz 1
  have f2 := E.out.fz 2
  clear hn h h1 h2
  go_enter Tryz.func31, Tryz.ntmps31
  go_wp2
  have u := hik (E.out.set 0 0 .nilFunc)
  have u0 := u.out.c0
  have u1 := u.out.c1
  have u2 := u.out.c2
  exact bodyPost_ret (v := .tuple #[.agg #[.int .i64 0, .int .i64 0, .nilFunc], .int .i64 4]) (by simp [results, Tryz.results31, go_sem, u0, u1, u2]) rfl ⟨rfl, (Chg.refl nob w).alloc _⟩

set_option maxHeartbeats 2000000 in
theorem prodV_any (c : Option Addr) (cap : Nat) (v : Nat → El) (w : World) (h : Hid (PairE w c 2 v)) : Calls Tryz.prog 47 #[.slice c 2 cap] w fun e w' => e = .returned (.agg #[.int .i64 (El.ml (v 0) (v 1)).v.1, .int .i64 (El.ml (v 0) (v 1)).v.2]) ∧ Chg nob w w' := by
  obtain ⟨xb, xo, ec, hxb, _, _⟩ := PairE.at_ h.out (show 0 < 2 by omega)
  subst ec
  have HU := hik (PairE.keep h.out ((Chg.refl nob w).alloc (.cells #[.int .i64 0, .int .i64 0] 31)))
  have EZ := hik (ElB.zero w)
  have G0 := hik ((Chg.refl nob w).alloc (.cells #[.int .i64 0, .int .i64 0] 31))
  go_enter Tryz.func47, Tryz.ntmps47
  go_upto_region 1 with fail
  generalize hE : w.alloc (.cells #[.int .i64 0, .int .i64 0] 31) = W0 at HU EZ G0 ⊢
  clear hE
  have a0 : W0.cell? ⟨xb, xo, none⟩ = some (.int .i64 (v 0).v.1) := by have q := PairE.c0 HU.out (i := 0) (by omega); simpa using q
  have a1 : W0.cell? ⟨xb, xo + 1, none⟩ = some (.int .i64 (v 0).v.2) := by have q := PairE.c1 HU.out (i := 0) (by omega); simpa using q
  have b0 : W0.cell? ⟨xb, xo + 2, none⟩ = some (.int .i64 (v 1).v.1) := by have q := PairE.c0 HU.out (i := 1) (by omega); simpa using q
  have b1 : W0.cell? ⟨xb, xo + 2 + 1, none⟩ = some (.int .i64 (v 1).v.2) := by have q := PairE.c1 HU.out (i := 1) (by omega); simpa using q
  have KW := hik ((Chg.refl nob W0).drew1)
  have SA := hik (fun (WW : World) (kW : Chg nob W0 WW) => (show (WW.cell? ⟨xb, xo, none⟩ = some (.int .i64 (v 0).v.1) ∧ WW.cell? ⟨xb, xo + 1, none⟩ = some (.int .i64 (v 0).v.2) ∧ WW.cell? ⟨xb, xo + 2, none⟩ = some (.int .i64 (v 1).v.1) ∧ WW.cell? ⟨xb, xo + 2 + 1, none⟩ = some (.int .i64 (v 1).v.2)) from ⟨kW.see a0, kW.see a1, kW.see b0, kW.see b1⟩))
  refine wp_regionL (L := 7) (S := fun w' => w'.cell? ⟨xb, xo, none⟩ = some (.int .i64 (v 0).v.1) ∧ w'.cell? ⟨xb, xo + 1, none⟩ = some (.int .i64 (v 0).v.2) ∧ w'.cell? ⟨xb, xo + 2, none⟩ = some (.int .i64 (v 1).v.1) ∧ w'.cell? ⟨xb, xo + 2 + 1, none⟩ = some (.int .i64 (v 1).v.2)) (by kernel_rfl) ⟨a0, a1, b0, b1⟩ (fun hHeld => ?_)
  refine wpAnyL_take (i := 0) (v := ?_) rfl (by kernel_rfl) (by kernel_rfl) (by kernel_rfl) (fun _ _ _ h => h) (by rfl) (by kernel_rfl) (by kernel_rfl) (Or.inl ⟨by rfl, ?_⟩) (by assumption) ?_
  rotate_left 1
  · (intro w' hSw; (try dsimp only at hSw); go_simp; try with_reducible rfl)
  try simp only [Act.put, List.setIfInBounds_toArray, List.set_cons_zero, List.set_cons_succ, List.getElem_toArray, List.getElem_cons_zero, List.getElem_cons_succ]
  refine wpAnyL_take (i := 1) (v := ?_) rfl (by kernel_rfl) (by kernel_rfl) (by kernel_rfl) (fun _ _ _ h => h) (by rfl) (by kernel_rfl) (by kernel_rfl) (Or.inl ⟨by rfl, ?_⟩) (by assumption) ?_
  rotate_left 1
  · (intro w' hSw; (try dsimp only at hSw); go_simp; try with_reducible rfl)
  try simp only [Act.put, List.setIfInBounds_toArray, List.set_cons_zero, List.set_cons_succ, List.getElem_toArray, List.getElem_cons_zero, List.getElem_cons_succ]
  refine wpAnyL_take (i := 2) (v := ?_) rfl (by kernel_rfl) (by kernel_rfl) (by kernel_rfl) (fun _ _ _ h => h) (by rfl) (by kernel_rfl) (by kernel_rfl) (Or.inl ⟨by rfl, ?_⟩) (by assumption) ?_
  rotate_left 1
  · (intro w' hSw; (try dsimp only at hSw); go_simp; try with_reducible rfl)
  try simp only [Act.put, List.setIfInBounds_toArray, List.set_cons_zero, List.set_cons_succ, List.getElem_toArray, List.getElem_cons_zero, List.getElem_cons_succ]
  refine wpAnyL_take (i := 3) (v := ?_) rfl (by kernel_rfl) (by kernel_rfl) (by kernel_rfl) (fun _ _ _ h => h) (by rfl) (by kernel_rfl) (by kernel_rfl) (Or.inl ⟨by rfl, ?_⟩) (by assumption) ?_
  rotate_left 1
  · (intro w' hSw; (try dsimp only at hSw); go_simp; try with_reducible rfl)
  try simp only [Act.put, List.setIfInBounds_toArray, List.set_cons_zero, List.set_cons_succ, List.getElem_toArray, List.getElem_cons_zero, List.getElem_cons_succ]
  refine wpAnyL_take (i := 4) (v := ?_) rfl (by kernel_rfl) (by kernel_rfl) (by kernel_rfl) (fun _ _ _ h => h) (by rfl) (by kernel_rfl) (by kernel_rfl) (Or.inl ⟨by rfl, ?_⟩) (by assumption) ?_
  rotate_left 1
  · (intro w' hSw; (try dsimp only at hSw); go_simp; try with_reducible rfl)
  try simp only [Act.put, List.setIfInBounds_toArray, List.set_cons_zero, List.set_cons_succ, List.getElem_toArray, List.getElem_cons_zero, List.getElem_cons_succ]
  refine wpAnyL_take (i := 5) (v := ?_) rfl (by kernel_rfl) (by kernel_rfl) (by kernel_rfl) (fun _ _ _ h => h) (by rfl) (by kernel_rfl) (by kernel_rfl) (Or.inl ⟨by rfl, ?_⟩) (by assumption) ?_
  rotate_left 1
  · (intro w' hSw; (try dsimp only at hSw); go_simp; try with_reducible rfl)
  try simp only [Act.put, List.setIfInBounds_toArray, List.set_cons_zero, List.set_cons_succ, List.getElem_toArray, List.getElem_cons_zero, List.getElem_cons_succ]
  refine wpAnyL_ready (rs := [6]) (by kernel_rfl) (by simp) ?_
  refine AllReadyL.cons rfl (fun K hK => ?_) AllReadyL.nil
  refine stepL_callN 53 #[.tmp 5, .tmp 8] #[31, 31] (by rfl) (by rfl) #[.agg #[.int .i64 (v 0).v.1, .int .i64 (v 0).v.2], .agg #[.int .i64 (v 1).v.1, .int .i64 (v 1).v.2]] (by simp only [List.map_toArray, List.map_cons, List.map_nil] <;> rfl) (run_go Tryz.func53 (by kernel_rfl) (by kernel_rfl) _ _) (ml_el (v 0) (v 1) _) ?_
  rintro e U1 ⟨he, kk⟩
  refine ⟨_, he, ?_⟩
  replace KW := hik (KW.out.trans kk)
  refine hK.out _ _ (SA.out _ KW.out) (fun hHeld => ?_)
  clear hK K
  try simp only [Act.put, List.setIfInBounds_toArray, List.set_cons_zero, List.set_cons_succ, List.getElem_toArray, List.getElem_cons_zero, List.getElem_cons_succ]
  clear he kk
  refine wpAnyL_ready (rs := [7]) (by kernel_rfl) (by simp) ?_
  refine AllReadyL.last rfl (by kernel_rfl) (fun K hK => ?_)
  have EN := hik (EZ.out.keep KW.out)
  have g0 : U1.cell? ⟨w.heap.size, 0, none⟩ = some (.int .i64 0) := EN.out.c0
  have g1 : U1.cell? ⟨w.heap.size, 1, none⟩ = some (.int .i64 0) := EN.out.c1
  have f0 := EN.out.fz 0
  have f1 := EN.out.fz 1
  have ln : w.heap.size < U1.heap.size := EN.out.lt
  simp only [List.getElem_toArray, List.getElem_cons_zero, List.getElem_cons_succ]
  go_simp
  refine hK.out _ _ ?_
  clear hK K
  try simp only [Act.put, List.setIfInBounds_toArray, List.set_cons_zero, List.set_cons_succ, List.getElem_toArray, List.getElem_cons_zero, List.getElem_cons_succ]
  clear g0 g1 f0 f1 ln
  refine wpAnyL_done (by kernel_rfl) ?_ _
  have u0 := (EN.out.set (El.ml (v 0) (v 1))).c0
  have u1 := (EN.out.set (El.ml (v 0) (v 1))).c1
  have GE := hik (chg2_at (G0.out.trans KW.out) w.heap.size (fun l => absurd l (by omega)) 0 1 (.int .i64 (El.ml (v 0) (v 1)).v.1) (.int .i64 (El.ml (v 0) (v 1)).v.2))
  go_wp2
  exact bodyPost_ret (v := .agg #[.int .i64 (El.ml (v 0) (v 1)).v.1, .int .i64 (El.ml (v 0) (v 1)).v.2]) (by simp [results, Tryz.results47, go_sem, u0, u1]) rfl ⟨rfl, GE.out⟩

set_option maxHeartbeats 2000000 in
theorem gateV_any (c : Option Addr) (cap : Nat) (v : Nat → El) (w : World) (h : Hid (PairE w c 4 v)) : Calls Tryz.prog 48 #[.slice c 4 cap] w fun e w' => e = .returned (.agg #[.int .i64 (El.ml (v 0) (El.sb (El.ml (v 1) (v 2)) (v 3))).v.1, .int .i64 (El.ml (v 0) (El.sb (El.ml (v 1) (v 2)) (v 3))).v.2]) ∧ Chg nob w w' := by
  obtain ⟨xb, xo, ec, hxb, _, _⟩ := PairE.at_ h.out (show 0 < 4 by omega)
  subst ec
  have HU := hik (PairE.keep h.out ((Chg.refl nob w).alloc (.cells #[.int .i64 0, .int .i64 0] 31)))
  have EZ := hik (ElB.zero w)
  have G0 := hik ((Chg.refl nob w).alloc (.cells #[.int .i64 0, .int .i64 0] 31))
  go_enter Tryz.func48, Tryz.ntmps48
  go_upto_region 1 with fail
  generalize hE : w.alloc (.cells #[.int .i64 0, .int .i64 0] 31) = W0 at HU EZ G0 ⊢
  clear hE
  have a0 : W0.cell? ⟨xb, xo, none⟩ = some (.int .i64 (v 0).v.1) := by have q := PairE.c0 HU.out (i := 0) (by omega); simpa using q
  have a1 : W0.cell? ⟨xb, xo + 1, none⟩ = some (.int .i64 (v 0).v.2) := by have q := PairE.c1 HU.out (i := 0) (by omega); simpa using q
  have b0 : W0.cell? ⟨xb, xo + 2, none⟩ = some (.int .i64 (v 1).v.1) := by have q := PairE.c0 HU.out (i := 1) (by omega); simpa using q
  have b1 : W0.cell? ⟨xb, xo + 2 + 1, none⟩ = some (.int .i64 (v 1).v.2) := by have q := PairE.c1 HU.out (i := 1) (by omega); simpa using q
  have c0 : W0.cell? ⟨xb, xo + 4, none⟩ = some (.int .i64 (v 2).v.1) := by have q := PairE.c0 HU.out (i := 2) (by omega); simpa using q
  have c1 : W0.cell? ⟨xb, xo + 4 + 1, none⟩ = some (.int .i64 (v 2).v.2) := by have q := PairE.c1 HU.out (i := 2) (by omega); simpa using q
  have d0 : W0.cell? ⟨xb, xo + 6, none⟩ = some (.int .i64 (v 3).v.1) := by have q := PairE.c0 HU.out (i := 3) (by omega); simpa using q
  have d1 : W0.cell? ⟨xb, xo + 6 + 1, none⟩ = some (.int .i64 (v 3).v.2) := by have q := PairE.c1 HU.out (i := 3) (by omega); simpa using q
  have KW := hik ((Chg.refl nob W0).drew1)
  have SA := hik (fun (WW : World) (kW : Chg nob W0 WW) => (show (WW.cell? ⟨xb, xo, none⟩ = some (.int .i64 (v 0).v.1) ∧ WW.cell? ⟨xb, xo + 1, none⟩ = some (.int .i64 (v 0).v.2) ∧ WW.cell? ⟨xb, xo + 2, none⟩ = some (.int .i64 (v 1).v.1) ∧ WW.cell? ⟨xb, xo + 2 + 1, none⟩ = some (.int .i64 (v 1).v.2) ∧ WW.cell? ⟨xb, xo + 4, none⟩ = some (.int .i64 (v 2).v.1) ∧ WW.cell? ⟨xb, xo + 4 + 1, none⟩ = some (.int .i64 (v 2).v.2) ∧ WW.cell? ⟨xb, xo + 6, none⟩ = some (.int .i64 (v 3).v.1) ∧ WW.cell? ⟨xb, xo + 6 + 1, none⟩ = some (.int .i64 (v 3).v.2)) from ⟨kW.see a0, kW.see a1, kW.see b0, kW.see b1, kW.see c0, kW.see c1, kW.see d0, kW.see d1⟩))
  refine wp_regionL (L := 15) (S := fun w' => w'.cell? ⟨xb, xo, none⟩ = some (.int .i64 (v 0).v.1) ∧ w'.cell? ⟨xb, xo + 1, none⟩ = some (.int .i64 (v 0).v.2) ∧ w'.cell? ⟨xb, xo + 2, none⟩ = some (.int .i64 (v 1).v.1) ∧ w'.cell? ⟨xb, xo + 2 + 1, none⟩ = some (.int .i64 (v 1).v.2) ∧ w'.cell? ⟨xb, xo + 4, none⟩ = some (.int .i64 (v 2).v.1) ∧ w'.cell? ⟨xb, xo + 4 + 1, none⟩ = some (.int .i64 (v 2).v.2) ∧ w'.cell? ⟨xb, xo + 6, none⟩ = some (.int .i64 (v 3).v.1) ∧ w'.cell? ⟨xb, xo + 6 + 1, none⟩ = some (.int .i64 (v 3).v.2)) (by kernel_rfl) ⟨a0, a1, b0, b1, c0, c1, d0, d1⟩ (fun hHeld => ?_)
  refine wpAnyL_take (i := 0) (v := ?_) rfl (by kernel_rfl) (by kernel_rfl) (by kernel_rfl) (fun _ _ _ h => h) (by rfl) (by kernel_rfl) (by kernel_rfl) (Or.inl ⟨by rfl, ?_⟩) (by assumption) ?_
  rotate_left 1
  · (intro w' hSw; (try dsimp only at hSw); go_simp; try with_reducible rfl)
  try simp only [Act.put, List.setIfInBounds_toArray, List.set_cons_zero, List.set_cons_succ, List.getElem_toArray, List.getElem_cons_zero, List.getElem_cons_succ]
  refine wpAnyL_take (i := 1) (v := ?_) rfl (by kernel_rfl) (by kernel_rfl) (by kernel_rfl) (fun _ _ _ h => h) (by rfl) (by kernel_rfl) (by kernel_rfl) (Or.inl ⟨by rfl, ?_⟩) (by assumption) ?_
  rotate_left 1
  · (intro w' hSw; (try dsimp only at hSw); go_simp; try with_reducible rfl)
  try simp only [Act.put, List.setIfInBounds_toArray, List.set_cons_zero, List.set_cons_succ, List.getElem_toArray, List.getElem_cons_zero, List.getElem_cons_succ]
  refine wpAnyL_take (i := 2) (v := ?_) rfl (by kernel_rfl) (by kernel_rfl) (by kernel_rfl) (fun _ _ _ h => h) (by rfl) (by kernel_rfl) (by kernel_rfl) (Or.inl ⟨by rfl, ?_⟩) (by assumption) ?_
  rotate_left 1
  · (intro w' hSw; (try dsimp only at hSw); go_simp; try with_reducible rfl)
  try simp only [Act.put, List.setIfInBounds_toArray, List.set_cons_zero, List.set_cons_succ, List.getElem_toArray, List.getElem_cons_zero, List.getElem_cons_succ]
  refine wpAnyL_take (i := 3) (v := ?_) rfl (by kernel_rfl) (by kernel_rfl) (by kernel_rfl) (fun _ _ _ h => h) (by rfl) (by kernel_rfl) (by kernel_rfl) (Or.inl ⟨by rfl, ?_⟩) (by assumption) ?_
  rotate_left 1
  · (intro w' hSw; (try dsimp only at hSw); go_simp; try with_reducible rfl)
  try simp only [Act.put, List.setIfInBounds_toArray, List.set_cons_zero, List.set_cons_succ, List.getElem_toArray, List.getElem_cons_zero, List.getElem_cons_succ]
  refine wpAnyL_take (i := 4) (v := ?_) rfl (by kernel_rfl) (by kernel_rfl) (by kernel_rfl) (fun _ _ _ h => h) (by rfl) (by kernel_rfl) (by kernel_rfl) (Or.inl ⟨by rfl, ?_⟩) (by assumption) ?_
  rotate_left 1
  · (intro w' hSw; (try dsimp only at hSw); go_simp; try with_reducible rfl)
  try simp only [Act.put, List.setIfInBounds_toArray, List.set_cons_zero, List.set_cons_succ, List.getElem_toArray, List.getElem_cons_zero, List.getElem_cons_succ]
  refine wpAnyL_take (i := 5) (v := ?_) rfl (by kernel_rfl) (by kernel_rfl) (by kernel_rfl) (fun _ _ _ h => h) (by rfl) (by kernel_rfl) (by kernel_rfl) (Or.inl ⟨by rfl, ?_⟩) (by assumption) ?_
  rotate_left 1
  · (intro w' hSw; (try dsimp only at hSw); go_simp; try with_reducible rfl)
  try simp only [Act.put, List.setIfInBounds_toArray, List.set_cons_zero, List.set_cons_succ, List.getElem_toArray, List.getElem_cons_zero, List.getElem_cons_succ]
  refine wpAnyL_take (i := 6) (v := ?_) rfl (by kernel_rfl) (by kernel_rfl) (by kernel_rfl) (fun _ _ _ h => h) (by rfl) (by kernel_rfl) (by kernel_rfl) (Or.inl ⟨by rfl, ?_⟩) (by assumption) ?_
  rotate_left 1
  · (intro w' hSw; (try dsimp only at hSw); go_simp; try with_reducible rfl)
  try simp only [Act.put, List.setIfInBounds_toArray, List.set_cons_zero, List.set_cons_succ, List.getElem_toArray, List.getElem_cons_zero, List.getElem_cons_succ]
  refine wpAnyL_take (i := 7) (v := ?_) rfl (by kernel_rfl) (by kernel_rfl) (by kernel_rfl) (fun _ _ _ h => h) (by rfl) (by kernel_rfl) (by kernel_rfl) (Or.inl ⟨by rfl, ?_⟩) (by assumption) ?_
  rotate_left 1
  · (intro w' hSw; (try dsimp only at hSw); go_simp; try with_reducible rfl)
  try simp only [Act.put, List.setIfInBounds_toArray, List.set_cons_zero, List.set_cons_succ, List.getElem_toArray, List.getElem_cons_zero, List.getElem_cons_succ]
  refine wpAnyL_take (i := 8) (v := ?_) rfl (by kernel_rfl) (by kernel_rfl) (by kernel_rfl) (fun _ _ _ h => h) (by rfl) (by kernel_rfl) (by kernel_rfl) (Or.inl ⟨by rfl, ?_⟩) (by assumption) ?_
  rotate_left 1
  · (intro w' hSw; (try dsimp only at hSw); go_simp; try with_reducible rfl)
  try simp only [Act.put, List.setIfInBounds_toArray, List.set_cons_zero, List.set_cons_succ, List.getElem_toArray, List.getElem_cons_zero, List.getElem_cons_succ]
  refine wpAnyL_take (i := 10) (v := ?_) rfl (by kernel_rfl) (by kernel_rfl) (by kernel_rfl) (fun _ _ _ h => h) (by rfl) (by kernel_rfl) (by kernel_rfl) (Or.inl ⟨by rfl, ?_⟩) (by assumption) ?_
  rotate_left 1
  · (intro w' hSw; (try dsimp only at hSw); go_simp; try with_reducible rfl)
  try simp only [Act.put, List.setIfInBounds_toArray, List.set_cons_zero, List.set_cons_succ, List.getElem_toArray, List.getElem_cons_zero, List.getElem_cons_succ]
  refine wpAnyL_take (i := 11) (v := ?_) rfl (by kernel_rfl) (by kernel_rfl) (by kernel_rfl) (fun _ _ _ h => h) (by rfl) (by kernel_rfl) (by kernel_rfl) (Or.inl ⟨by rfl, ?_⟩) (by assumption) ?_
  rotate_left 1
  · (intro w' hSw; (try dsimp only at hSw); go_simp; try with_reducible rfl)
  try simp only [Act.put, List.setIfInBounds_toArray, List.set_cons_zero, List.set_cons_succ, List.getElem_toArray, List.getElem_cons_zero, List.getElem_cons_succ]
  refine wpAnyL_take (i := 12) (v := ?_) rfl (by kernel_rfl) (by kernel_rfl) (by kernel_rfl) (fun _ _ _ h => h) (by rfl) (by kernel_rfl) (by kernel_rfl) (Or.inl ⟨by rfl, ?_⟩) (by assumption) ?_
  rotate_left 1
  · (intro w' hSw; (try dsimp only at hSw); go_simp; try with_reducible rfl)
  try simp only [Act.put, List.setIfInBounds_toArray, List.set_cons_zero, List.set_cons_succ, List.getElem_toArray, List.getElem_cons_zero, List.getElem_cons_succ]
  refine wpAnyL_ready (rs := [9]) (by kernel_rfl) (by simp) ?_
  refine AllReadyL.cons rfl (fun K hK => ?_) AllReadyL.nil
  refine stepL_callN 53 #[.tmp 8, .tmp 11] #[31, 31] (by rfl) (by rfl) #[.agg #[.int .i64 (v 1).v.1, .int .i64 (v 1).v.2], .agg #[.int .i64 (v 2).v.1, .int .i64 (v 2).v.2]] (by simp only [List.map_toArray, List.map_cons, List.map_nil] <;> rfl) (run_go Tryz.func53 (by kernel_rfl) (by kernel_rfl) _ _) (ml_el (v 1) (v 2) _) ?_
  rintro e U1 ⟨he, kk⟩
  refine ⟨_, he, ?_⟩
  replace KW := hik (KW.out.trans kk)
  refine hK.out _ _ (SA.out _ KW.out) (fun hHeld => ?_)
  clear hK K
  try simp only [Act.put, List.setIfInBounds_toArray, List.set_cons_zero, List.set_cons_succ, List.getElem_toArray, List.getElem_cons_zero, List.getElem_cons_succ]
  clear he kk
  refine wpAnyL_ready (rs := [13]) (by kernel_rfl) (by simp) ?_
  refine AllReadyL.cons rfl (fun K hK => ?_) AllReadyL.nil
  refine stepL_callN 52 #[.tmp 12, .tmp 15] #[31, 31] (by rfl) (by rfl) #[.agg #[.int .i64 (El.ml (v 1) (v 2)).v.1, .int .i64 (El.ml (v 1) (v 2)).v.2], .agg #[.int .i64 (v 3).v.1, .int .i64 (v 3).v.2]] (by simp only [List.map_toArray, List.map_cons, List.map_nil] <;> rfl) (run_go Tryz.func52 (by kernel_rfl) (by kernel_rfl) _ _) (sb_el (El.ml (v 1) (v 2)) (v 3) _) ?_
  rintro e U2 ⟨he, kk⟩
  refine ⟨_, he, ?_⟩
  replace KW := hik (KW.out.trans kk)
  refine hK.out _ _ (SA.out _ KW.out) (fun hHeld => ?_)
  clear hK K
  try simp only [Act.put, List.setIfInBounds_toArray, List.set_cons_zero, List.set_cons_succ, List.getElem_toArray, List.getElem_cons_zero, List.getElem_cons_succ]
  clear he kk
  refine wpAnyL_ready (rs := [14]) (by kernel_rfl) (by simp) ?_
  refine AllReadyL.cons rfl (fun K hK => ?_) AllReadyL.nil
  refine stepL_callN 53 #[.tmp 5, .tmp 16] #[31, 31] (by rfl) (by rfl) #[.agg #[.int .i64 (v 0).v.1, .int .i64 (v 0).v.2], .agg #[.int .i64 (El.sb (El.ml (v 1) (v 2)) (v 3)).v.1, .int .i64 (El.sb (El.ml (v 1) (v 2)) (v 3)).v.2]] (by simp only [List.map_toArray, List.map_cons, List.map_nil] <;> rfl) (run_go Tryz.func53 (by kernel_rfl) (by kernel_rfl) _ _) (ml_el (v 0) (El.sb (El.ml (v 1) (v 2)) (v 3)) _) ?_
  rintro e U3 ⟨he, kk⟩
  refine ⟨_, he, ?_⟩
  replace KW := hik (KW.out.trans kk)
  refine hK.out _ _ (SA.out _ KW.out) (fun hHeld => ?_)
  clear hK K
  try simp only [Act.put, List.setIfInBounds_toArray, List.set_cons_zero, List.set_cons_succ, List.getElem_toArray, List.getElem_cons_zero, List.getElem_cons_succ]
  clear he kk
  refine wpAnyL_ready (rs := [15]) (by kernel_rfl) (by simp) ?_
  refine AllReadyL.last rfl (by kernel_rfl) (fun K hK => ?_)
  have EN := hik (EZ.out.keep KW.out)
  have g0 : U3.cell? ⟨w.heap.size, 0, none⟩ = some (.int .i64 0) := EN.out.c0
  have g1 : U3.cell? ⟨w.heap.size, 1, none⟩ = some (.int .i64 0) := EN.out.c1
  have f0 := EN.out.fz 0
  have f1 := EN.out.fz 1
  have ln : w.heap.size < U3.heap.size := EN.out.lt
  simp only [List.getElem_toArray, List.getElem_cons_zero, List.getElem_cons_succ]
  go_simp
  refine hK.out _ _ ?_
  clear hK K
  try simp only [Act.put, List.setIfInBounds_toArray, List.set_cons_zero, List.set_cons_succ, List.getElem_toArray, List.getElem_cons_zero, List.getElem_cons_succ]
  clear g0 g1 f0 f1 ln
  refine wpAnyL_done (by kernel_rfl) ?_ _
  have u0 := (EN.out.set (El.ml (v 0) (El.sb (El.ml (v 1) (v 2)) (v 3)))).c0
  have u1 := (EN.out.set (El.ml (v 0) (El.sb (El.ml (v 1) (v 2)) (v 3)))).c1
  have GE := hik (chg2_at (G0.out.trans KW.out) w.heap.size (fun l => absurd l (by omega)) 0 1 (.int .i64 (El.ml (v 0) (El.sb (El.ml (v 1) (v 2)) (v 3))).v.1) (.int .i64 (El.ml (v 0) (El.sb (El.ml (v 1) (v 2)) (v 3))).v.2))
  go_wp2
  exact bodyPost_ret (v := .agg #[.int .i64 (El.ml (v 0) (El.sb (El.ml (v 1) (v 2)) (v 3))).v.1, .int .i64 (El.ml (v 0) (El.sb (El.ml (v 1) (v 2)) (v 3))).v.2]) (by simp [results, Tryz.results48, go_sem, u0, u1]) rfl ⟨rfl, GE.out⟩

/-- What a kind's function answers. -/
theorem KD.val {k : Nat} {t d : Int} {f : Nat} (h : KD k t d f) (c : Option Addr) (n cap : Nat) (hn : n = 2 * k) (v : Nat → El) (w : World) (hp : Hid (PairE w c n v)) : Calls Tryz.prog f #[.slice c n cap] w fun e w' => e = .returned (.agg #[.int .i64 (cmb k v).v.1, .int .i64 (cmb k v).v.2]) ∧ Chg nob w w' := by
  subst hn
  rcases h with ⟨rfl, _, _, rfl⟩ | ⟨rfl, _, _, rfl⟩
  · exact prodV_any c cap v w hp
  · exact gateV_any c cap v w hp

end Go.Proofs.YtccgjbdjbgefiaaGreatDoor

namespace Go.Proofs.YtccgjbdjbgefiaaGreatDoor
open Go.ChangeShapes Go.WideShapes Go.ChangeAt Go.RowKit
set_option linter.unusedVariables false
set_option maxRecDepth 100000
set_option linter.unusedSimpArgs false

set_option maxHeartbeats 2000000 in
theorem rnds_any (c : Option Addr) (n cap : Nat) (A : Nat → Option Addr) (L C : Nat → Nat) (f g : Nat → Nat → Int) (w : World) (h : Hid (RowsV w c n A L C f g)) (hL : Hid (∀ i, i < n → L i ≤ 1099511627776)) (hn : n ≤ 1099511627776) :
    Calls Tryz.prog 44 #[.slice c n cap] w fun e w' => e = .returned (.bool (rkb L f g 0 n)) ∧ Chg nob w w' := by
  obtain ⟨q, hq⟩ : ∃ q, q = rkb L f g 0 n := ⟨_, rfl⟩
  have HQ := hik hq
  rw [← hq]
  clear hq
  go_enter Tryz.func44, Tryz.ntmps44
  go_wp2
  go_loopw [7] (fun i W => ∃ j m : Nat, j + m = n ∧ i = .int .i64 (j : Int) ∧ Hid (rkb L f g 0 n = rkb L f g j m) ∧ Hid (Chg nob w W)) (fun i _ => n - (intOf i).toNat)
  case atStart => exact ⟨0, n, by omega, rfl, hik rfl, hik (Chg.refl _ _)⟩
  case round =>
    obtain ⟨j, m, hjm, rfl, HT, HG⟩ := hrel
    rename World => wi
    by_cases hlt : j < n
    · obtain ⟨m', rfl⟩ : ∃ m', m = m' + 1 := ⟨m - 1, by omega⟩
      have hj1 : (j : Int) < (n : Int) := by omega
      have hj0 : (0 : Int) ≤ (j : Int) := by omega
      obtain ⟨xb, xo, ec, hxb, hc, hP⟩ := (RowsV.keep h.out HG.out) j hlt
      subst ec
      have PJ := hik hP
      clear hP
      by_cases h8 : 8 < L j
      · have h8' : 8 < (L j : Int) := by omega
        have h8d : decide (8 < (L j : Int)) = true := decide_eq_true h8'
        have HV := hik (show q = false by rw [HQ.out, HT.out, rkb, decide_eq_false (show ¬ L j ≤ 8 by omega)]; rfl)
        go_wp2
        go_ret
        exact ⟨by rw [HV.out]; rfl, HG.out⟩
      · have h8' : ¬ 8 < (L j : Int) := by omega
        have h8d : decide (8 < (L j : Int)) = false := decide_eq_false h8'
        cases ho : okP (f j) (g j) (L j)
        · have HV := hik (show q = false by rw [HQ.out, HT.out, rkb, ho, Bool.and_false]; rfl)
          go_wp2_with fail
          refine (extsOK_any (A j) (L j) (C j) (f j) (g j) _ PJ (hL.out j hlt)).mono ?_
          rintro e W2 ⟨he, k2⟩
          rw [ho] at he
          subst he
          have G2 := hik (HG.out.trans k2)
          clear k2
          go_wp2
          go_ret
          exact ⟨by rw [HV.out]; rfl, G2.out⟩
        · have HN := hik (show rkb L f g 0 n = rkb L f g (j + 1) m' by rw [HT.out, rkb, ho, decide_eq_true (show L j ≤ 8 by omega)]; rfl)
          go_wp2_with fail
          refine (extsOK_any (A j) (L j) (C j) (f j) (g j) _ PJ (hL.out j hlt)).mono ?_
          rintro e W2 ⟨he, k2⟩
          rw [ho] at he
          subst he
          have G2 := hik (HG.out.trans k2)
          clear k2
          go_wp2
          go_roundw
          case rel => exact ⟨j + 1, m', by omega, by go_num, HN, G2⟩
          case measure => simp [intOf]; omega
    · obtain rfl : m = 0 := by omega
      obtain rfl : j = n := by omega
      have hcc : ¬ (j : Int) < (j : Int) := by omega
      have HV := hik (show q = true by rw [HQ.out, HT.out]; rfl)
      go_wp2
      go_ret
      exact ⟨by rw [HV.out]; rfl, HG.out⟩

/-- The code of a claim's parts. -/
def vcc (K x1 x2 : Int) (m : Nat) (L : Nat → Nat) (f g : Nat → Nat → Int) (vars : Int) (fs gs : Nat → Int) (len : Nat) (at' : Int) (st : ByteArray) (ct : Int) : Int :=
  if 4096 < m then 2 else if eok x1 x2 = true then (if rkb L f g 0 m = true then (if sokb fs gs len at' st ct = true then (if kdb K = true then (if vars < 0 then 4 else if 6 < vars then 4 else if spb at' ct 6 = true then 6 else if (m : Int) = vars then 0 else 18) else 4) else 1) else 1) else 1
theorem vcc_svc (K x1 x2 : Int) (m : Nat) (L : Nat → Nat) (f g : Nat → Nat → Int) (vars : Int) (fs gs : Nat → Int) (len : Nat) (at' : Int) (st : ByteArray) (ct : Int) :
    svc8 K x1 x2 m L f g vars fs gs len at' st ct = if vcc K x1 x2 m L f g vars fs gs len at' st ct = 0 then vcd fs gs len (K.toNat + 2) L (fun i => elF (f i) (g i)) ⟨elP x1 x2, at', st, ct⟩ 0 m else vcc K x1 x2 m L f g vars fs gs len at' st ct := by
  unfold svc8 vcc rkc inW
  by_cases h1 : 4096 < m
  · simp [h1]
  by_cases h2 : rkb L f g 0 m = true
  · by_cases h3 : eok x1 x2 = true
    · by_cases h4 : sokb fs gs len at' st ct = true
      · by_cases h5 : kdb K = true
        · by_cases h6 : vars < 0
          · simp [h1, h2, h3, h4, h5, h6, show ¬ 0 ≤ vars by omega]
          · by_cases h7 : 6 < vars
            · simp [h1, h2, h3, h4, h5, h6, h7, show ¬ vars ≤ 6 by omega]
            · by_cases h8 : spb at' ct 6 = true
              · simp [h1, h2, h3, h4, h5, h6, h7, h8, show vars ≤ 6 by omega, show 0 ≤ vars by omega]
              · by_cases h9 : (m : Int) = vars
                · simp [h1, h2, h3, h4, h5, h6, h7, h8, h9, show vars ≤ 6 by omega, show 0 ≤ vars by omega]
                · simp [h1, h2, h3, h4, h5, h6, h7, h8, h9, show vars ≤ 6 by omega, show 0 ≤ vars by omega]
        · simp [h1, h2, h3, h4, h5]
      · simp [h1, h2, h3, h4]
    · simp [h1, h2, h3]
  · by_cases h3 : eok x1 x2 = true
    · simp [h1, h2, h3]
    · simp [h1, h2, h3]
theorem vcc_ok {K x1 x2 : Int} {m : Nat} {L : Nat → Nat} {f g : Nat → Nat → Int} {vars : Int} {fs gs : Nat → Int} {len : Nat} {at' : Int} {st : ByteArray} {ct : Int} (h : vcc K x1 x2 m L f g vars fs gs len at' st ct = 0) : eok x1 x2 = true ∧ rkb L f g 0 m = true ∧ sokb fs gs len at' st ct = true ∧ kdb K = true ∧ m ≤ 6 ∧ spb at' ct 6 = false ∧ (m : Int) = vars := by
  unfold vcc at h
  by_cases h1 : 4096 < m
  · rw [if_pos h1] at h; omega
  rw [if_neg h1] at h
  by_cases h2 : eok x1 x2 = true
  · rw [if_pos h2] at h
    by_cases h3 : rkb L f g 0 m = true
    · rw [if_pos h3] at h
      by_cases h4 : sokb fs gs len at' st ct = true
      · rw [if_pos h4] at h
        by_cases h5 : kdb K = true
        · rw [if_pos h5] at h
          by_cases h6 : vars < 0
          · rw [if_pos h6] at h; omega
          rw [if_neg h6] at h
          by_cases h7 : 6 < vars
          · rw [if_pos h7] at h; omega
          rw [if_neg h7] at h
          by_cases h8 : spb at' ct 6 = true
          · rw [if_pos h8] at h; omega
          rw [if_neg h8] at h
          by_cases h9 : (m : Int) = vars
          · exact ⟨h2, h3, h4, h5, by omega, by simpa using h8, h9⟩
          · rw [if_neg h9] at h; omega
        · rw [if_neg h5] at h; omega
      · rw [if_neg h4] at h; omega
    · rw [if_neg h3] at h; omega
  · rw [if_neg h2] at h; omega

set_option maxHeartbeats 4000000 in
theorem vcc_any (K x1 x2 : Int) (c : Option Addr) (m cap : Nat) (A : Nat → Option Addr) (L C : Nat → Nat) (f g : Nat → Nat → Int) (vars : Int) (cs : Option Addr) (len caps : Nat) (fs gs : Nat → Int) (at' : Int) (st : ByteArray) (ct : Int) (w : World) (h : Hid (RowsV w c m A L C f g)) (hL : Hid (∀ i, i < m → L i ≤ 1099511627776)) (hn : m ≤ 1099511627776) (hs : Hid (PairV w cs len fs gs)) (hl : (len : Int) ≤ 9223372036854775807) (hst : (st.size : Int) ≤ 9223372036854775807) :
    Calls Tryz.prog 30 #[.int .i64 K, .agg #[.int .i64 x1, .int .i64 x2], .slice c m cap, .int .i64 vars, .agg #[.slice cs len caps, .int .i64 at', .string st, .int .i64 ct]] w fun e w' => e = .returned (.int .i64 (vcc K x1 x2 m L f g vars fs gs len at' st ct)) ∧ Chg nob w w' := by
  obtain ⟨q, hq⟩ : ∃ q, q = (vcc K x1 x2 m L f g vars fs gs len at' st ct) := ⟨_, rfl⟩
  have HQ := hik hq
  rw [← hq]
  clear hq
  have E0 := hik (World.rowIs.alloc (row2_new w (.int .i64 x1) (.int .i64 x2) 31) (.cells #[.slice cs len caps, .int .i64 at', .string st, .int .i64 ct] 33))
  have A0 : Hid (((w.alloc (.cells #[.int .i64 x1, .int .i64 x2] 31)).alloc (.cells #[.slice cs len caps, .int .i64 at', .string st, .int .i64 ct] 33)).rowIs (w.heap.size + 1) 33 4 (pv4 (.slice cs len caps) (.int .i64 at') (.string st) (.int .i64 ct))) := hik (by simpa using row4_new (w.alloc (.cells #[.int .i64 x1, .int .i64 x2] 31)) (.slice cs len caps) (.int .i64 at') (.string st) (.int .i64 ct) 33)
  have G0 := hik (((Chg.refl nob w).alloc (.cells #[.int .i64 x1, .int .i64 x2] 31)).alloc (.cells #[.slice cs len caps, .int .i64 at', .string st, .int .i64 ct] 33))
  by_cases h1 : 4096 < m
  · have h1' : 4096 < (m : Int) := by omega
    have HC := hik (show q = 2 by rw [HQ.out]; unfold vcc; rw [if_pos h1])
    go_enter Tryz.func30, Tryz.ntmps30
    go_wp2
    go_ret
    exact ⟨by rw [HC.out]; rfl, G0.out⟩
  have h1' : ¬ 4096 < (m : Int) := by omega
  go_enter Tryz.func30, Tryz.ntmps30
  go_wp2_with fail
  generalize hE : (w.alloc (.cells #[.int .i64 x1, .int .i64 x2] 31)).alloc (.cells #[.slice cs len caps, .int .i64 at', .string st, .int .i64 ct] 33) = W0 at E0 A0 G0 ⊢
  clear hE
  refine (extOK_any x1 x2 _).mono ?_
  rintro e W1 ⟨he, k1⟩
  have A1 := hik (rowIs_keep A0.out k1)
  have G1 := hik (G0.out.trans k1)
  clear k1 E0 A0 G0
  cases h2 : eok x1 x2
  · rw [h2] at he
    subst he
    have HC := hik (show q = 1 by rw [HQ.out]; unfold vcc; rw [if_neg h1, h2]; rfl)
    go_wp2
    go_ret
    exact ⟨by rw [HC.out]; rfl, G1.out⟩
  rw [h2] at he
  subst he
  go_wp2_with fail
  refine (rnds_any c m cap A L C f g _ (hik (RowsV.keep h.out G1.out)) hL hn).mono ?_
  rintro e W2 ⟨he, k2⟩
  have A2 := hik (rowIs_keep A1.out k2)
  have G2 := hik (G1.out.trans k2)
  clear k2 A1 G1
  cases h3 : rkb L f g 0 m
  · rw [h3] at he
    subst he
    have HC := hik (show q = 1 by rw [HQ.out]; unfold vcc; rw [if_neg h1, h2, if_pos rfl, h3]; rfl)
    go_wp2
    go_ret
    exact ⟨by rw [HC.out]; rfl, G2.out⟩
  rw [h3] at he
  subst he
  have xs0 : (W2).cell? ⟨w.heap.size + 1, 0, none⟩ = some (.slice cs len caps) := A2.out.cell (by omega)
  have xs1 : (W2).cell? ⟨w.heap.size + 1, 1, none⟩ = some (.int .i64 at') := A2.out.cell (by omega)
  have xs2 : (W2).cell? ⟨w.heap.size + 1, 2, none⟩ = some (.string st) := A2.out.cell (by omega)
  have xs3 : (W2).cell? ⟨w.heap.size + 1, 3, none⟩ = some (.int .i64 ct) := A2.out.cell (by omega)
  go_wp2_with fail
  refine (sourceOK_any cs len caps at' st ct fs gs _ (hik (PairV.keep hs.out G2.out)) hl hst).mono ?_
  rintro e W3 ⟨he, k3⟩
  have A3 := hik (rowIs_keep A2.out k3)
  have G3 := hik (G2.out.trans k3)
  clear k3 A2 G2 xs0 xs1 xs2 xs3
  cases h4 : sokb fs gs len at' st ct
  · rw [h4] at he
    subst he
    have HC := hik (show q = 1 by rw [HQ.out]; unfold vcc; rw [if_neg h1, h2, if_pos rfl, h3, if_pos rfl, h4]; rfl)
    go_wp2
    go_ret
    exact ⟨by rw [HC.out]; rfl, G3.out⟩
  rw [h4] at he
  subst he
  obtain ⟨p1, p2, p3, p4, p5⟩ := sokb_parts h4
  cases h5 : kdb K
  · have HC := hik (show q = 4 by rw [HQ.out]; unfold vcc; rw [if_neg h1, h2, if_pos rfl, h3, if_pos rfl, h4, if_pos rfl, h5]; rfl)
    go_wp2_with fail
    refine (co_no K h5 _).mono ?_
    rintro e W4 ⟨rfl, k4⟩
    have G4 := hik ((G3.out.trans k4).alloc (.cells #[.int .i64 0, .int .i64 0, .nilFunc] 60))
    clear k4
    go_wp2
    go_ret
    exact ⟨by rw [HC.out]; rfl, G4.out⟩
  obtain ⟨k, hKk, hk12⟩ := kdb_nat h5
  subst hKk
  obtain ⟨t, d, ff, hKD, ht, hd⟩ := KD.ex hk12
  have HKD := hik hKD
  have HQ2 := hik (show q = if vars < 0 then 4 else if 6 < vars then 4 else if spb at' ct 6 = true then 6 else if (m : Int) = vars then 0 else 18 by rw [HQ.out]; unfold vcc; rw [if_neg h1, h2, if_pos rfl, h3, if_pos rfl, h4, if_pos rfl, h5, if_pos rfl])
  clear ht hd hKD hk12 h5 HQ h1 h2 h3 p1 p2 p4
  go_wp2_with fail
  refine (co_ok HKD.out _).mono ?_
  rintro e W4 ⟨rfl, k4⟩
  have A5 := hik (rowIs_keep A3.out (k4.alloc (.cells #[.int .i64 t, .int .i64 d, .func (.func ff) #[] #[]] 60)))
  have G5 := hik (G3.out.trans (k4.alloc (.cells #[.int .i64 t, .int .i64 d, .func (.func ff) #[] #[]] 60)))
  clear k4 A3 G3
  go_upto_region 6 with fail
  generalize hE : W4.alloc (.cells #[.int .i64 t, .int .i64 d, .func (.func ff) #[] #[]] 60) = W5 at A5 G5 ⊢
  clear hE
  by_cases h6 : vars < 0
  · have HC := hik (show q = 4 by rw [HQ2.out, if_pos h6])
    have h6d : decide (vars < 0) = true := decide_eq_true h6
    go_wp2
    go_ret
    exact ⟨by rw [HC.out]; rfl, G5.out⟩
  have h6d : decide (vars < 0) = false := decide_eq_false h6
  by_cases h7 : 6 < vars
  · have HC := hik (show q = 4 by rw [HQ2.out, if_neg h6, if_pos h7])
    have h7d : decide (6 < vars) = true := decide_eq_true h7
    go_wp2
    go_ret
    exact ⟨by rw [HC.out]; rfl, G5.out⟩
  have h7d : decide (6 < vars) = false := decide_eq_false h7
  have xs0 : (W5).cell? ⟨w.heap.size + 1, 0, none⟩ = some (.slice cs len caps) := A5.out.cell (by omega)
  have xs1 : (W5).cell? ⟨w.heap.size + 1, 1, none⟩ = some (.int .i64 at') := A5.out.cell (by omega)
  have xs2 : (W5).cell? ⟨w.heap.size + 1, 2, none⟩ = some (.string st) := A5.out.cell (by omega)
  have xs3 : (W5).cell? ⟨w.heap.size + 1, 3, none⟩ = some (.int .i64 ct) := A5.out.cell (by omega)
  go_wp2_with fail
  refine (left_any cs len caps at' st ct _ p3.1 p3.2 p5.1 p5.2).mono ?_
  rintro e W6 ⟨lf, rfl, hlf, k6⟩
  have G6 := hik (G5.out.trans k6)
  have hl6 := hlf 6
  clear k6 hlf A5 G5 xs0 xs1 xs2 xs3
  cases h8 : spb at' ct 6
  · have hl6' : ¬ lf < 6 := fun l => by have z := hl6.1 l; rw [h8] at z; cases z
    clear hl6
    by_cases h9 : (m : Int) = vars
    · have HC := hik (show q = 0 by rw [HQ2.out, if_neg (show ¬ vars < 0 by omega), if_neg (show ¬ 6 < vars by omega), h8, if_pos h9]; rfl)
      have hb : ((m : Int) != vars) = false := by rw [h9]; simp
      have H9 := hik h9
      clear h9
      go_wp2
      go_ret
      exact ⟨by rw [HC.out]; rfl, G6.out⟩
    · have HC := hik (show q = 18 by rw [HQ2.out, if_neg (show ¬ vars < 0 by omega), if_neg (show ¬ 6 < vars by omega), h8, if_neg h9]; rfl)
      have hb : ((m : Int) != vars) = true := by simpa using h9
      have H9 := hik h9
      clear h9
      go_wp2
      go_ret
      exact ⟨by rw [HC.out]; rfl, G6.out⟩
  · have HC := hik (show q = 6 by rw [HQ2.out, if_neg (show ¬ vars < 0 by omega), if_neg (show ¬ 6 < vars by omega), h8]; rfl)
    have hl6' : lf < 6 := hl6.2 h8
    clear hl6
    go_wp2
    go_ret
    exact ⟨by rw [HC.out]; rfl, G6.out⟩

end Go.Proofs.YtccgjbdjbgefiaaGreatDoor
