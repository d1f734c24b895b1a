/- Several texts in one: What the model's looks at kinds of sums, its combinations and its sums answer: contracts. Conditions: elements of the greater field, lists that can be read. · What the program's kinds of sums answer: combinationOf, productValue, gateValue: contracts. Conditions: elements of the greater field, lists that can be read. · What the model's DegreeOf and Combine answer: contracts. Conditions: lists that can be read, of at most 2 to the 40. · What the program's Combine and DegreeOf answer: contracts. Conditions: lists that can be read, of at most 2 to the 40. -/
import Derived.Test.YtppiilbcnkphbaaGreatBzam
import Derived.Test.YtppiilbcnkphbaaGreatBzar
import Derived.Test.YtppiilbcnkphbaaGreatBzal
import Derived.Deep.DeepCutAuto
import Derived.Test.YtppiilbcnkphbaaGreatBzaf
import Derived.Laws.EntriesVeiled
namespace Go.Proofs.YtppiilbcnkphbaaGreat
open Go.ChangeShapes Go.WideShapes Go.ChangeAt Go.RowKit
set_option linter.unusedVariables false
set_option maxRecDepth 100000
set_option linter.unusedSimpArgs false

/-- A kind of sums. -/
def kdb (k : Int) : Bool := decide (k = 1 ∨ k = 2)
theorem kdb_nat {k : Int} (h : kdb k = true) : ∃ m : Nat, k = (m : Int) ∧ (m = 1 ∨ m = 2) := by
  unfold kdb at h
  rcases of_decide_eq_true h with rfl | rfl
  · exact ⟨1, rfl, .inl rfl⟩
  · exact ⟨2, rfl, .inr rfl⟩


end Go.Proofs.YtppiilbcnkphbaaGreat

namespace Go.Proofs.YtppiilbcnkphbaaGreat
open Go.ChangeShapes Go.WideShapes Go.ChangeAt Go.RowKit
set_option linter.unusedVariables false
set_option maxRecDepth 100000
set_option linter.unusedSimpArgs false

/-- Three values. -/
def pv3 (u v x : Value) (i : Nat) : Value := if i = 0 then u else if i = 1 then v else x
theorem row3_new (W : World) (u v x : Value) (t : TypeId) : (W.alloc (.cells #[u, v, x] t)).rowIs W.heap.size t 3 (pv3 u v x) :=
  World.rowIs_alloc W #[u, v, x] t (pv3 u v x) (fun i hi => by
    match i, hi with
    | 0, _ => rfl
    | 1, _ => rfl
    | 2, _ => rfl)
theorem row3_set {W : World} {g : Nat} {ty : TypeId} {f : Nat → Value} (h : W.rowIs g ty 3 f) (u v x : Value) : (((W.setCell ⟨g, 0, none⟩ u).setCell ⟨g, 1, none⟩ v).setCell ⟨g, 2, none⟩ x).rowIs g ty 3 (pv3 u v x) :=
  (((h.set 0 u).set 1 v).set 2 x).congr (fun i hi => by
    match i, hi with
    | 0, _ => rfl
    | 1, _ => rfl
    | 2, _ => rfl)
/-- A combination's block. -/
def CmB (W : World) (b : Nat) (t d : Int) (F : Value) : Prop := W.rowIs b 138 3 (pv3 (.int .i64 t) (.int .i64 d) F)
section
variable {W W' : World} {b : Nat} {t d : Int} {F : Value}
theorem CmB.new (W : World) (t d : Int) (F : Value) : CmB (W.alloc (.cells #[.int .i64 t, .int .i64 d, F] 138)) W.heap.size t d F := row3_new W _ _ _ _
theorem CmB.keep (h : CmB W b t d F) (k : Chg nob W W') : CmB W' b t d F := rowIs_keep h k
theorem CmB.chg {P : Nat → Prop} (h : CmB W b t d F) (k : Chg P W W') (hp : ¬ P b) : CmB W' b t d F := rowIs_chg h k hp
theorem CmB.lt (h : CmB W b t d F) : b < W.heap.size := World.rowIs.lt h
theorem CmB.c0 (h : CmB W b t d F) : W.cell? ⟨b, 0, none⟩ = some (.int .i64 t) := World.rowIs.cell h (by omega)
theorem CmB.c1 (h : CmB W b t d F) : W.cell? ⟨b, 1, none⟩ = some (.int .i64 d) := World.rowIs.cell h (by omega)
theorem CmB.c2 (h : CmB W b t d F) : W.cell? ⟨b, 2, none⟩ = some F := World.rowIs.cell h (by omega)
theorem CmB.fz (h : CmB W b t d F) (o : Nat) : W.frozen? ⟨b, o, none⟩ = false := World.rowIs.frozen h o
theorem CmB.set (h : CmB W b t d F) (t' d' : Int) (F' : Value) : CmB (((W.setCell ⟨b, 0, none⟩ (.int .i64 t')).setCell ⟨b, 1, none⟩ (.int .i64 d')).setCell ⟨b, 2, none⟩ F') b t' d' F' := row3_set h _ _ _
end
/-- A kind, how many tables it has, its degree, the function that combines. -/
def KD (k : Nat) (t d : Int) (f : Nat) : Prop := (k = 1 ∧ t = 2 ∧ d = 2 ∧ f = 102) ∨ (k = 2 ∧ t = 4 ∧ d = 3 ∧ f = 103)
theorem KD.ex {k : Nat} (hk : k = 1 ∨ k = 2) : ∃ t d f, KD k t d f ∧ t = 2 * (k : Int) ∧ d = (k : Int) + 1 := by
  rcases hk with rfl | rfl
  · exact ⟨2, 2, _, .inl ⟨rfl, rfl, rfl, rfl⟩, rfl, rfl⟩
  · exact ⟨4, 3, _, .inr ⟨rfl, rfl, rfl, rfl⟩, rfl, rfl⟩
theorem KD.run {k : Nat} {t d : Int} {f : Nat} (h : KD k t d f) (args : Array Value) (w : World) : (callFunc f args).run Tryz.prog w = .ok (.enter f args) w := by
  rcases h with ⟨_, _, _, rfl⟩ | ⟨_, _, _, rfl⟩
  · exact run_go Tryz.func102 (by kernel_rfl) (by kernel_rfl) _ _
  · exact run_go Tryz.func103 (by kernel_rfl) (by kernel_rfl) _ _

set_option maxHeartbeats 1000000 in
theorem co_ok {k : Nat} {t d : Int} {f : Nat} (h : KD k t d f) (w : World) : Calls Tryz.prog 98 #[.int .i64 (k : Int)] w fun e w' => e = .returned (.tuple #[.agg #[.int .i64 t, .int .i64 d, .func (.func f) #[] #[]], .int .i64 0]) ∧ Chg nob w w' := by
  have E := hik (CmB.new w 0 0 .nilFunc)
  have G := hik ((Chg.refl nob w).alloc (.cells #[.int .i64 0, .int .i64 0, .nilFunc] 138))
  have f0 := E.out.fz 0
  have f1 := E.out.fz 1
  have f2 := E.out.fz 2
  rcases h with ⟨rfl, rfl, rfl, rfl⟩ | ⟨rfl, rfl, rfl, rfl⟩
  · go_enter Tryz.func98, Tryz.ntmps98
    go_wp2
    have u := hik (E.out.set 2 2 (.func (.func 102) #[] #[]))
    have u0 := u.out.c0
    have u1 := u.out.c1
    have u2 := u.out.c2
    exact bodyPost_ret (v := .tuple #[.agg #[.int .i64 2, .int .i64 2, .func (.func 102) #[] #[]], .int .i64 0]) (by simp [results, Tryz.results98, go_sem, u0, u1, u2]) rfl ⟨rfl, (Chg.refl nob w).alloc _⟩
  · go_enter Tryz.func98, Tryz.ntmps98
    go_wp2
    have u := hik (E.out.set 4 3 (.func (.func 103) #[] #[]))
    have u0 := u.out.c0
    have u1 := u.out.c1
    have u2 := u.out.c2
    exact bodyPost_ret (v := .tuple #[.agg #[.int .i64 4, .int .i64 3, .func (.func 103) #[] #[]], .int .i64 0]) (by simp [results, Tryz.results98, go_sem, u0, u1, u2]) rfl ⟨rfl, (Chg.refl nob w).alloc _⟩

set_option maxHeartbeats 1000000 in
theorem co_no (K : Int) (h : kdb K = false) (w : World) : Calls Tryz.prog 98 #[.int .i64 K] w fun e w' => e = .returned (.tuple #[.agg #[.int .i64 0, .int .i64 0, .nilFunc], .int .i64 4]) ∧ Chg nob w w' := by
  have hn := of_decide_eq_false h
  have h1 : ¬ K = 1 := fun e => hn (.inl e)
  have h2 : ¬ K = 2 := fun e => hn (.inr e)
  have b1 : (K == 1) = false := by simpa using h1
  have b2 : (K == 2) = false := by simpa using h2
  have E := hik (CmB.new w 0 0 .nilFunc)
  have G := hik ((Chg.refl nob w).alloc (.cells #[.int .i64 0, .int .i64 0, .nilFunc] 138))
  have f0 := E.out.fz 0
  have f1 := E.out.fz 1
  have f2 := E.out.fz 2
  clear hn h h1 h2
  go_enter Tryz.func98, Tryz.ntmps98
  go_wp2
  have u := hik (E.out.set 0 0 .nilFunc)
  have u0 := u.out.c0
  have u1 := u.out.c1
  have u2 := u.out.c2
  exact bodyPost_ret (v := .tuple #[.agg #[.int .i64 0, .int .i64 0, .nilFunc], .int .i64 4]) (by simp [results, Tryz.results98, go_sem, u0, u1, u2]) rfl ⟨rfl, (Chg.refl nob w).alloc _⟩

set_option maxHeartbeats 2000000 in
theorem prodV_any (c : Option Addr) (cap : Nat) (v : Nat → El) (w : World) (h : Hid (PairE w c 2 v)) : Calls Tryz.prog 102 #[.slice c 2 cap] w fun e w' => e = .returned (.agg #[.int .i64 (El.ml (v 0) (v 1)).v.1, .int .i64 (El.ml (v 0) (v 1)).v.2]) ∧ Chg nob w w' := by
  obtain ⟨xb, xo, ec, hxb, _, _⟩ := PairE.at_ h.out (show 0 < 2 by omega)
  subst ec
  have HU := hik (PairE.keep h.out ((Chg.refl nob w).alloc (.cells #[.int .i64 0, .int .i64 0] 31)))
  have EZ := hik (ElB.zero w)
  have G0 := hik ((Chg.refl nob w).alloc (.cells #[.int .i64 0, .int .i64 0] 31))
  go_enter Tryz.func102, Tryz.ntmps102
  go_upto_region 1 with fail
  generalize hE : w.alloc (.cells #[.int .i64 0, .int .i64 0] 31) = W0 at HU EZ G0 ⊢
  clear hE
  have a0 : W0.cell? ⟨xb, xo, none⟩ = some (.int .i64 (v 0).v.1) := by have q := PairE.c0 HU.out (i := 0) (by omega); simpa using q
  have a1 : W0.cell? ⟨xb, xo + 1, none⟩ = some (.int .i64 (v 0).v.2) := by have q := PairE.c1 HU.out (i := 0) (by omega); simpa using q
  have b0 : W0.cell? ⟨xb, xo + 2, none⟩ = some (.int .i64 (v 1).v.1) := by have q := PairE.c0 HU.out (i := 1) (by omega); simpa using q
  have b1 : W0.cell? ⟨xb, xo + 2 + 1, none⟩ = some (.int .i64 (v 1).v.2) := by have q := PairE.c1 HU.out (i := 1) (by omega); simpa using q
  have KW := hik ((Chg.refl nob W0).drew1)
  have SA := hik (fun (WW : World) (kW : Chg nob W0 WW) => (show (WW.cell? ⟨xb, xo, none⟩ = some (.int .i64 (v 0).v.1) ∧ WW.cell? ⟨xb, xo + 1, none⟩ = some (.int .i64 (v 0).v.2) ∧ WW.cell? ⟨xb, xo + 2, none⟩ = some (.int .i64 (v 1).v.1) ∧ WW.cell? ⟨xb, xo + 2 + 1, none⟩ = some (.int .i64 (v 1).v.2)) from ⟨kW.see a0, kW.see a1, kW.see b0, kW.see b1⟩))
  refine wp_regionL (L := 7) (S := fun w' => w'.cell? ⟨xb, xo, none⟩ = some (.int .i64 (v 0).v.1) ∧ w'.cell? ⟨xb, xo + 1, none⟩ = some (.int .i64 (v 0).v.2) ∧ w'.cell? ⟨xb, xo + 2, none⟩ = some (.int .i64 (v 1).v.1) ∧ w'.cell? ⟨xb, xo + 2 + 1, none⟩ = some (.int .i64 (v 1).v.2)) (by kernel_rfl) ⟨a0, a1, b0, b1⟩ (fun hHeld => ?_)
  refine wpAnyL_take (i := 0) (v := ?_) rfl (by kernel_rfl) (by kernel_rfl) (by kernel_rfl) (fun _ _ _ h => h) (by rfl) (by kernel_rfl) (by kernel_rfl) (Or.inl ⟨by rfl, ?_⟩) (by assumption) ?_
  rotate_left 1
  · (intro w' hSw; (try dsimp only at hSw); go_simp; try with_reducible rfl)
  try simp only [Act.put, List.setIfInBounds_toArray, List.set_cons_zero, List.set_cons_succ, List.getElem_toArray, List.getElem_cons_zero, List.getElem_cons_succ]
  refine wpAnyL_take (i := 1) (v := ?_) rfl (by kernel_rfl) (by kernel_rfl) (by kernel_rfl) (fun _ _ _ h => h) (by rfl) (by kernel_rfl) (by kernel_rfl) (Or.inl ⟨by rfl, ?_⟩) (by assumption) ?_
  rotate_left 1
  · (intro w' hSw; (try dsimp only at hSw); go_simp; try with_reducible rfl)
  try simp only [Act.put, List.setIfInBounds_toArray, List.set_cons_zero, List.set_cons_succ, List.getElem_toArray, List.getElem_cons_zero, List.getElem_cons_succ]
  refine wpAnyL_take (i := 2) (v := ?_) rfl (by kernel_rfl) (by kernel_rfl) (by kernel_rfl) (fun _ _ _ h => h) (by rfl) (by kernel_rfl) (by kernel_rfl) (Or.inl ⟨by rfl, ?_⟩) (by assumption) ?_
  rotate_left 1
  · (intro w' hSw; (try dsimp only at hSw); go_simp; try with_reducible rfl)
  try simp only [Act.put, List.setIfInBounds_toArray, List.set_cons_zero, List.set_cons_succ, List.getElem_toArray, List.getElem_cons_zero, List.getElem_cons_succ]
  refine wpAnyL_take (i := 3) (v := ?_) rfl (by kernel_rfl) (by kernel_rfl) (by kernel_rfl) (fun _ _ _ h => h) (by rfl) (by kernel_rfl) (by kernel_rfl) (Or.inl ⟨by rfl, ?_⟩) (by assumption) ?_
  rotate_left 1
  · (intro w' hSw; (try dsimp only at hSw); go_simp; try with_reducible rfl)
  try simp only [Act.put, List.setIfInBounds_toArray, List.set_cons_zero, List.set_cons_succ, List.getElem_toArray, List.getElem_cons_zero, List.getElem_cons_succ]
  refine wpAnyL_take (i := 4) (v := ?_) rfl (by kernel_rfl) (by kernel_rfl) (by kernel_rfl) (fun _ _ _ h => h) (by rfl) (by kernel_rfl) (by kernel_rfl) (Or.inl ⟨by rfl, ?_⟩) (by assumption) ?_
  rotate_left 1
  · (intro w' hSw; (try dsimp only at hSw); go_simp; try with_reducible rfl)
  try simp only [Act.put, List.setIfInBounds_toArray, List.set_cons_zero, List.set_cons_succ, List.getElem_toArray, List.getElem_cons_zero, List.getElem_cons_succ]
  refine wpAnyL_take (i := 5) (v := ?_) rfl (by kernel_rfl) (by kernel_rfl) (by kernel_rfl) (fun _ _ _ h => h) (by rfl) (by kernel_rfl) (by kernel_rfl) (Or.inl ⟨by rfl, ?_⟩) (by assumption) ?_
  rotate_left 1
  · (intro w' hSw; (try dsimp only at hSw); go_simp; try with_reducible rfl)
  try simp only [Act.put, List.setIfInBounds_toArray, List.set_cons_zero, List.set_cons_succ, List.getElem_toArray, List.getElem_cons_zero, List.getElem_cons_succ]
  refine wpAnyL_ready (rs := [6]) (by kernel_rfl) (by simp) ?_
  refine AllReadyL.cons rfl (fun K hK => ?_) AllReadyL.nil
  refine stepL_callN 108 #[.tmp 5, .tmp 8] #[31, 31] (by rfl) (by rfl) #[.agg #[.int .i64 (v 0).v.1, .int .i64 (v 0).v.2], .agg #[.int .i64 (v 1).v.1, .int .i64 (v 1).v.2]] (by simp only [List.map_toArray, List.map_cons, List.map_nil] <;> rfl) (run_go Tryz.func108 (by kernel_rfl) (by kernel_rfl) _ _) (ml_el (v 0) (v 1) _) ?_
  rintro e U1 ⟨he, kk⟩
  refine ⟨_, he, ?_⟩
  replace KW := hik (KW.out.trans kk)
  refine hK.out _ _ (SA.out _ KW.out) (fun hHeld => ?_)
  clear hK K
  try simp only [Act.put, List.setIfInBounds_toArray, List.set_cons_zero, List.set_cons_succ, List.getElem_toArray, List.getElem_cons_zero, List.getElem_cons_succ]
  clear he kk
  refine wpAnyL_ready (rs := [7]) (by kernel_rfl) (by simp) ?_
  refine AllReadyL.last rfl (by kernel_rfl) (fun K hK => ?_)
  have EN := hik (EZ.out.keep KW.out)
  have g0 : U1.cell? ⟨w.heap.size, 0, none⟩ = some (.int .i64 0) := EN.out.c0
  have g1 : U1.cell? ⟨w.heap.size, 1, none⟩ = some (.int .i64 0) := EN.out.c1
  have f0 := EN.out.fz 0
  have f1 := EN.out.fz 1
  have ln : w.heap.size < U1.heap.size := EN.out.lt
  simp only [List.getElem_toArray, List.getElem_cons_zero, List.getElem_cons_succ]
  go_simp
  refine hK.out _ _ ?_
  clear hK K
  try simp only [Act.put, List.setIfInBounds_toArray, List.set_cons_zero, List.set_cons_succ, List.getElem_toArray, List.getElem_cons_zero, List.getElem_cons_succ]
  clear g0 g1 f0 f1 ln
  refine wpAnyL_done (by kernel_rfl) ?_ _
  have u0 := (EN.out.set (El.ml (v 0) (v 1))).c0
  have u1 := (EN.out.set (El.ml (v 0) (v 1))).c1
  have GE := hik (chg2_at (G0.out.trans KW.out) w.heap.size (fun l => absurd l (by omega)) 0 1 (.int .i64 (El.ml (v 0) (v 1)).v.1) (.int .i64 (El.ml (v 0) (v 1)).v.2))
  go_wp2
  exact bodyPost_ret (v := .agg #[.int .i64 (El.ml (v 0) (v 1)).v.1, .int .i64 (El.ml (v 0) (v 1)).v.2]) (by simp [results, Tryz.results102, go_sem, u0, u1]) rfl ⟨rfl, GE.out⟩

set_option maxHeartbeats 2000000 in
theorem gateV_any (c : Option Addr) (cap : Nat) (v : Nat → El) (w : World) (h : Hid (PairE w c 4 v)) : Calls Tryz.prog 103 #[.slice c 4 cap] w fun e w' => e = .returned (.agg #[.int .i64 (El.ml (v 0) (El.sb (El.ml (v 1) (v 2)) (v 3))).v.1, .int .i64 (El.ml (v 0) (El.sb (El.ml (v 1) (v 2)) (v 3))).v.2]) ∧ Chg nob w w' := by
  obtain ⟨xb, xo, ec, hxb, _, _⟩ := PairE.at_ h.out (show 0 < 4 by omega)
  subst ec
  have HU := hik (PairE.keep h.out ((Chg.refl nob w).alloc (.cells #[.int .i64 0, .int .i64 0] 31)))
  have EZ := hik (ElB.zero w)
  have G0 := hik ((Chg.refl nob w).alloc (.cells #[.int .i64 0, .int .i64 0] 31))
  go_enter Tryz.func103, Tryz.ntmps103
  go_upto_region 1 with fail
  generalize hE : w.alloc (.cells #[.int .i64 0, .int .i64 0] 31) = W0 at HU EZ G0 ⊢
  clear hE
  have a0 : W0.cell? ⟨xb, xo, none⟩ = some (.int .i64 (v 0).v.1) := by have q := PairE.c0 HU.out (i := 0) (by omega); simpa using q
  have a1 : W0.cell? ⟨xb, xo + 1, none⟩ = some (.int .i64 (v 0).v.2) := by have q := PairE.c1 HU.out (i := 0) (by omega); simpa using q
  have b0 : W0.cell? ⟨xb, xo + 2, none⟩ = some (.int .i64 (v 1).v.1) := by have q := PairE.c0 HU.out (i := 1) (by omega); simpa using q
  have b1 : W0.cell? ⟨xb, xo + 2 + 1, none⟩ = some (.int .i64 (v 1).v.2) := by have q := PairE.c1 HU.out (i := 1) (by omega); simpa using q
  have c0 : W0.cell? ⟨xb, xo + 4, none⟩ = some (.int .i64 (v 2).v.1) := by have q := PairE.c0 HU.out (i := 2) (by omega); simpa using q
  have c1 : W0.cell? ⟨xb, xo + 4 + 1, none⟩ = some (.int .i64 (v 2).v.2) := by have q := PairE.c1 HU.out (i := 2) (by omega); simpa using q
  have d0 : W0.cell? ⟨xb, xo + 6, none⟩ = some (.int .i64 (v 3).v.1) := by have q := PairE.c0 HU.out (i := 3) (by omega); simpa using q
  have d1 : W0.cell? ⟨xb, xo + 6 + 1, none⟩ = some (.int .i64 (v 3).v.2) := by have q := PairE.c1 HU.out (i := 3) (by omega); simpa using q
  have KW := hik ((Chg.refl nob W0).drew1)
  have SA := hik (fun (WW : World) (kW : Chg nob W0 WW) => (show (WW.cell? ⟨xb, xo, none⟩ = some (.int .i64 (v 0).v.1) ∧ WW.cell? ⟨xb, xo + 1, none⟩ = some (.int .i64 (v 0).v.2) ∧ WW.cell? ⟨xb, xo + 2, none⟩ = some (.int .i64 (v 1).v.1) ∧ WW.cell? ⟨xb, xo + 2 + 1, none⟩ = some (.int .i64 (v 1).v.2) ∧ WW.cell? ⟨xb, xo + 4, none⟩ = some (.int .i64 (v 2).v.1) ∧ WW.cell? ⟨xb, xo + 4 + 1, none⟩ = some (.int .i64 (v 2).v.2) ∧ WW.cell? ⟨xb, xo + 6, none⟩ = some (.int .i64 (v 3).v.1) ∧ WW.cell? ⟨xb, xo + 6 + 1, none⟩ = some (.int .i64 (v 3).v.2)) from ⟨kW.see a0, kW.see a1, kW.see b0, kW.see b1, kW.see c0, kW.see c1, kW.see d0, kW.see d1⟩))
  refine wp_regionL (L := 15) (S := fun w' => w'.cell? ⟨xb, xo, none⟩ = some (.int .i64 (v 0).v.1) ∧ w'.cell? ⟨xb, xo + 1, none⟩ = some (.int .i64 (v 0).v.2) ∧ w'.cell? ⟨xb, xo + 2, none⟩ = some (.int .i64 (v 1).v.1) ∧ w'.cell? ⟨xb, xo + 2 + 1, none⟩ = some (.int .i64 (v 1).v.2) ∧ w'.cell? ⟨xb, xo + 4, none⟩ = some (.int .i64 (v 2).v.1) ∧ w'.cell? ⟨xb, xo + 4 + 1, none⟩ = some (.int .i64 (v 2).v.2) ∧ w'.cell? ⟨xb, xo + 6, none⟩ = some (.int .i64 (v 3).v.1) ∧ w'.cell? ⟨xb, xo + 6 + 1, none⟩ = some (.int .i64 (v 3).v.2)) (by kernel_rfl) ⟨a0, a1, b0, b1, c0, c1, d0, d1⟩ (fun hHeld => ?_)
  refine wpAnyL_take (i := 0) (v := ?_) rfl (by kernel_rfl) (by kernel_rfl) (by kernel_rfl) (fun _ _ _ h => h) (by rfl) (by kernel_rfl) (by kernel_rfl) (Or.inl ⟨by rfl, ?_⟩) (by assumption) ?_
  rotate_left 1
  · (intro w' hSw; (try dsimp only at hSw); go_simp; try with_reducible rfl)
  try simp only [Act.put, List.setIfInBounds_toArray, List.set_cons_zero, List.set_cons_succ, List.getElem_toArray, List.getElem_cons_zero, List.getElem_cons_succ]
  refine wpAnyL_take (i := 1) (v := ?_) rfl (by kernel_rfl) (by kernel_rfl) (by kernel_rfl) (fun _ _ _ h => h) (by rfl) (by kernel_rfl) (by kernel_rfl) (Or.inl ⟨by rfl, ?_⟩) (by assumption) ?_
  rotate_left 1
  · (intro w' hSw; (try dsimp only at hSw); go_simp; try with_reducible rfl)
  try simp only [Act.put, List.setIfInBounds_toArray, List.set_cons_zero, List.set_cons_succ, List.getElem_toArray, List.getElem_cons_zero, List.getElem_cons_succ]
  refine wpAnyL_take (i := 2) (v := ?_) rfl (by kernel_rfl) (by kernel_rfl) (by kernel_rfl) (fun _ _ _ h => h) (by rfl) (by kernel_rfl) (by kernel_rfl) (Or.inl ⟨by rfl, ?_⟩) (by assumption) ?_
  rotate_left 1
  · (intro w' hSw; (try dsimp only at hSw); go_simp; try with_reducible rfl)
  try simp only [Act.put, List.setIfInBounds_toArray, List.set_cons_zero, List.set_cons_succ, List.getElem_toArray, List.getElem_cons_zero, List.getElem_cons_succ]
  refine wpAnyL_take (i := 3) (v := ?_) rfl (by kernel_rfl) (by kernel_rfl) (by kernel_rfl) (fun _ _ _ h => h) (by rfl) (by kernel_rfl) (by kernel_rfl) (Or.inl ⟨by rfl, ?_⟩) (by assumption) ?_
  rotate_left 1
  · (intro w' hSw; (try dsimp only at hSw); go_simp; try with_reducible rfl)
  try simp only [Act.put, List.setIfInBounds_toArray, List.set_cons_zero, List.set_cons_succ, List.getElem_toArray, List.getElem_cons_zero, List.getElem_cons_succ]
  refine wpAnyL_take (i := 4) (v := ?_) rfl (by kernel_rfl) (by kernel_rfl) (by kernel_rfl) (fun _ _ _ h => h) (by rfl) (by kernel_rfl) (by kernel_rfl) (Or.inl ⟨by rfl, ?_⟩) (by assumption) ?_
  rotate_left 1
  · (intro w' hSw; (try dsimp only at hSw); go_simp; try with_reducible rfl)
  try simp only [Act.put, List.setIfInBounds_toArray, List.set_cons_zero, List.set_cons_succ, List.getElem_toArray, List.getElem_cons_zero, List.getElem_cons_succ]
  refine wpAnyL_take (i := 5) (v := ?_) rfl (by kernel_rfl) (by kernel_rfl) (by kernel_rfl) (fun _ _ _ h => h) (by rfl) (by kernel_rfl) (by kernel_rfl) (Or.inl ⟨by rfl, ?_⟩) (by assumption) ?_
  rotate_left 1
  · (intro w' hSw; (try dsimp only at hSw); go_simp; try with_reducible rfl)
  try simp only [Act.put, List.setIfInBounds_toArray, List.set_cons_zero, List.set_cons_succ, List.getElem_toArray, List.getElem_cons_zero, List.getElem_cons_succ]
  refine wpAnyL_take (i := 6) (v := ?_) rfl (by kernel_rfl) (by kernel_rfl) (by kernel_rfl) (fun _ _ _ h => h) (by rfl) (by kernel_rfl) (by kernel_rfl) (Or.inl ⟨by rfl, ?_⟩) (by assumption) ?_
  rotate_left 1
  · (intro w' hSw; (try dsimp only at hSw); go_simp; try with_reducible rfl)
  try simp only [Act.put, List.setIfInBounds_toArray, List.set_cons_zero, List.set_cons_succ, List.getElem_toArray, List.getElem_cons_zero, List.getElem_cons_succ]
  refine wpAnyL_take (i := 7) (v := ?_) rfl (by kernel_rfl) (by kernel_rfl) (by kernel_rfl) (fun _ _ _ h => h) (by rfl) (by kernel_rfl) (by kernel_rfl) (Or.inl ⟨by rfl, ?_⟩) (by assumption) ?_
  rotate_left 1
  · (intro w' hSw; (try dsimp only at hSw); go_simp; try with_reducible rfl)
  try simp only [Act.put, List.setIfInBounds_toArray, List.set_cons_zero, List.set_cons_succ, List.getElem_toArray, List.getElem_cons_zero, List.getElem_cons_succ]
  refine wpAnyL_take (i := 8) (v := ?_) rfl (by kernel_rfl) (by kernel_rfl) (by kernel_rfl) (fun _ _ _ h => h) (by rfl) (by kernel_rfl) (by kernel_rfl) (Or.inl ⟨by rfl, ?_⟩) (by assumption) ?_
  rotate_left 1
  · (intro w' hSw; (try dsimp only at hSw); go_simp; try with_reducible rfl)
  try simp only [Act.put, List.setIfInBounds_toArray, List.set_cons_zero, List.set_cons_succ, List.getElem_toArray, List.getElem_cons_zero, List.getElem_cons_succ]
  refine wpAnyL_take (i := 10) (v := ?_) rfl (by kernel_rfl) (by kernel_rfl) (by kernel_rfl) (fun _ _ _ h => h) (by rfl) (by kernel_rfl) (by kernel_rfl) (Or.inl ⟨by rfl, ?_⟩) (by assumption) ?_
  rotate_left 1
  · (intro w' hSw; (try dsimp only at hSw); go_simp; try with_reducible rfl)
  try simp only [Act.put, List.setIfInBounds_toArray, List.set_cons_zero, List.set_cons_succ, List.getElem_toArray, List.getElem_cons_zero, List.getElem_cons_succ]
  refine wpAnyL_take (i := 11) (v := ?_) rfl (by kernel_rfl) (by kernel_rfl) (by kernel_rfl) (fun _ _ _ h => h) (by rfl) (by kernel_rfl) (by kernel_rfl) (Or.inl ⟨by rfl, ?_⟩) (by assumption) ?_
  rotate_left 1
  · (intro w' hSw; (try dsimp only at hSw); go_simp; try with_reducible rfl)
  try simp only [Act.put, List.setIfInBounds_toArray, List.set_cons_zero, List.set_cons_succ, List.getElem_toArray, List.getElem_cons_zero, List.getElem_cons_succ]
  refine wpAnyL_take (i := 12) (v := ?_) rfl (by kernel_rfl) (by kernel_rfl) (by kernel_rfl) (fun _ _ _ h => h) (by rfl) (by kernel_rfl) (by kernel_rfl) (Or.inl ⟨by rfl, ?_⟩) (by assumption) ?_
  rotate_left 1
  · (intro w' hSw; (try dsimp only at hSw); go_simp; try with_reducible rfl)
  try simp only [Act.put, List.setIfInBounds_toArray, List.set_cons_zero, List.set_cons_succ, List.getElem_toArray, List.getElem_cons_zero, List.getElem_cons_succ]
  refine wpAnyL_ready (rs := [9]) (by kernel_rfl) (by simp) ?_
  refine AllReadyL.cons rfl (fun K hK => ?_) AllReadyL.nil
  refine stepL_callN 108 #[.tmp 8, .tmp 11] #[31, 31] (by rfl) (by rfl) #[.agg #[.int .i64 (v 1).v.1, .int .i64 (v 1).v.2], .agg #[.int .i64 (v 2).v.1, .int .i64 (v 2).v.2]] (by simp only [List.map_toArray, List.map_cons, List.map_nil] <;> rfl) (run_go Tryz.func108 (by kernel_rfl) (by kernel_rfl) _ _) (ml_el (v 1) (v 2) _) ?_
  rintro e U1 ⟨he, kk⟩
  refine ⟨_, he, ?_⟩
  replace KW := hik (KW.out.trans kk)
  refine hK.out _ _ (SA.out _ KW.out) (fun hHeld => ?_)
  clear hK K
  try simp only [Act.put, List.setIfInBounds_toArray, List.set_cons_zero, List.set_cons_succ, List.getElem_toArray, List.getElem_cons_zero, List.getElem_cons_succ]
  clear he kk
  refine wpAnyL_ready (rs := [13]) (by kernel_rfl) (by simp) ?_
  refine AllReadyL.cons rfl (fun K hK => ?_) AllReadyL.nil
  refine stepL_callN 109 #[.tmp 12, .tmp 15] #[31, 31] (by rfl) (by rfl) #[.agg #[.int .i64 (El.ml (v 1) (v 2)).v.1, .int .i64 (El.ml (v 1) (v 2)).v.2], .agg #[.int .i64 (v 3).v.1, .int .i64 (v 3).v.2]] (by simp only [List.map_toArray, List.map_cons, List.map_nil] <;> rfl) (run_go Tryz.func109 (by kernel_rfl) (by kernel_rfl) _ _) (sb_el (El.ml (v 1) (v 2)) (v 3) _) ?_
  rintro e U2 ⟨he, kk⟩
  refine ⟨_, he, ?_⟩
  replace KW := hik (KW.out.trans kk)
  refine hK.out _ _ (SA.out _ KW.out) (fun hHeld => ?_)
  clear hK K
  try simp only [Act.put, List.setIfInBounds_toArray, List.set_cons_zero, List.set_cons_succ, List.getElem_toArray, List.getElem_cons_zero, List.getElem_cons_succ]
  clear he kk
  refine wpAnyL_ready (rs := [14]) (by kernel_rfl) (by simp) ?_
  refine AllReadyL.cons rfl (fun K hK => ?_) AllReadyL.nil
  refine stepL_callN 108 #[.tmp 5, .tmp 16] #[31, 31] (by rfl) (by rfl) #[.agg #[.int .i64 (v 0).v.1, .int .i64 (v 0).v.2], .agg #[.int .i64 (El.sb (El.ml (v 1) (v 2)) (v 3)).v.1, .int .i64 (El.sb (El.ml (v 1) (v 2)) (v 3)).v.2]] (by simp only [List.map_toArray, List.map_cons, List.map_nil] <;> rfl) (run_go Tryz.func108 (by kernel_rfl) (by kernel_rfl) _ _) (ml_el (v 0) (El.sb (El.ml (v 1) (v 2)) (v 3)) _) ?_
  rintro e U3 ⟨he, kk⟩
  refine ⟨_, he, ?_⟩
  replace KW := hik (KW.out.trans kk)
  refine hK.out _ _ (SA.out _ KW.out) (fun hHeld => ?_)
  clear hK K
  try simp only [Act.put, List.setIfInBounds_toArray, List.set_cons_zero, List.set_cons_succ, List.getElem_toArray, List.getElem_cons_zero, List.getElem_cons_succ]
  clear he kk
  refine wpAnyL_ready (rs := [15]) (by kernel_rfl) (by simp) ?_
  refine AllReadyL.last rfl (by kernel_rfl) (fun K hK => ?_)
  have EN := hik (EZ.out.keep KW.out)
  have g0 : U3.cell? ⟨w.heap.size, 0, none⟩ = some (.int .i64 0) := EN.out.c0
  have g1 : U3.cell? ⟨w.heap.size, 1, none⟩ = some (.int .i64 0) := EN.out.c1
  have f0 := EN.out.fz 0
  have f1 := EN.out.fz 1
  have ln : w.heap.size < U3.heap.size := EN.out.lt
  simp only [List.getElem_toArray, List.getElem_cons_zero, List.getElem_cons_succ]
  go_simp
  refine hK.out _ _ ?_
  clear hK K
  try simp only [Act.put, List.setIfInBounds_toArray, List.set_cons_zero, List.set_cons_succ, List.getElem_toArray, List.getElem_cons_zero, List.getElem_cons_succ]
  clear g0 g1 f0 f1 ln
  refine wpAnyL_done (by kernel_rfl) ?_ _
  have u0 := (EN.out.set (El.ml (v 0) (El.sb (El.ml (v 1) (v 2)) (v 3)))).c0
  have u1 := (EN.out.set (El.ml (v 0) (El.sb (El.ml (v 1) (v 2)) (v 3)))).c1
  have GE := hik (chg2_at (G0.out.trans KW.out) w.heap.size (fun l => absurd l (by omega)) 0 1 (.int .i64 (El.ml (v 0) (El.sb (El.ml (v 1) (v 2)) (v 3))).v.1) (.int .i64 (El.ml (v 0) (El.sb (El.ml (v 1) (v 2)) (v 3))).v.2))
  go_wp2
  exact bodyPost_ret (v := .agg #[.int .i64 (El.ml (v 0) (El.sb (El.ml (v 1) (v 2)) (v 3))).v.1, .int .i64 (El.ml (v 0) (El.sb (El.ml (v 1) (v 2)) (v 3))).v.2]) (by simp [results, Tryz.results103, go_sem, u0, u1]) rfl ⟨rfl, GE.out⟩

/-- What a kind's function answers. -/
theorem KD.val {k : Nat} {t d : Int} {f : Nat} (h : KD k t d f) (c : Option Addr) (n cap : Nat) (hn : n = 2 * k) (v : Nat → El) (w : World) (hp : Hid (PairE w c n v)) : Calls Tryz.prog f #[.slice c n cap] w fun e w' => e = .returned (.agg #[.int .i64 (cmb k v).v.1, .int .i64 (cmb k v).v.2]) ∧ Chg nob w w' := by
  subst hn
  rcases h with ⟨rfl, _, _, rfl⟩ | ⟨rfl, _, _, rfl⟩
  · exact prodV_any c cap v w hp
  · exact gateV_any c cap v w hp

end Go.Proofs.YtppiilbcnkphbaaGreat

namespace Go.Proofs.YtppiilbcnkphbaaGreat
open Go.ChangeShapes Go.WideShapes Go.ChangeAt Go.RowKit
set_option linter.unusedVariables false
set_option maxRecDepth 100000
set_option linter.unusedSimpArgs false

/-- DegreeOf's answers. -/
def dgv (K : Int) : Int := if kdb K = true then K + 1 else 0
def dgc (K : Int) : Int := if kdb K = true then 0 else 4


end Go.Proofs.YtppiilbcnkphbaaGreat

namespace Go.Proofs.YtppiilbcnkphbaaGreat
open Go.ChangeShapes Go.WideShapes Go.ChangeAt Go.RowKit
set_option linter.unusedVariables false
set_option maxRecDepth 100000
set_option linter.unusedSimpArgs false

set_option maxHeartbeats 2000000 in
theorem degX_any (K : Int) (w : World) : Calls Tryz.prog 89 #[.int .i64 K] w fun e w' => e = .returned (.tuple #[.int .i64 (dgv K), .int .i64 (dgc K)]) ∧ Chg nob w w' := by
  cases hk : kdb K
  · have HV := hik (show dgv K = 0 by unfold dgv; rw [hk]; rfl)
    have HC := hik (show dgc K = 4 by unfold dgc; rw [hk]; rfl)
    rw [HV.out, HC.out]
    go_enter Tryz.func89, Tryz.ntmps89
    go_wp2_with fail
    refine (co_no K hk _).mono ?_
    rintro e W1 ⟨rfl, k1⟩
    have G1 := hik (k1.alloc (.cells #[.int .i64 0, .int .i64 0, .nilFunc] 138))
    clear k1
    go_wp2
    go_ret2
    exact ⟨rfl, G1.out⟩
  · obtain ⟨k, hKk, hk12⟩ := kdb_nat hk
    subst hKk
    obtain ⟨t, d, ff, hKD, ht, hd⟩ := KD.ex hk12
    have HV := hik (show dgv (k : Int) = d by unfold dgv; rw [if_pos hk, hd])
    have HC := hik (show dgc (k : Int) = 0 by unfold dgc; rw [if_pos hk])
    rw [HV.out, HC.out]
    have HKD := hik hKD
    clear ht hd hKD hk hk12 HV HC
    go_enter Tryz.func89, Tryz.ntmps89
    go_wp2_with fail
    refine (co_ok HKD.out _).mono ?_
    rintro e W1 ⟨rfl, k1⟩
    have G1 := hik (k1.alloc (.cells #[.int .i64 t, .int .i64 d, .func (.func ff) #[] #[]] 138))
    clear k1
    go_wp2
    go_ret2
    exact ⟨rfl, G1.out⟩


end Go.Proofs.YtppiilbcnkphbaaGreat
