/- Several texts in one: What the model's looks at kinds of sums, its combinations and its sums answer: contracts. Conditions: elements of the greater field, lists that can be read. · What the program's kinds of sums answer: combinationOf, productValue, gateValue: contracts. Conditions: elements of the greater field, lists that can be read. -/
import Derived.Test.YtfbjlohnbpienaaGreatBzav
import Derived.Test.YtfbjlohnbpienaaGreatBzai
import Derived.Test.YtfbjlohnbpienaaGreatBzas
import Derived.Test.YtfbjlohnbpienaaGreatBzah
import Derived.Deep.DeepCutAuto
import Derived.Test.YtfbjlohnbpienaaGreatBzab
import Derived.Laws.EntriesVeiled
namespace Go.Proofs.YtfbjlohnbpienaaGreat
open Go.ChangeShapes Go.WideShapes Go.ChangeAt Go.RowKit
set_option linter.unusedVariables false
set_option maxRecDepth 100000
set_option linter.unusedSimpArgs false

/-- A kind of sums. -/
def kdb (k : Int) : Bool := decide (k = 1 ∨ k = 2)
theorem kdb_nat {k : Int} (h : kdb k = true) : ∃ m : Nat, k = (m : Int) ∧ (m = 1 ∨ m = 2) := by
  unfold kdb at h
  rcases of_decide_eq_true h with rfl | rfl
  · exact ⟨1, rfl, .inl rfl⟩
  · exact ⟨2, rfl, .inr rfl⟩


end Go.Proofs.YtfbjlohnbpienaaGreat

namespace Go.Proofs.YtfbjlohnbpienaaGreat
open Go.ChangeShapes Go.WideShapes Go.ChangeAt Go.RowKit
set_option linter.unusedVariables false
set_option maxRecDepth 100000
set_option linter.unusedSimpArgs false

/-- Three values. -/
def pv3 (u v x : Value) (i : Nat) : Value := if i = 0 then u else if i = 1 then v else x
theorem row3_new (W : World) (u v x : Value) (t : TypeId) : (W.alloc (.cells #[u, v, x] t)).rowIs W.heap.size t 3 (pv3 u v x) :=
  World.rowIs_alloc W #[u, v, x] t (pv3 u v x) (fun i hi => by
    match i, hi with
    | 0, _ => rfl
    | 1, _ => rfl
    | 2, _ => rfl)
theorem row3_set {W : World} {g : Nat} {ty : TypeId} {f : Nat → Value} (h : W.rowIs g ty 3 f) (u v x : Value) : (((W.setCell ⟨g, 0, none⟩ u).setCell ⟨g, 1, none⟩ v).setCell ⟨g, 2, none⟩ x).rowIs g ty 3 (pv3 u v x) :=
  (((h.set 0 u).set 1 v).set 2 x).congr (fun i hi => by
    match i, hi with
    | 0, _ => rfl
    | 1, _ => rfl
    | 2, _ => rfl)
/-- A combination's block. -/
def CmB (W : World) (b : Nat) (t d : Int) (F : Value) : Prop := W.rowIs b 139 3 (pv3 (.int .i64 t) (.int .i64 d) F)
section
variable {W W' : World} {b : Nat} {t d : Int} {F : Value}
theorem CmB.new (W : World) (t d : Int) (F : Value) : CmB (W.alloc (.cells #[.int .i64 t, .int .i64 d, F] 139)) W.heap.size t d F := row3_new W _ _ _ _
theorem CmB.keep (h : CmB W b t d F) (k : Chg nob W W') : CmB W' b t d F := rowIs_keep h k
theorem CmB.chg {P : Nat → Prop} (h : CmB W b t d F) (k : Chg P W W') (hp : ¬ P b) : CmB W' b t d F := rowIs_chg h k hp
theorem CmB.lt (h : CmB W b t d F) : b < W.heap.size := World.rowIs.lt h
theorem CmB.c0 (h : CmB W b t d F) : W.cell? ⟨b, 0, none⟩ = some (.int .i64 t) := World.rowIs.cell h (by omega)
theorem CmB.c1 (h : CmB W b t d F) : W.cell? ⟨b, 1, none⟩ = some (.int .i64 d) := World.rowIs.cell h (by omega)
theorem CmB.c2 (h : CmB W b t d F) : W.cell? ⟨b, 2, none⟩ = some F := World.rowIs.cell h (by omega)
theorem CmB.fz (h : CmB W b t d F) (o : Nat) : W.frozen? ⟨b, o, none⟩ = false := World.rowIs.frozen h o
theorem CmB.set (h : CmB W b t d F) (t' d' : Int) (F' : Value) : CmB (((W.setCell ⟨b, 0, none⟩ (.int .i64 t')).setCell ⟨b, 1, none⟩ (.int .i64 d')).setCell ⟨b, 2, none⟩ F') b t' d' F' := row3_set h _ _ _
end
/-- A kind, how many tables it has, its degree, the function that combines. -/
def KD (k : Nat) (t d : Int) (f : Nat) : Prop := (k = 1 ∧ t = 2 ∧ d = 2 ∧ f = 99) ∨ (k = 2 ∧ t = 4 ∧ d = 3 ∧ f = 100)
theorem KD.ex {k : Nat} (hk : k = 1 ∨ k = 2) : ∃ t d f, KD k t d f ∧ t = 2 * (k : Int) ∧ d = (k : Int) + 1 := by
  rcases hk with rfl | rfl
  · exact ⟨2, 2, _, .inl ⟨rfl, rfl, rfl, rfl⟩, rfl, rfl⟩
  · exact ⟨4, 3, _, .inr ⟨rfl, rfl, rfl, rfl⟩, rfl, rfl⟩
theorem KD.run {k : Nat} {t d : Int} {f : Nat} (h : KD k t d f) (args : Array Value) (w : World) : (callFunc f args).run Tryz.prog w = .ok (.enter f args) w := by
  rcases h with ⟨_, _, _, rfl⟩ | ⟨_, _, _, rfl⟩
  · exact run_go Tryz.func99 (by kernel_rfl) (by kernel_rfl) _ _
  · exact run_go Tryz.func100 (by kernel_rfl) (by kernel_rfl) _ _

set_option maxHeartbeats 1000000 in
theorem co_ok {k : Nat} {t d : Int} {f : Nat} (h : KD k t d f) (w : World) : Calls Tryz.prog 92 #[.int .i64 (k : Int)] w fun e w' => e = .returned (.tuple #[.agg #[.int .i64 t, .int .i64 d, .func (.func f) #[] #[]], .int .i64 0]) ∧ Chg nob w w' := by
  have E := hik (CmB.new w 0 0 .nilFunc)
  have G := hik ((Chg.refl nob w).alloc (.cells #[.int .i64 0, .int .i64 0, .nilFunc] 139))
  have f0 := E.out.fz 0
  have f1 := E.out.fz 1
  have f2 := E.out.fz 2
  rcases h with ⟨rfl, rfl, rfl, rfl⟩ | ⟨rfl, rfl, rfl, rfl⟩
  · go_enter Tryz.func92, Tryz.ntmps92
    go_wp2
    have u := hik (E.out.set 2 2 (.func (.func 99) #[] #[]))
    have u0 := u.out.c0
    have u1 := u.out.c1
    have u2 := u.out.c2
    exact bodyPost_ret (v := .tuple #[.agg #[.int .i64 2, .int .i64 2, .func (.func 99) #[] #[]], .int .i64 0]) (by simp [results, Tryz.results92, go_sem, u0, u1, u2]) rfl ⟨rfl, (Chg.refl nob w).alloc _⟩
  · go_enter Tryz.func92, Tryz.ntmps92
    go_wp2
    have u := hik (E.out.set 4 3 (.func (.func 100) #[] #[]))
    have u0 := u.out.c0
    have u1 := u.out.c1
    have u2 := u.out.c2
    exact bodyPost_ret (v := .tuple #[.agg #[.int .i64 4, .int .i64 3, .func (.func 100) #[] #[]], .int .i64 0]) (by simp [results, Tryz.results92, go_sem, u0, u1, u2]) rfl ⟨rfl, (Chg.refl nob w).alloc _⟩

set_option maxHeartbeats 1000000 in
theorem co_no (K : Int) (h : kdb K = false) (w : World) : Calls Tryz.prog 92 #[.int .i64 K] w fun e w' => e = .returned (.tuple #[.agg #[.int .i64 0, .int .i64 0, .nilFunc], .int .i64 4]) ∧ Chg nob w w' := by
  have hn := of_decide_eq_false h
  have h1 : ¬ K = 1 := fun e => hn (.inl e)
  have h2 : ¬ K = 2 := fun e => hn (.inr e)
  have b1 : (K == 1) = false := by simpa using h1
  have b2 : (K == 2) = false := by simpa using h2
  have E := hik (CmB.new w 0 0 .nilFunc)
  have G := hik ((Chg.refl nob w).alloc (.cells #[.int .i64 0, .int .i64 0, .nilFunc] 139))
  have f0 := E.out.fz 0
  have f1 := E.out.fz 1
  have f2 := E.out.fz 2
  clear hn h h1 h2
  go_enter Tryz.func92, Tryz.ntmps92
  go_wp2
  have u := hik (E.out.set 0 0 .nilFunc)
  have u0 := u.out.c0
  have u1 := u.out.c1
  have u2 := u.out.c2
  exact bodyPost_ret (v := .tuple #[.agg #[.int .i64 0, .int .i64 0, .nilFunc], .int .i64 4]) (by simp [results, Tryz.results92, go_sem, u0, u1, u2]) rfl ⟨rfl, (Chg.refl nob w).alloc _⟩


end Go.Proofs.YtfbjlohnbpienaaGreat
