/- The laws' helpers on entries and systems: copies, sizes, likenesses, marks: contracts. Conditions: rows that can be read, lengths of at most 2 to the 40. -/
import Derived.Test.YtgimmmmiodlepaaDoorGrdT
import Derived.Deep.RegionHeld3
import Derived.Deep.DeepCutAuto
namespace Go.Proofs.YtgimmmmiodlepaaDoor
open Go.ChangeShapes Go.WideShapes Go.ChangeAt Go.RowKit
set_option linter.unusedVariables false
set_option maxRecDepth 100000
set_option linter.unusedSimpArgs false

/-- make([]T, n), T of three cells. -/
theorem wpList_make_trip {P : Program} (w : World) {ops : Array Oper} {rest : List Oper} {o : Oper} {a : Act} {Q : Exit → Act → World → Prop}
    (hg : o.guard = none) (l c : Operand) (t : TypeId) (hop : o.op = Op.makeSlice t l c) (e : TypeId) (i : TypeInfo)
    (h1 : P.underlying t = some (.slice e)) (h2 : P.info? e = some i) (h3 : i.zero = some (.agg #[.int .i64 0, .int .i64 0, .int .i64 0])) (h4 : i.size = 3)
    (kl kc : IntKind) (L C : Int) (n : Nat) (hl : a.eval l = .int kl L) (hc : a.eval c = .int kc C) (hL : L = (n : Int)) (hC : C = (n : Int)) (b2 : i.bytes * n ≤ 281474976710656) (b3 : n ≤ 9223372036854775807)
    (hK : ∀ w', w'.rowIs w.heap.size e (n * 3) (tf (fun _ => (0, 0, 0))) → Chg nob w w' → wpList P ops Q rest (a.put o.dst (.slice (some ⟨w.heap.size, 0, none⟩) n n)) w') :
    wpList P ops Q (o :: rest) a w := by
  refine wpList_plain hg fun K hK' => ?_
  have hb' : (i.bytes : Int) * (n : Int) ≤ 281474976710656 := by
    have h : ((i.bytes * n : Nat) : Int) ≤ 281474976710656 := by omega
    rwa [Int.natCast_mul] at h
  have hrun := run_make (P := P) w t e i _ h1 h2 h3 kl kc n n (by omega) (Int.le_refl _) hb' (by omega)
  simp only [Int.toNat_natCast, h4] at hrun
  subst hL
  subst hC
  unfold Oper.wp
  simp [execOp, hop, hl, hc, hrun, Result.andThen]
  refine hK' _ _ (hK _ ⟨_, Go.Deep.blk_alloc_new _ _, size_madeCells _ _, fun j hj => ?_⟩ ((Chg.refl _ _).alloc _))
  have h2 : j % 3 < 3 := Nat.mod_lt _ (by omega)
  rcases (by omega : j % 3 = 0 ∨ j % 3 = 1 ∨ j % 3 = 2) with q | q | q <;> simp [madeCells, hj, Value.cells, q, tf]

/-- A row of which the first k entries are x's, the others y's. -/
def cpT (X Y : Nat → En) (k : Nat) (j : Nat) : Value := if j < k * 3 then tf X j else tf Y j
theorem cpT_set {W : World} {b n : Nat} {t : TypeId} {X Y : Nat → En} {k : Nat} (h : W.rowIs b t (n * 3) (cpT X Y k)) (a c d : Int) (e : X k = (a, c, d)) : (((W.setCell ⟨b, k * 3, none⟩ (.int .i64 a)).setCell ⟨b, k * 3 + 1, none⟩ (.int .i64 c)).setCell ⟨b, k * 3 + 2, none⟩ (.int .i64 d)).rowIs b t (n * 3) (cpT X Y (k + 1)) :=
  (((h.set (k * 3) _).set (k * 3 + 1) _).set (k * 3 + 2) _).congr (fun i _ => by
    by_cases e0 : i = k * 3 + 2
    · subst e0; simp [cpT, tf_2, show k * 3 + 2 < (k + 1) * 3 by omega, e]
    · by_cases e1 : i = k * 3 + 1
      · subst e1; simp [cpT, tf_1, show k * 3 + 1 < (k + 1) * 3 by omega, e]
      · by_cases e2 : i = k * 3
        · subst e2; simp [cpT, tf_0, show k * 3 < (k + 1) * 3 by omega, e]
        · by_cases e3 : i < k * 3
          · simp [cpT, e0, e1, e2, e3, show i < (k + 1) * 3 by omega]
          · simp [cpT, e0, e1, e2, e3, show ¬ i < (k + 1) * 3 by omega])

end Go.Proofs.YtgimmmmiodlepaaDoor
