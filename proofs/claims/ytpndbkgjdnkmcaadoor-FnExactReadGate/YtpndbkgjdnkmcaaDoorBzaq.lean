/- Several texts in one: Entries in memory, three cells each; maps from places to numbers: keys, what they hold, how they are cleared. · The program's map of a matrix: entries taken into it; entries within a matrix: contracts. -/
import Derived.Test.YtpndbkgjdnkmcaaDoorBzac
import Derived.Test.YtpndbkgjdnkmcaaDoorBzap
import Derived.Test.YtpndbkgjdnkmcaaDoorProg
import Derived.Maps.OwnSet
import Derived.Maps.RangeWalk
import Derived.DeepKeys4
import Derived.WalkSpells
import Derived.Test.YtpndbkgjdnkmcaaDoorBzad
import Derived.Test.YtpndbkgjdnkmcaaDoorBzam
import Derived.WalkKit
namespace Go.Proofs.YtpndbkgjdnkmcaaDoor
open Go.RowKit Go.Maps
set_option linter.unusedVariables false
set_option linter.unusedSimpArgs false
set_option maxRecDepth 100000

/-- n entries that can be read behind c. -/
def EntV (w : World) (c : Option Addr) (n : Nat) (X : Nat → En) : Prop :=
  ∀ i, i < n → ∃ xb xo : Nat, c = some ⟨xb, xo, none⟩ ∧ xb < w.heap.size ∧ w.cell? ⟨xb, xo + i * 3, none⟩ = some (.int .i64 (X i).1) ∧ w.cell? ⟨xb, xo + i * 3 + 1, none⟩ = some (.int .i64 (X i).2.1) ∧ w.cell? ⟨xb, xo + i * 3 + 2, none⟩ = some (.int .i64 (X i).2.2)
theorem EntV.chg {P : Nat → Prop} {w w' : World} {c : Option Addr} {n : Nat} {X : Nat → En} (h : EntV w c n X) (k : Chg P w w') (hp : ∀ xb xo, c = some ⟨xb, xo, none⟩ → 0 < n → xb < w.heap.size → ¬ P xb) : EntV w' c n X := by
  intro i hi
  obtain ⟨xb, xo, e, l, h1, h2, h3⟩ := h i hi
  have np := hp xb xo e (by omega) l
  exact ⟨xb, xo, e, Nat.lt_of_lt_of_le l k.size, by rw [k.cell l np, h1], by rw [k.cell l np, h2], by rw [k.cell l np, h3]⟩
theorem EntV.keep {w w' : World} {c : Option Addr} {n : Nat} {X : Nat → En} (h : EntV w c n X) (k : Chg nob w w') : EntV w' c n X := h.chg k (fun _ _ _ _ _ x => x)
theorem EntV.congr {w : World} {c : Option Addr} {n : Nat} {X Y : Nat → En} (h : EntV w c n X) (e : ∀ i, i < n → X i = Y i) : EntV w c n Y := by
  intro i hi
  rw [← e i hi]
  exact h i hi
theorem EntV.low {w : World} {c : Option Addr} {n m : Nat} {X : Nat → En} (h : EntV w c n X) (hm : m ≤ n) : EntV w c m X := fun i hi => h i (by omega)
/-- Entries, cell by cell. -/
def tf (X : Nat → En) (i : Nat) : Value := .int .i64 (if i % 3 = 0 then (X (i / 3)).1 else if i % 3 = 1 then (X (i / 3)).2.1 else (X (i / 3)).2.2)
theorem tf_0 (X : Nat → En) (k : Nat) : tf X (k * 3) = .int .i64 (X k).1 := by
  unfold tf; rw [if_pos (by omega), show k * 3 / 3 = k by omega]
theorem tf_1 (X : Nat → En) (k : Nat) : tf X (k * 3 + 1) = .int .i64 (X k).2.1 := by
  unfold tf; rw [if_neg (by omega), if_pos (by omega), show (k * 3 + 1) / 3 = k by omega]
theorem tf_2 (X : Nat → En) (k : Nat) : tf X (k * 3 + 2) = .int .i64 (X k).2.2 := by
  unfold tf; rw [if_neg (by omega), if_neg (by omega), show (k * 3 + 2) / 3 = k by omega]
theorem EntV.of_row {w : World} {b : Nat} {t : TypeId} {n N : Nat} {X : Nat → En} {h : Nat → Value} (r : w.rowIs b t N h) (hm : n * 3 ≤ N) (e : ∀ i, i < n * 3 → h i = tf X i) : EntV w (some ⟨b, 0, none⟩) n X := by
  intro i hi
  refine ⟨b, 0, rfl, r.lt, ?_, ?_, ?_⟩
  · rw [Nat.zero_add, r.cell (by omega), e _ (by omega), tf_0]
  · rw [Nat.zero_add, r.cell (by omega), e _ (by omega), tf_1]
  · rw [Nat.zero_add, r.cell (by omega), e _ (by omega), tf_2]

/-- A place of a matrix as a key. -/
def kyE (r c : Int) : Lit := .string (keyBytes [.int .i64 r, .int .i64 c])
theorem laidE : laidOutB Tryd.prog = true := by kernel_rfl
theorem typesE : ∃ d, Tryd.prog.types.size = d + 1 := ⟨233 - 101, by kernel_rfl⟩
theorem cellsI3 : Tryd.prog.cellsOf 3 = 1 := by kernel_rfl
/-- What a map holds, place by place. -/
structure Fmd (D : DataW Unit) (m : Int → Int → Option Int) : Prop where
  som : ∀ r c v, (Lit.int .i64 r).wf = true → (Lit.int .i64 c).wf = true → m r c = some v → ∀ z, D.atKey (kyE r c) z = .lit (.int .i64 v)
  non : ∀ r c, (Lit.int .i64 r).wf = true → (Lit.int .i64 c).wf = true → m r c = none → has D (kyE r c) = false
theorem kyE_key (r c : Int) : WideAt.IsKeyLit (kyE r c) := by unfold kyE WideAt.IsKeyLit; trivial
theorem Fmd.empty (X : Nat → En) : Fmd (.map []) (fmE X 0) := ⟨fun _ _ _ _ _ h => (by cases h), fun _ _ _ _ _ => rfl⟩
end Go.Proofs.YtpndbkgjdnkmcaaDoor

namespace Go.Proofs.YtpndbkgjdnkmcaaDoor
open Go.ChangeShapes Go.WideShapes Go.ChangeAt Go.RowKit
open Go.Maps (Keyed IsMap Tidy)
set_option linter.unusedVariables false
set_option maxRecDepth 100000
set_option linter.unusedSimpArgs false

end Go.Proofs.YtpndbkgjdnkmcaaDoor
