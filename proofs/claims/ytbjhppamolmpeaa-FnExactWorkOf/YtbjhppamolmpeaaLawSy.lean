/- The laws' helpers on systems: copies, sizes, likenesses: contracts. Conditions: rows that can be read, lengths of at most 2 to the 40. -/
import Derived.Test.YtbjhppamolmpeaaLawEn
import Derived.Test.YtbjhppamolmpeaaBzan
namespace Go.Proofs.Ytbjhppamolmpeaa
open Go.ChangeShapes Go.WideShapes Go.ChangeAt Go.RowKit
set_option linter.unusedVariables false
set_option maxRecDepth 100000
set_option linter.unusedSimpArgs false

theorem rowNn (W : World) (n : Nat) (a : Array Value) (t : TypeId) (h : a.size = n) : (W.alloc (.cells a t)).rowIs W.heap.size t n (fun i => a.getD i undef) := by
  subst h
  exact W.rowIs_alloc a t _ (fun i hi => by simp [hi])
theorem asz1 (w : World) (o : Obj) : (w.alloc o).heap.size = w.heap.size + 1 := by simp
/-- A copy of a system: three new rows. -/
def SyAns (w : World) (s : Sy) (e : Ending) (w' : World) : Prop :=
  ∃ bA bB bC : Nat, e = .returned (.agg #[.int .i64 s.r, .int .i64 s.q, .int .i64 s.p, .slice (some ⟨bA, 0, none⟩) s.nA s.nA, .slice (some ⟨bB, 0, none⟩) s.nB s.nB, .slice (some ⟨bC, 0, none⟩) s.nC s.nC]) ∧ w.heap.size ≤ bA ∧ bA < bB ∧ bB < bC ∧
    w'.rowIs bA 69 (s.nA * 3) (tf s.XA) ∧ w'.rowIs bB 69 (s.nB * 3) (tf s.XB) ∧ w'.rowIs bC 69 (s.nC * 3) (tf s.XC) ∧ Chg nob w w'

set_option maxHeartbeats 4000000 in
theorem toSystem_any (s : Sy) (a : SyA) (w : World) (h : Hid (SyV w s a)) (hs : s.small) :
    Calls Try.prog 20 #[.agg #[.int .i64 s.r, .int .i64 s.q, .int .i64 s.p, .slice a.cA s.nA a.pA, .slice a.cB s.nB a.pB, .slice a.cC s.nC a.pC]] w fun e w' => SyAns w s e w' := by
  have K0 := hik ((((Chg.refl nob w).alloc (.cells #[.int .i64 s.r, .int .i64 s.q, .int .i64 s.p, .slice a.cA s.nA a.pA, .slice a.cB s.nB a.pB, .slice a.cC s.nC a.pC] 41)).alloc (.cells #[.int .i64 0, .int .i64 0, .int .i64 0, .slice none 0 0, .slice none 0 0, .slice none 0 0] 46)).alloc (.cells #[.int .i64 s.r, .int .i64 s.q, .int .i64 s.p, .slice none 0 0, .slice none 0 0, .slice none 0 0] 46))
  have R0 := hik (rowIs_keep (rowNn w 6 #[.int .i64 s.r, .int .i64 s.q, .int .i64 s.p, .slice a.cA s.nA a.pA, .slice a.cB s.nB a.pB, .slice a.cC s.nC a.pC] 41 rfl) (((Chg.refl nob _).alloc (.cells #[.int .i64 0, .int .i64 0, .int .i64 0, .slice none 0 0, .slice none 0 0, .slice none 0 0] 46)).alloc (.cells #[.int .i64 s.r, .int .i64 s.q, .int .i64 s.p, .slice none 0 0, .slice none 0 0, .slice none 0 0] 46)))
  have R1 := hik (rowIs_keep (rowNn (w.alloc (.cells #[.int .i64 s.r, .int .i64 s.q, .int .i64 s.p, .slice a.cA s.nA a.pA, .slice a.cB s.nB a.pB, .slice a.cC s.nC a.pC] 41)) 6 #[.int .i64 0, .int .i64 0, .int .i64 0, .slice none 0 0, .slice none 0 0, .slice none 0 0] 46 rfl) ((Chg.refl nob _).alloc (.cells #[.int .i64 s.r, .int .i64 s.q, .int .i64 s.p, .slice none 0 0, .slice none 0 0, .slice none 0 0] 46)))
  have R2 := hik (rowNn ((w.alloc (.cells #[.int .i64 s.r, .int .i64 s.q, .int .i64 s.p, .slice a.cA s.nA a.pA, .slice a.cB s.nB a.pB, .slice a.cC s.nC a.pC] 41)).alloc (.cells #[.int .i64 0, .int .i64 0, .int .i64 0, .slice none 0 0, .slice none 0 0, .slice none 0 0] 46)) 6 #[.int .i64 s.r, .int .i64 s.q, .int .i64 s.p, .slice none 0 0, .slice none 0 0, .slice none 0 0] 46 rfl)
  rw [asz1] at R1
  rw [asz1, asz1] at R2
  go_enter Try.func20, Try.ntmps20
  go_wp2_with fail
  generalize hW : (((w.alloc (.cells #[.int .i64 s.r, .int .i64 s.q, .int .i64 s.p, .slice a.cA s.nA a.pA, .slice a.cB s.nB a.pB, .slice a.cC s.nC a.pC] 41)).alloc (.cells #[.int .i64 0, .int .i64 0, .int .i64 0, .slice none 0 0, .slice none 0 0, .slice none 0 0] 46)).alloc (.cells #[.int .i64 s.r, .int .i64 s.q, .int .i64 s.p, .slice none 0 0, .slice none 0 0, .slice none 0 0] 46)) = W0 at K0 R0 R1 R2 ⊢
  clear hW
  refine (toEntryS_any a.cA s.nA a.pA s.XA _ (hik (h.out.A.keep K0.out)) hs.1).mono ?_
  rintro e W1 ⟨rfl, r1, k1⟩
  have HBA := hik (show w.heap.size + 1 + 1 < W0.heap.size from R2.out.lt)
  have OA := hik r1
  replace R0 := hik (rowIs_keep R0.out k1)
  replace R1 := hik (rowIs_keep R1.out k1)
  replace R2 := hik (rowIs_keep R2.out k1)
  replace K0 := hik (K0.out.trans k1)
  clear k1 r1
  generalize W0.heap.size = bA at OA HBA  ⊢
  have y0 : _ = some (.slice none 0 0 : Value) := R2.out.cell (i := 3) (by omega)
  have v0 := R2.out.frozen 3
  have z2 := R2.out.lt
  replace R0 := hik (R0.out.setOther (a := ⟨w.heap.size + 1 + 1, 3, none⟩) (show w.heap.size ≠ w.heap.size + 1 + 1 by omega) (.slice (some ⟨bA, 0, none⟩) s.nA s.nA))
  replace R1 := hik (R1.out.setOther (a := ⟨w.heap.size + 1 + 1, 3, none⟩) (show w.heap.size + 1 ≠ w.heap.size + 1 + 1 by omega) (.slice (some ⟨bA, 0, none⟩) s.nA s.nA))
  replace R2 := hik ((R2.out.set 3 (.slice (some ⟨bA, 0, none⟩) s.nA s.nA)).congr (g := (fun i => (#[.int .i64 s.r, .int .i64 s.q, .int .i64 s.p, .slice (some ⟨bA, 0, none⟩) s.nA s.nA, .slice none 0 0, .slice none 0 0] : Array Value).getD i undef)) (fun i hi => by
    have hi' : i < 6 := hi
    rcases (show i = 0 ∨ i = 1 ∨ i = 2 ∨ i = 3 ∨ i = 4 ∨ i = 5 by omega) with rfl | rfl | rfl | rfl | rfl | rfl <;> rfl))
  replace OA := hik (OA.out.setOther (a := ⟨w.heap.size + 1 + 1, 3, none⟩) (show bA ≠ w.heap.size + 1 + 1 by have := HBA.out; omega) (.slice (some ⟨bA, 0, none⟩) s.nA s.nA))
  replace K0 := hik (K0.out.setCell (p := ⟨w.heap.size + 1 + 1, 3, none⟩) (fun l => absurd (show w.heap.size + 1 + 1 < w.heap.size from l) (by omega)) (.slice (some ⟨bA, 0, none⟩) s.nA s.nA))
  have SS := hik (show (W1.setCell ⟨w.heap.size + 1 + 1, 3, none⟩ (.slice (some ⟨bA, 0, none⟩) s.nA s.nA)).heap.size = W1.heap.size by simp)
  have x4 : _ = some (.slice a.cB s.nB a.pB : Value) := R0.out.cell (i := 4) (by omega)
  have z0 := R0.out.lt
  go_wp2_with fail
  generalize hW : W1.setCell ⟨w.heap.size + 1 + 1, 3, none⟩ (.slice (some ⟨bA, 0, none⟩) s.nA s.nA) = V1 at R0 R1 R2 K0 SS OA x4 z0 ⊢
  clear hW y0 v0 z2 x4 z0
  refine (toEntryS_any a.cB s.nB a.pB s.XB _ (hik (h.out.B.keep K0.out)) hs.2.1).mono ?_
  rintro e W2 ⟨rfl, r2, k2⟩
  have HBB := hik (show w.heap.size + 1 + 1 < V1.heap.size from R2.out.lt)
  have HLB := hik (show bA < V1.heap.size from OA.out.lt)
  have OB := hik r2
  replace OA := hik (rowIs_keep OA.out k2)
  replace R0 := hik (rowIs_keep R0.out k2)
  replace R1 := hik (rowIs_keep R1.out k2)
  replace R2 := hik (rowIs_keep R2.out k2)
  replace K0 := hik (K0.out.trans k2)
  clear k2 r2
  generalize V1.heap.size = bB at OB HBB HLB ⊢
  have y0 : _ = some (.slice none 0 0 : Value) := R2.out.cell (i := 4) (by omega)
  have v0 := R2.out.frozen 4
  have z2 := R2.out.lt
  replace R0 := hik (R0.out.setOther (a := ⟨w.heap.size + 1 + 1, 4, none⟩) (show w.heap.size ≠ w.heap.size + 1 + 1 by omega) (.slice (some ⟨bB, 0, none⟩) s.nB s.nB))
  replace R1 := hik (R1.out.setOther (a := ⟨w.heap.size + 1 + 1, 4, none⟩) (show w.heap.size + 1 ≠ w.heap.size + 1 + 1 by omega) (.slice (some ⟨bB, 0, none⟩) s.nB s.nB))
  replace R2 := hik ((R2.out.set 4 (.slice (some ⟨bB, 0, none⟩) s.nB s.nB)).congr (g := (fun i => (#[.int .i64 s.r, .int .i64 s.q, .int .i64 s.p, .slice (some ⟨bA, 0, none⟩) s.nA s.nA, .slice (some ⟨bB, 0, none⟩) s.nB s.nB, .slice none 0 0] : Array Value).getD i undef)) (fun i hi => by
    have hi' : i < 6 := hi
    rcases (show i = 0 ∨ i = 1 ∨ i = 2 ∨ i = 3 ∨ i = 4 ∨ i = 5 by omega) with rfl | rfl | rfl | rfl | rfl | rfl <;> rfl))
  replace OA := hik (OA.out.setOther (a := ⟨w.heap.size + 1 + 1, 4, none⟩) (show bA ≠ w.heap.size + 1 + 1 by have := HBA.out; omega) (.slice (some ⟨bB, 0, none⟩) s.nB s.nB))
  replace OB := hik (OB.out.setOther (a := ⟨w.heap.size + 1 + 1, 4, none⟩) (show bB ≠ w.heap.size + 1 + 1 by have := HBB.out; omega) (.slice (some ⟨bB, 0, none⟩) s.nB s.nB))
  replace K0 := hik (K0.out.setCell (p := ⟨w.heap.size + 1 + 1, 4, none⟩) (fun l => absurd (show w.heap.size + 1 + 1 < w.heap.size from l) (by omega)) (.slice (some ⟨bB, 0, none⟩) s.nB s.nB))
  have SS := hik (show (W2.setCell ⟨w.heap.size + 1 + 1, 4, none⟩ (.slice (some ⟨bB, 0, none⟩) s.nB s.nB)).heap.size = W2.heap.size by simp)
  have x5 : _ = some (.slice a.cC s.nC a.pC : Value) := R0.out.cell (i := 5) (by omega)
  have z0 := R0.out.lt
  go_wp2_with fail
  generalize hW : W2.setCell ⟨w.heap.size + 1 + 1, 4, none⟩ (.slice (some ⟨bB, 0, none⟩) s.nB s.nB) = V2 at R0 R1 R2 K0 SS OA OB x5 z0 ⊢
  clear hW y0 v0 z2 x5 z0
  refine (toEntryS_any a.cC s.nC a.pC s.XC _ (hik (h.out.C.keep K0.out)) hs.2.2).mono ?_
  rintro e W3 ⟨rfl, r3, k3⟩
  have HBC := hik (show w.heap.size + 1 + 1 < V2.heap.size from R2.out.lt)
  have HLC := hik (show bB < V2.heap.size from OB.out.lt)
  have OC := hik r3
  replace OA := hik (rowIs_keep OA.out k3)
  replace OB := hik (rowIs_keep OB.out k3)
  replace R0 := hik (rowIs_keep R0.out k3)
  replace R1 := hik (rowIs_keep R1.out k3)
  replace R2 := hik (rowIs_keep R2.out k3)
  replace K0 := hik (K0.out.trans k3)
  clear k3 r3
  generalize V2.heap.size = bC at OC HBC HLC ⊢
  have y0 : _ = some (.slice none 0 0 : Value) := R2.out.cell (i := 5) (by omega)
  have v0 := R2.out.frozen 5
  have z2 := R2.out.lt
  replace R0 := hik (R0.out.setOther (a := ⟨w.heap.size + 1 + 1, 5, none⟩) (show w.heap.size ≠ w.heap.size + 1 + 1 by omega) (.slice (some ⟨bC, 0, none⟩) s.nC s.nC))
  replace R1 := hik (R1.out.setOther (a := ⟨w.heap.size + 1 + 1, 5, none⟩) (show w.heap.size + 1 ≠ w.heap.size + 1 + 1 by omega) (.slice (some ⟨bC, 0, none⟩) s.nC s.nC))
  replace R2 := hik ((R2.out.set 5 (.slice (some ⟨bC, 0, none⟩) s.nC s.nC)).congr (g := (fun i => (#[.int .i64 s.r, .int .i64 s.q, .int .i64 s.p, .slice (some ⟨bA, 0, none⟩) s.nA s.nA, .slice (some ⟨bB, 0, none⟩) s.nB s.nB, .slice (some ⟨bC, 0, none⟩) s.nC s.nC] : Array Value).getD i undef)) (fun i hi => by
    have hi' : i < 6 := hi
    rcases (show i = 0 ∨ i = 1 ∨ i = 2 ∨ i = 3 ∨ i = 4 ∨ i = 5 by omega) with rfl | rfl | rfl | rfl | rfl | rfl <;> rfl))
  replace OA := hik (OA.out.setOther (a := ⟨w.heap.size + 1 + 1, 5, none⟩) (show bA ≠ w.heap.size + 1 + 1 by have := HBA.out; omega) (.slice (some ⟨bC, 0, none⟩) s.nC s.nC))
  replace OB := hik (OB.out.setOther (a := ⟨w.heap.size + 1 + 1, 5, none⟩) (show bB ≠ w.heap.size + 1 + 1 by have := HBB.out; omega) (.slice (some ⟨bC, 0, none⟩) s.nC s.nC))
  replace OC := hik (OC.out.setOther (a := ⟨w.heap.size + 1 + 1, 5, none⟩) (show bC ≠ w.heap.size + 1 + 1 by have := HBC.out; omega) (.slice (some ⟨bC, 0, none⟩) s.nC s.nC))
  replace K0 := hik (K0.out.setCell (p := ⟨w.heap.size + 1 + 1, 5, none⟩) (fun l => absurd (show w.heap.size + 1 + 1 < w.heap.size from l) (by omega)) (.slice (some ⟨bC, 0, none⟩) s.nC s.nC))
  have SS := hik (show (W3.setCell ⟨w.heap.size + 1 + 1, 5, none⟩ (.slice (some ⟨bC, 0, none⟩) s.nC s.nC)).heap.size = W3.heap.size by simp)
  go_upto_region 8 with fail
  generalize hW : W3.setCell ⟨w.heap.size + 1 + 1, 5, none⟩ (.slice (some ⟨bC, 0, none⟩) s.nC s.nC) = V3 at R0 R1 R2 K0 SS OA OB OC ⊢
  clear hW y0 v0 z2
  have y0 : _ = some (.int .i64 s.r : Value) := R2.out.cell (i := 0) (by omega)
  have u0 : _ = some (.int .i64 0 : Value) := R1.out.cell (i := 0) (by omega)
  have f0 := R1.out.frozen 0
  have y1 : _ = some (.int .i64 s.q : Value) := R2.out.cell (i := 1) (by omega)
  have u1 : _ = some (.int .i64 0 : Value) := R1.out.cell (i := 1) (by omega)
  have f1 := R1.out.frozen 1
  have y2 : _ = some (.int .i64 s.p : Value) := R2.out.cell (i := 2) (by omega)
  have u2 : _ = some (.int .i64 0 : Value) := R1.out.cell (i := 2) (by omega)
  have f2 := R1.out.frozen 2
  have y3 : _ = some (.slice (some ⟨bA, 0, none⟩) s.nA s.nA : Value) := R2.out.cell (i := 3) (by omega)
  have u3 : _ = some (.slice none 0 0 : Value) := R1.out.cell (i := 3) (by omega)
  have f3 := R1.out.frozen 3
  have y4 : _ = some (.slice (some ⟨bB, 0, none⟩) s.nB s.nB : Value) := R2.out.cell (i := 4) (by omega)
  have u4 : _ = some (.slice none 0 0 : Value) := R1.out.cell (i := 4) (by omega)
  have f4 := R1.out.frozen 4
  have y5 : _ = some (.slice (some ⟨bC, 0, none⟩) s.nC s.nC : Value) := R2.out.cell (i := 5) (by omega)
  have u5 : _ = some (.slice none 0 0 : Value) := R1.out.cell (i := 5) (by omega)
  have f5 := R1.out.frozen 5
  have z1 := R1.out.lt
  have z2 := R2.out.lt
  have d0 : (V3.setCell ⟨w.heap.size + 1, 0, none⟩ (.int .i64 s.r)).cell? ⟨w.heap.size + 1, 0, none⟩ = some (.int .i64 s.r) := by have q := (R1.out.set 0 (.int .i64 s.r)).cell (i := 0) (by omega); simpa using q
  have d1 : ((V3.setCell ⟨w.heap.size + 1, 0, none⟩ (.int .i64 s.r)).setCell ⟨w.heap.size + 1, 1, none⟩ (.int .i64 s.q)).cell? ⟨w.heap.size + 1, 1, none⟩ = some (.int .i64 s.q) := by have q := ((R1.out.set 0 (.int .i64 s.r)).set 1 (.int .i64 s.q)).cell (i := 1) (by omega); simpa using q
  have d2 : (((V3.setCell ⟨w.heap.size + 1, 0, none⟩ (.int .i64 s.r)).setCell ⟨w.heap.size + 1, 1, none⟩ (.int .i64 s.q)).setCell ⟨w.heap.size + 1, 2, none⟩ (.int .i64 s.p)).cell? ⟨w.heap.size + 1, 2, none⟩ = some (.int .i64 s.p) := by have q := (((R1.out.set 0 (.int .i64 s.r)).set 1 (.int .i64 s.q)).set 2 (.int .i64 s.p)).cell (i := 2) (by omega); simpa using q
  have d3 : ((((V3.setCell ⟨w.heap.size + 1, 0, none⟩ (.int .i64 s.r)).setCell ⟨w.heap.size + 1, 1, none⟩ (.int .i64 s.q)).setCell ⟨w.heap.size + 1, 2, none⟩ (.int .i64 s.p)).setCell ⟨w.heap.size + 1, 3, none⟩ (.slice (some ⟨bA, 0, none⟩) s.nA s.nA)).cell? ⟨w.heap.size + 1, 3, none⟩ = some (.slice (some ⟨bA, 0, none⟩) s.nA s.nA) := by have q := ((((R1.out.set 0 (.int .i64 s.r)).set 1 (.int .i64 s.q)).set 2 (.int .i64 s.p)).set 3 (.slice (some ⟨bA, 0, none⟩) s.nA s.nA)).cell (i := 3) (by omega); simpa using q
  have d4 : (((((V3.setCell ⟨w.heap.size + 1, 0, none⟩ (.int .i64 s.r)).setCell ⟨w.heap.size + 1, 1, none⟩ (.int .i64 s.q)).setCell ⟨w.heap.size + 1, 2, none⟩ (.int .i64 s.p)).setCell ⟨w.heap.size + 1, 3, none⟩ (.slice (some ⟨bA, 0, none⟩) s.nA s.nA)).setCell ⟨w.heap.size + 1, 4, none⟩ (.slice (some ⟨bB, 0, none⟩) s.nB s.nB)).cell? ⟨w.heap.size + 1, 4, none⟩ = some (.slice (some ⟨bB, 0, none⟩) s.nB s.nB) := by have q := (((((R1.out.set 0 (.int .i64 s.r)).set 1 (.int .i64 s.q)).set 2 (.int .i64 s.p)).set 3 (.slice (some ⟨bA, 0, none⟩) s.nA s.nA)).set 4 (.slice (some ⟨bB, 0, none⟩) s.nB s.nB)).cell (i := 4) (by omega); simpa using q
  have d5 : ((((((V3.setCell ⟨w.heap.size + 1, 0, none⟩ (.int .i64 s.r)).setCell ⟨w.heap.size + 1, 1, none⟩ (.int .i64 s.q)).setCell ⟨w.heap.size + 1, 2, none⟩ (.int .i64 s.p)).setCell ⟨w.heap.size + 1, 3, none⟩ (.slice (some ⟨bA, 0, none⟩) s.nA s.nA)).setCell ⟨w.heap.size + 1, 4, none⟩ (.slice (some ⟨bB, 0, none⟩) s.nB s.nB)).setCell ⟨w.heap.size + 1, 5, none⟩ (.slice (some ⟨bC, 0, none⟩) s.nC s.nC)).cell? ⟨w.heap.size + 1, 5, none⟩ = some (.slice (some ⟨bC, 0, none⟩) s.nC s.nC) := by have q := ((((((R1.out.set 0 (.int .i64 s.r)).set 1 (.int .i64 s.q)).set 2 (.int .i64 s.p)).set 3 (.slice (some ⟨bA, 0, none⟩) s.nA s.nA)).set 4 (.slice (some ⟨bB, 0, none⟩) s.nB s.nB)).set 5 (.slice (some ⟨bC, 0, none⟩) s.nC s.nC)).cell (i := 5) (by omega); simpa using q
  have kS := hik (((((((Chg.refl (fun y => y = w.heap.size + 1) V3).setCell (p := ⟨w.heap.size + 1, 0, none⟩) (fun _ => rfl) (.int .i64 s.r)).setCell (p := ⟨w.heap.size + 1, 1, none⟩) (fun _ => rfl) (.int .i64 s.q)).setCell (p := ⟨w.heap.size + 1, 2, none⟩) (fun _ => rfl) (.int .i64 s.p)).setCell (p := ⟨w.heap.size + 1, 3, none⟩) (fun _ => rfl) (.slice (some ⟨bA, 0, none⟩) s.nA s.nA)).setCell (p := ⟨w.heap.size + 1, 4, none⟩) (fun _ => rfl) (.slice (some ⟨bB, 0, none⟩) s.nB s.nB)).setCell (p := ⟨w.heap.size + 1, 5, none⟩) (fun _ => rfl) (.slice (some ⟨bC, 0, none⟩) s.nC s.nC))
  replace OA := hik (rowIs_chg OA.out kS.out (show ¬ bA = w.heap.size + 1 by have := HBA.out; omega))
  replace OB := hik (rowIs_chg OB.out kS.out (show ¬ bB = w.heap.size + 1 by have := HBB.out; omega))
  replace OC := hik (rowIs_chg OC.out kS.out (show ¬ bC = w.heap.size + 1 by have := HBC.out; omega))
  replace K0 := hik ((((((K0.out.setCell (p := ⟨w.heap.size + 1, 0, none⟩) (fun l => absurd (show w.heap.size + 1 < w.heap.size from l) (by omega)) (.int .i64 s.r)).setCell (p := ⟨w.heap.size + 1, 1, none⟩) (fun l => absurd (show w.heap.size + 1 < w.heap.size from l) (by omega)) (.int .i64 s.q)).setCell (p := ⟨w.heap.size + 1, 2, none⟩) (fun l => absurd (show w.heap.size + 1 < w.heap.size from l) (by omega)) (.int .i64 s.p)).setCell (p := ⟨w.heap.size + 1, 3, none⟩) (fun l => absurd (show w.heap.size + 1 < w.heap.size from l) (by omega)) (.slice (some ⟨bA, 0, none⟩) s.nA s.nA)).setCell (p := ⟨w.heap.size + 1, 4, none⟩) (fun l => absurd (show w.heap.size + 1 < w.heap.size from l) (by omega)) (.slice (some ⟨bB, 0, none⟩) s.nB s.nB)).setCell (p := ⟨w.heap.size + 1, 5, none⟩) (fun l => absurd (show w.heap.size + 1 < w.heap.size from l) (by omega)) (.slice (some ⟨bC, 0, none⟩) s.nC s.nC))
  go_wp2
  exact bodyPost_ret (v := .agg #[.int .i64 s.r, .int .i64 s.q, .int .i64 s.p, .slice (some ⟨bA, 0, none⟩) s.nA s.nA, .slice (some ⟨bB, 0, none⟩) s.nB s.nB, .slice (some ⟨bC, 0, none⟩) s.nC s.nC]) (by simp [results, Try.results20, go_sem, d0, d1, d2, d3, d4, d5]) rfl ⟨bA, bB, bC, rfl, by have := HBA.out; omega, HLB.out, HLC.out, OA.out, OB.out, OC.out, K0.out⟩

set_option maxHeartbeats 1000000 in
theorem szSystem_ok (s : Sy) (a : SyA) (l : Int) (w : World) (h0 : ((s.nA + s.nB + s.nC : Nat) : Int) ≤ l) (h1 : l ≤ 1048576) :
    Calls Try.prog 18 #[.agg #[.int .i64 s.r, .int .i64 s.q, .int .i64 s.p, .slice a.cA s.nA a.pA, .slice a.cB s.nB a.pB, .slice a.cC s.nC a.pC], .int .i64 l] w fun e w' => e = .returned (.int .i64 (l - s.nA - s.nB - s.nC)) ∧ Chg nob w w' := by
  have h2 : ¬ l - (s.nA : Int) < 0 := by omega
  have h3 : ¬ l - (s.nA : Int) - (s.nB : Int) < 0 := by omega
  have h4 : ¬ l - (s.nA : Int) - (s.nB : Int) - (s.nC : Int) < 0 := by omega
  go_enter Try.func18, Try.ntmps18
  go_wp2_with (go_at_call 33; refine (szEntryS_ok _ _ _ _ _ (by omega) (by omega)).mono ?_; rintro e w' ⟨rfl, rfl⟩)
  go_ret
  exact ⟨rfl, (Chg.refl _ _).alloc _⟩
set_option maxHeartbeats 1000000 in
theorem szSystem_no (s : Sy) (a : SyA) (l : Int) (w : World) (h0 : l < ((s.nA + s.nB + s.nC : Nat) : Int)) (h1 : l ≤ 1048576) (hl : 0 ≤ l) (hA : (s.nA : Int) ≤ 9223372036854775807) (hB : (s.nB : Int) ≤ 9223372036854775807) (hC : (s.nC : Int) ≤ 9223372036854775807) :
    Calls Try.prog 18 #[.agg #[.int .i64 s.r, .int .i64 s.q, .int .i64 s.p, .slice a.cA s.nA a.pA, .slice a.cB s.nB a.pB, .slice a.cC s.nC a.pC], .int .i64 l] w fun e w' => e = .returned (.int .i64 (-1)) ∧ Chg nob w w' := by
  by_cases h2 : l < (s.nA : Int)
  · go_enter Try.func18, Try.ntmps18
    go_wp2_with (go_at_call 33; refine (szEntryS_no _ _ _ _ _ h2 hl hA).mono ?_; rintro e w' ⟨rfl, rfl⟩)
    go_ret
    exact ⟨rfl, (Chg.refl _ _).alloc _⟩
  · have h3 : ¬ l - (s.nA : Int) < 0 := by omega
    by_cases h4 : l - (s.nA : Int) < (s.nB : Int)
    · go_enter Try.func18, Try.ntmps18
      go_wp2_with fail
      refine (szEntryS_ok a.cA s.nA a.pA l _ (by omega) (by omega)).mono ?_
      rintro e w' ⟨rfl, rfl⟩
      go_wp2_with fail
      refine (szEntryS_no a.cB s.nB a.pB _ _ h4 (by omega) hB).mono ?_
      rintro e w' ⟨rfl, rfl⟩
      go_wp2
      go_ret
      exact ⟨rfl, (Chg.refl _ _).alloc _⟩
    · have h5 : ¬ l - (s.nA : Int) - (s.nB : Int) < 0 := by omega
      have h6 : l - (s.nA : Int) - (s.nB : Int) < (s.nC : Int) := by omega
      go_enter Try.func18, Try.ntmps18
      go_wp2_with fail
      refine (szEntryS_ok a.cA s.nA a.pA l _ (by omega) (by omega)).mono ?_
      rintro e w' ⟨rfl, rfl⟩
      go_wp2_with fail
      refine (szEntryS_ok a.cB s.nB a.pB _ _ (by omega) (by omega)).mono ?_
      rintro e w' ⟨rfl, rfl⟩
      go_wp2_with fail
      refine (szEntryS_no a.cC s.nC a.pC _ _ h6 (by omega) hC).mono ?_
      rintro e w' ⟨rfl, rfl⟩
      go_wp2
      go_ret
      exact ⟨rfl, (Chg.refl _ _).alloc _⟩

set_option maxHeartbeats 2000000 in
theorem eqSystem_any (s : Sy) (a b : SyA) (w : World) (h : Hid (SyV w s a)) (h' : Hid (SyV w s b)) (hs : s.small) :
    Calls Try.prog 22 #[.agg #[.int .i64 s.r, .int .i64 s.q, .int .i64 s.p, .slice a.cA s.nA a.pA, .slice a.cB s.nB a.pB, .slice a.cC s.nC a.pC], .agg #[.int .i64 s.r, .int .i64 s.q, .int .i64 s.p, .slice b.cA s.nA b.pA, .slice b.cB s.nB b.pB, .slice b.cC s.nC b.pC]] w fun e w' => e = .returned (.bool true) ∧ Chg nob w w' := by
  obtain ⟨hA, hB, hC⟩ := hs
  have K0 := hik (((Chg.refl nob w).alloc (.cells #[.int .i64 s.r, .int .i64 s.q, .int .i64 s.p, .slice a.cA s.nA a.pA, .slice a.cB s.nB a.pB, .slice a.cC s.nC a.pC] 46)).alloc (.cells #[.int .i64 s.r, .int .i64 s.q, .int .i64 s.p, .slice b.cA s.nA b.pA, .slice b.cB s.nB b.pB, .slice b.cC s.nC b.pC] 46))
  go_enter Try.func22, Try.ntmps22
  go_wp2_with fail
  refine (eqEntryS_any a.cA b.cA s.nA a.pA b.pA s.XA _ (hik (h.out.A.keep K0.out)) (hik (h'.out.A.keep K0.out)) hA).mono ?_
  rintro e w1 ⟨rfl, k1⟩
  have K1 := hik (K0.out.trans k1)
  have x4 : w1.cell? ⟨w.heap.size, 4, none⟩ = some (.slice a.cB s.nB a.pB) := k1.look (by go_simp)
  have x5 : w1.cell? ⟨w.heap.size, 5, none⟩ = some (.slice a.cC s.nC a.pC) := k1.look (by go_simp)
  have y4 : w1.cell? ⟨w.heap.size + 1, 4, none⟩ = some (.slice b.cB s.nB b.pB) := k1.look (by go_simp)
  have y5 : w1.cell? ⟨w.heap.size + 1, 5, none⟩ = some (.slice b.cC s.nC b.pC) := k1.look (by go_simp)
  clear k1
  go_wp2_with fail
  refine (eqEntryS_any a.cB b.cB s.nB a.pB b.pB s.XB _ (hik (h.out.B.keep K1.out)) (hik (h'.out.B.keep K1.out)) hB).mono ?_
  rintro e w2 ⟨rfl, k2⟩
  have K2 := hik (K1.out.trans k2)
  replace x5 := k2.look x5
  replace y5 := k2.look y5
  clear k2 x4 y4
  go_wp2_with fail
  refine (eqEntryS_any a.cC b.cC s.nC a.pC b.pC s.XC _ (hik (h.out.C.keep K2.out)) (hik (h'.out.C.keep K2.out)) hC).mono ?_
  rintro e w3 ⟨rfl, k3⟩
  have K3 := hik (K2.out.trans k3)
  clear k3 x5 y5
  go_wp2
  go_ret
  exact ⟨rfl, K3.out⟩
/-- Rows of one's own as a system's lists. -/
theorem SyV.rows {w : World} {s : Sy} {bA bB bC pA pB pC : Nat} (hA : w.rowIs bA 69 (s.nA * 3) (tf s.XA)) (hB : w.rowIs bB 69 (s.nB * 3) (tf s.XB)) (hC : w.rowIs bC 69 (s.nC * 3) (tf s.XC)) : SyV w s ⟨some ⟨bA, 0, none⟩, some ⟨bB, 0, none⟩, some ⟨bC, 0, none⟩, pA, pB, pC⟩ :=
  ⟨EntV.of_row hA (Nat.le_refl _) (fun _ _ => rfl), EntV.of_row hB (Nat.le_refl _) (fun _ _ => rfl), EntV.of_row hC (Nat.le_refl _) (fun _ _ => rfl)⟩

end Go.Proofs.Ytbjhppamolmpeaa
