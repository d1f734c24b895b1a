/- Several texts in one: A matrix times a vector: contracts of both sides. · Marks of a system. -/
import Derived.Test.YtfcbcbmoebhfhaaGreatDoorBzbj
import Derived.Test.YtfcbcbmoebhfhaaGreatDoorBzas
import Derived.Test.YtfcbcbmoebhfhaaGreatDoorBzah
namespace Go.Proofs.YtfcbcbmoebhfhaaGreatDoor
open Go.ChangeShapes Go.WideShapes Go.ChangeAt Go.RowKit
set_option linter.unusedVariables false
set_option maxRecDepth 100000
set_option linter.unusedSimpArgs false

/-- The answer: a row of the call's own, a code. -/
def MmAns (w : World) (code : Int) (N : Nat) (f : Nat → Int) (e : Ending) (w' : World) : Prop :=
  ∃ c cap, e = .returned (.tuple #[.slice c (if code = 0 then N else 0) cap, .int .i64 code]) ∧ (code = 0 → ∃ g, w.heap.size ≤ g ∧ c = some ⟨g, 0, none⟩ ∧ w'.rowIs g 3 N (iv f)) ∧ Chg nob w w'
theorem MmAns.no {w w' : World} {code k : Int} {N : Nat} {f : Nat → Int} {e : Ending} {c : Option Addr} {cap : Nat} (h : code = k) (hk : k ≠ 0) (he : e = .returned (.tuple #[.slice c 0 cap, .int .i64 k])) (kk : Chg nob w w') : MmAns w code N f e w' :=
  ⟨c, cap, by rw [h, if_neg hk]; exact he, fun q => absurd (h.symm.trans q) hk, kk⟩


end Go.Proofs.YtfcbcbmoebhfhaaGreatDoor

namespace Go.Proofs.YtfcbcbmoebhfhaaGreatDoor
open Go.ChangeShapes Go.WideShapes Go.ChangeAt Go.RowKit
set_option linter.unusedVariables false
set_option maxRecDepth 100000
set_option linter.unusedSimpArgs false

set_option maxHeartbeats 2000000 in
theorem markSystem_any (s : Sy) (bA bB bC : Nat) (w : World) (hA : Hid (w.rowIs bA 80 (s.nA * 3) (tf s.XA))) (hB : Hid (w.rowIs bB 80 (s.nB * 3) (tf s.XB))) (hC : Hid (w.rowIs bC 80 (s.nC * 3) (tf s.XC))) (hab : bA < bB) (hbc : bB < bC) (hn : s.nA + s.nB + s.nC ≤ 1048576) :
    Calls Tryz.prog 15 #[.agg #[.int .i64 s.r, .int .i64 s.q, .int .i64 s.p, .slice (some ⟨bA, 0, none⟩) s.nA s.nA, .slice (some ⟨bB, 0, none⟩) s.nB s.nB, .slice (some ⟨bC, 0, none⟩) s.nC s.nC], .int .i64 1] w fun e w' => e = .returned (.int .i64 (1 + 3 * s.nA + 3 * s.nB + 3 * s.nC)) ∧ Chg (fun b => b = bA ∨ b = bB ∨ b = bC) w w' := by
  have KB := hik ((Chg.refl nob w).alloc (.cells #[.int .i64 s.r, .int .i64 s.q, .int .i64 s.p, .slice (some ⟨bA, 0, none⟩) s.nA s.nA, .slice (some ⟨bB, 0, none⟩) s.nB s.nB, .slice (some ⟨bC, 0, none⟩) s.nC s.nC] 40))
  have BX := hik (cel6 (w := w.alloc (.cells #[.int .i64 s.r, .int .i64 s.q, .int .i64 s.p, .slice (some ⟨bA, 0, none⟩) s.nA s.nA, .slice (some ⟨bB, 0, none⟩) s.nB s.nB, .slice (some ⟨bC, 0, none⟩) s.nC s.nC] 40)) (g := w.heap.size) (v0 := .int .i64 s.r) (v1 := .int .i64 s.q) (v2 := .int .i64 s.p) (v3 := .slice (some ⟨bA, 0, none⟩) s.nA s.nA) (v4 := .slice (some ⟨bB, 0, none⟩) s.nB s.nB) (v5 := .slice (some ⟨bC, 0, none⟩) s.nC s.nC) (by go_simp) (by go_simp) (by go_simp) (by go_simp) (by go_simp) (by go_simp))
  have hcw := hC.out.lt
  have RA := hik (rowIs_keep hA.out KB.out)
  have RB := hik (rowIs_keep hB.out KB.out)
  have RC := hik (rowIs_keep hC.out KB.out)
  have KW := hik (show Chg (fun b => b = bA ∨ b = bB ∨ b = bC) w _ from KB.out.wide)
  clear KB
  go_enter Tryz.func15, Tryz.ntmps15
  go_wp2_with fail
  generalize w.alloc (.cells #[.int .i64 s.r, .int .i64 s.q, .int .i64 s.p, .slice (some ⟨bA, 0, none⟩) s.nA s.nA, .slice (some ⟨bB, 0, none⟩) s.nB s.nB, .slice (some ⟨bC, 0, none⟩) s.nC s.nC] 40) = W0 at BX RA RB RC KW ⊢
  refine (markEntryS_any bA s.nA s.nA s.XA 1 _ RA (by omega) (by omega) (by omega)).mono ?_
  rintro e W1 ⟨rfl, _, k1⟩
  replace RB := hik (rowIs_chg RB.out k1 (fun q => by omega))
  replace RC := hik (rowIs_chg RC.out k1 (fun q => by omega))
  replace BX := hik (BX.out.chg k1 (fun q => by omega))
  replace KW := hik (KW.out.trans (k1.mono (fun i _ q => Or.inl q)))
  clear k1 RA
  obtain ⟨x0, x1, x2, x3, x4, x5⟩ := BX.out.six
  go_wp2_with fail
  refine (markEntryS_any bB s.nB s.nB s.XB (1 + 3 * s.nA) _ RB (by omega) (by omega) (by omega)).mono ?_
  rintro e W2 ⟨rfl, _, k2⟩
  replace RC := hik (rowIs_chg RC.out k2 (fun q => by omega))
  replace BX := hik (BX.out.chg k2 (fun q => by omega))
  replace KW := hik (KW.out.trans (k2.mono (fun i _ q => Or.inr (Or.inl q))))
  clear k2 RB x0 x1 x2 x3 x4 x5
  obtain ⟨x0, x1, x2, x3, x4, x5⟩ := BX.out.six
  go_wp2_with fail
  refine (markEntryS_any bC s.nC s.nC s.XC (1 + 3 * s.nA + 3 * s.nB) _ RC (by omega) (by omega) (by omega)).mono ?_
  rintro e W3 ⟨rfl, _, k3⟩
  replace KW := hik (KW.out.trans (k3.mono (fun i _ q => Or.inr (Or.inr q))))
  clear k3 RC x0 x1 x2 x3 x4 x5
  go_wp2
  go_ret
  exact ⟨rfl, KW.out⟩

end Go.Proofs.YtfcbcbmoebhfhaaGreatDoor
