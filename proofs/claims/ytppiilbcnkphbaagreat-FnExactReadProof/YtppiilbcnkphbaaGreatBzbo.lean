/- Several texts in one: Marks of entries and of ints from any number on: contracts. · Systems of a call's own, in blocks from lo to hi: copies, marks: contracts. Conditions: systems that can be read, of at most 2 to the 20 entries. -/
import Derived.Test.YtppiilbcnkphbaaGreatBzbn
import Derived.Test.YtppiilbcnkphbaaGreatBzbr
import Derived.Test.YtppiilbcnkphbaaGreatBzai
import Derived.Deep.DeepCutAuto
namespace Go.Proofs.YtppiilbcnkphbaaGreat
open Go.ChangeShapes Go.WideShapes Go.ChangeAt Go.RowKit
set_option linter.unusedVariables false
set_option maxRecDepth 100000
set_option linter.unusedSimpArgs false

/-- Entries that are numbered from q on. -/
def mkE (q : Int) (i : Nat) : En := (q + 3 * i, q + 3 * i + 1, q + 3 * i + 2)
set_option maxHeartbeats 2000000 in
theorem markEntryS_any (g n cap : Nat) (X : Nat → En) (q : Int) (w : World) (h : Hid (w.rowIs g 87 (n * 3) (tf X))) (hn : n ≤ 1099511627776) (q0 : 0 ≤ q) (q1 : q ≤ 1099511627776) :
    Calls Tryz.prog 28 #[.slice (some ⟨g, 0, none⟩) n cap, .int .i64 q] w fun e w' => e = .returned (.int .i64 (q + 3 * n)) ∧ w'.rowIs g 87 (n * 3) (tf (mkE q)) ∧ Chg (fun b => b = g) w w' := by
  go_enter Tryz.func28, Tryz.ntmps28
  go_wp2
  go_loopw [1, 5] (fun v i W => ∃ k : Nat, k ≤ n ∧ i = .int .i64 k ∧ v = .int .i64 (q + 3 * k) ∧ Hid (W.rowIs g 87 (n * 3) (cpT (mkE q) X k)) ∧ Hid (Chg (fun b => b = g) w W)) (fun _ i _ => n - (intOf i).toNat)
  case atStart => exact ⟨0, Nat.zero_le _, rfl, by simp, hik (h.out.congr (fun i _ => by simp [cpT])), hik (Chg.refl _ _)⟩
  case round =>
    obtain ⟨k, hk, rfl, rfl, HR, HC⟩ := hrel
    by_cases hlt : k < n
    · have hkn : ((k : Nat) : Int) < n := by omega
      have g0 := HR.out.cell (i := k * 3) (by omega)
      have g1 := HR.out.cell (i := k * 3 + 1) (by omega)
      have g2 := HR.out.cell (i := k * 3 + 2) (by omega)
      have f0 := HR.out.frozen (k * 3)
      have f1 := HR.out.frozen (k * 3 + 1)
      have f2 := HR.out.frozen (k * 3 + 2)
      have HR2 := hik (cpT_set HR.out (q + 3 * k) (q + 3 * k + 1) (q + 3 * k + 2) rfl)
      have HC2 := hik (((HC.out.setCell (p := ⟨g, k * 3, none⟩) (fun _ => rfl) (.int .i64 (q + 3 * k))).setCell (p := ⟨g, k * 3 + 1, none⟩) (fun _ => rfl) (.int .i64 (q + 3 * k + 1))).setCell (p := ⟨g, k * 3 + 2, none⟩) (fun _ => rfl) (.int .i64 (q + 3 * k + 2)))
      go_wp2
      go_roundw
      case rel => exact ⟨k + 1, by omega, by go_num, by go_num, by first | exact HR2 | (have := HR2; simpa [Int.add_assoc] using this), by first | exact HC2 | (have := HC2; simpa [Int.add_assoc] using this)⟩
      case measure => simp [intOf]; omega
    · obtain rfl : k = n := by omega
      go_wp2
      go_ret
      exact ⟨rfl, HR.out.congr (fun i hi => by simp [cpT, hi]), HC.out⟩

/-- n ints behind c in a block of the call's own (not below B), or none. -/
def OwnI (w : World) (B : Nat) (c : Option Addr) (n : Nat) (f : Nat → Int) : Prop := n = 0 ∨ ∃ g, B ≤ g ∧ c = some ⟨g, 0, none⟩ ∧ w.rowIs g 3 n (iv f)
theorem OwnI.row {w : World} {B : Nat} {c : Option Addr} {n : Nat} {f : Nat → Int} (h : OwnI w B c n f) : RowV w c n (iv f) := by
  rcases h with rfl | ⟨g, _, rfl, r⟩
  · intro i hi; omega
  · exact RowV.of_row r (Nat.le_refl _)
theorem OwnI.chg {P : Nat → Prop} {w w' : World} {B : Nat} {c : Option Addr} {n : Nat} {f : Nat → Int} (h : OwnI w B c n f) (k : Chg P w w') (hp : ∀ b, B ≤ b → c = some ⟨b, 0, none⟩ → b < w.heap.size → ¬ P b) : OwnI w' B c n f := by
  rcases h with rfl | ⟨g, hb, e, r⟩
  · exact .inl rfl
  · exact .inr ⟨g, hb, e, rowIs_chg r k (hp g hb e r.lt)⟩
theorem OwnI.keep {w w' : World} {B : Nat} {c : Option Addr} {n : Nat} {f : Nat → Int} (h : OwnI w B c n f) (k : Chg nob w w') : OwnI w' B c n f := h.chg k (fun _ _ _ _ x => x)
theorem OwnI.far {P : Nat → Prop} {w w' : World} {B : Nat} {c : Option Addr} {n : Nat} {f : Nat → Int} (h : OwnI w B c n f) (k : Chg P w w') (hp : ∀ b, B ≤ b → c = some ⟨b, 0, none⟩ → n = 0 ∨ ¬ P b) : OwnI w' B c n f := by
  rcases h with h0 | ⟨g, hb, e, r⟩
  · exact .inl h0
  · rcases hp g hb e with h0 | h0
    · exact .inl h0
    · exact .inr ⟨g, hb, e, rowIs_chg r k h0⟩

end Go.Proofs.YtppiilbcnkphbaaGreat

namespace Go.Proofs.YtppiilbcnkphbaaGreat
open Go.ChangeShapes Go.WideShapes Go.ChangeAt Go.RowKit
set_option linter.unusedVariables false
set_option maxRecDepth 100000
set_option linter.unusedSimpArgs false

/-- A system whose matrices lie in blocks of their own. -/
def SyO (w : World) (lo hi : Nat) (s : Sy) (a : SyA) : Prop := ∃ bA bB bC : Nat, a = ⟨some ⟨bA, 0, none⟩, some ⟨bB, 0, none⟩, some ⟨bC, 0, none⟩, s.nA, s.nB, s.nC⟩ ∧ lo ≤ bA ∧ bA < bB ∧ bB < bC ∧ bC < hi ∧ w.rowIs bA 87 (s.nA * 3) (tf s.XA) ∧ w.rowIs bB 87 (s.nB * 3) (tf s.XB) ∧ w.rowIs bC 87 (s.nC * 3) (tf s.XC)
theorem SyO.rep {w : World} {lo hi : Nat} {s : Sy} {a : SyA} (h : SyO w lo hi s a) : SyV w s a := by
  obtain ⟨bA, bB, bC, rfl, _, _, _, _, rA, rB, rC⟩ := h
  exact SyV.rows (pA := s.nA) (pB := s.nB) (pC := s.nC) rA rB rC
theorem SyO.chg {P : Nat → Prop} {w w' : World} {lo hi : Nat} {s : Sy} {a : SyA} (h : SyO w lo hi s a) (k : Chg P w w') (hp : ∀ b, lo ≤ b → b < hi → ¬ P b) : SyO w' lo hi s a := by
  obtain ⟨bA, bB, bC, rfl, l1, l2, l3, l4, rA, rB, rC⟩ := h
  exact ⟨bA, bB, bC, rfl, l1, l2, l3, l4, rowIs_chg rA k (hp _ l1 (by omega)), rowIs_chg rB k (hp _ (by omega) (by omega)), rowIs_chg rC k (hp _ (by omega) l4)⟩
theorem SyO.keep {w w' : World} {lo hi : Nat} {s : Sy} {a : SyA} (h : SyO w lo hi s a) (k : Chg nob w w') : SyO w' lo hi s a := h.chg k (fun _ _ _ x => x)
theorem toSystem_o (s : Sy) (a : SyA) (w : World) (h : Hid (SyV w s a)) (hs : s.small) :
    Calls Tryz.prog 7 #[.agg #[.int .i64 s.r, .int .i64 s.q, .int .i64 s.p, .slice a.cA s.nA a.pA, .slice a.cB s.nB a.pB, .slice a.cC s.nC a.pC]] w fun e w' => ∃ a : SyA, e = .returned (.agg #[.int .i64 s.r, .int .i64 s.q, .int .i64 s.p, .slice a.cA s.nA a.pA, .slice a.cB s.nB a.pB, .slice a.cC s.nC a.pC]) ∧ SyO w' w.heap.size w'.heap.size s a ∧ Chg nob w w' := by
  refine (toSystem_any s a w h hs).mono ?_
  rintro e w' ⟨bA, bB, bC, rfl, l1, l2, l3, rA, rB, rC, kk⟩
  exact ⟨⟨some ⟨bA, 0, none⟩, some ⟨bB, 0, none⟩, some ⟨bC, 0, none⟩, s.nA, s.nB, s.nC⟩, rfl, ⟨bA, bB, bC, rfl, l1, l2, l3, rC.lt, rA, rB, rC⟩, kk⟩
set_option maxHeartbeats 2000000 in
theorem markSystem_o (lo hi : Nat) (s : Sy) (a : SyA) (q : Nat) (w : World) (h : Hid (SyO w lo hi s a)) (hn : s.nA + s.nB + s.nC ≤ 1048576) (q1 : q ≤ 549755813888) :
    Calls Tryz.prog 14 #[.agg #[.int .i64 s.r, .int .i64 s.q, .int .i64 s.p, .slice a.cA s.nA a.pA, .slice a.cB s.nB a.pB, .slice a.cC s.nC a.pC], .int .i64 (q : Int)] w fun e w' => e = .returned (.int .i64 ((q + (3 * s.nA + 3 * s.nB + 3 * s.nC) : Nat) : Int)) ∧ Chg (fun b => lo ≤ b ∧ b < hi) w w' := by
  obtain ⟨bA, bB, bC, rfl, l1, l2, l3, l4, hA, hB, hC⟩ := h.out
  show Calls Tryz.prog 14 #[.agg #[.int .i64 s.r, .int .i64 s.q, .int .i64 s.p, .slice (some ⟨bA, 0, none⟩) s.nA s.nA, .slice (some ⟨bB, 0, none⟩) s.nB s.nB, .slice (some ⟨bC, 0, none⟩) s.nC s.nC], .int .i64 (q : Int)] w _
  have KB := hik ((Chg.refl nob w).alloc (.cells #[.int .i64 s.r, .int .i64 s.q, .int .i64 s.p, .slice (some ⟨bA, 0, none⟩) s.nA s.nA, .slice (some ⟨bB, 0, none⟩) s.nB s.nB, .slice (some ⟨bC, 0, none⟩) s.nC s.nC] 43))
  have BX := hik (rowN_new w 6 #[.int .i64 s.r, .int .i64 s.q, .int .i64 s.p, .slice (some ⟨bA, 0, none⟩) s.nA s.nA, .slice (some ⟨bB, 0, none⟩) s.nB s.nB, .slice (some ⟨bC, 0, none⟩) s.nC s.nC] 43 rfl)
  have hcw := hC.lt
  have RA := hik (rowIs_keep hA KB.out)
  have RB := hik (rowIs_keep hB KB.out)
  have RC := hik (rowIs_keep hC KB.out)
  have KW := hik (show Chg (fun b => lo ≤ b ∧ b < hi) w _ from KB.out.wide)
  clear KB
  go_enter Tryz.func14, Tryz.ntmps14
  go_wp2_with fail
  generalize hW : w.alloc (.cells #[.int .i64 s.r, .int .i64 s.q, .int .i64 s.p, .slice (some ⟨bA, 0, none⟩) s.nA s.nA, .slice (some ⟨bB, 0, none⟩) s.nB s.nB, .slice (some ⟨bC, 0, none⟩) s.nC s.nC] 43) = W0 at BX RA RB RC KW ⊢
  clear hW
  refine (markEntryS_any bA s.nA s.nA s.XA (q : Int) _ RA (by omega) (by omega) (by omega)).mono ?_
  rintro e W1 ⟨rfl, _, k1⟩
  replace RB := hik (rowIs_chg RB.out k1 (fun q => by omega))
  replace RC := hik (rowIs_chg RC.out k1 (fun q => by omega))
  replace BX := hik (rowIs_chg BX.out k1 (fun q => by omega))
  replace KW := hik (KW.out.trans (k1.mono (fun i _ q => by omega)))
  clear k1 RA
  have x4 : W1.cell? ⟨w.heap.size, 4, none⟩ = some (.slice (some ⟨bB, 0, none⟩) s.nB s.nB) := BX.out.cell (i := 4) (by omega)
  go_wp2_with fail
  refine (markEntryS_any bB s.nB s.nB s.XB ((q : Int) + 3 * s.nA) _ RB (by omega) (by omega) (by omega)).mono ?_
  rintro e W2 ⟨rfl, _, k2⟩
  replace RC := hik (rowIs_chg RC.out k2 (fun q => by omega))
  replace BX := hik (rowIs_chg BX.out k2 (fun q => by omega))
  replace KW := hik (KW.out.trans (k2.mono (fun i _ q => by omega)))
  clear k2 RB x4
  have x5 : W2.cell? ⟨w.heap.size, 5, none⟩ = some (.slice (some ⟨bC, 0, none⟩) s.nC s.nC) := BX.out.cell (i := 5) (by omega)
  go_wp2_with fail
  refine (markEntryS_any bC s.nC s.nC s.XC ((q : Int) + 3 * s.nA + 3 * s.nB) _ RC (by omega) (by omega) (by omega)).mono ?_
  rintro e W3 ⟨rfl, _, k3⟩
  replace KW := hik (KW.out.trans (k3.mono (fun i _ q => by omega)))
  clear k3 RC x5
  go_wp2
  go_ret
  exact ⟨ret_int (by omega), KW.out⟩

end Go.Proofs.YtppiilbcnkphbaaGreat
