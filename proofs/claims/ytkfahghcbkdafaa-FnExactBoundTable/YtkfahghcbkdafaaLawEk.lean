/- Marks of entries and of ints from any number on: contracts. -/
import Derived.Test.YtkfahghcbkdafaaLawEn
import Derived.Test.YtkfahghcbkdafaaIntRow
namespace Go.Proofs.Ytkfahghcbkdafaa
open Go.ChangeShapes Go.WideShapes Go.ChangeAt Go.RowKit
set_option linter.unusedVariables false
set_option maxRecDepth 100000
set_option linter.unusedSimpArgs false

/-- Entries that are numbered from q on. -/
def mkE (q : Int) (i : Nat) : En := (q + 3 * i, q + 3 * i + 1, q + 3 * i + 2)
set_option maxHeartbeats 2000000 in
theorem markEntryS_any (g n cap : Nat) (X : Nat → En) (q : Int) (w : World) (h : Hid (w.rowIs g 62 (n * 3) (tf X))) (hn : n ≤ 1099511627776) (q0 : 0 ≤ q) (q1 : q ≤ 1099511627776) :
    Calls Try.prog 26 #[.slice (some ⟨g, 0, none⟩) n cap, .int .i64 q] w fun e w' => e = .returned (.int .i64 (q + 3 * n)) ∧ w'.rowIs g 62 (n * 3) (tf (mkE q)) ∧ Chg (fun b => b = g) w w' := by
  go_enter Try.func26, Try.ntmps26
  go_wp2
  go_loopw [1, 5] (fun v i W => ∃ k : Nat, k ≤ n ∧ i = .int .i64 k ∧ v = .int .i64 (q + 3 * k) ∧ Hid (W.rowIs g 62 (n * 3) (cpT (mkE q) X k)) ∧ Hid (Chg (fun b => b = g) w W)) (fun _ i _ => n - (intOf i).toNat)
  case atStart => exact ⟨0, Nat.zero_le _, rfl, by simp, hik (h.out.congr (fun i _ => by simp [cpT])), hik (Chg.refl _ _)⟩
  case round =>
    obtain ⟨k, hk, rfl, rfl, HR, HC⟩ := hrel
    by_cases hlt : k < n
    · have hkn : ((k : Nat) : Int) < n := by omega
      have g0 := HR.out.cell (i := k * 3) (by omega)
      have g1 := HR.out.cell (i := k * 3 + 1) (by omega)
      have g2 := HR.out.cell (i := k * 3 + 2) (by omega)
      have f0 := HR.out.frozen (k * 3)
      have f1 := HR.out.frozen (k * 3 + 1)
      have f2 := HR.out.frozen (k * 3 + 2)
      have HR2 := hik (cpT_set HR.out (q + 3 * k) (q + 3 * k + 1) (q + 3 * k + 2) rfl)
      have HC2 := hik (((HC.out.setCell (p := ⟨g, k * 3, none⟩) (fun _ => rfl) (.int .i64 (q + 3 * k))).setCell (p := ⟨g, k * 3 + 1, none⟩) (fun _ => rfl) (.int .i64 (q + 3 * k + 1))).setCell (p := ⟨g, k * 3 + 2, none⟩) (fun _ => rfl) (.int .i64 (q + 3 * k + 2)))
      go_wp2
      go_roundw
      case rel => exact ⟨k + 1, by omega, by go_num, by go_num, by first | exact HR2 | (have := HR2; simpa [Int.add_assoc] using this), by first | exact HC2 | (have := HC2; simpa [Int.add_assoc] using this)⟩
      case measure => simp [intOf]; omega
    · obtain rfl : k = n := by omega
      go_wp2
      go_ret
      exact ⟨rfl, HR.out.congr (fun i hi => by simp [cpT, hi]), HC.out⟩

/-- n ints behind c in a block of the call's own (not below B), or none. -/
def OwnI (w : World) (B : Nat) (c : Option Addr) (n : Nat) (f : Nat → Int) : Prop := n = 0 ∨ ∃ g, B ≤ g ∧ c = some ⟨g, 0, none⟩ ∧ w.rowIs g 3 n (iv f)
theorem OwnI.row {w : World} {B : Nat} {c : Option Addr} {n : Nat} {f : Nat → Int} (h : OwnI w B c n f) : RowV w c n (iv f) := by
  rcases h with rfl | ⟨g, _, rfl, r⟩
  · intro i hi; omega
  · exact RowV.of_row r (Nat.le_refl _)
theorem OwnI.chg {P : Nat → Prop} {w w' : World} {B : Nat} {c : Option Addr} {n : Nat} {f : Nat → Int} (h : OwnI w B c n f) (k : Chg P w w') (hp : ∀ b, B ≤ b → c = some ⟨b, 0, none⟩ → b < w.heap.size → ¬ P b) : OwnI w' B c n f := by
  rcases h with rfl | ⟨g, hb, e, r⟩
  · exact .inl rfl
  · exact .inr ⟨g, hb, e, rowIs_chg r k (hp g hb e r.lt)⟩
theorem OwnI.keep {w w' : World} {B : Nat} {c : Option Addr} {n : Nat} {f : Nat → Int} (h : OwnI w B c n f) (k : Chg nob w w') : OwnI w' B c n f := h.chg k (fun _ _ _ _ x => x)
theorem OwnI.far {P : Nat → Prop} {w w' : World} {B : Nat} {c : Option Addr} {n : Nat} {f : Nat → Int} (h : OwnI w B c n f) (k : Chg P w w') (hp : ∀ b, B ≤ b → c = some ⟨b, 0, none⟩ → n = 0 ∨ ¬ P b) : OwnI w' B c n f := by
  rcases h with h0 | ⟨g, hb, e, r⟩
  · exact .inl h0
  · rcases hp g hb e with h0 | h0
    · exact .inl h0
    · exact .inr ⟨g, hb, e, rowIs_chg r k h0⟩

end Go.Proofs.Ytkfahghcbkdafaa
