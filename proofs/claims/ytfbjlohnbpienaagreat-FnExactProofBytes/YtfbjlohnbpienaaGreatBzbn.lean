/- Several texts in one: What the laws' helpers on slices of ints do: toIntS copies, eqIntS finds like rows alike, markIntS numbers a row, heldIntS finds it numbered. Conditions: rows that can be read (markIntS: a row of the call's own), lengths of at most 2 to the 40. · Marks of entries and of ints from any number on: contracts. · Lists of entries that come in as an argument: what their cells hold. No condition but those that each theorem states. -/
import Derived.Test.YtfbjlohnbpienaaGreatRows
import Derived.WalkKit
import Derived.ProofKit
import Derived.OpenShut
import Derived.RegionTactic
import Derived.ChangeAlike
import Derived.BigRegion
import Derived.Deep.QuietTactic
import Derived.BigQuiet
import Derived.Test.YtfbjlohnbpienaaGreatBzaa
import Derived.Test.YtfbjlohnbpienaaGreatBzbm
import Derived.Test.YtfbjlohnbpienaaGreatBzaq
import Derived.Deep.Slices
import Derived.Deep.SlicePairs
import Derived.Lib.SmallJoins
namespace Go.Proofs.YtfbjlohnbpienaaGreat
open Go.ChangeShapes Go.WideShapes Go.ChangeAt Go.RowKit

theorem hid {p : Prop} (h : p) : Hid p := h
/-- Ints as values. -/
def iv (f : Nat → Int) (i : Nat) : Value := .int .i64 (f i)


end Go.Proofs.YtfbjlohnbpienaaGreat

namespace Go.Proofs.YtfbjlohnbpienaaGreat
open Go.ChangeShapes Go.WideShapes Go.ChangeAt Go.RowKit
set_option linter.unusedVariables false
set_option maxRecDepth 100000
set_option linter.unusedSimpArgs false

/-- Entries that are numbered from q on. -/
def mkE (q : Int) (i : Nat) : En := (q + 3 * i, q + 3 * i + 1, q + 3 * i + 2)
set_option maxHeartbeats 2000000 in
theorem markEntryS_any (g n cap : Nat) (X : Nat → En) (q : Int) (w : World) (h : Hid (w.rowIs g 96 (n * 3) (tf X))) (hn : n ≤ 1099511627776) (q0 : 0 ≤ q) (q1 : q ≤ 1099511627776) :
    Calls Tryz.prog 37 #[.slice (some ⟨g, 0, none⟩) n cap, .int .i64 q] w fun e w' => e = .returned (.int .i64 (q + 3 * n)) ∧ w'.rowIs g 96 (n * 3) (tf (mkE q)) ∧ Chg (fun b => b = g) w w' := by
  go_enter Tryz.func37, Tryz.ntmps37
  go_wp2
  go_loopw [1, 5] (fun v i W => ∃ k : Nat, k ≤ n ∧ i = .int .i64 k ∧ v = .int .i64 (q + 3 * k) ∧ Hid (W.rowIs g 96 (n * 3) (cpT (mkE q) X k)) ∧ Hid (Chg (fun b => b = g) w W)) (fun _ i _ => n - (intOf i).toNat)
  case atStart => exact ⟨0, Nat.zero_le _, rfl, by simp, hik (h.out.congr (fun i _ => by simp [cpT])), hik (Chg.refl _ _)⟩
  case round =>
    obtain ⟨k, hk, rfl, rfl, HR, HC⟩ := hrel
    by_cases hlt : k < n
    · have hkn : ((k : Nat) : Int) < n := by omega
      have g0 := HR.out.cell (i := k * 3) (by omega)
      have g1 := HR.out.cell (i := k * 3 + 1) (by omega)
      have g2 := HR.out.cell (i := k * 3 + 2) (by omega)
      have f0 := HR.out.frozen (k * 3)
      have f1 := HR.out.frozen (k * 3 + 1)
      have f2 := HR.out.frozen (k * 3 + 2)
      have HR2 := hik (cpT_set HR.out (q + 3 * k) (q + 3 * k + 1) (q + 3 * k + 2) rfl)
      have HC2 := hik (((HC.out.setCell (p := ⟨g, k * 3, none⟩) (fun _ => rfl) (.int .i64 (q + 3 * k))).setCell (p := ⟨g, k * 3 + 1, none⟩) (fun _ => rfl) (.int .i64 (q + 3 * k + 1))).setCell (p := ⟨g, k * 3 + 2, none⟩) (fun _ => rfl) (.int .i64 (q + 3 * k + 2)))
      go_wp2
      go_roundw
      case rel => exact ⟨k + 1, by omega, by go_num, by go_num, by first | exact HR2 | (have := HR2; simpa [Int.add_assoc] using this), by first | exact HC2 | (have := HC2; simpa [Int.add_assoc] using this)⟩
      case measure => simp [intOf]; omega
    · obtain rfl : k = n := by omega
      go_wp2
      go_ret
      exact ⟨rfl, HR.out.congr (fun i hi => by simp [cpT, hi]), HC.out⟩

/-- n ints behind c in a block of the call's own (not below B), or none. -/
def OwnI (w : World) (B : Nat) (c : Option Addr) (n : Nat) (f : Nat → Int) : Prop := n = 0 ∨ ∃ g, B ≤ g ∧ c = some ⟨g, 0, none⟩ ∧ w.rowIs g 3 n (iv f)
theorem OwnI.row {w : World} {B : Nat} {c : Option Addr} {n : Nat} {f : Nat → Int} (h : OwnI w B c n f) : RowV w c n (iv f) := by
  rcases h with rfl | ⟨g, _, rfl, r⟩
  · intro i hi; omega
  · exact RowV.of_row r (Nat.le_refl _)
theorem OwnI.chg {P : Nat → Prop} {w w' : World} {B : Nat} {c : Option Addr} {n : Nat} {f : Nat → Int} (h : OwnI w B c n f) (k : Chg P w w') (hp : ∀ b, B ≤ b → c = some ⟨b, 0, none⟩ → b < w.heap.size → ¬ P b) : OwnI w' B c n f := by
  rcases h with rfl | ⟨g, hb, e, r⟩
  · exact .inl rfl
  · exact .inr ⟨g, hb, e, rowIs_chg r k (hp g hb e r.lt)⟩
theorem OwnI.keep {w w' : World} {B : Nat} {c : Option Addr} {n : Nat} {f : Nat → Int} (h : OwnI w B c n f) (k : Chg nob w w') : OwnI w' B c n f := h.chg k (fun _ _ _ _ x => x)
theorem OwnI.far {P : Nat → Prop} {w w' : World} {B : Nat} {c : Option Addr} {n : Nat} {f : Nat → Int} (h : OwnI w B c n f) (k : Chg P w w') (hp : ∀ b, B ≤ b → c = some ⟨b, 0, none⟩ → n = 0 ∨ ¬ P b) : OwnI w' B c n f := by
  rcases h with h0 | ⟨g, hb, e, r⟩
  · exact .inl h0
  · rcases hp g hb e with h0 | h0
    · exact .inl h0
    · exact .inr ⟨g, hb, e, rowIs_chg r k h0⟩

end Go.Proofs.YtfbjlohnbpienaaGreat

namespace Go.Proofs.YtfbjlohnbpienaaGreat
open Go.ChangeShapes Go.WideShapes Go.ChangeAt Go.RowKit Go.Deep Go.Joins
set_option linter.unusedVariables false
set_option maxRecDepth 100000
set_option linter.unusedSimpArgs false

theorem cellsEn : Tryz.prog.cellsOf 98 = 3 := by kernel_rfl
theorem cellsIn : Tryz.prog.cellsOf 3 = 1 := by kernel_rfl
section
variable {H : Type} {enc : TypeId × Value → H} {w : World} {base : Nat} {spare : Nat → Bool} {held : Bool}
theorem in_ents {fuel : Nat} {v : Value} {x : DataW H × List MemPlace} (hf : DataW.trod enc Tryz.prog w base spare held fuel 31 [v] = some x) :
    ∃ (c : Option Addr) (n cap : Nat) (X : Nat → En), v = .slice c n cap ∧ EntV w c n X ∧ n ≤ 9223372036854775807 := by
  rcases open_slice Tryz.underlying31 hf with ⟨hcs, _⟩ | ⟨a, len, cap, m, n, D, Pl, hcs, hb, hl, hm, hmm, _, hx⟩
  · simp at hcs
    subst hcs
    exact ⟨none, 0, 0, fun _ => (0, 0, 0), rfl, fun i hi => absurd hi (by omega), by omega⟩
  · simp at hcs
    subst hcs
    have hlm : len ≤ m := by rw [hmm]; split <;> omega
    unfold maxLen at hm
    obtain ⟨q, hq⟩ := choose_lt (α := En) (n := len) (p := fun i q => w.cell? (a.add (i * 3)) = some (.int .i64 q.1) ∧ w.cell? (a.add (i * 3 + 1)) = some (.int .i64 q.2.1) ∧ w.cell? (a.add (i * 3 + 2)) = some (.int .i64 q.2.2)) (fun i hi => by
      obtain ⟨cs', h1, h2⟩ := hx i (by omega)
      rw [cellsEn] at h1
      obtain ⟨_, hlen, hcell⟩ := World.cells?_some h1
      obtain ⟨xs, k, hk, hxy, _, hxl, hf⟩ := DataW.trod_struct Tryz.underlying98 h2
      match xs, hxl, cs', hlen with
      | [y0, y1, y2], _, [v0, v1, v2], _ =>
        have g0 := hf 0 _ rfl
        have g1 := hf 1 _ rfl
        have g2 := hf 2 _ rfl
        simp [cellsIn] at g0 g1 g2
        obtain ⟨i0, e0, _⟩ := DataW.trod_int Tryz.underlying3 g0
        obtain ⟨i1, e1, _⟩ := DataW.trod_int Tryz.underlying3 g1
        obtain ⟨i2, e2, _⟩ := DataW.trod_int Tryz.underlying3 g2
        simp at e0 e1 e2
        subst e0 e1 e2
        have k0 := hcell 0 (by omega)
        have k1 := hcell 1 (by omega)
        have k2 := hcell 2 (by omega)
        rw [add_add] at k0 k1 k2
        exact ⟨(i0, i1, i2), by simpa using k0, by simpa using k1, by simpa using k2⟩)
    refine ⟨some a, len, cap, q, rfl, fun i hi => ?_, by omega⟩
    obtain ⟨b, o, spot⟩ := a
    obtain ⟨h1, h2, h3⟩ := hq i hi
    have hs : spot = none := by simpa [Addr.add] using World.cell?_spot (hq 0 (by omega)).1
    subst hs
    rw [Go.WideShapes.add_plain] at h1 h2 h3
    exact ⟨b, o, rfl, block_lt_of_cell h1, h1, by rw [Nat.add_assoc]; exact h2, by rw [Nat.add_assoc]; exact h3⟩
theorem arr6 {α : Type} {cs : Array α} (h : cs.size = 6) : ∃ c0 c1 c2 c3 c4 c5, cs = #[c0, c1, c2, c3, c4, c5] := by
  obtain ⟨l⟩ := cs
  match l, h with
  | [c0, c1, c2, c3, c4, c5], _ => exact ⟨c0, c1, c2, c3, c4, c5, rfl⟩
theorem in_system {r : Reach} {b0 : Nat} {v : Value} {d : DataW H} {p : List MemPlace} (hv : Value.okWide Tryz.prog w r b0 33 v) (h : DataW.Trod enc Tryz.prog w base spare held 33 v d p) :
    ∃ (s : Sy) (a : SyA), v = .agg #[.int .i64 s.r, .int .i64 s.q, .int .i64 s.p, .slice a.cA s.nA a.pA, .slice a.cB s.nB a.pB, .slice a.cC s.nC a.pC] ∧ SyV w s a ∧ s.nA ≤ 9223372036854775807 ∧ s.nB ≤ 9223372036854775807 ∧ s.nC ≤ 9223372036854775807 := by
  obtain ⟨cs, rfl, hsz⟩ := okWide_struct Tryz.underlying33 hv
  have hc6 : Tryz.prog.cellsOf 33 = 6 := by kernel_rfl
  obtain ⟨c0, c1, c2, c3, c4, c5, rfl⟩ := arr6 (hsz.trans hc6)
  obtain ⟨fuel, hf⟩ := h
  obtain ⟨xs, n, _, _, _, hlen, hh⟩ := DataW.trod_struct Tryz.underlying33 hf
  have g0 := hh 0 _ rfl
  have g1 := hh 1 _ rfl
  have g2 := hh 2 _ rfl
  have g3 := hh 3 _ rfl
  have g4 := hh 4 _ rfl
  have g5 := hh 5 _ rfl
  have e4 : Tryz.prog.cellsOf 31 = 1 := by kernel_rfl
  simp [Value.cells, cellsIn, e4] at g0 g1 g2 g3 g4 g5
  match xs, hlen with
  | [y0, y1, y2, y3, y4, y5], _ =>
    simp at g0 g1 g2 g3 g4 g5
    obtain ⟨i0, e0, _⟩ := DataW.trod_int Tryz.underlying3 g0
    obtain ⟨i1, e1, _⟩ := DataW.trod_int Tryz.underlying3 g1
    obtain ⟨i2, e2, _⟩ := DataW.trod_int Tryz.underlying3 g2
    obtain ⟨cA, nA, pA, XA, rfl, hA, bA⟩ := in_ents g3
    obtain ⟨cB, nB, pB, XB, rfl, hB, bB⟩ := in_ents g4
    obtain ⟨cC, nC, pC, XC, rfl, hC, bC⟩ := in_ents g5
    simp at e0 e1 e2
    subst e0 e1 e2
    exact ⟨⟨i0, i1, i2, nA, nB, nC, XA, XB, XC⟩, ⟨cA, cB, cC, pA, pB, pC⟩, rfl, ⟨hA, hB, hC⟩, bA, bB, bC⟩
end

end Go.Proofs.YtfbjlohnbpienaaGreat
