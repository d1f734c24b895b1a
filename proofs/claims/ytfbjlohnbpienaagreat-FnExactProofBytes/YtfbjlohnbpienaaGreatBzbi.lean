/- Several texts in one: Lists of lists that come in as an argument: what their cells hold. No condition but those that each theorem states. · Openings that come in as an argument: what their cells hold. No condition but those that each theorem states. -/
import Derived.Test.YtfbjlohnbpienaaGreatBzaf
import Derived.Deep.SlicePairs
import Derived.OpenShut
import Derived.Test.YtfbjlohnbpienaaGreatBzak
import Derived.Deep.Strs
import Derived.Lib.SmallJoins
namespace Go.Proofs.YtfbjlohnbpienaaGreat
open Go.ChangeShapes Go.WideShapes Go.ChangeAt Go.RowKit Go.Deep
set_option linter.unusedVariables false
set_option maxRecDepth 100000
set_option linter.unusedSimpArgs false

theorem cellsL2 : Tryz.prog.cellsOf 24 = 2 := by kernel_rfl
theorem cellsL1 : Tryz.prog.cellsOf 3 = 1 := by kernel_rfl

section
variable {H : Type} {enc : TypeId × Value → H} {w : World} {base : Nat} {spare : Nat → Bool} {held : Bool}
theorem open_list {fuel : Nat} {v : Value} {x : DataW H × List MemPlace} (hf : DataW.trod enc Tryz.prog w base spare held fuel 83 [v] = some x) :
    ∃ q : (Option Addr × Nat × Nat) × (Nat → Int) × (Nat → Int), v = .slice q.1.1 q.1.2.1 q.1.2.2 ∧ IsPairs w q.1.1 q.1.2.1 q.1.2.2 q.2.1 q.2.2 := by
  rcases open_slice_pairs Tryz.underlying83 Tryz.underlying24 cellsL2 rfl rfl cellsL1 cellsL1 hf with ⟨hcs, _⟩ | ⟨x, l, c, m, n, V0, V1, D0, D1, P0, P1, hcs, _, hl, hm, hmm, _, hall⟩
  · simp at hcs
    subst hcs
    exact ⟨((none, 0, 0), (fun _ => 0), (fun _ => 0)), rfl, .inl ⟨rfl, rfl, rfl⟩⟩
  · simp at hcs
    subst hcs
    have hlm : l ≤ m := by rw [hmm]; split <;> omega
    refine ⟨((some x, l, c), (fun i => cint (w.cell? (x.add (i * 2)))), (fun i => cint (w.cell? (x.add (i * 2 + 1))))), rfl, .inr ⟨x, rfl, hl, hm, fun i hi => ?_⟩⟩
    have hi' : i < l := hi
    obtain ⟨h1, h2, h3, h4⟩ := hall i (by omega)
    obtain ⟨a, ea, _, _⟩ := DataW.trod_int Tryz.underlying3 h3
    obtain ⟨b, eb, _, _⟩ := DataW.trod_int Tryz.underlying3 h4
    simp at ea eb
    rw [ea] at h1
    rw [eb] at h2
    simp [h1, h2, cint]

end

end Go.Proofs.YtfbjlohnbpienaaGreat

namespace Go.Proofs.YtfbjlohnbpienaaGreat
open Go.ChangeShapes Go.WideShapes Go.ChangeAt Go.RowKit Go.Deep Go.Joins
set_option linter.unusedVariables false
set_option maxRecDepth 100000
set_option linter.unusedSimpArgs false

/-- A query of nothing. -/
def q0D : QD := ⟨0, fun _ => 0, fun _ => 0, 0, fun _ => 0, fun _ _ => ⟨#[]⟩⟩
theorem cells9S : Tryz.prog.cellsOf 9 = 1 := by kernel_rfl
theorem cells9SS : Tryz.prog.cellsOf 25 = 1 := by kernel_rfl
theorem cells9P : Tryz.prog.cellsOf 83 = 1 := by kernel_rfl
theorem cells9PP : Tryz.prog.cellsOf 104 = 1 := by kernel_rfl
theorem cells9Q : Tryz.prog.cellsOf 115 = 2 := by kernel_rfl

section
variable {H : Type} {enc : TypeId × Value → H} {w : World} {base : Nat} {spare : Nat → Bool} {held : Bool}
theorem in_exts {fuel : Nat} {v : Value} {x : DataW H × List MemPlace} (hf : DataW.trod enc Tryz.prog w base spare held fuel 83 [v] = some x) :
    ∃ q : (Option Addr × Nat × Nat) × (Nat → Int) × (Nat → Int), v = .slice q.1.1 q.1.2.1 q.1.2.2 ∧ (Dt.exts q.1.2.1 q.2.1 q.2.2).Rep w v ∧ (Dt.exts q.1.2.1 q.2.1 q.2.2).big := by
  obtain ⟨q, e, hp⟩ := open_list hf
  have := pairs_of hp
  exact ⟨q, e, ⟨_, _, e, this.1⟩, by show q.1.2.1 ≤ 9223372036854775807; have := this.2; omega⟩
theorem in_texts {fuel : Nat} {v : Value} {x : DataW H × List MemPlace} (hf : DataW.trod enc Tryz.prog w base spare held fuel 25 [v] = some x) :
    ∃ q : (Option Addr × Nat × Nat) × (Nat → ByteArray), v = .slice q.1.1 q.1.2.1 q.1.2.2 ∧ (Dt.texts q.1.2.1 q.2).Rep w v ∧ (Dt.texts q.1.2.1 q.2).big := by
  rcases open_strs Tryz.underlying25 Tryz.underlying9 cells9S hf with ⟨hcs, _⟩ | ⟨a, l, c, m, Sx, hcs, _, hl, hm, hmm, _, hall⟩
  · simp at hcs
    subst hcs
    exact ⟨((none, 0, 0), fun _ => ⟨#[]⟩), rfl, ⟨_, _, rfl, fun i hi => absurd hi (Nat.not_lt_zero i)⟩, ⟨Nat.zero_le _, fun i hi => absurd hi (Nat.not_lt_zero i)⟩⟩
  · simp at hcs
    subst hcs
    have hlm : l ≤ m := by rw [hmm]; split <;> omega
    unfold maxLen at hm hall
    refine ⟨((some a, l, c), Sx), rfl, ⟨_, _, rfl, fun i hi => ?_⟩, ⟨by show l ≤ _; omega, fun i hi => by have := (hall i (by have : i < l := hi; omega)).2; omega⟩⟩
    have hi' : i < l := hi
    have h1 := (hall i (by omega)).1
    obtain ⟨b, o, spot⟩ := a
    have hs : spot = none := by simpa [Addr.add] using World.cell?_spot (hall 0 (by omega)).1
    subst hs
    rw [Go.WideShapes.add_plain] at h1
    exact ⟨b, o, rfl, block_lt_of_cell h1, h1⟩
theorem in_dSS {fuel : Nat} {v : Value} {x : DataW H × List MemPlace} (hf : DataW.trod enc Tryz.prog w base spare held fuel 104 [v] = some x) :
    ∃ (c : Option Addr) (n cap : Nat) (l : Nat → Nat) (T : Nat → Nat → ByteArray), v = .slice c n cap ∧ (dSS n l T).Rep w v ∧ (dSS n l T).big := by
  rcases open_slice1 Tryz.underlying104 cells9SS hf with ⟨hcs, _⟩ | ⟨a, l, c, m, k, V, D, Pl, hcs, _, hl, hm, hmm, _, hall⟩
  · simp at hcs
    subst hcs
    exact ⟨none, 0, 0, fun _ => 0, fun _ _ => ⟨#[]⟩, rfl, ⟨_, _, rfl, fun i hi => absurd hi (by omega)⟩, by omega, fun i j hi => absurd hi (by omega)⟩
  · simp at hcs
    subst hcs
    have hlm : l ≤ m := by rw [hmm]; split <;> omega
    unfold maxLen at hm
    obtain ⟨q, hq⟩ := choose_lt (α := (Option Addr × Nat × Nat) × (Nat → ByteArray)) (n := l) (p := fun i q => w.cell? (a.add i) = some (.slice q.1.1 q.1.2.1 q.1.2.2) ∧ (Dt.texts q.1.2.1 q.2).Rep w (.slice q.1.1 q.1.2.1 q.1.2.2) ∧ (Dt.texts q.1.2.1 q.2).big) (fun i hi => by
      obtain ⟨h1, h2⟩ := hall i (by omega)
      obtain ⟨q, e, hr, hb⟩ := in_texts h2
      rw [e] at h1 hr
      exact ⟨q, h1, hr, hb⟩)
    refine ⟨some a, l, c, fun i => (q i).1.2.1, fun i => (q i).2, rfl, ⟨_, _, rfl, fun i hi => ?_⟩, by omega, fun i j hi _ => (hq i hi).2.2⟩
    obtain ⟨b, o, spot⟩ := a
    obtain ⟨h1, h2, _⟩ := hq i hi
    have hs : spot = none := by simpa [Addr.add] using World.cell?_spot (hq 0 (by omega)).1
    subst hs
    rw [Go.WideShapes.add_plain] at h1
    exact ⟨b, o, rfl, block_lt_of_cell h1, fun j hj => ⟨_, by rw [show o + (i * 1 + j) = o + i by omega]; exact h1, h2⟩⟩
theorem in_dEE {fuel : Nat} {v : Value} {x : DataW H × List MemPlace} (hf : DataW.trod enc Tryz.prog w base spare held fuel 22 [v] = some x) :
    ∃ (c : Option Addr) (n cap : Nat) (l : Nat → Nat) (f g : Nat → Nat → Int), v = .slice c n cap ∧ (dEE n l f g).Rep w v ∧ (dEE n l f g).big := by
  rcases open_slice1 Tryz.underlying22 cells9P hf with ⟨hcs, _⟩ | ⟨a, l, c, m, k, V, D, Pl, hcs, _, hl, hm, hmm, _, hall⟩
  · simp at hcs
    subst hcs
    exact ⟨none, 0, 0, fun _ => 0, fun _ _ => 0, fun _ _ => 0, rfl, ⟨_, _, rfl, fun i hi => absurd hi (by omega)⟩, by omega, fun i j hi => absurd hi (by omega)⟩
  · simp at hcs
    subst hcs
    have hlm : l ≤ m := by rw [hmm]; split <;> omega
    unfold maxLen at hm
    obtain ⟨q, hq⟩ := choose_lt (α := (Option Addr × Nat × Nat) × (Nat → Int) × (Nat → Int)) (n := l) (p := fun i q => w.cell? (a.add i) = some (.slice q.1.1 q.1.2.1 q.1.2.2) ∧ (Dt.exts q.1.2.1 q.2.1 q.2.2).Rep w (.slice q.1.1 q.1.2.1 q.1.2.2) ∧ (Dt.exts q.1.2.1 q.2.1 q.2.2).big) (fun i hi => by
      obtain ⟨h1, h2⟩ := hall i (by omega)
      obtain ⟨q, e, hr, hb⟩ := in_exts h2
      rw [e] at h1 hr
      exact ⟨q, h1, hr, hb⟩)
    refine ⟨some a, l, c, fun i => (q i).1.2.1, fun i => (q i).2.1, fun i => (q i).2.2, rfl, ⟨_, _, rfl, fun i hi => ?_⟩, by omega, fun i j hi _ => (hq i hi).2.2⟩
    obtain ⟨b, o, spot⟩ := a
    obtain ⟨h1, h2, _⟩ := hq i hi
    have hs : spot = none := by simpa [Addr.add] using World.cell?_spot (hq 0 (by omega)).1
    subst hs
    rw [Go.WideShapes.add_plain] at h1
    exact ⟨b, o, rfl, block_lt_of_cell h1, fun j hj => ⟨_, by rw [show o + (i * 1 + j) = o + i by omega]; exact h1, h2⟩⟩
theorem in_dQs {fuel : Nat} {v : Value} {x : DataW H × List MemPlace} (hf : DataW.trod enc Tryz.prog w base spare held fuel 26 [v] = some x) :
    ∃ (c : Option Addr) (n cap : Nat) (q : Nat → QD), v = .slice c n cap ∧ (dQs n q).Rep w v ∧ (dQs n q).big := by
  rcases open_slice_pairs Tryz.underlying26 Tryz.underlying115 cells9Q rfl rfl cells9P cells9PP hf with ⟨hcs, _⟩ | ⟨a, l, c, m, k, V0, V1, D0, D1, P0, P1, hcs, _, hl, hm, hmm, _, hall⟩
  · simp at hcs
    subst hcs
    exact ⟨none, 0, 0, fun _ => q0D, rfl, ⟨_, _, rfl, fun i hi => absurd hi (by omega)⟩, by omega, fun i j hi => absurd hi (by omega)⟩
  · simp at hcs
    subst hcs
    have hlm : l ≤ m := by rw [hmm]; split <;> omega
    unfold maxLen at hm
    haveI : Inhabited QD := ⟨q0D⟩
    obtain ⟨q, hq⟩ := choose_lt (α := QD) (n := l) (p := fun i q => ∃ u v, w.cell? (a.add (i * 2)) = some u ∧ w.cell? (a.add (i * 2 + 1)) = some v ∧ q.P.Rep w u ∧ q.S.Rep w v ∧ q.P.big ∧ q.S.big) (fun i hi => by
      obtain ⟨h1, h2, h3, h4⟩ := hall i (by omega)
      obtain ⟨p, e, hr, hb⟩ := in_exts h3
      obtain ⟨c', n', cap', l', T', e', hr', hb'⟩ := in_dSS h4
      exact ⟨⟨p.1.2.1, p.2.1, p.2.2, n', l', T'⟩, _, _, h1, h2, hr, hr', hb, hb'⟩)
    refine ⟨some a, l, c, q, rfl, ⟨_, _, rfl, fun i hi => ?_⟩, by omega, fun i j hi hj => ?_⟩
    · obtain ⟨b, o, spot⟩ := a
      obtain ⟨u, v, h1, h2, h3, h4, _⟩ := hq i hi
      obtain ⟨_, _, h0, _⟩ := hq 0 (by omega)
      have hs : spot = none := by simpa [Addr.add] using World.cell?_spot h0
      subst hs
      rw [Go.WideShapes.add_plain] at h1 h2
      refine ⟨b, o, rfl, block_lt_of_cell h1, fun j hj => ?_⟩
      rcases (show j = 0 ∨ j = 1 by omega) with rfl | rfl
      · exact ⟨u, h1, h3⟩
      · exact ⟨v, h2, h4⟩
    · obtain ⟨u, v, _, _, _, _, h5, h6⟩ := hq i hi
      rcases (show j = 0 ∨ j = 1 by omega) with rfl | rfl
      · exact h5
      · exact h6
end

end Go.Proofs.YtfbjlohnbpienaaGreat
