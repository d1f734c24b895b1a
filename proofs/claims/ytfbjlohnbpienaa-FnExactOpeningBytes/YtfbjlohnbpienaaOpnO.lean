/- Openings that come in as an argument: what their cells hold. No condition but those that each theorem states. -/
import Derived.Test.YtfbjlohnbpienaaOpnR
import Derived.Test.YtfbjlohnbpienaaLawDz
import Derived.Deep.Strs
import Derived.Deep.SlicePairs
import Derived.Lib.SmallJoins
import Derived.OpenShut
namespace Go.Proofs.Ytfbjlohnbpienaa
open Go.ChangeShapes Go.WideShapes Go.ChangeAt Go.RowKit Go.Deep Go.Joins
set_option linter.unusedVariables false
set_option maxRecDepth 100000
set_option linter.unusedSimpArgs false

/-- A query of nothing. -/
def q0D : QD := ⟨0, fun _ => 0, fun _ => 0, 0, fun _ => 0, fun _ _ => ⟨#[]⟩⟩
theorem cells9S : Try.prog.cellsOf 9 = 1 := by kernel_rfl
theorem cells9SS : Try.prog.cellsOf 23 = 1 := by kernel_rfl
theorem cells9P : Try.prog.cellsOf 92 = 1 := by kernel_rfl
theorem cells9PP : Try.prog.cellsOf 74 = 1 := by kernel_rfl
theorem cells9Q : Try.prog.cellsOf 95 = 2 := by kernel_rfl
theorem array6 {α : Type} {cs : Array α} (h : cs.size = 6) : ∃ c0 c1 c2 c3 c4 c5, cs = #[c0, c1, c2, c3, c4, c5] := by
  obtain ⟨l⟩ := cs
  match l, h with
  | [c0, c1, c2, c3, c4, c5], _ => exact ⟨c0, c1, c2, c3, c4, c5, rfl⟩

section
variable {H : Type} {enc : TypeId × Value → H} {w : World} {base : Nat} {spare : Nat → Bool} {held : Bool}
theorem in_exts {fuel : Nat} {v : Value} {x : DataW H × List MemPlace} (hf : DataW.trod enc Try.prog w base spare held fuel 92 [v] = some x) :
    ∃ q : (Option Addr × Nat × Nat) × (Nat → Int) × (Nat → Int), v = .slice q.1.1 q.1.2.1 q.1.2.2 ∧ (Dt.exts q.1.2.1 q.2.1 q.2.2).Rep w v ∧ (Dt.exts q.1.2.1 q.2.1 q.2.2).big := by
  obtain ⟨q, e, hp⟩ := open_list hf
  have := pairs_of hp
  exact ⟨q, e, ⟨_, _, e, this.1⟩, by show q.1.2.1 ≤ 9223372036854775807; have := this.2; omega⟩
theorem in_texts {fuel : Nat} {v : Value} {x : DataW H × List MemPlace} (hf : DataW.trod enc Try.prog w base spare held fuel 23 [v] = some x) :
    ∃ q : (Option Addr × Nat × Nat) × (Nat → ByteArray), v = .slice q.1.1 q.1.2.1 q.1.2.2 ∧ (Dt.texts q.1.2.1 q.2).Rep w v ∧ (Dt.texts q.1.2.1 q.2).big := by
  rcases open_strs Try.underlying23 Try.underlying9 cells9S hf with ⟨hcs, _⟩ | ⟨a, l, c, m, Sx, hcs, _, hl, hm, hmm, _, hall⟩
  · simp at hcs
    subst hcs
    exact ⟨((none, 0, 0), fun _ => ⟨#[]⟩), rfl, ⟨_, _, rfl, fun i hi => absurd hi (Nat.not_lt_zero i)⟩, ⟨Nat.zero_le _, fun i hi => absurd hi (Nat.not_lt_zero i)⟩⟩
  · simp at hcs
    subst hcs
    have hlm : l ≤ m := by rw [hmm]; split <;> omega
    unfold maxLen at hm hall
    refine ⟨((some a, l, c), Sx), rfl, ⟨_, _, rfl, fun i hi => ?_⟩, ⟨by show l ≤ _; omega, fun i hi => by have := (hall i (by have : i < l := hi; omega)).2; omega⟩⟩
    have hi' : i < l := hi
    have h1 := (hall i (by omega)).1
    obtain ⟨b, o, spot⟩ := a
    have hs : spot = none := by simpa [Addr.add] using World.cell?_spot (hall 0 (by omega)).1
    subst hs
    rw [Go.WideShapes.add_plain] at h1
    exact ⟨b, o, rfl, block_lt_of_cell h1, h1⟩
theorem in_dSS {fuel : Nat} {v : Value} {x : DataW H × List MemPlace} (hf : DataW.trod enc Try.prog w base spare held fuel 74 [v] = some x) :
    ∃ (c : Option Addr) (n cap : Nat) (l : Nat → Nat) (T : Nat → Nat → ByteArray), v = .slice c n cap ∧ (dSS n l T).Rep w v ∧ (dSS n l T).big := by
  rcases open_slice1 Try.underlying74 cells9SS hf with ⟨hcs, _⟩ | ⟨a, l, c, m, k, V, D, Pl, hcs, _, hl, hm, hmm, _, hall⟩
  · simp at hcs
    subst hcs
    exact ⟨none, 0, 0, fun _ => 0, fun _ _ => ⟨#[]⟩, rfl, ⟨_, _, rfl, fun i hi => absurd hi (by omega)⟩, by omega, fun i j hi => absurd hi (by omega)⟩
  · simp at hcs
    subst hcs
    have hlm : l ≤ m := by rw [hmm]; split <;> omega
    unfold maxLen at hm
    obtain ⟨q, hq⟩ := choose_lt (α := (Option Addr × Nat × Nat) × (Nat → ByteArray)) (n := l) (p := fun i q => w.cell? (a.add i) = some (.slice q.1.1 q.1.2.1 q.1.2.2) ∧ (Dt.texts q.1.2.1 q.2).Rep w (.slice q.1.1 q.1.2.1 q.1.2.2) ∧ (Dt.texts q.1.2.1 q.2).big) (fun i hi => by
      obtain ⟨h1, h2⟩ := hall i (by omega)
      obtain ⟨q, e, hr, hb⟩ := in_texts h2
      rw [e] at h1 hr
      exact ⟨q, h1, hr, hb⟩)
    refine ⟨some a, l, c, fun i => (q i).1.2.1, fun i => (q i).2, rfl, ⟨_, _, rfl, fun i hi => ?_⟩, by omega, fun i j hi _ => (hq i hi).2.2⟩
    obtain ⟨b, o, spot⟩ := a
    obtain ⟨h1, h2, _⟩ := hq i hi
    have hs : spot = none := by simpa [Addr.add] using World.cell?_spot (hq 0 (by omega)).1
    subst hs
    rw [Go.WideShapes.add_plain] at h1
    exact ⟨b, o, rfl, block_lt_of_cell h1, fun j hj => ⟨_, by rw [show o + (i * 1 + j) = o + i by omega]; exact h1, h2⟩⟩
theorem in_dEE {fuel : Nat} {v : Value} {x : DataW H × List MemPlace} (hf : DataW.trod enc Try.prog w base spare held fuel 22 [v] = some x) :
    ∃ (c : Option Addr) (n cap : Nat) (l : Nat → Nat) (f g : Nat → Nat → Int), v = .slice c n cap ∧ (dEE n l f g).Rep w v ∧ (dEE n l f g).big := by
  rcases open_slice1 Try.underlying22 cells9P hf with ⟨hcs, _⟩ | ⟨a, l, c, m, k, V, D, Pl, hcs, _, hl, hm, hmm, _, hall⟩
  · simp at hcs
    subst hcs
    exact ⟨none, 0, 0, fun _ => 0, fun _ _ => 0, fun _ _ => 0, rfl, ⟨_, _, rfl, fun i hi => absurd hi (by omega)⟩, by omega, fun i j hi => absurd hi (by omega)⟩
  · simp at hcs
    subst hcs
    have hlm : l ≤ m := by rw [hmm]; split <;> omega
    unfold maxLen at hm
    obtain ⟨q, hq⟩ := choose_lt (α := (Option Addr × Nat × Nat) × (Nat → Int) × (Nat → Int)) (n := l) (p := fun i q => w.cell? (a.add i) = some (.slice q.1.1 q.1.2.1 q.1.2.2) ∧ (Dt.exts q.1.2.1 q.2.1 q.2.2).Rep w (.slice q.1.1 q.1.2.1 q.1.2.2) ∧ (Dt.exts q.1.2.1 q.2.1 q.2.2).big) (fun i hi => by
      obtain ⟨h1, h2⟩ := hall i (by omega)
      obtain ⟨q, e, hr, hb⟩ := in_exts h2
      rw [e] at h1 hr
      exact ⟨q, h1, hr, hb⟩)
    refine ⟨some a, l, c, fun i => (q i).1.2.1, fun i => (q i).2.1, fun i => (q i).2.2, rfl, ⟨_, _, rfl, fun i hi => ?_⟩, by omega, fun i j hi _ => (hq i hi).2.2⟩
    obtain ⟨b, o, spot⟩ := a
    obtain ⟨h1, h2, _⟩ := hq i hi
    have hs : spot = none := by simpa [Addr.add] using World.cell?_spot (hq 0 (by omega)).1
    subst hs
    rw [Go.WideShapes.add_plain] at h1
    exact ⟨b, o, rfl, block_lt_of_cell h1, fun j hj => ⟨_, by rw [show o + (i * 1 + j) = o + i by omega]; exact h1, h2⟩⟩
theorem in_dQs {fuel : Nat} {v : Value} {x : DataW H × List MemPlace} (hf : DataW.trod enc Try.prog w base spare held fuel 26 [v] = some x) :
    ∃ (c : Option Addr) (n cap : Nat) (q : Nat → QD), v = .slice c n cap ∧ (dQs n q).Rep w v ∧ (dQs n q).big := by
  rcases open_slice_pairs Try.underlying26 Try.underlying95 cells9Q rfl rfl cells9P cells9PP hf with ⟨hcs, _⟩ | ⟨a, l, c, m, k, V0, V1, D0, D1, P0, P1, hcs, _, hl, hm, hmm, _, hall⟩
  · simp at hcs
    subst hcs
    exact ⟨none, 0, 0, fun _ => q0D, rfl, ⟨_, _, rfl, fun i hi => absurd hi (by omega)⟩, by omega, fun i j hi => absurd hi (by omega)⟩
  · simp at hcs
    subst hcs
    have hlm : l ≤ m := by rw [hmm]; split <;> omega
    unfold maxLen at hm
    haveI : Inhabited QD := ⟨q0D⟩
    obtain ⟨q, hq⟩ := choose_lt (α := QD) (n := l) (p := fun i q => ∃ u v, w.cell? (a.add (i * 2)) = some u ∧ w.cell? (a.add (i * 2 + 1)) = some v ∧ q.P.Rep w u ∧ q.S.Rep w v ∧ q.P.big ∧ q.S.big) (fun i hi => by
      obtain ⟨h1, h2, h3, h4⟩ := hall i (by omega)
      obtain ⟨p, e, hr, hb⟩ := in_exts h3
      obtain ⟨c', n', cap', l', T', e', hr', hb'⟩ := in_dSS h4
      exact ⟨⟨p.1.2.1, p.2.1, p.2.2, n', l', T'⟩, _, _, h1, h2, hr, hr', hb, hb'⟩)
    refine ⟨some a, l, c, q, rfl, ⟨_, _, rfl, fun i hi => ?_⟩, by omega, fun i j hi hj => ?_⟩
    · obtain ⟨b, o, spot⟩ := a
      obtain ⟨u, v, h1, h2, h3, h4, _⟩ := hq i hi
      obtain ⟨_, _, h0, _⟩ := hq 0 (by omega)
      have hs : spot = none := by simpa [Addr.add] using World.cell?_spot h0
      subst hs
      rw [Go.WideShapes.add_plain] at h1 h2
      refine ⟨b, o, rfl, block_lt_of_cell h1, fun j hj => ?_⟩
      rcases (show j = 0 ∨ j = 1 by omega) with rfl | rfl
      · exact ⟨u, h1, h3⟩
      · exact ⟨v, h2, h4⟩
    · obtain ⟨u, v, _, _, _, _, h5, h6⟩ := hq i hi
      rcases (show j = 0 ∨ j = 1 by omega) with rfl | rfl
      · exact h5
      · exact h6
theorem in_opening {r : Reach} {b0 : Nat} {v : Value} {d : DataW H} {p : List MemPlace} (hv : Value.okWide Try.prog w r b0 28 v) (h : DataW.Trod enc Try.prog w base spare held 28 v d p) :
    ∃ (o : OD) (cR : Option Addr) (pR : Nat) (cT : Option Addr) (pT : Nat) (cQ : Option Addr) (pQ : Nat), v = .agg #[.slice cR o.nr pR, .slice cT o.nt pT, .int .i64 o.la, .int .i64 o.lb, .int .i64 o.no, .slice cQ o.nq pQ] ∧ OpV w o cR pR cT pT cQ pQ ∧ o.big := by
  obtain ⟨cs, rfl, hsz⟩ := okWide_struct Try.underlying28 hv
  have hc6 : Try.prog.cellsOf 28 = 6 := by kernel_rfl
  obtain ⟨c0, c1, c2, c3, c4, c5, rfl⟩ := array6 (hsz.trans hc6)
  obtain ⟨fuel, hf⟩ := h
  obtain ⟨xs, n, _, _, _, hlen, hh⟩ := DataW.trod_struct Try.underlying28 hf
  have g0 := hh 0 _ rfl
  have g1 := hh 1 _ rfl
  have g2 := hh 2 _ rfl
  have g3 := hh 3 _ rfl
  have g4 := hh 4 _ rfl
  have e2 : Try.prog.cellsOf 25 = 2 := by kernel_rfl
  have e3 : Try.prog.cellsOf 3 = 1 := by kernel_rfl
  have e4 : Try.prog.cellsOf 26 = 1 := by kernel_rfl
  have e0 : Try.prog.cellsOf 22 = 1 := by kernel_rfl
  simp [Value.cells, cells9SS, e0, e2, e3, e4] at g0 g1 g2 g3 g4
  match xs, hlen with
  | [y0, y1, y2, y3, y4], _ =>
    simp at g0 g1 g2 g3 g4
    obtain ⟨cR, nr, pR, rl, rf, rg, rfl, hR, bR⟩ := in_dEE g0
    obtain ⟨q, rfl, hS, bS⟩ := in_texts g1
    obtain ⟨z0, z1, m, _, _, k0, k1⟩ := trod_struct2 Try.underlying25 g2
    simp [e3] at k0 k1
    obtain ⟨la, ea, _⟩ := DataW.trod_int Try.underlying3 k0
    obtain ⟨lb, eb, _⟩ := DataW.trod_int Try.underlying3 k1
    obtain ⟨no, en, _⟩ := DataW.trod_int Try.underlying3 g3
    obtain ⟨cQ, nq, pQ, qs, rfl, hQ, bQ⟩ := in_dQs g4
    simp at ea eb en
    subst ea eb en
    exact ⟨⟨nr, rl, rf, rg, q.1.2.1, q.2, la, lb, no, nq, qs⟩, cR, pR, q.1.1, q.1.2.2, cQ, pQ, rfl, ⟨hR, hS, hQ⟩, bR, bS, bQ⟩
end

end Go.Proofs.Ytfbjlohnbpienaa
