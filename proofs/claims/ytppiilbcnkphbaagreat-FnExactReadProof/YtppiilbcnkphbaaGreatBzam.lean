/- Several texts in one: Elements in blocks of their own, slices of elements of a call's own: words. No condition but those that each theorem states. · Lists of lists of elements: words on memory. No condition but those that each theorem states. · Plain facts: polynomial functions over the greater field, their roots, and the two forms of the polynomial through values at 0, 1, 2 and so on (Lagrange's and Newton's). No program is named here; no condition but those that each theorem states. · Plain facts: what tables are combined to, sums over all places, rounds. No program is named here; no condition but those that each theorem states. -/
import Derived.Test.YtppiilbcnkphbaaGreatBzal
namespace Go.Proofs.YtppiilbcnkphbaaGreat
open Go.ChangeShapes Go.WideShapes Go.ChangeAt Go.RowKit
set_option linter.unusedVariables false
set_option maxRecDepth 100000
set_option linter.unusedSimpArgs false

/-- An element in a block of its own. -/
def ElB (W : World) (b : Nat) (x : El) : Prop := W.rowIs b 31 2 (pv2 (.int .i64 x.v.1) (.int .i64 x.v.2))
theorem ElB.new (W : World) (x : El) : ElB (W.alloc (.cells #[.int .i64 x.v.1, .int .i64 x.v.2] 31)) W.heap.size x := row2_new W _ _ _
theorem ElB.zero (W : World) : ElB (W.alloc (.cells #[.int .i64 0, .int .i64 0] 31)) W.heap.size El.zr := row2_new W _ _ _
theorem ElB.keep {W W' : World} {b : Nat} {x : El} (h : ElB W b x) (k : Chg nob W W') : ElB W' b x := rowIs_keep h k
theorem ElB.chg {P : Nat → Prop} {W W' : World} {b : Nat} {x : El} (h : ElB W b x) (k : Chg P W W') (hp : ¬ P b) : ElB W' b x := rowIs_chg h k hp
theorem ElB.lt {W : World} {b : Nat} {x : El} (h : ElB W b x) : b < W.heap.size := World.rowIs.lt h
theorem ElB.c0 {W : World} {b : Nat} {x : El} (h : ElB W b x) : W.cell? ⟨b, 0, none⟩ = some (.int .i64 x.v.1) := row2_c0 h
theorem ElB.c1 {W : World} {b : Nat} {x : El} (h : ElB W b x) : W.cell? ⟨b, 1, none⟩ = some (.int .i64 x.v.2) := row2_c1 h
theorem ElB.fz {W : World} {b : Nat} {x : El} (h : ElB W b x) (o : Nat) : W.frozen? ⟨b, o, none⟩ = false := World.rowIs.frozen h o
theorem ElB.set {W : World} {b : Nat} {x : El} (h : ElB W b x) (y : El) : ElB ((W.setCell ⟨b, 0, none⟩ (.int .i64 y.v.1)).setCell ⟨b, 1, none⟩ (.int .i64 y.v.2)) b y := row2_set h _ _
theorem ElB.other {W : World} {b g : Nat} {x : El} (h : ElB W b x) (hne : b ≠ g) (o o' : Nat) (u v : Value) : ElB ((W.setCell ⟨g, o, none⟩ u).setCell ⟨g, o', none⟩ v) b x :=
  World.rowIs.setOther (a := ⟨g, o', none⟩) (World.rowIs.setOther (a := ⟨g, o, none⟩) h hne u) hne v

/-- A slice of elements of a call's own, or none. -/
def SlAns (w : World) (n : Nat) (t : Nat → El) (e : Ending) (w' : World) : Prop :=
  ∃ (c : Option Addr) (cap : Nat), e = .returned (.slice c n cap) ∧ n ≤ cap ∧ (cap : Int) ≤ 9223372036854775807 ∧ OwnE w' w.heap.size c n (cA t) (cB t) ∧ Chg nob w w'

end Go.Proofs.YtppiilbcnkphbaaGreat

namespace Go.Proofs.YtppiilbcnkphbaaGreat
open Go.ChangeShapes Go.WideShapes Go.ChangeAt Go.RowKit
set_option linter.unusedVariables false
set_option maxRecDepth 100000
set_option linter.unusedSimpArgs false

/-- n lists that can be read behind c: list i is A i, of length L i, its parts f i, g i. -/
def RowsV (w : World) (c : Option Addr) (n : Nat) (A : Nat → Option Addr) (L C : Nat → Nat) (f g : Nat → Nat → Int) : Prop :=
  ∀ i, i < n → ∃ xb xo : Nat, c = some ⟨xb, xo, none⟩ ∧ xb < w.heap.size ∧ w.cell? ⟨xb, xo + i, none⟩ = some (.slice (A i) (L i) (C i)) ∧ PairV w (A i) (L i) (f i) (g i)
theorem RowsV.keep {w w' : World} {c : Option Addr} {n : Nat} {A : Nat → Option Addr} {L C : Nat → Nat} {f g : Nat → Nat → Int} (h : RowsV w c n A L C f g) (k : Chg nob w w') : RowsV w' c n A L C f g := by
  intro i hi
  obtain ⟨xb, xo, e, l, hc, hp⟩ := h i hi
  exact ⟨xb, xo, e, Nat.lt_of_lt_of_le l k.size, k.see hc, hp.keep k⟩
/-- n lists of N elements each. -/
def RowsE (w : World) (c : Option Addr) (n N : Nat) (t : Nat → Nat → El) : Prop :=
  ∀ i, i < n → ∃ (xb xo : Nat) (A : Option Addr) (C : Nat), c = some ⟨xb, xo, none⟩ ∧ xb < w.heap.size ∧ w.cell? ⟨xb, xo + i, none⟩ = some (.slice A N C) ∧ PairE w A N (t i)
theorem RowsE.keep {w w' : World} {c : Option Addr} {n N : Nat} {t : Nat → Nat → El} (h : RowsE w c n N t) (k : Chg nob w w') : RowsE w' c n N t := by
  intro i hi
  obtain ⟨xb, xo, A, C, e, l, hc, hp⟩ := h i hi
  exact ⟨xb, xo, A, C, e, Nat.lt_of_lt_of_le l k.size, k.see hc, PairE.keep hp k⟩
theorem RowsE.of {w : World} {c : Option Addr} {n N : Nat} {A : Nat → Option Addr} {L C : Nat → Nat} {f g : Nat → Nat → Int} (h : RowsV w c n A L C f g) (hL : ∀ i, i < n → L i = N) (ho : ∀ i, i < n → okP (f i) (g i) N = true) : RowsE w c n N (fun i => elF (f i) (g i)) := by
  intro i hi
  obtain ⟨xb, xo, e, l, hc, hp⟩ := h i hi
  rw [hL i hi] at hc hp
  exact ⟨xb, xo, A i, C i, e, l, hc, PairE.of hp (ho i hi)⟩
theorem RowsE.congr {w : World} {c : Option Addr} {n N : Nat} {t u : Nat → Nat → El} (h : RowsE w c n N t) (e : ∀ i, i < n → ∀ j, j < N → t i j = u i j) : RowsE w c n N u := by
  intro i hi
  obtain ⟨xb, xo, A, C, ec, l, hc, hp⟩ := h i hi
  exact ⟨xb, xo, A, C, ec, l, hc, PairV.congr hp (fun j hj => by unfold cA cB; rw [e i hi j hj]; exact ⟨rfl, rfl⟩)⟩
/-- j lists of H elements, list i at A i in a block of its own, not below B and other than g. -/
def TbsO (W : World) (B g j H : Nat) (A : Nat → Option Addr) (u : Nat → Nat → El) : Prop :=
  ∀ i, i < j → ∃ b : Nat, A i = some ⟨b, 0, none⟩ ∧ B ≤ b ∧ b ≠ g ∧ b < W.heap.size ∧ PairE W (A i) H (u i)
theorem TbsO.keep {W W' : World} {B g j H : Nat} {A : Nat → Option Addr} {u : Nat → Nat → El} (h : TbsO W B g j H A u) (k : Chg nob W W') : TbsO W' B g j H A u := by
  intro i hi
  obtain ⟨b, e, hb, hg, hl, hp⟩ := h i hi
  exact ⟨b, e, hb, hg, Nat.lt_of_lt_of_le hl k.size, PairE.keep hp k⟩
/-- The outer list has grown: in block g, or in a new one. -/
theorem TbsO.grown {W W' : World} {B g g' j H : Nat} {A : Nat → Option Addr} {u : Nat → Nat → El} (h : TbsO W B g j H A u) (hg : W.grownBy W' (some g)) (hat : g = g' ∨ g' = W.heap.size) : TbsO W' B g' j H A u := by
  intro i hi
  obtain ⟨b, e, hb, hne, hl, hp⟩ := h i hi
  have k : Chg (fun x => x = g) W W' := (Chg.refl _ W).grown hg (fun k e _ => by cases e; rfl)
  refine ⟨b, e, hb, ?_, Nat.lt_of_lt_of_le hl k.size, PairV.chg hp k (fun xb xo e2 _ e3 => ?_)⟩
  · rcases hat with rfl | rfl
    · exact hne
    · omega
  · rw [e] at e2
    cases e2
    exact hne e3
theorem TbsO.ext {W : World} {B g j H : Nat} {A : Nat → Option Addr} {u : Nat → Nat → El} (h : TbsO W B g j H A u) {b : Nat} (hb : B ≤ b) (hne : b ≠ g) (hl : b < W.heap.size) (hp : PairE W (some ⟨b, 0, none⟩) H (u j)) : TbsO W B g (j + 1) H (fun i => if i = j then some ⟨b, 0, none⟩ else A i) u := by
  intro i hi
  by_cases e : i = j
  · subst e
    exact ⟨b, by simp only [if_true], hb, hne, hl, by simp only [if_true]; exact hp⟩
  · obtain ⟨b', e1, r⟩ := h i (by omega)
    exact ⟨b', by simp only [e, if_false]; exact e1, by simp only [e, if_false]; exact r⟩
theorem rwNews (W : World) (x : Value) (T : TypeId) : ∀ j u, ([x] : List Value)[j]? = some u → (W.alloc (.cells #[x] T)).cell? ((⟨W.heap.size, 0, none⟩ : Addr).add j) = some u := by
  intro j u hj
  match j, hj with
  | 0, hj => simp at hj; subst hj; simp [Addr.add]
  | j + 1, hj => simp at hj
theorem rwOne (A : Option Addr) (L C : Nat) : ∀ u ∈ ([.slice A L C] : List Value), u.oneCell' = true := by
  intro u hu
  simp at hu
  subst hu
  rfl
/-- Lists of lists in a block of the call's own, read. -/
theorem RowsE.of_owns {W : World} {B g n cap H : Nat} {T : TypeId} {A : Nat → Option Addr} {C : Nat → Nat} {u : Nat → Nat → El} (ho : W.ownsRow B T 1 (.slice (some ⟨g, 0, none⟩) n cap) n ((List.range n).map (fun i => Value.slice (A i) H (C i)))) {B' : Nat} (ht : TbsO W B' g n H A u) : RowsE W (some ⟨g, 0, none⟩) n H u := by
  intro i hi
  obtain ⟨b, e, _, _, _, hp⟩ := ht i hi
  have hc := ho.cells (g := g) rfl i (.slice (A i) H (C i)) (by rw [List.getElem?_map, List.getElem?_range hi]; rfl)
  rw [Go.WideShapes.add_plain] at hc
  exact ⟨g, 0, A i, C i, rfl, (ho.lt g rfl).2, hc, hp⟩

/-- As RowsE, all its blocks of one sort. -/
def RowsQ (Q : Nat → Prop) (w : World) (c : Option Addr) (n N : Nat) (t : Nat → Nat → El) : Prop :=
  ∀ i, i < n → ∃ (xb xo : Nat) (A : Option Addr) (C : Nat), c = some ⟨xb, xo, none⟩ ∧ xb < w.heap.size ∧ w.cell? ⟨xb, xo + i, none⟩ = some (.slice A N C) ∧ PairE w A N (t i) ∧ Q xb ∧ ∀ b o, A = some ⟨b, o, none⟩ → Q b
theorem RowsQ.chg {Q P : Nat → Prop} {w w' : World} {c : Option Addr} {n N : Nat} {t : Nat → Nat → El} (h : RowsQ Q w c n N t) (k : Chg P w w') (hq : ∀ b, Q b → ¬ P b) : RowsQ Q w' c n N t := by
  intro i hi
  obtain ⟨xb, xo, A, C, e, l, hc, hp, q, qa⟩ := h i hi
  exact ⟨xb, xo, A, C, e, Nat.lt_of_lt_of_le l k.size, by rw [k.cell (p := ⟨xb, xo + i, none⟩) l (hq xb q)]; exact hc, PairV.chg hp k (fun b o e _ => hq b (qa b o e)), q, qa⟩
theorem RowsQ.keep {Q : Nat → Prop} {w w' : World} {c : Option Addr} {n N : Nat} {t : Nat → Nat → El} (h : RowsQ Q w c n N t) (k : Chg nob w w') : RowsQ Q w' c n N t := h.chg k (fun _ _ x => x)
theorem RowsQ.mono {Q R : Nat → Prop} {w : World} {c : Option Addr} {n N : Nat} {t : Nat → Nat → El} (h : RowsQ Q w c n N t) (hq : ∀ b, Q b → R b) : RowsQ R w c n N t := by
  intro i hi
  obtain ⟨xb, xo, A, C, e, l, hc, hp, q, qa⟩ := h i hi
  exact ⟨xb, xo, A, C, e, l, hc, hp, hq _ q, fun b o e => hq _ (qa b o e)⟩
theorem RowsQ.of_owns {W : World} {B g n cap H : Nat} {T : TypeId} {A : Nat → Option Addr} {C : Nat → Nat} {u : Nat → Nat → El} (ho : W.ownsRow B T 1 (.slice (some ⟨g, 0, none⟩) n cap) n ((List.range n).map (fun i => Value.slice (A i) H (C i)))) (ht : TbsO W B g n H A u) : RowsQ (fun b => B ≤ b ∧ b < W.heap.size) W (some ⟨g, 0, none⟩) n H u := by
  intro i hi
  obtain ⟨b, e, hb, _, hl, hp⟩ := ht i hi
  have hc := ho.cells (g := g) rfl i (.slice (A i) H (C i)) (by rw [List.getElem?_map, List.getElem?_range hi]; rfl)
  rw [Go.WideShapes.add_plain] at hc
  refine ⟨g, 0, A i, C i, rfl, (ho.lt g rfl).2, hc, hp, ho.lt g rfl, fun b' o e' => ?_⟩
  rw [e] at e'
  cases e'
  exact ⟨hb, hl⟩
/-- Lists in blocks other than those that change. -/
theorem TbsO.chg {W W' : World} {P : Nat → Prop} {B g j H : Nat} {A : Nat → Option Addr} {u : Nat → Nat → El} (h : TbsO W B g j H A u) (k : Chg P W W') (hp : ∀ i b, i < j → A i = some ⟨b, 0, none⟩ → ¬ P b) : TbsO W' B g j H A u := by
  intro i hi
  obtain ⟨b, e, hb, hne, hl, hpr⟩ := h i hi
  refine ⟨b, e, hb, hne, Nat.lt_of_lt_of_le hl k.size, PairV.chg hpr k (fun xb xo e2 _ => ?_)⟩
  rw [e] at e2
  cases e2
  exact hp i b hi e

theorem infoRow : (Tryz.prog.info? 81).map (fun i => (i.zero, i.size, i.bytes)) = some (some (.slice none 0 0), 1, 24) := by kernel_rfl


end Go.Proofs.YtppiilbcnkphbaaGreat

namespace Go.Proofs.YtppiilbcnkphbaaGreat
set_option linter.unusedVariables false
set_option linter.unusedSimpArgs false
namespace El

/-- A polynomial function of fewer than n powers. -/
def IsP : Nat → (El → El) → Prop
  | 0, f => ∀ x, f x = zr
  | n + 1, f => ∃ (a : El) (g : El → El), IsP n g ∧ ∀ x, f x = ad a (ml x (g x))
theorem IsP.congr {n : Nat} {f g : El → El} (h : IsP n f) (e : ∀ x, g x = f x) : IsP n g := by
  cases n with
  | zero => intro x; rw [e, h x]
  | succ n =>
    obtain ⟨a, k, hk, he⟩ := h
    exact ⟨a, k, hk, fun x => by rw [e, he]⟩
theorem IsP.up {n : Nat} {f : El → El} (h : IsP n f) : IsP (n + 1) f := by
  induction n generalizing f with
  | zero => exact ⟨zr, fun _ => zr, fun _ => rfl, fun x => by rw [h x, ml_zr, ad_zr]⟩
  | succ n ih =>
    obtain ⟨a, g, hg, he⟩ := h
    exact ⟨a, g, ih hg, he⟩
theorem IsP.add {n : Nat} {f g : El → El} (h : IsP n f) (k : IsP n g) : IsP n (fun x => ad (f x) (g x)) := by
  induction n generalizing f g with
  | zero => intro x; show ad (f x) (g x) = zr; rw [h x, k x, ad_zr]
  | succ n ih =>
    obtain ⟨a, u, hu, he⟩ := h
    obtain ⟨b, v, hv, ke⟩ := k
    exact ⟨ad a b, _, ih hu hv, fun x => by show ad (f x) (g x) = _; rw [he, ke, ml_ad, ad_ad]⟩
theorem IsP.scale {n : Nat} {f : El → El} (h : IsP n f) (c : El) : IsP n (fun x => ml c (f x)) := by
  induction n generalizing f with
  | zero => intro x; show ml c (f x) = zr; rw [h x, ml_zr]
  | succ n ih =>
    obtain ⟨a, u, hu, he⟩ := h
    exact ⟨ml c a, _, ih hu, fun x => by show ml c (f x) = _; rw [he, ml_ad, ml_left]⟩
theorem IsP.const (c : El) : IsP 1 (fun _ => c) := ⟨c, fun _ => zr, fun _ => rfl, fun x => by rw [ml_zr, ad_zr]⟩
theorem IsP.const_up (c : El) (n : Nat) : IsP (n + 1) (fun _ => c) := by
  induction n with
  | zero => exact IsP.const c
  | succ n ih => exact ih.up
theorem IsP.sub {n : Nat} {f g : El → El} (h : IsP n f) (k : IsP n g) : IsP n (fun x => sb (f x) (g x)) := by
  refine (h.add (k.scale (sb zr on))).congr (fun x => ?_)
  refine sb_of ?_
  rw [sb_ml, on_ml, zr_ml, ad_assoc, sb_ad, ad_zr]
theorem IsP.times {n : Nat} {f : El → El} (h : IsP n f) : IsP (n + 1) (fun x => ml x (f x)) := ⟨zr, f, h, fun x => by rw [zr_ad]⟩
theorem IsP.sum {n : Nat} {f : Nat → El → El} {m : Nat} (h : ∀ i, i < m → IsP n (f i)) : IsP n (fun x => sm (fun i => f i x) m) := by
  induction m with
  | zero =>
    cases n with
    | zero => intro x; rfl
    | succ n => exact (IsP.const_up zr n).congr (fun x => rfl)
  | succ m ih => exact (ih (fun i hi => h i (by omega))).add (h m (by omega))
/-- What is left when x less c is taken out. -/
theorem IsP.split {n : Nat} {f : El → El} (h : IsP (n + 1) f) (c : El) : ∃ q, IsP n q ∧ ∀ x, f x = ad (f c) (ml (sb x c) (q x)) := by
  induction n generalizing f with
  | zero =>
    obtain ⟨a, g, hg, he⟩ := h
    refine ⟨fun _ => zr, fun _ => rfl, fun x => ?_⟩
    rw [he, he, hg x, hg c]
    simp only [ml_zr, ad_zr]
  | succ n ih =>
    obtain ⟨a, g, hg, he⟩ := h
    obtain ⟨q, hq, hx⟩ := ih hg
    refine ⟨fun x => ad (g c) (ml x (q x)), ⟨g c, q, hq, fun x => rfl⟩, fun x => ?_⟩
    rw [he x, he c, hx x, ad_assoc]
    congr 1
    rw [ml_ad, ml_ad, sb_ml x c (g c), ← ad_assoc, ad_sb', ml_left x]

end El

end Go.Proofs.YtppiilbcnkphbaaGreat

namespace Go.Proofs.YtppiilbcnkphbaaGreat
set_option linter.unusedVariables false
set_option linter.unusedSimpArgs false

/-- What values are combined to: a product of two (kind 1), or the first times what the product of the next two is more than the fourth. -/
def cmb (k : Nat) (v : Nat → El) : El := if k = 1 then El.ml (v 0) (v 1) else El.ml (v 0) (El.sb (El.ml (v 1) (v 2)) (v 3))

end Go.Proofs.YtppiilbcnkphbaaGreat
