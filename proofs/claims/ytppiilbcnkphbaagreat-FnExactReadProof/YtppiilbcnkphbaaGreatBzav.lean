/- Several texts in one: Entries of matrices as plain data: their order, lists that rise, what a map of them holds, and that a list is told back just if it rises. No program is named here. · Entries in memory, three cells each; maps from places to numbers: keys, what they hold, how they are cleared. · The program's map of a matrix: entries taken into it; entries within a matrix: contracts. · The comparison of two entries as the program hands it to the library's sort; the sort itself: contracts. -/
import Derived.Below
import Derived.Test.YtppiilbcnkphbaaGreatBzab
import Derived.Test.YtppiilbcnkphbaaGreatProg
import Derived.Maps.OwnSet
import Derived.Maps.RangeWalk
import Derived.DeepKeys4
import Derived.WalkSpells
import Derived.Test.YtppiilbcnkphbaaGreatBzaa
import Derived.Test.YtppiilbcnkphbaaGreatBzac
import Derived.WalkKit
import Derived.Test.YtppiilbcnkphbaaGreatBzaw
import Derived.Deep.RegionHeld3
import Derived.Handy
namespace Go.Proofs.YtppiilbcnkphbaaGreat

/-- An entry: row, column, value. -/
abbrev En := Int × Int × Int
/-- By rows, then by columns. -/
def enlt (x y : En) : Bool := decide (x.1 < y.1) || (decide (x.1 = y.1) && decide (x.2.1 < y.2.1))
/-- Within a matrix of R rows and C columns, its value a number of the field that is not 0. -/
def win (R C : Int) (x : En) : Bool := decide (0 ≤ x.1) && decide (x.1 < R) && decide (0 ≤ x.2.1) && decide (x.2.1 < C) && decide (1 ≤ x.2.2) && decide (x.2.2 < 2130706433)
/-- The first n rise. -/
def rsg (n : Nat) (X : Nat → En) : Bool := (List.range (n - 1)).all fun i => enlt (X i) (X (i + 1))
/-- A list of entries is a matrix of R rows and C columns. -/
def elm (R C : Int) (n : Nat) (X : Nat → En) : Bool := decide (n ≤ 200) && ((List.range n).all fun i => win R C (X i)) && rsg n X
/-- The first n as a list. -/
def eLs (n : Nat) (X : Nat → En) : List En := (List.range n).map X
/-- What a map holds behind the first k were stored into it. -/
def fmE (X : Nat → En) : Nat → Int → Int → Option Int
  | 0, _, _ => none
  | k + 1, r, c => if (X k).1 = r ∧ (X k).2.1 = c then some (X k).2.2 else fmE X k r c

theorem enlt_iff {x y : En} : enlt x y = true ↔ x.1 < y.1 ∨ (x.1 = y.1 ∧ x.2.1 < y.2.1) := by simp [enlt]
theorem enlt_trans {x y z : En} (h : enlt x y = true) (k : enlt y z = true) : enlt x z = true := by
  rw [enlt_iff] at *; omega
theorem enlt_irr (x : En) : enlt x x = false := by simp [enlt]
theorem enlt_ne {x y : En} (h : enlt x y = true) : ¬ (x.1 = y.1 ∧ x.2.1 = y.2.1) := by
  rw [enlt_iff] at h; omega
theorem enlt_of {x y : En} (h : enlt y x = false) (k : ¬ (x.1 = y.1 ∧ x.2.1 = y.2.1)) : enlt x y = true := by
  rw [enlt_iff]
  have h' : ¬ (y.1 < x.1 ∨ (y.1 = x.1 ∧ y.2.1 < x.2.1)) := by rw [← enlt_iff]; simp [h]
  omega
theorem rsg_iff {n : Nat} {X : Nat → En} : rsg n X = true ↔ ∀ i, i + 1 < n → enlt (X i) (X (i + 1)) = true := by
  simp only [rsg, List.all_eq_true, List.mem_range]
  exact ⟨fun h i hi => h i (by omega), fun h i hi => h i (by omega)⟩
theorem rsg_far {n : Nat} {X : Nat → En} (h : rsg n X = true) (i : Nat) : ∀ d, i + d + 1 < n → enlt (X i) (X (i + d + 1)) = true
  | 0, hd => rsg_iff.1 h i hd
  | d + 1, hd => enlt_trans (rsg_far h i d (by omega)) (rsg_iff.1 h (i + d + 1) (by omega))
theorem rsg_lt {n : Nat} {X : Nat → En} (h : rsg n X = true) {i j : Nat} (hij : i < j) (hj : j < n) : enlt (X i) (X j) = true := by
  have := rsg_far h i (j - i - 1) (by omega)
  rwa [show i + (j - i - 1) + 1 = j by omega] at this
theorem eLs_len (n : Nat) (X : Nat → En) : (eLs n X).length = n := by simp [eLs]
theorem eLs_get {n : Nat} {X : Nat → En} {i : Nat} (h : i < (eLs n X).length) : (eLs n X)[i] = X i := by simp [eLs]
theorem mem_eLs {n : Nat} {X : Nat → En} {e : En} : e ∈ eLs n X ↔ ∃ i, i < n ∧ X i = e := by simp [eLs]
theorem eLs_pw {n : Nat} {X : Nat → En} : (eLs n X).Pairwise (fun a b => enlt a b = true) ↔ rsg n X = true := by
  rw [List.pairwise_iff_getElem]
  constructor
  · intro h
    rw [rsg_iff]
    intro i hi
    have := h i (i + 1) (by rw [eLs_len]; omega) (by rw [eLs_len]; omega) (by omega)
    rwa [eLs_get, eLs_get] at this
  · intro h i j hi hj hij
    rw [eLs_get, eLs_get]
    exact rsg_lt h hij (by rw [eLs_len] at hj; exact hj)

/-- A key at which the first k have something is one of theirs. -/
theorem fmE_some {X : Nat → En} : ∀ {k : Nat} {r c v : Int}, fmE X k r c = some v → ∃ i, i < k ∧ X i = (r, c, v)
  | 0, _, _, _, h => by cases h
  | k + 1, r, c, v, h => by
    unfold fmE at h
    split at h
    · rename_i e
      cases h
      exact ⟨k, by omega, Prod.ext e.1 (Prod.ext e.2 rfl)⟩
    · obtain ⟨i, hi, e⟩ := fmE_some h
      exact ⟨i, by omega, e⟩
theorem fmE_at {X : Nat → En} {n : Nat} (h : rsg n X = true) : ∀ (k : Nat), k ≤ n → ∀ i, i < k → fmE X k (X i).1 (X i).2.1 = some (X i).2.2
  | 0, _, i, hi => by omega
  | k + 1, hk, i, hi => by
    unfold fmE
    by_cases e : i = k
    · subst e; simp
    · rw [if_neg (fun q => enlt_ne (rsg_lt h (show i < k by omega) (by omega)) ⟨q.1.symm, q.2.symm⟩)]
      exact fmE_at h k (by omega) i (by omega)

theorem pw_of {l : List En} (h1 : l.Pairwise (fun a b => enlt b a = false)) (h2 : l.Pairwise (fun a b => ¬ (a.1 = b.1 ∧ a.2.1 = b.2.1))) : l.Pairwise (fun a b => enlt a b = true) :=
  (h1.and h2).imp (fun ⟨a, b⟩ => enlt_of a b)
/-- Two lists that rise and hold the same are one. -/
theorem rise_eq : ∀ {l l' : List En}, l.Pairwise (fun a b => enlt a b = true) → l'.Pairwise (fun a b => enlt a b = true) → (∀ e, e ∈ l ↔ e ∈ l') → l = l'
  | [], [], _, _, _ => rfl
  | [], y :: r, _, _, h => absurd ((h y).2 List.mem_cons_self) (by simp)
  | x :: r, [], _, _, h => absurd ((h x).1 List.mem_cons_self) (by simp)
  | x :: r, y :: s, hl, hs, h => by
    obtain ⟨a1, a2⟩ := List.pairwise_cons.1 hl
    obtain ⟨b1, b2⟩ := List.pairwise_cons.1 hs
    have e : x = y := by
      rcases List.mem_cons.1 ((h x).1 List.mem_cons_self) with e | e
      · exact e
      · rcases List.mem_cons.1 ((h y).2 List.mem_cons_self) with e' | e'
        · exact e'.symm
        · have := enlt_trans (a1 y e') (b1 x e)
          rw [enlt_irr] at this; cases this
    subst e
    congr 1
    refine rise_eq a2 b2 (fun z => ⟨fun hz => ?_, fun hz => ?_⟩)
    · rcases List.mem_cons.1 ((h z).1 (List.mem_cons_of_mem _ hz)) with e | e
      · subst e; have := a1 z hz; rw [enlt_irr] at this; cases this
      · exact e
    · rcases List.mem_cons.1 ((h z).2 (List.mem_cons_of_mem _ hz)) with e | e
      · subst e; have := b1 z hz; rw [enlt_irr] at this; cases this
      · exact e

/-- What entries are told by a map: each once, all of them, by their order. -/
structure Told (m : Int → Int → Option Int) (S : List En) : Prop where
  is : ∀ e ∈ S, m e.1 e.2.1 = some e.2.2
  all : ∀ r c v, m r c = some v → (r, c, v) ∈ S
  rise : S.Pairwise (fun a b => enlt a b = true)

/-- A list is told back just if it rises. -/
theorem told_back {n : Nat} {X : Nat → En} {S : List En} (h : Told (fmE X n) S) : (S = eLs n X) ↔ rsg n X = true := by
  constructor
  · intro e
    rw [← eLs_pw, ← e]
    exact h.rise
  · intro hr
    refine rise_eq h.rise (eLs_pw.2 hr) (fun e => ⟨fun he => ?_, fun he => ?_⟩)
    · obtain ⟨i, hi, q⟩ := fmE_some (h.is e he)
      exact mem_eLs.2 ⟨i, hi, q⟩
    · obtain ⟨i, hi, rfl⟩ := mem_eLs.1 he
      exact h.all _ _ _ (fmE_at hr n (Nat.le_refl _) i hi)

end Go.Proofs.YtppiilbcnkphbaaGreat

namespace Go.Proofs.YtppiilbcnkphbaaGreat
open Go.RowKit Go.Maps
set_option linter.unusedVariables false
set_option linter.unusedSimpArgs false
set_option maxRecDepth 100000

/-- n entries that can be read behind c. -/
def EntV (w : World) (c : Option Addr) (n : Nat) (X : Nat → En) : Prop :=
  ∀ i, i < n → ∃ xb xo : Nat, c = some ⟨xb, xo, none⟩ ∧ xb < w.heap.size ∧ w.cell? ⟨xb, xo + i * 3, none⟩ = some (.int .i64 (X i).1) ∧ w.cell? ⟨xb, xo + i * 3 + 1, none⟩ = some (.int .i64 (X i).2.1) ∧ w.cell? ⟨xb, xo + i * 3 + 2, none⟩ = some (.int .i64 (X i).2.2)
theorem EntV.chg {P : Nat → Prop} {w w' : World} {c : Option Addr} {n : Nat} {X : Nat → En} (h : EntV w c n X) (k : Chg P w w') (hp : ∀ xb xo, c = some ⟨xb, xo, none⟩ → 0 < n → xb < w.heap.size → ¬ P xb) : EntV w' c n X := by
  intro i hi
  obtain ⟨xb, xo, e, l, h1, h2, h3⟩ := h i hi
  have np := hp xb xo e (by omega) l
  exact ⟨xb, xo, e, Nat.lt_of_lt_of_le l k.size, by rw [k.cell l np, h1], by rw [k.cell l np, h2], by rw [k.cell l np, h3]⟩
theorem EntV.keep {w w' : World} {c : Option Addr} {n : Nat} {X : Nat → En} (h : EntV w c n X) (k : Chg nob w w') : EntV w' c n X := h.chg k (fun _ _ _ _ _ x => x)
theorem EntV.congr {w : World} {c : Option Addr} {n : Nat} {X Y : Nat → En} (h : EntV w c n X) (e : ∀ i, i < n → X i = Y i) : EntV w c n Y := by
  intro i hi
  rw [← e i hi]
  exact h i hi
theorem EntV.low {w : World} {c : Option Addr} {n m : Nat} {X : Nat → En} (h : EntV w c n X) (hm : m ≤ n) : EntV w c m X := fun i hi => h i (by omega)
/-- A block of a map is no block of entries. -/
theorem EntV.noMap {w : World} {c : Option Addr} {n : Nat} {X : Nat → En} (h : EntV w c n X) {b : Nat} {es : Array MapEntry} {ck : Nat} (hb : w.heap[b]? = some (.map es ck)) : ∀ xb xo, c = some ⟨xb, xo, none⟩ → 0 < n → xb ≠ b := by
  intro xb xo e hn q
  obtain ⟨yb, yo, e', l, h1, _⟩ := h 0 hn
  rw [e] at e'
  simp at e'
  obtain ⟨rfl, rfl⟩ := e'
  subst q
  unfold World.cell? at h1
  simp [hb] at h1
/-- Entries, cell by cell. -/
def tf (X : Nat → En) (i : Nat) : Value := .int .i64 (if i % 3 = 0 then (X (i / 3)).1 else if i % 3 = 1 then (X (i / 3)).2.1 else (X (i / 3)).2.2)
theorem tf_0 (X : Nat → En) (k : Nat) : tf X (k * 3) = .int .i64 (X k).1 := by
  unfold tf; rw [if_pos (by omega), show k * 3 / 3 = k by omega]
theorem tf_1 (X : Nat → En) (k : Nat) : tf X (k * 3 + 1) = .int .i64 (X k).2.1 := by
  unfold tf; rw [if_neg (by omega), if_pos (by omega), show (k * 3 + 1) / 3 = k by omega]
theorem tf_2 (X : Nat → En) (k : Nat) : tf X (k * 3 + 2) = .int .i64 (X k).2.2 := by
  unfold tf; rw [if_neg (by omega), if_neg (by omega), show (k * 3 + 2) / 3 = k by omega]
theorem EntV.of_row {w : World} {b : Nat} {t : TypeId} {n N : Nat} {X : Nat → En} {h : Nat → Value} (r : w.rowIs b t N h) (hm : n * 3 ≤ N) (e : ∀ i, i < n * 3 → h i = tf X i) : EntV w (some ⟨b, 0, none⟩) n X := by
  intro i hi
  refine ⟨b, 0, rfl, r.lt, ?_, ?_, ?_⟩
  · rw [Nat.zero_add, r.cell (by omega), e _ (by omega), tf_0]
  · rw [Nat.zero_add, r.cell (by omega), e _ (by omega), tf_1]
  · rw [Nat.zero_add, r.cell (by omega), e _ (by omega), tf_2]

/-- A place of a matrix as a key. -/
def kyE (r c : Int) : Lit := .string (keyBytes [.int .i64 r, .int .i64 c])
theorem laidE : laidOutB Tryz.prog = true := by kernel_rfl
theorem wideC : (match Tryz.prog.underlying 142 with | some (.array _ _) | some (.struct _) => true | _ => false) = true := by kernel_rfl
theorem rowC : (142 : TypeId) < Tryz.prog.types.size := of_decide_eq_true (by kernel_rfl)
theorem lawC : Keyed Tryz.prog 142 := Keyed.of_law (deep_law_laid laidE (m := 2) (by omega) rowC (by kernel_rfl) wideC)
theorem typesE : ∃ d, Tryz.prog.types.size = d + 1 := ⟨292 - 101, by kernel_rfl⟩
theorem keyTC : Tryz.prog.keyType 142 = true := by kernel_rfl
theorem cellsC : Tryz.prog.cellsOf 142 = 2 := by kernel_rfl
theorem cellsI3 : Tryz.prog.cellsOf 3 = 1 := by kernel_rfl
theorem keyC {r c : Int} (hr : (Lit.int .i64 r).wf = true) (hc : (Lit.int .i64 c).wf = true) : keyOf Tryz.prog 142 (.agg #[.int .i64 r, .int .i64 c]) = some (kyE r c) := by
  have u := Tryz.underlying142
  have ui := Tryz.underlying3
  unfold keyOf
  rw [u]
  obtain ⟨d, hd⟩ := typesE
  simp only [keyTC, Value.formed, u, cellsC]
  rw [hd]
  simp [Program.keyLits, u, ui, cellsC, cellsI3, Value.cells, hr, hc, kyE]
theorem keyC_inv {key : Value} {kl : Lit} (h : keyOf Tryz.prog 142 key = some kl) : ∃ x : Int × Int, key = .agg #[.int .i64 x.1, .int .i64 x.2] ∧ (Lit.int .i64 x.1).wf = true ∧ (Lit.int .i64 x.2).wf = true := by
  have u := Tryz.underlying142
  have ui := Tryz.underlying3
  obtain ⟨xs, L, rfl, hl, rfl⟩ := keyOf_top wideC h
  obtain ⟨d, hd⟩ := typesE
  rw [hd] at hl
  obtain ⟨l⟩ := xs
  simp only [Program.keyLits, u, cellsC] at hl
  split at hl
  · rename_i hc
    obtain ⟨hc, _⟩ := hc
    match l, hc with
    | [p, q], _ =>
      cases p <;> cases q <;> simp [Program.keyLits, ui, cellsI3] at hl
      case int.int k1 a k2 b _ =>
        by_cases h1 : k1 = IntKind.i64 ∧ (Lit.int .i64 a).wf = true
        · by_cases h2 : k2 = IntKind.i64 ∧ (Lit.int .i64 b).wf = true
          · obtain ⟨rfl, w1⟩ := h1
            obtain ⟨rfl, w2⟩ := h2
            exact ⟨(a, b), rfl, w1, w2⟩
          · rw [if_pos h1, if_neg h2] at hl
            cases hl
        · rw [if_neg h1] at hl
          cases hl
  · cases hl
/-- What a map holds, place by place. -/
structure Fmd (D : DataW Unit) (m : Int → Int → Option Int) : Prop where
  som : ∀ r c v, (Lit.int .i64 r).wf = true → (Lit.int .i64 c).wf = true → m r c = some v → ∀ z, D.atKey (kyE r c) z = .lit (.int .i64 v)
  non : ∀ r c, (Lit.int .i64 r).wf = true → (Lit.int .i64 c).wf = true → m r c = none → has D (kyE r c) = false
theorem kyE_key (r c : Int) : WideAt.IsKeyLit (kyE r c) := by unfold kyE WideAt.IsKeyLit; trivial
theorem kyE_inj {r c r' c' : Int} (hr : (Lit.int .i64 r).wf = true) (hc : (Lit.int .i64 c).wf = true) (hr' : (Lit.int .i64 r').wf = true) (hc' : (Lit.int .i64 c').wf = true) (h : kyE r c = kyE r' c') : r = r' ∧ c = c' := by
  have h1 := keyC hr hc
  rw [h] at h1
  have := lawC.inj h1 (keyC hr' hc')
  simpa using this
theorem Fmd.empty (X : Nat → En) : Fmd (.map []) (fmE X 0) := ⟨fun _ _ _ _ _ h => (by cases h), fun _ _ _ _ _ => rfl⟩
theorem Fmd.put {D : DataW Unit} {X : Nat → En} {k : Nat} (h : Fmd D (fmE X k)) (hD : IsMap D) (hr : (Lit.int .i64 (X k).1).wf = true) (hc : (Lit.int .i64 (X k).2.1).wf = true) : Fmd (D.put (kyE (X k).1 (X k).2.1) (.lit (.int .i64 (X k).2.2))) (fmE X (k + 1)) := by
  constructor
  · intro r c v wr wc hm z
    unfold fmE at hm
    split at hm
    · rename_i e
      cases hm
      rw [← e.1, ← e.2, atKey_put_same hD (kyE_key _ _)]
    · rename_i e
      rw [atKey_put_other (fun q => e (by obtain ⟨a, b⟩ := kyE_inj wr wc hr hc q; exact ⟨a.symm, b.symm⟩))]
      exact h.som r c v wr wc hm z
  · intro r c wr wc hm
    unfold fmE at hm
    split at hm
    · cases hm
    · rename_i e
      rw [has_put_other (fun q => e (by obtain ⟨a, b⟩ := kyE_inj wr wc hr hc q; exact ⟨a.symm, b.symm⟩))]
      exact h.non r c wr wc hm
open Go.ChangeMaps Go.MapKept in
/-- clear(m). -/
theorem run_clear_own {w : World} {b n : Nat} {D : DataW Unit} {R : Value → Option (DataW Unit × List MemPlace)} {k e t ty : TypeId} {P : Program} (h : w.ownsMap P k R b n D) (ht : P.underlying t = some (.map k e)) :
    ∃ w', (Builtin.clear_ #[t] ty #[.map (some b)]).run P w = .ok (.tuple #[]) w' ∧ w'.ownsMap P k R b 0 (.map []) ∧ Chg (fun i => i = b) w w' := by
  obtain ⟨es, ck, hb, F, hs, hD⟩ := h
  refine ⟨setBlock w b (.map #[] ck), ?_, ⟨#[], ck, heap_setBlock_same hb _, ⟨by simp, stamped_empty ck, by simp⟩, Nat.le_refl _, rfl⟩, ⟨rfl, rfl, rfl, by simp [setBlock], fun i hi hp => heap_setBlock_other hb _ hp⟩⟩
  simp [Builtin.clear_, run_underlying ht, Go.MapKept.run_getObj_map hb, Go.MapKept.run_setObj_map _ hb, Result.andThen, setBlock]

end Go.Proofs.YtppiilbcnkphbaaGreat

namespace Go.Proofs.YtppiilbcnkphbaaGreat
open Go.ChangeShapes Go.WideShapes Go.ChangeAt Go.RowKit
open Go.Maps (Keyed IsMap Tidy)
set_option linter.unusedVariables false
set_option maxRecDepth 100000
set_option linter.unusedSimpArgs false

theorem wf64 {a : Int} (h0 : -9223372036854775808 ≤ a) (h1 : a ≤ 9223372036854775807) : (Lit.int .i64 a).wf = true := by
  exact WalkArith.wf_i64 ⟨h0, h1⟩

/-- Block b is a map of places. -/
def Grd (w : World) (b n : Nat) (D : DataW Unit) : Prop := w.ownsMap Tryz.prog 142 (plainElem Tryz.prog 3) b n D
theorem Grd.chg {P : Nat → Prop} {w w' : World} {b n : Nat} {D : DataW Unit} (h : Grd w b n D) (k : Chg P w w') (hp : ¬ P b) : Grd w' b n D := by
  have hl := h.lt
  obtain ⟨es, ck, hb, r⟩ := h
  exact ⟨es, ck, (k.block b hl hp).trans hb, r⟩
theorem Grd.keep {w w' : World} {b n : Nat} {D : DataW Unit} (h : Grd w b n D) (k : Chg nob w w') : Grd w' b n D := h.chg k (fun x => x)
theorem Grd.mapAt {w : World} {b n : Nat} {D : DataW Unit} (h : Grd w b n D) : ∃ es ck, w.heap[b]? = some (.map es ck) := by
  obtain ⟨es, ck, hb, _⟩ := h
  exact ⟨es, ck, hb⟩

set_option maxHeartbeats 4000000 in
theorem within_any (x : En) (R C : Int) (w : World) : Calls Tryz.prog 87 #[.agg #[.int .i64 x.1, .int .i64 x.2.1, .int .i64 x.2.2], .int .i64 R, .int .i64 C] w fun e w' => e = .returned (.bool (win R C x)) ∧ Chg nob w w' := by
  obtain ⟨r, c, v⟩ := x
  have KK := hik ((Chg.refl nob w).alloc (.cells #[.int .i64 r, .int .i64 c, .int .i64 v] 87))
  unfold win
  go_enter Tryz.func87, Tryz.ntmps87
  go_wp2
  all_goals
    go_ret
    refine ⟨?_, KK.out⟩
    simp_all <;> omega

set_option maxHeartbeats 4000000 in
theorem take_any (b n0 : Nat) (D0 : DataW Unit) (c : Option Addr) (n cap : Nat) (X : Nat → En) (w : World) (hg : Hid (Grd w b n0 D0)) (hv : Hid (EntV w c n X)) (hn : n ≤ 200) (hw : Hid (∀ i, i < n → (Lit.int .i64 (X i).1).wf = true ∧ (Lit.int .i64 (X i).2.1).wf = true ∧ (Lit.int .i64 (X i).2.2).wf = true)) :
    Calls Tryz.prog 95 #[.map (some b), .slice c n cap] w fun e w' => e = .returned (.tuple #[]) ∧ (∃ D, Grd w' b n D ∧ Fmd D (fmE X n)) ∧ Chg (fun k => k = b) w w' := by
  have HB := hik (show ∀ xb xo, c = some ⟨xb, xo, none⟩ → 0 < n → xb ≠ b from by obtain ⟨es, ck, hb⟩ := hg.out.mapAt; exact hv.out.noMap hb)
  obtain ⟨w1, hclr, h1, k1⟩ := run_clear_own (ty := 0) hg.out Tryz.underlying115
  have hclr : ∀ ty, (Builtin.clear_ #[115] ty #[.map (some b)]).run Tryz.prog w = .ok (.tuple #[]) w1 := fun _ => hclr
  have G1 := hik (show Grd w1 b 0 (.map []) from h1)
  have K1 := hik k1
  have V1 := hik (hv.out.chg k1 (fun xb xo e hp _ => HB.out xb xo e hp))
  clear h1 k1 hg hv
  go_enter Tryz.func95, Tryz.ntmps95
  go_wp2
  clear hclr
  go_loopw [9] (fun s9 wr => ∃ k : Nat, k ≤ n ∧ s9 = .int .i64 k ∧ Hid (∃ D, Grd wr b k D ∧ Fmd D (fmE X k)) ∧ Hid (Chg (fun i => i = b) w wr) ∧ Hid (EntV wr c n X)) (fun s9 _ => n - (intOf s9).toNat)
  case atStart => exact ⟨0, Nat.zero_le _, rfl, hik ⟨_, G1.out, Fmd.empty X⟩, K1, V1⟩
  case round =>
    obtain ⟨k, hk, rfl, GD, KW, VW⟩ := hrel
    by_cases hlt : k < n
    · obtain ⟨xb, xo, rfl, hxb, c0, c1, c2⟩ := VW.out k hlt
      obtain ⟨wx, wy, wz⟩ := hw.out k hlt
      obtain ⟨D, gD, fD⟩ := GD.out
      have hkey := keyC wx wy
      have hkn : ((k : Nat) : Int) < n := by omega
      have HX := hik fD
      have HXb := hik hxb
      generalize hx1 : (X k).1 = x1 at c0 wx hkey
      generalize hx2 : (X k).2.1 = x2 at c1 wy hkey
      generalize hx3 : (X k).2.2 = x3 at c2 wz
      have HE := hik (And.intro hx1 (And.intro hx2 hx3))
      clear hx1 hx2 hx3 fD
      have gA := hik (gD.alloc (.cells #[.int .i64 x1, .int .i64 x2, .int .i64 x3] 87))
      clear gD
      go_wp2_with (at_mapUpdate; refine wpList_mapUpdate_own _ rfl _ _ _ 115 rfl 142 3 lawC Tryz.underlying115 _ b k D rfl gA.out (by unfold maxLen; omega) _ _ (kyE x1 x2) rfl rfl hkey (.lit (.int .i64 x3)) [] (plainElem_int Tryz.underlying3 wz) ?_; intro w2 hown2 hgrow2)
      go_wp2
      go_roundw
      case rel =>
        obtain ⟨e1, e2, e3⟩ := HE.out
        subst e1 e2 e3
        refine ⟨k + 1, by omega, by go_num, hik ⟨_, hown2, HX.out.put gA.out.isMap wx wy⟩, hik ((KW.out.alloc _).grown hgrow2 (fun i e _ => by cases e; rfl)), hik ?_⟩
        exact VW.out.chg (((Chg.refl (fun i => i = b) _).alloc _).grown hgrow2 (fun i e _ => by cases e; rfl)) (fun yb yo e hp _ => HB.out yb yo e hp)
      case measure => simp [intOf]; omega
    · obtain rfl : k = n := by omega
      go_wp2
      go_end0
      exact ⟨rfl, GD.out, KW.out⟩

end Go.Proofs.YtppiilbcnkphbaaGreat

namespace Go.Proofs.YtppiilbcnkphbaaGreat
open Go.ChangeShapes Go.WideShapes Go.ChangeAt Go.RowKit
open Go.Shelf Go.Lib Go.Sort
set_option linter.unusedVariables false
set_option maxRecDepth 100000
set_option linter.unusedSimpArgs false

/-- An entry's cells. -/
def ecE (x : En) : List Value := [.int .i64 x.1, .int .i64 x.2.1, .int .i64 x.2.2]
/-- The first of two that is not 0. -/
def orI (x y : Int) : Int := if x = 0 then y else x
/-- What the comparison answers. -/
def cfE (x y : En) : Int := orI (Lib.compareInt x.1 y.1) (Lib.compareInt x.2.1 y.2.1)
theorem ltE (x y : En) : ltOf cfE x y = enlt x y := by
  unfold ltOf cfE orI enlt Lib.compareInt
  by_cases h1 : x.1 < y.1
  · simp [h1]
  · by_cases h2 : y.1 < x.1
    · simp [h1, h2, show ¬ x.1 = y.1 by omega]
    · have e : x.1 = y.1 := by omega
      by_cases h3 : x.2.1 < y.2.1
      · simp [h3, e]
      · by_cases h4 : y.2.1 < x.2.1 <;> simp [h3, h4, e]
theorem swoE : SWO (ltOf cfE) where
  irrefl x := by rw [ltE]; exact enlt_irr x
  trans x y z h1 h2 := by rw [ltE] at *; exact enlt_trans h1 h2
  ntrans x y z h1 h2 := by rw [ltE] at *; simp [enlt] at *; omega

set_option maxHeartbeats 1000000 in
theorem or_any (b : Nat) (x y : Int) (W : World) (h0 : W.cell? ⟨b, 0, none⟩ = some (.int .i64 x)) (h1 : W.cell? ⟨b, 1, none⟩ = some (.int .i64 y)) :
    Calls Tryz.prog 106 #[.slice (some ⟨b, 0, none⟩) 2 2] W fun e w' => e = .returned (.int .i64 (orI x y)) ∧ w' = W := by
  unfold orI
  by_cases hx : x = 0
  · by_cases hy : y = 0
    · go_enter Tryz.func106, Tryz.ntmps106
      go_wp2
      go_rounds 3
      go_ret
      simp [hx, hy]
    · go_enter Tryz.func106, Tryz.ntmps106
      go_wp2
      go_rounds 3
      go_ret
      simp [hx, hy]
  · go_enter Tryz.func106, Tryz.ntmps106
    go_wp2
    go_rounds 3
    go_ret
    simp [hx]

set_option maxHeartbeats 4000000 in
theorem byCell_any (x y : En) (W : World) : Calls Tryz.prog 101 #[.agg #[.int .i64 x.1, .int .i64 x.2.1, .int .i64 x.2.2], .agg #[.int .i64 y.1, .int .i64 y.2.1, .int .i64 y.2.2]] W fun e w' => e = .returned (.int .i64 (cfE x y)) ∧ ∃ q os', w' = grow (W.drewN q) os' := by
  have hcon := fun x y W' => AnyG.cmp_Compare_int cmpI x y W'
  change ∀ x y W', Calls Tryz.prog 107 _ _ _ at hcon
  obtain ⟨x1, x2, x3⟩ := x
  obtain ⟨y1, y2, y3⟩ := y
  unfold cfE
  generalize Lib.compareInt = cm at hcon ⊢
  go_enter Tryz.func101, Tryz.ntmps101
  go_upto_region 1 with fail
  have c0 : World.cell? ((W.alloc (.cells #[.int .i64 x1, .int .i64 x2, .int .i64 x3] 87)).alloc (.cells #[.int .i64 y1, .int .i64 y2, .int .i64 y3] 87)) ⟨W.heap.size, 0, none⟩ = some (.int .i64 x1) := by go_simp
  have c1 : World.cell? ((W.alloc (.cells #[.int .i64 x1, .int .i64 x2, .int .i64 x3] 87)).alloc (.cells #[.int .i64 y1, .int .i64 y2, .int .i64 y3] 87)) ⟨W.heap.size, 1, none⟩ = some (.int .i64 x2) := by go_simp
  have d0 : World.cell? ((W.alloc (.cells #[.int .i64 x1, .int .i64 x2, .int .i64 x3] 87)).alloc (.cells #[.int .i64 y1, .int .i64 y2, .int .i64 y3] 87)) ⟨W.heap.size + 1, 0, none⟩ = some (.int .i64 y1) := by go_simp
  have d1 : World.cell? ((W.alloc (.cells #[.int .i64 x1, .int .i64 x2, .int .i64 x3] 87)).alloc (.cells #[.int .i64 y1, .int .i64 y2, .int .i64 y3] 87)) ⟨W.heap.size + 1, 1, none⟩ = some (.int .i64 y2) := by go_simp
  have hz : Hid (∃ os', ((W.alloc (.cells #[.int .i64 x1, .int .i64 x2, .int .i64 x3] 87)).alloc (.cells #[.int .i64 y1, .int .i64 y2, .int .i64 y3] 87)) = grow W os') := hik ⟨_, by rw [alloc_eq_grow, alloc_eq_grow, grow_grow]⟩
  generalize ((W.alloc (.cells #[.int .i64 x1, .int .i64 x2, .int .i64 x3] 87)).alloc (.cells #[.int .i64 y1, .int .i64 y2, .int .i64 y3] 87)) = A at c0 c1 d0 d1 hz ⊢
  go_region_held3 (fun w' => w'.cell? ⟨W.heap.size, 0, none⟩ = some (.int .i64 x1) ∧ w'.cell? ⟨W.heap.size, 1, none⟩ = some (.int .i64 x2) ∧ w'.cell? ⟨W.heap.size + 1, 0, none⟩ = some (.int .i64 y1) ∧ w'.cell? ⟨W.heap.size + 1, 1, none⟩ = some (.int .i64 y2)) (first | (exact ⟨c0, c1, d0, d1⟩) | (exact ⟨((Chg.refl nob _).alloc _).see c0, ((Chg.refl nob _).alloc _).see c1, ((Chg.refl nob _).alloc _).see d0, ((Chg.refl nob _).alloc _).see d1⟩)) (first | (go_at_call 107; refine (hcon _ _ _).mono ?_; rintro e w' ⟨rfl, rfl⟩) | (go_at_call 106; refine (or_any A.heap.size (cm x1 y1) (cm x2 y2) _ (by go_simp) (by go_simp)).mono ?_; rintro e w' ⟨rfl, rfl⟩))
  go_wp2
  go_ret
  refine ⟨rfl, 1, ?_⟩
  obtain ⟨os', e⟩ := hz.out
  exact ⟨_, by rw [e, alloc_eq_grow, grow_grow]; rfl⟩
theorem cmpLaysE (blk off size : Nat) (w : World) : CmpLays Tryz.prog 101 #[] ecE 3 cfE blk off size w :=
  fun _ _ _ _ x y => byCell_any x y _

end Go.Proofs.YtppiilbcnkphbaaGreat
