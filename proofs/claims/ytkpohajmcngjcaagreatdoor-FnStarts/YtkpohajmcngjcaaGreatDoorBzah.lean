/- Several texts in one: Entries of matrices as plain data: their order, lists that rise, what a map of them holds, and that a list is told back just if it rises. No program is named here. · Entries in memory, three cells each; maps from places to numbers: keys, what they hold, how they are cleared. · The library's sort and equality at entries, its comparison at ints: that this program's texts of them are the shelf's. · Entries told by lists: plain. -/
import Derived.Below
import Derived.Test.YtkpohajmcngjcaaGreatDoorBzaa
import Derived.Test.YtkpohajmcngjcaaGreatDoorProg
import Derived.Maps.OwnSet
import Derived.Maps.RangeWalk
import Derived.DeepKeys4
import Derived.WalkSpells
import Derived.Shelf.SlSortCmp.WholeK
import Derived.Shelf.SlicesQ.Equal
import Derived.Shelf.SlicesG.Cmp
namespace Go.Proofs.YtkpohajmcngjcaaGreatDoor

/-- An entry: row, column, value. -/
abbrev En := Int × Int × Int
/-- By rows, then by columns. -/
def enlt (x y : En) : Bool := decide (x.1 < y.1) || (decide (x.1 = y.1) && decide (x.2.1 < y.2.1))
/-- Within a matrix of R rows and C columns, its value a number of the field that is not 0. -/
def win (R C : Int) (x : En) : Bool := decide (0 ≤ x.1) && decide (x.1 < R) && decide (0 ≤ x.2.1) && decide (x.2.1 < C) && decide (1 ≤ x.2.2) && decide (x.2.2 < 2130706433)
/-- The first n rise. -/
def rsg (n : Nat) (X : Nat → En) : Bool := (List.range (n - 1)).all fun i => enlt (X i) (X (i + 1))
/-- A list of entries is a matrix of R rows and C columns. -/
def elm (R C : Int) (n : Nat) (X : Nat → En) : Bool := decide (n ≤ 200) && ((List.range n).all fun i => win R C (X i)) && rsg n X
/-- The first n as a list. -/
def eLs (n : Nat) (X : Nat → En) : List En := (List.range n).map X
/-- What a map holds behind the first k were stored into it. -/
def fmE (X : Nat → En) : Nat → Int → Int → Option Int
  | 0, _, _ => none
  | k + 1, r, c => if (X k).1 = r ∧ (X k).2.1 = c then some (X k).2.2 else fmE X k r c

theorem enlt_iff {x y : En} : enlt x y = true ↔ x.1 < y.1 ∨ (x.1 = y.1 ∧ x.2.1 < y.2.1) := by simp [enlt]
theorem enlt_trans {x y z : En} (h : enlt x y = true) (k : enlt y z = true) : enlt x z = true := by
  rw [enlt_iff] at *; omega
theorem enlt_irr (x : En) : enlt x x = false := by simp [enlt]
theorem enlt_ne {x y : En} (h : enlt x y = true) : ¬ (x.1 = y.1 ∧ x.2.1 = y.2.1) := by
  rw [enlt_iff] at h; omega
theorem enlt_of {x y : En} (h : enlt y x = false) (k : ¬ (x.1 = y.1 ∧ x.2.1 = y.2.1)) : enlt x y = true := by
  rw [enlt_iff]
  have h' : ¬ (y.1 < x.1 ∨ (y.1 = x.1 ∧ y.2.1 < x.2.1)) := by rw [← enlt_iff]; simp [h]
  omega
theorem rsg_iff {n : Nat} {X : Nat → En} : rsg n X = true ↔ ∀ i, i + 1 < n → enlt (X i) (X (i + 1)) = true := by
  simp only [rsg, List.all_eq_true, List.mem_range]
  exact ⟨fun h i hi => h i (by omega), fun h i hi => h i (by omega)⟩
theorem rsg_far {n : Nat} {X : Nat → En} (h : rsg n X = true) (i : Nat) : ∀ d, i + d + 1 < n → enlt (X i) (X (i + d + 1)) = true
  | 0, hd => rsg_iff.1 h i hd
  | d + 1, hd => enlt_trans (rsg_far h i d (by omega)) (rsg_iff.1 h (i + d + 1) (by omega))
theorem rsg_lt {n : Nat} {X : Nat → En} (h : rsg n X = true) {i j : Nat} (hij : i < j) (hj : j < n) : enlt (X i) (X j) = true := by
  have := rsg_far h i (j - i - 1) (by omega)
  rwa [show i + (j - i - 1) + 1 = j by omega] at this
theorem eLs_len (n : Nat) (X : Nat → En) : (eLs n X).length = n := by simp [eLs]
theorem eLs_get {n : Nat} {X : Nat → En} {i : Nat} (h : i < (eLs n X).length) : (eLs n X)[i] = X i := by simp [eLs]
theorem mem_eLs {n : Nat} {X : Nat → En} {e : En} : e ∈ eLs n X ↔ ∃ i, i < n ∧ X i = e := by simp [eLs]
theorem eLs_pw {n : Nat} {X : Nat → En} : (eLs n X).Pairwise (fun a b => enlt a b = true) ↔ rsg n X = true := by
  rw [List.pairwise_iff_getElem]
  constructor
  · intro h
    rw [rsg_iff]
    intro i hi
    have := h i (i + 1) (by rw [eLs_len]; omega) (by rw [eLs_len]; omega) (by omega)
    rwa [eLs_get, eLs_get] at this
  · intro h i j hi hj hij
    rw [eLs_get, eLs_get]
    exact rsg_lt h hij (by rw [eLs_len] at hj; exact hj)

/-- A key at which the first k have something is one of theirs. -/
theorem fmE_some {X : Nat → En} : ∀ {k : Nat} {r c v : Int}, fmE X k r c = some v → ∃ i, i < k ∧ X i = (r, c, v)
  | 0, _, _, _, h => by cases h
  | k + 1, r, c, v, h => by
    unfold fmE at h
    split at h
    · rename_i e
      cases h
      exact ⟨k, by omega, Prod.ext e.1 (Prod.ext e.2 rfl)⟩
    · obtain ⟨i, hi, e⟩ := fmE_some h
      exact ⟨i, by omega, e⟩
theorem fmE_at {X : Nat → En} {n : Nat} (h : rsg n X = true) : ∀ (k : Nat), k ≤ n → ∀ i, i < k → fmE X k (X i).1 (X i).2.1 = some (X i).2.2
  | 0, _, i, hi => by omega
  | k + 1, hk, i, hi => by
    unfold fmE
    by_cases e : i = k
    · subst e; simp
    · rw [if_neg (fun q => enlt_ne (rsg_lt h (show i < k by omega) (by omega)) ⟨q.1.symm, q.2.symm⟩)]
      exact fmE_at h k (by omega) i (by omega)

theorem pw_of {l : List En} (h1 : l.Pairwise (fun a b => enlt b a = false)) (h2 : l.Pairwise (fun a b => ¬ (a.1 = b.1 ∧ a.2.1 = b.2.1))) : l.Pairwise (fun a b => enlt a b = true) :=
  (h1.and h2).imp (fun ⟨a, b⟩ => enlt_of a b)
/-- Two lists that rise and hold the same are one. -/
theorem rise_eq : ∀ {l l' : List En}, l.Pairwise (fun a b => enlt a b = true) → l'.Pairwise (fun a b => enlt a b = true) → (∀ e, e ∈ l ↔ e ∈ l') → l = l'
  | [], [], _, _, _ => rfl
  | [], y :: r, _, _, h => absurd ((h y).2 List.mem_cons_self) (by simp)
  | x :: r, [], _, _, h => absurd ((h x).1 List.mem_cons_self) (by simp)
  | x :: r, y :: s, hl, hs, h => by
    obtain ⟨a1, a2⟩ := List.pairwise_cons.1 hl
    obtain ⟨b1, b2⟩ := List.pairwise_cons.1 hs
    have e : x = y := by
      rcases List.mem_cons.1 ((h x).1 List.mem_cons_self) with e | e
      · exact e
      · rcases List.mem_cons.1 ((h y).2 List.mem_cons_self) with e' | e'
        · exact e'.symm
        · have := enlt_trans (a1 y e') (b1 x e)
          rw [enlt_irr] at this; cases this
    subst e
    congr 1
    refine rise_eq a2 b2 (fun z => ⟨fun hz => ?_, fun hz => ?_⟩)
    · rcases List.mem_cons.1 ((h z).1 (List.mem_cons_of_mem _ hz)) with e | e
      · subst e; have := a1 z hz; rw [enlt_irr] at this; cases this
      · exact e
    · rcases List.mem_cons.1 ((h z).2 (List.mem_cons_of_mem _ hz)) with e | e
      · subst e; have := b1 z hz; rw [enlt_irr] at this; cases this
      · exact e

/-- What entries are told by a map: each once, all of them, by their order. -/
structure Told (m : Int → Int → Option Int) (S : List En) : Prop where
  is : ∀ e ∈ S, m e.1 e.2.1 = some e.2.2
  all : ∀ r c v, m r c = some v → (r, c, v) ∈ S
  rise : S.Pairwise (fun a b => enlt a b = true)

/-- A list is told back just if it rises. -/
theorem told_back {n : Nat} {X : Nat → En} {S : List En} (h : Told (fmE X n) S) : (S = eLs n X) ↔ rsg n X = true := by
  constructor
  · intro e
    rw [← eLs_pw, ← e]
    exact h.rise
  · intro hr
    refine rise_eq h.rise (eLs_pw.2 hr) (fun e => ⟨fun he => ?_, fun he => ?_⟩)
    · obtain ⟨i, hi, q⟩ := fmE_some (h.is e he)
      exact mem_eLs.2 ⟨i, hi, q⟩
    · obtain ⟨i, hi, rfl⟩ := mem_eLs.1 he
      exact h.all _ _ _ (fmE_at hr n (Nat.le_refl _) i hi)

end Go.Proofs.YtkpohajmcngjcaaGreatDoor

namespace Go.Proofs.YtkpohajmcngjcaaGreatDoor
open Go.RowKit Go.Maps
set_option linter.unusedVariables false
set_option linter.unusedSimpArgs false
set_option maxRecDepth 100000

/-- n entries that can be read behind c. -/
def EntV (w : World) (c : Option Addr) (n : Nat) (X : Nat → En) : Prop :=
  ∀ i, i < n → ∃ xb xo : Nat, c = some ⟨xb, xo, none⟩ ∧ xb < w.heap.size ∧ w.cell? ⟨xb, xo + i * 3, none⟩ = some (.int .i64 (X i).1) ∧ w.cell? ⟨xb, xo + i * 3 + 1, none⟩ = some (.int .i64 (X i).2.1) ∧ w.cell? ⟨xb, xo + i * 3 + 2, none⟩ = some (.int .i64 (X i).2.2)
theorem EntV.chg {P : Nat → Prop} {w w' : World} {c : Option Addr} {n : Nat} {X : Nat → En} (h : EntV w c n X) (k : Chg P w w') (hp : ∀ xb xo, c = some ⟨xb, xo, none⟩ → 0 < n → xb < w.heap.size → ¬ P xb) : EntV w' c n X := by
  intro i hi
  obtain ⟨xb, xo, e, l, h1, h2, h3⟩ := h i hi
  have np := hp xb xo e (by omega) l
  exact ⟨xb, xo, e, Nat.lt_of_lt_of_le l k.size, by rw [k.cell l np, h1], by rw [k.cell l np, h2], by rw [k.cell l np, h3]⟩
theorem EntV.keep {w w' : World} {c : Option Addr} {n : Nat} {X : Nat → En} (h : EntV w c n X) (k : Chg nob w w') : EntV w' c n X := h.chg k (fun _ _ _ _ _ x => x)
theorem EntV.congr {w : World} {c : Option Addr} {n : Nat} {X Y : Nat → En} (h : EntV w c n X) (e : ∀ i, i < n → X i = Y i) : EntV w c n Y := by
  intro i hi
  rw [← e i hi]
  exact h i hi
theorem EntV.low {w : World} {c : Option Addr} {n m : Nat} {X : Nat → En} (h : EntV w c n X) (hm : m ≤ n) : EntV w c m X := fun i hi => h i (by omega)
/-- A block of a map is no block of entries. -/
theorem EntV.noMap {w : World} {c : Option Addr} {n : Nat} {X : Nat → En} (h : EntV w c n X) {b : Nat} {es : Array MapEntry} {ck : Nat} (hb : w.heap[b]? = some (.map es ck)) : ∀ xb xo, c = some ⟨xb, xo, none⟩ → 0 < n → xb ≠ b := by
  intro xb xo e hn q
  obtain ⟨yb, yo, e', l, h1, _⟩ := h 0 hn
  rw [e] at e'
  simp at e'
  obtain ⟨rfl, rfl⟩ := e'
  subst q
  unfold World.cell? at h1
  simp [hb] at h1
/-- Entries, cell by cell. -/
def tf (X : Nat → En) (i : Nat) : Value := .int .i64 (if i % 3 = 0 then (X (i / 3)).1 else if i % 3 = 1 then (X (i / 3)).2.1 else (X (i / 3)).2.2)
theorem tf_0 (X : Nat → En) (k : Nat) : tf X (k * 3) = .int .i64 (X k).1 := by
  unfold tf; rw [if_pos (by omega), show k * 3 / 3 = k by omega]
theorem tf_1 (X : Nat → En) (k : Nat) : tf X (k * 3 + 1) = .int .i64 (X k).2.1 := by
  unfold tf; rw [if_neg (by omega), if_pos (by omega), show (k * 3 + 1) / 3 = k by omega]
theorem tf_2 (X : Nat → En) (k : Nat) : tf X (k * 3 + 2) = .int .i64 (X k).2.2 := by
  unfold tf; rw [if_neg (by omega), if_neg (by omega), show (k * 3 + 2) / 3 = k by omega]
theorem EntV.of_row {w : World} {b : Nat} {t : TypeId} {n N : Nat} {X : Nat → En} {h : Nat → Value} (r : w.rowIs b t N h) (hm : n * 3 ≤ N) (e : ∀ i, i < n * 3 → h i = tf X i) : EntV w (some ⟨b, 0, none⟩) n X := by
  intro i hi
  refine ⟨b, 0, rfl, r.lt, ?_, ?_, ?_⟩
  · rw [Nat.zero_add, r.cell (by omega), e _ (by omega), tf_0]
  · rw [Nat.zero_add, r.cell (by omega), e _ (by omega), tf_1]
  · rw [Nat.zero_add, r.cell (by omega), e _ (by omega), tf_2]

/-- A place of a matrix as a key. -/
def kyE (r c : Int) : Lit := .string (keyBytes [.int .i64 r, .int .i64 c])
theorem laidE : laidOutB Tryz.prog = true := by kernel_rfl
theorem wideC : (match Tryz.prog.underlying 162 with | some (.array _ _) | some (.struct _) => true | _ => false) = true := by kernel_rfl
theorem rowC : (162 : TypeId) < Tryz.prog.types.size := of_decide_eq_true (by kernel_rfl)
theorem lawC : Keyed Tryz.prog 162 := Keyed.of_law (deep_law_laid laidE (m := 2) (by omega) rowC (by kernel_rfl) wideC)
theorem typesE : ∃ d, Tryz.prog.types.size = d + 1 := ⟨315 - 101, by kernel_rfl⟩
theorem keyTC : Tryz.prog.keyType 162 = true := by kernel_rfl
theorem cellsC : Tryz.prog.cellsOf 162 = 2 := by kernel_rfl
theorem cellsI3 : Tryz.prog.cellsOf 3 = 1 := by kernel_rfl
theorem keyC {r c : Int} (hr : (Lit.int .i64 r).wf = true) (hc : (Lit.int .i64 c).wf = true) : keyOf Tryz.prog 162 (.agg #[.int .i64 r, .int .i64 c]) = some (kyE r c) := by
  have u := Tryz.underlying162
  have ui := Tryz.underlying3
  unfold keyOf
  rw [u]
  obtain ⟨d, hd⟩ := typesE
  simp only [keyTC, Value.formed, u, cellsC]
  rw [hd]
  simp [Program.keyLits, u, ui, cellsC, cellsI3, Value.cells, hr, hc, kyE]
theorem keyC_inv {key : Value} {kl : Lit} (h : keyOf Tryz.prog 162 key = some kl) : ∃ x : Int × Int, key = .agg #[.int .i64 x.1, .int .i64 x.2] ∧ (Lit.int .i64 x.1).wf = true ∧ (Lit.int .i64 x.2).wf = true := by
  have u := Tryz.underlying162
  have ui := Tryz.underlying3
  obtain ⟨xs, L, rfl, hl, rfl⟩ := keyOf_top wideC h
  obtain ⟨d, hd⟩ := typesE
  rw [hd] at hl
  obtain ⟨l⟩ := xs
  simp only [Program.keyLits, u, cellsC] at hl
  split at hl
  · rename_i hc
    obtain ⟨hc, _⟩ := hc
    match l, hc with
    | [p, q], _ =>
      cases p <;> cases q <;> simp [Program.keyLits, ui, cellsI3] at hl
      case int.int k1 a k2 b _ =>
        by_cases h1 : k1 = IntKind.i64 ∧ (Lit.int .i64 a).wf = true
        · by_cases h2 : k2 = IntKind.i64 ∧ (Lit.int .i64 b).wf = true
          · obtain ⟨rfl, w1⟩ := h1
            obtain ⟨rfl, w2⟩ := h2
            exact ⟨(a, b), rfl, w1, w2⟩
          · rw [if_pos h1, if_neg h2] at hl
            cases hl
        · rw [if_neg h1] at hl
          cases hl
  · cases hl
/-- What a map holds, place by place. -/
structure Fmd (D : DataW Unit) (m : Int → Int → Option Int) : Prop where
  som : ∀ r c v, (Lit.int .i64 r).wf = true → (Lit.int .i64 c).wf = true → m r c = some v → ∀ z, D.atKey (kyE r c) z = .lit (.int .i64 v)
  non : ∀ r c, (Lit.int .i64 r).wf = true → (Lit.int .i64 c).wf = true → m r c = none → has D (kyE r c) = false
theorem kyE_key (r c : Int) : WideAt.IsKeyLit (kyE r c) := by unfold kyE WideAt.IsKeyLit; trivial
theorem kyE_inj {r c r' c' : Int} (hr : (Lit.int .i64 r).wf = true) (hc : (Lit.int .i64 c).wf = true) (hr' : (Lit.int .i64 r').wf = true) (hc' : (Lit.int .i64 c').wf = true) (h : kyE r c = kyE r' c') : r = r' ∧ c = c' := by
  have h1 := keyC hr hc
  rw [h] at h1
  have := lawC.inj h1 (keyC hr' hc')
  simpa using this
theorem Fmd.empty (X : Nat → En) : Fmd (.map []) (fmE X 0) := ⟨fun _ _ _ _ _ h => (by cases h), fun _ _ _ _ _ => rfl⟩
theorem Fmd.put {D : DataW Unit} {X : Nat → En} {k : Nat} (h : Fmd D (fmE X k)) (hD : IsMap D) (hr : (Lit.int .i64 (X k).1).wf = true) (hc : (Lit.int .i64 (X k).2.1).wf = true) : Fmd (D.put (kyE (X k).1 (X k).2.1) (.lit (.int .i64 (X k).2.2))) (fmE X (k + 1)) := by
  constructor
  · intro r c v wr wc hm z
    unfold fmE at hm
    split at hm
    · rename_i e
      cases hm
      rw [← e.1, ← e.2, atKey_put_same hD (kyE_key _ _)]
    · rename_i e
      rw [atKey_put_other (fun q => e (by obtain ⟨a, b⟩ := kyE_inj wr wc hr hc q; exact ⟨a.symm, b.symm⟩))]
      exact h.som r c v wr wc hm z
  · intro r c wr wc hm
    unfold fmE at hm
    split at hm
    · cases hm
    · rename_i e
      rw [has_put_other (fun q => e (by obtain ⟨a, b⟩ := kyE_inj wr wc hr hc q; exact ⟨a.symm, b.symm⟩))]
      exact h.non r c wr wc hm
open Go.ChangeMaps Go.MapKept in
/-- clear(m). -/
theorem run_clear_own {w : World} {b n : Nat} {D : DataW Unit} {R : Value → Option (DataW Unit × List MemPlace)} {k e t ty : TypeId} {P : Program} (h : w.ownsMap P k R b n D) (ht : P.underlying t = some (.map k e)) :
    ∃ w', (Builtin.clear_ #[t] ty #[.map (some b)]).run P w = .ok (.tuple #[]) w' ∧ w'.ownsMap P k R b 0 (.map []) ∧ Chg (fun i => i = b) w w' := by
  obtain ⟨es, ck, hb, F, hs, hD⟩ := h
  refine ⟨setBlock w b (.map #[] ck), ?_, ⟨#[], ck, heap_setBlock_same hb _, ⟨by simp, stamped_empty ck, by simp⟩, Nat.le_refl _, rfl⟩, ⟨rfl, rfl, rfl, by simp [setBlock], fun i hi hp => heap_setBlock_other hb _ hp⟩⟩
  simp [Builtin.clear_, run_underlying ht, Go.MapKept.run_getObj_map hb, Go.MapKept.run_setObj_map _ hb, Result.andThen, setBlock]

end Go.Proofs.YtkpohajmcngjcaaGreatDoor

namespace Go.Proofs.YtkpohajmcngjcaaGreatDoor
open Go.Shelf
def sortE_ren : Go.Shelf.Ren := ⟨fun | 6 => 124 | 15 => 135 | 14 => 134 | 28 => 149 | 29 => 150 | 20 => 141 | 21 => 142 | 22 => 143 | 23 => 144 | 24 => 145 | 25 => 146 | 26 => 147 | 27 => 148 | 46 => 153 | 47 => 154 | 48 => 155 | 49 => 156 | 50 => 157 | 57 => 158 | n => n, fun | 22 => 38 | 24 => 106 | 25 => 164 | 3 => 3 | 39 => 127 | 0 => 0 | 53 => 189 | 55 => 141 | 4 => 4 | 46 => 182 | 45 => 181 | 50 => 186 | 5 => 5 | 9 => 9 | 66 => 191 | 70 => 195 | 76 => 197 | 77 => 198 | n => n, fun | n => n⟩
theorem sortE : Go.Proofs.SlLaysF0.n6 Tryz.prog sortE_ren := {
  mixed := by kernel_rfl
  f6 := ⟨Tryz.f124.name, by decide, Tryz.func124.trans (congrArg some (by kernel_rfl))⟩
  f14 := ⟨Tryz.f134.name, by decide, Tryz.func134.trans (congrArg some (by kernel_rfl))⟩
  f15 := Tryz.func135.trans (congrArg some (by kernel_rfl))
  f20 := ⟨Tryz.f141.name, by decide, Tryz.func141.trans (congrArg some (by kernel_rfl))⟩
  f21 := ⟨Tryz.f142.name, by decide, Tryz.func142.trans (congrArg some (by kernel_rfl))⟩
  f22 := ⟨Tryz.f143.name, by decide, Tryz.func143.trans (congrArg some (by kernel_rfl))⟩
  f23 := ⟨Tryz.f144.name, by decide, Tryz.func144.trans (congrArg some (by kernel_rfl))⟩
  f24 := ⟨Tryz.f145.name, by decide, Tryz.func145.trans (congrArg some (by kernel_rfl))⟩
  f25 := ⟨Tryz.f146.name, by decide, Tryz.func146.trans (congrArg some (by kernel_rfl))⟩
  f26 := ⟨Tryz.f147.name, by decide, Tryz.func147.trans (congrArg some (by kernel_rfl))⟩
  f27 := ⟨Tryz.f148.name, by decide, Tryz.func148.trans (congrArg some (by kernel_rfl))⟩
  f28 := Tryz.func149.trans (congrArg some (by kernel_rfl))
  f29 := Tryz.func150.trans (congrArg some (by kernel_rfl))
  f46 := ⟨Tryz.f153.name, by decide, Tryz.func153.trans (congrArg some (by kernel_rfl))⟩
  f47 := Tryz.func154.trans (congrArg some (by kernel_rfl))
  f48 := Tryz.func155.trans (congrArg some (by kernel_rfl))
  f49 := ⟨Tryz.f156.name, by decide, Tryz.func156.trans (congrArg some (by kernel_rfl))⟩
  f50 := ⟨Tryz.f157.name, by decide, Tryz.func157.trans (congrArg some (by kernel_rfl))⟩
  f57 := ⟨Tryz.f158.name, by decide, Tryz.func158.trans (congrArg some (by kernel_rfl))⟩
  t0 := Tryz.underlying0
  a0 := Tryz.isAgg0
  z0 := Tryz.sizeOf0
  v0 := Tryz.zeroValue0
  t3 := Tryz.underlying3
  a3 := Tryz.isAgg3
  z3 := Tryz.sizeOf3
  v3 := Tryz.zeroValue3
  t4 := Tryz.underlying4
  a4 := Tryz.isAgg4
  z4 := Tryz.sizeOf4
  v4 := Tryz.zeroValue4
  t5 := Tryz.underlying5
  a5 := Tryz.isAgg5
  z5 := Tryz.sizeOf5
  v5 := Tryz.zeroValue5
  t9 := Tryz.underlying9
  a9 := Tryz.isAgg9
  z9 := Tryz.sizeOf9
  v9 := Tryz.zeroValue9
  t22 := Tryz.underlying38
  a22 := Tryz.isAgg38
  z22 := Tryz.sizeOf38
  v22 := Tryz.zeroValue38
  t25 := Tryz.underlying164
  a25 := Tryz.isAgg164
  z25 := Tryz.sizeOf164
  v25 := Tryz.zeroValue164
  t39 := Tryz.underlying127
  a39 := Tryz.isAgg127
  z39 := Tryz.sizeOf127
  v39 := Tryz.zeroValue127
  t45 := Tryz.underlying181
  a45 := Tryz.isAgg181
  z45 := Tryz.sizeOf181
  v45 := Tryz.zeroValue181
  t46 := Tryz.underlying182
  a46 := Tryz.isAgg182
  z46 := Tryz.sizeOf182
  v46 := Tryz.zeroValue182
  t50 := Tryz.underlying186
  a50 := Tryz.isAgg186
  z50 := Tryz.sizeOf186
  v50 := Tryz.zeroValue186
  t53 := Tryz.underlying189
  a53 := Tryz.isAgg189
  z53 := Tryz.sizeOf189
  v53 := Tryz.zeroValue189
  t55 := Tryz.underlying141
  a55 := Tryz.isAgg141
  z55 := Tryz.sizeOf141
  v55 := Tryz.zeroValue141
  t66 := Tryz.underlying191
  a66 := Tryz.isAgg191
  z66 := Tryz.sizeOf191
  v66 := Tryz.zeroValue191
  t70 := Tryz.underlying195
  a70 := Tryz.isAgg195
  z70 := Tryz.sizeOf195
  v70 := Tryz.zeroValue195
  t76 := Tryz.underlying197
  a76 := Tryz.isAgg197
  z76 := Tryz.sizeOf197
  v76 := Tryz.zeroValue197
  t77 := Tryz.underlying198
  a77 := Tryz.isAgg198
  z77 := Tryz.sizeOf198
  v77 := Tryz.zeroValue198 }
def cmpI_ren : Go.Shelf.Ren := ⟨fun | 5 => 137 | 7 => 151 | n => n, fun | 22 => 3 | 3 => 3 | 4 => 4 | n => n, fun | n => n⟩
theorem cmpI : Go.Proofs.SlLaysC2.n5 Tryz.prog cmpI_ren := {
  mixed := by kernel_rfl
  f5 := ⟨Tryz.f137.name, by decide, Tryz.func137.trans (congrArg some (by kernel_rfl))⟩
  f7 := ⟨Tryz.f151.name, by decide, Tryz.func151.trans (congrArg some (by kernel_rfl))⟩
  t3 := Tryz.underlying3
  a3 := Tryz.isAgg3
  z3 := Tryz.sizeOf3
  v3 := Tryz.zeroValue3
  t4 := Tryz.underlying4
  a4 := Tryz.isAgg4
  z4 := Tryz.sizeOf4
  v4 := Tryz.zeroValue4
  t22 := Tryz.underlying3
  a22 := Tryz.isAgg3
  z22 := Tryz.sizeOf3
  v22 := Tryz.zeroValue3 }
def equE_ren : Go.Shelf.Ren := ⟨fun | 8 => 113 | n => n, fun | 22 => 38 | 24 => 106 | 4 => 4 | 3 => 3 | 0 => 0 | n => n, fun | n => n⟩
theorem equE : Go.Proofs.SlLaysQ.n8 Tryz.prog equE_ren := {
  mixed := by kernel_rfl
  f8 := ⟨Tryz.f113.name, by decide, Tryz.func113.trans (congrArg some (by kernel_rfl))⟩
  t0 := Tryz.underlying0
  a0 := Tryz.isAgg0
  z0 := Tryz.sizeOf0
  v0 := Tryz.zeroValue0
  t3 := Tryz.underlying3
  a3 := Tryz.isAgg3
  z3 := Tryz.sizeOf3
  v3 := Tryz.zeroValue3
  t4 := Tryz.underlying4
  a4 := Tryz.isAgg4
  z4 := Tryz.sizeOf4
  v4 := Tryz.zeroValue4
  t22 := Tryz.underlying38
  a22 := Tryz.isAgg38
  z22 := Tryz.sizeOf38
  v22 := Tryz.zeroValue38 }

end Go.Proofs.YtkpohajmcngjcaaGreatDoor

namespace Go.Proofs.YtkpohajmcngjcaaGreatDoor
set_option linter.unusedVariables false

/-- A list as what is read place by place. -/
def lfn (l : List En) (i : Nat) : En := l.getD i (0, 0, 0)

end Go.Proofs.YtkpohajmcngjcaaGreatDoor
