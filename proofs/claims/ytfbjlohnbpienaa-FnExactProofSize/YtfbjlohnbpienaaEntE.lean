/- Entries in memory, three cells each; maps from places to numbers: keys, what they hold, how they are cleared. -/
import Derived.Test.YtfbjlohnbpienaaMem
import Derived.Test.YtfbjlohnbpienaaEntM
import Derived.Test.YtfbjlohnbpienaaProg
import Derived.Maps.OwnSet
import Derived.Maps.RangeWalk
import Derived.DeepKeys4
import Derived.WalkSpells
namespace Go.Proofs.Ytfbjlohnbpienaa
open Go.RowKit Go.Maps
set_option linter.unusedVariables false
set_option linter.unusedSimpArgs false
set_option maxRecDepth 100000

/-- n entries that can be read behind c. -/
def EntV (w : World) (c : Option Addr) (n : Nat) (X : Nat → En) : Prop :=
  ∀ i, i < n → ∃ xb xo : Nat, c = some ⟨xb, xo, none⟩ ∧ xb < w.heap.size ∧ w.cell? ⟨xb, xo + i * 3, none⟩ = some (.int .i64 (X i).1) ∧ w.cell? ⟨xb, xo + i * 3 + 1, none⟩ = some (.int .i64 (X i).2.1) ∧ w.cell? ⟨xb, xo + i * 3 + 2, none⟩ = some (.int .i64 (X i).2.2)
theorem EntV.chg {P : Nat → Prop} {w w' : World} {c : Option Addr} {n : Nat} {X : Nat → En} (h : EntV w c n X) (k : Chg P w w') (hp : ∀ xb xo, c = some ⟨xb, xo, none⟩ → 0 < n → xb < w.heap.size → ¬ P xb) : EntV w' c n X := by
  intro i hi
  obtain ⟨xb, xo, e, l, h1, h2, h3⟩ := h i hi
  have np := hp xb xo e (by omega) l
  exact ⟨xb, xo, e, Nat.lt_of_lt_of_le l k.size, by rw [k.cell l np, h1], by rw [k.cell l np, h2], by rw [k.cell l np, h3]⟩
theorem EntV.keep {w w' : World} {c : Option Addr} {n : Nat} {X : Nat → En} (h : EntV w c n X) (k : Chg nob w w') : EntV w' c n X := h.chg k (fun _ _ _ _ _ x => x)
theorem EntV.congr {w : World} {c : Option Addr} {n : Nat} {X Y : Nat → En} (h : EntV w c n X) (e : ∀ i, i < n → X i = Y i) : EntV w c n Y := by
  intro i hi
  rw [← e i hi]
  exact h i hi
theorem EntV.low {w : World} {c : Option Addr} {n m : Nat} {X : Nat → En} (h : EntV w c n X) (hm : m ≤ n) : EntV w c m X := fun i hi => h i (by omega)
/-- A block of a map is no block of entries. -/
theorem EntV.noMap {w : World} {c : Option Addr} {n : Nat} {X : Nat → En} (h : EntV w c n X) {b : Nat} {es : Array MapEntry} {ck : Nat} (hb : w.heap[b]? = some (.map es ck)) : ∀ xb xo, c = some ⟨xb, xo, none⟩ → 0 < n → xb ≠ b := by
  intro xb xo e hn q
  obtain ⟨yb, yo, e', l, h1, _⟩ := h 0 hn
  rw [e] at e'
  simp at e'
  obtain ⟨rfl, rfl⟩ := e'
  subst q
  unfold World.cell? at h1
  simp [hb] at h1
/-- Entries, cell by cell. -/
def tf (X : Nat → En) (i : Nat) : Value := .int .i64 (if i % 3 = 0 then (X (i / 3)).1 else if i % 3 = 1 then (X (i / 3)).2.1 else (X (i / 3)).2.2)
theorem tf_0 (X : Nat → En) (k : Nat) : tf X (k * 3) = .int .i64 (X k).1 := by
  unfold tf; rw [if_pos (by omega), show k * 3 / 3 = k by omega]
theorem tf_1 (X : Nat → En) (k : Nat) : tf X (k * 3 + 1) = .int .i64 (X k).2.1 := by
  unfold tf; rw [if_neg (by omega), if_pos (by omega), show (k * 3 + 1) / 3 = k by omega]
theorem tf_2 (X : Nat → En) (k : Nat) : tf X (k * 3 + 2) = .int .i64 (X k).2.2 := by
  unfold tf; rw [if_neg (by omega), if_neg (by omega), show (k * 3 + 2) / 3 = k by omega]
theorem EntV.of_row {w : World} {b : Nat} {t : TypeId} {n N : Nat} {X : Nat → En} {h : Nat → Value} (r : w.rowIs b t N h) (hm : n * 3 ≤ N) (e : ∀ i, i < n * 3 → h i = tf X i) : EntV w (some ⟨b, 0, none⟩) n X := by
  intro i hi
  refine ⟨b, 0, rfl, r.lt, ?_, ?_, ?_⟩
  · rw [Nat.zero_add, r.cell (by omega), e _ (by omega), tf_0]
  · rw [Nat.zero_add, r.cell (by omega), e _ (by omega), tf_1]
  · rw [Nat.zero_add, r.cell (by omega), e _ (by omega), tf_2]

/-- A place of a matrix as a key. -/
def kyE (r c : Int) : Lit := .string (keyBytes [.int .i64 r, .int .i64 c])
theorem laidE : laidOutB Try.prog = true := by kernel_rfl
theorem wideC : (match Try.prog.underlying 139 with | some (.array _ _) | some (.struct _) => true | _ => false) = true := by kernel_rfl
theorem rowC : (139 : TypeId) < Try.prog.types.size := of_decide_eq_true (by kernel_rfl)
theorem lawC : Keyed Try.prog 139 := Keyed.of_law (deep_law_laid laidE (m := 2) (by omega) rowC (by kernel_rfl) wideC)
theorem typesE : ∃ d, Try.prog.types.size = d + 1 := ⟨290 - 101, by kernel_rfl⟩
theorem keyTC : Try.prog.keyType 139 = true := by kernel_rfl
theorem cellsC : Try.prog.cellsOf 139 = 2 := by kernel_rfl
theorem cellsI3 : Try.prog.cellsOf 3 = 1 := by kernel_rfl
theorem keyC {r c : Int} (hr : (Lit.int .i64 r).wf = true) (hc : (Lit.int .i64 c).wf = true) : keyOf Try.prog 139 (.agg #[.int .i64 r, .int .i64 c]) = some (kyE r c) := by
  have u := Try.underlying139
  have ui := Try.underlying3
  unfold keyOf
  rw [u]
  obtain ⟨d, hd⟩ := typesE
  simp only [keyTC, Value.formed, u, cellsC]
  rw [hd]
  simp [Program.keyLits, u, ui, cellsC, cellsI3, Value.cells, hr, hc, kyE]
theorem keyC_inv {key : Value} {kl : Lit} (h : keyOf Try.prog 139 key = some kl) : ∃ x : Int × Int, key = .agg #[.int .i64 x.1, .int .i64 x.2] ∧ (Lit.int .i64 x.1).wf = true ∧ (Lit.int .i64 x.2).wf = true := by
  have u := Try.underlying139
  have ui := Try.underlying3
  obtain ⟨xs, L, rfl, hl, rfl⟩ := keyOf_top wideC h
  obtain ⟨d, hd⟩ := typesE
  rw [hd] at hl
  obtain ⟨l⟩ := xs
  simp only [Program.keyLits, u, cellsC] at hl
  split at hl
  · rename_i hc
    obtain ⟨hc, _⟩ := hc
    match l, hc with
    | [p, q], _ =>
      cases p <;> cases q <;> simp [Program.keyLits, ui, cellsI3] at hl
      case int.int k1 a k2 b _ =>
        by_cases h1 : k1 = IntKind.i64 ∧ (Lit.int .i64 a).wf = true
        · by_cases h2 : k2 = IntKind.i64 ∧ (Lit.int .i64 b).wf = true
          · obtain ⟨rfl, w1⟩ := h1
            obtain ⟨rfl, w2⟩ := h2
            exact ⟨(a, b), rfl, w1, w2⟩
          · rw [if_pos h1, if_neg h2] at hl
            cases hl
        · rw [if_neg h1] at hl
          cases hl
  · cases hl
/-- What a map holds, place by place. -/
structure Fmd (D : DataW Unit) (m : Int → Int → Option Int) : Prop where
  som : ∀ r c v, (Lit.int .i64 r).wf = true → (Lit.int .i64 c).wf = true → m r c = some v → ∀ z, D.atKey (kyE r c) z = .lit (.int .i64 v)
  non : ∀ r c, (Lit.int .i64 r).wf = true → (Lit.int .i64 c).wf = true → m r c = none → has D (kyE r c) = false
theorem kyE_key (r c : Int) : WideAt.IsKeyLit (kyE r c) := by unfold kyE WideAt.IsKeyLit; trivial
theorem kyE_inj {r c r' c' : Int} (hr : (Lit.int .i64 r).wf = true) (hc : (Lit.int .i64 c).wf = true) (hr' : (Lit.int .i64 r').wf = true) (hc' : (Lit.int .i64 c').wf = true) (h : kyE r c = kyE r' c') : r = r' ∧ c = c' := by
  have h1 := keyC hr hc
  rw [h] at h1
  have := lawC.inj h1 (keyC hr' hc')
  simpa using this
theorem Fmd.empty (X : Nat → En) : Fmd (.map []) (fmE X 0) := ⟨fun _ _ _ _ _ h => (by cases h), fun _ _ _ _ _ => rfl⟩
theorem Fmd.put {D : DataW Unit} {X : Nat → En} {k : Nat} (h : Fmd D (fmE X k)) (hD : IsMap D) (hr : (Lit.int .i64 (X k).1).wf = true) (hc : (Lit.int .i64 (X k).2.1).wf = true) : Fmd (D.put (kyE (X k).1 (X k).2.1) (.lit (.int .i64 (X k).2.2))) (fmE X (k + 1)) := by
  constructor
  · intro r c v wr wc hm z
    unfold fmE at hm
    split at hm
    · rename_i e
      cases hm
      rw [← e.1, ← e.2, atKey_put_same hD (kyE_key _ _)]
    · rename_i e
      rw [atKey_put_other (fun q => e (by obtain ⟨a, b⟩ := kyE_inj wr wc hr hc q; exact ⟨a.symm, b.symm⟩))]
      exact h.som r c v wr wc hm z
  · intro r c wr wc hm
    unfold fmE at hm
    split at hm
    · cases hm
    · rename_i e
      rw [has_put_other (fun q => e (by obtain ⟨a, b⟩ := kyE_inj wr wc hr hc q; exact ⟨a.symm, b.symm⟩))]
      exact h.non r c wr wc hm
open Go.ChangeMaps Go.MapKept in
/-- clear(m). -/
theorem run_clear_own {w : World} {b n : Nat} {D : DataW Unit} {R : Value → Option (DataW Unit × List MemPlace)} {k e t ty : TypeId} {P : Program} (h : w.ownsMap P k R b n D) (ht : P.underlying t = some (.map k e)) :
    ∃ w', (Builtin.clear_ #[t] ty #[.map (some b)]).run P w = .ok (.tuple #[]) w' ∧ w'.ownsMap P k R b 0 (.map []) ∧ Chg (fun i => i = b) w w' := by
  obtain ⟨es, ck, hb, F, hs, hD⟩ := h
  refine ⟨setBlock w b (.map #[] ck), ?_, ⟨#[], ck, heap_setBlock_same hb _, ⟨by simp, stamped_empty ck, by simp⟩, Nat.le_refl _, rfl⟩, ⟨rfl, rfl, rfl, by simp [setBlock], fun i hi hp => heap_setBlock_other hb _ hp⟩⟩
  simp [Builtin.clear_, run_underlying ht, Go.MapKept.run_getObj_map hb, Go.MapKept.run_setObj_map _ hb, Result.andThen, setBlock]
end Go.Proofs.Ytfbjlohnbpienaa
