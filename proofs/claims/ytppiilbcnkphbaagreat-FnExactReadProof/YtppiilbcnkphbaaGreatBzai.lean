/- Several texts in one: A block that was made just now, as a row; a heap's size behind an alloc: plain. · Lists of lists in the laws: their sizes, copies, comparisons, marks: contracts. Conditions: lists that can be read, of at most 2 to the 40. · What the laws' copies of lists of lists, queries and openings are: contracts. Conditions: lists that can be read, lengths of at most 2 to the 20. · Lists of lists that come in as an argument: what their cells hold. No condition but those that each theorem states. -/
import Derived.Test.YtppiilbcnkphbaaGreatBzab
import Derived.Deep.Heap
import Derived.Test.YtppiilbcnkphbaaGreatBzam
import Derived.Test.YtppiilbcnkphbaaGreatBzak
import Derived.Test.YtppiilbcnkphbaaGreatBzaf
import Derived.Deep.SlicePairs
import Derived.OpenShut
namespace Go.Proofs.YtppiilbcnkphbaaGreat
open Go.RowKit
theorem asz (w : World) (o : Obj) : (w.alloc o).heap.size = w.heap.size + 1 := by simp
theorem rowN_new (W : World) (n : Nat) (a : Array Value) (t : TypeId) (h : a.size = n) : (W.alloc (.cells a t)).rowIs W.heap.size t n (fun i => a.getD i undef) :=
  ⟨a, Go.Deep.blk_alloc_new _ _, h, fun i hi => by simp [h, hi]⟩

end Go.Proofs.YtppiilbcnkphbaaGreat

namespace Go.Proofs.YtppiilbcnkphbaaGreat
open Go.ChangeShapes Go.WideShapes Go.ChangeAt Go.RowKit
set_option linter.unusedVariables false
set_option maxRecDepth 100000
set_option linter.unusedSimpArgs false

/-- make([]T, n), T a slice. -/
theorem wpList_make_rows {P : Program} (w : World) {ops : Array Oper} {rest : List Oper} {o : Oper} {a : Act} {Q : Exit → Act → World → Prop}
    (hg : o.guard = none) (l c : Operand) (t : TypeId) (hop : o.op = Op.makeSlice t l c) (e : TypeId) (i : TypeInfo)
    (h1 : P.underlying t = some (.slice e)) (h2 : P.info? e = some i) (h3 : i.zero = some (.slice none 0 0)) (h4 : i.size = 1)
    (kl kc : IntKind) (L C : Int) (n : Nat) (hl : a.eval l = .int kl L) (hc : a.eval c = .int kc C) (hL : L = (n : Int)) (hC : C = (n : Int)) (b2 : i.bytes * n ≤ 281474976710656) (b3 : n ≤ 9223372036854775807)
    (hK : ∀ w', w'.rowIs w.heap.size e n (fun _ => .slice none 0 0) → Chg nob w w' → wpList P ops Q rest (a.put o.dst (.slice (some ⟨w.heap.size, 0, none⟩) n n)) w') :
    wpList P ops Q (o :: rest) a w := by
  refine wpList_plain hg fun K hK' => ?_
  have hb' : (i.bytes : Int) * (n : Int) ≤ 281474976710656 := by
    have h : ((i.bytes * n : Nat) : Int) ≤ 281474976710656 := by omega
    rwa [Int.natCast_mul] at h
  have hrun := run_make (P := P) w t e i _ h1 h2 h3 kl kc n n (by omega) (Int.le_refl _) hb' (by omega)
  simp only [Int.toNat_natCast, h4, Nat.mul_one] at hrun
  subst hL
  subst hC
  unfold Oper.wp
  simp [execOp, hop, hl, hc, hrun, Result.andThen]
  refine hK' _ _ (hK _ ⟨_, Go.Deep.blk_alloc_new _ _, size_madeCells _ _, fun j hj => ?_⟩ ((Chg.refl _ _).alloc _))
  simp [madeCells, hj, Value.cells, Nat.mod_one]

/-- The first k of lists of lists copied. -/
def cpr (G L : Nat → Nat) (k i : Nat) : Value := if i < k then .slice (some ⟨G i, 0, none⟩) (L i) (L i) else .slice none 0 0
/-- A copy of lists of lists: a new row at the heap's end, its lists behind it. -/
def CopiedSS (w : World) (n : Nat) (L : Nat → Nat) (f g : Nat → Nat → Int) (e : Ending) (w' : World) : Prop :=
  ∃ G : Nat → Nat, e = .returned (.slice (some ⟨w.heap.size, 0, none⟩) n n) ∧ w'.rowIs w.heap.size 81 n (cpr G L n) ∧ (∀ i, i < n → w.heap.size < G i ∧ w'.rowIs (G i) 31 (L i * 2) (pf (f i) (g i))) ∧ (∀ i j, i < j → j < n → G i < G j) ∧ Chg nob w w'
theorem CopiedSS.rows {w w' : World} {n : Nat} {L G : Nat → Nat} {f g : Nat → Nat → Int} {b : Nat} (h : w'.rowIs b 81 n (cpr G L n)) (k : ∀ i, i < n → w'.rowIs (G i) 31 (L i * 2) (pf (f i) (g i))) : RowsV w' (some ⟨b, 0, none⟩) n (fun i => some ⟨G i, 0, none⟩) L L f g := by
  intro i hi
  refine ⟨b, 0, rfl, h.lt, ?_, PairV.of_row (k i hi) (Nat.le_refl _)⟩
  rw [Nat.zero_add, h.cell hi]
  unfold cpr
  rw [if_pos hi]


end Go.Proofs.YtppiilbcnkphbaaGreat

namespace Go.Proofs.YtppiilbcnkphbaaGreat
open Go.ChangeShapes Go.WideShapes Go.ChangeAt Go.RowKit
set_option linter.unusedVariables false
set_option maxRecDepth 100000
set_option linter.unusedSimpArgs false

/-- Lists of texts; lists of lists of elements; queries. -/
def dSS (n : Nat) (l : Nat → Nat) (T : Nat → Nat → ByteArray) : Dt := .list n 1 (fun i _ => .texts (l i) (T i))
def dEE (n : Nat) (l : Nat → Nat) (f g : Nat → Nat → Int) : Dt := .list n 1 (fun i _ => .exts (l i) (f i) (g i))
/-- What a query holds. -/
structure QD where
  np : Nat
  f : Nat → Int
  g : Nat → Int
  nq : Nat
  l : Nat → Nat
  T : Nat → Nat → ByteArray
def QD.P (q : QD) : Dt := .exts q.np q.f q.g
def QD.S (q : QD) : Dt := dSS q.nq q.l q.T
def dQs (n : Nat) (q : Nat → QD) : Dt := .list n 2 (fun i j => if j = 0 then (q i).P else (q i).S)
/-- What an opening holds. -/
structure OD where
  nr : Nat
  rl : Nat → Nat
  rf : Nat → Nat → Int
  rg : Nat → Nat → Int
  nt : Nat
  ts : Nat → ByteArray
  la : Int
  lb : Int
  no : Int
  nq : Nat
  q : Nat → QD
def OD.R (o : OD) : Dt := dEE o.nr o.rl o.rf o.rg
def OD.S (o : OD) : Dt := .texts o.nt o.ts
def OD.Q (o : OD) : Dt := dQs o.nq o.q
/-- k of n items are made. -/
structure Prt (W : World) (T : TypeId) (b n k : Nat) (len : Nat → Nat) (x : Nat → Dt) (C : Nat → Option Addr) (P lo hi : Nat → Nat) : Prop where
  row : W.rowIs b T n (fun i => if i < k then .slice (C i) (len i) (P i) else .slice none 0 0)
  it : ∀ i, i < k → b < lo i ∧ hi i ≤ W.heap.size ∧ (x i).Own W (lo i) (hi i) (.slice (C i) (len i) (P i))
  ord : ∀ i j, i < j → j < k → hi i ≤ lo j
def upd {α : Type} (f : Nat → α) (k : Nat) (a : α) (i : Nat) : α := if i = k then a else f i
theorem upd_at {α : Type} (f : Nat → α) (k : Nat) (a : α) : upd f k a k = a := if_pos rfl
theorem upd_ne {α : Type} (f : Nat → α) {k i : Nat} (a : α) (h : i ≠ k) : upd f k a i = f i := if_neg h
theorem Prt.step {W W1 : World} {T : TypeId} {b n k : Nat} {len : Nat → Nat} {x : Nat → Dt} {C : Nat → Option Addr} {P lo hi : Nat → Nat} (h : Prt W T b n k len x C P lo hi) (hk : k < n) (c : Option Addr) (cap : Nat) (kk : Chg nob W W1) (hb : b < W.heap.size) (ho : (x k).Own W1 W.heap.size W1.heap.size (.slice c (len k) cap)) :
    Prt (W1.setCell ⟨b, k, none⟩ (.slice c (len k) cap)) T b n (k + 1) len x (upd C k c) (upd P k cap) (upd lo k W.heap.size) (upd hi k W1.heap.size) := by
  have kS : Chg (fun y => y = b) W1 (W1.setCell ⟨b, k, none⟩ (.slice c (len k) cap)) := (Chg.refl (fun y => y = b) W1).setCell (p := ⟨b, k, none⟩) (fun _ => rfl) _
  refine ⟨((rowIs_keep h.row kk).set k (.slice c (len k) cap)).congr (fun i _ => ?_), fun i hi => ?_, fun i j hij hj => ?_⟩
  · by_cases e : i = k
    · subst e
      rw [if_pos rfl, if_pos (by omega), upd_at, upd_at]
    · rw [if_neg e, upd_ne _ _ e, upd_ne _ _ e]
      by_cases e2 : i < k
      · rw [if_pos e2, if_pos (by omega)]
      · rw [if_neg e2, if_neg (by omega)]
  · by_cases e : i = k
    · subst e
      rw [upd_at, upd_at, upd_at, upd_at]
      exact ⟨hb, by simp, ho.chg kS (fun y h1 h2 e => by omega)⟩
    · rw [upd_ne _ _ e, upd_ne _ _ e, upd_ne _ _ e, upd_ne _ _ e]
      obtain ⟨q1, q2, q3⟩ := h.it i (by omega)
      have := kk.size
      exact ⟨q1, by simp; omega, (q3.keep kk).chg kS (fun y h1 h2 e => by omega)⟩
  · have e : i ≠ k := by omega
    rw [upd_ne hi _ e]
    by_cases e2 : j = k
    · subst e2
      rw [upd_at]
      exact (h.it i (by omega)).2.1
    · rw [upd_ne lo _ e2]
      exact h.ord i j hij (by omega)
theorem Prt.done {W : World} {T : TypeId} {b n B : Nat} {len : Nat → Nat} {x : Nat → Dt} {C : Nat → Option Addr} {P lo hi : Nat → Nat} (h : Prt W T b n n len x C P lo hi) (hB : B ≤ b) (cap : Nat) : (Dt.list n 1 (fun i _ => x i)).Own W B W.heap.size (.slice (some ⟨b, 0, none⟩) n cap) := by
  refine ⟨_, _, rfl, .inr ⟨b, fun i _ => lo i, fun i _ => hi i, rfl, ⟨hB, h.row.lt, h.row.lt, fun i j hi hj => ?_, fun i j hi hj => ?_, fun i j hi hj => ?_, fun i j hi hj => ?_, fun i j i' j' hi hj hi' hj' hne => ?_⟩⟩⟩
  · obtain rfl : j = 0 := by omega
    refine ⟨_, ?_, (h.it i hi).2.2⟩
    rw [Nat.mul_one, Nat.add_zero, h.row.cell hi, if_pos hi]
  · have := (h.it i hi).1; omega
  · exact (h.it i hi).2.1
  · intro q; have := (h.it i hi).1; omega
  · have hne' : i ≠ i' := fun e => hne ⟨e, by omega⟩
    rcases Nat.lt_or_gt_of_ne hne' with q | q
    · exact .inl (h.ord i i' q hi')
    · exact .inr (h.ord i' i q hi)
theorem rep_list {w : World} {n m : Nat} {x : Nat → Nat → Dt} {c : Option Addr} {k cap : Nat} (h : (Dt.list n m x).Rep w (.slice c k cap)) : k = n ∧ ∀ i, i < n → ∃ xb xo : Nat, c = some ⟨xb, xo, none⟩ ∧ xb < w.heap.size ∧ ∀ j, j < m → ∃ u, w.cell? ⟨xb, xo + (i * m + j), none⟩ = some u ∧ (x i j).Rep w u := by
  obtain ⟨c', cap', e, q⟩ := h
  cases e
  exact ⟨rfl, q⟩

/-- make([]T, n), T a struct of two slices. -/
theorem wpList_make_rows2 {P : Program} (w : World) {ops : Array Oper} {rest : List Oper} {o : Oper} {a : Act} {Q : Exit → Act → World → Prop}
    (hg : o.guard = none) (l c : Operand) (t : TypeId) (hop : o.op = Op.makeSlice t l c) (e : TypeId) (i : TypeInfo)
    (h1 : P.underlying t = some (.slice e)) (h2 : P.info? e = some i) (h3 : i.zero = some (.agg #[.slice none 0 0, .slice none 0 0])) (h4 : i.size = 2)
    (kl kc : IntKind) (L C : Int) (n : Nat) (hl : a.eval l = .int kl L) (hc : a.eval c = .int kc C) (hL : L = (n : Int)) (hC : C = (n : Int)) (b2 : i.bytes * n ≤ 281474976710656) (b3 : n ≤ 9223372036854775807)
    (hK : ∀ w', w'.rowIs w.heap.size e (n * 2) (fun _ => .slice none 0 0) → Chg nob w w' → wpList P ops Q rest (a.put o.dst (.slice (some ⟨w.heap.size, 0, none⟩) n n)) w') :
    wpList P ops Q (o :: rest) a w := by
  refine wpList_plain hg fun K hK' => ?_
  have hb' : (i.bytes : Int) * (n : Int) ≤ 281474976710656 := by
    have h : ((i.bytes * n : Nat) : Int) ≤ 281474976710656 := by omega
    rwa [Int.natCast_mul] at h
  have hrun := run_make (P := P) w t e i _ h1 h2 h3 kl kc n n (by omega) (Int.le_refl _) hb' (by omega)
  simp only [Int.toNat_natCast, h4] at hrun
  subst hL
  subst hC
  unfold Oper.wp
  simp [execOp, hop, hl, hc, hrun, Result.andThen]
  refine hK' _ _ (hK _ ⟨_, Go.Deep.blk_alloc_new _ _, size_madeCells _ _, fun j hj => ?_⟩ ((Chg.refl _ _).alloc _))
  rcases (show j % 2 = 0 ∨ j % 2 = 1 by omega) with e | e <;> simp [madeCells, hj, Value.cells, e]
/-- A query's two slices, one behind the other. -/
def qv (u v : Nat → Value) (c : Nat) : Value := if c % 2 = 0 then u (c / 2) else v (c / 2)
/-- k of n queries are made. -/
structure Prq (W : World) (b n k : Nat) (q : Nat → QD) (u v : Nat → Value) (lo mi hi : Nat → Nat) : Prop where
  row : W.rowIs b 110 (n * 2) (fun c => if c < k * 2 then qv u v c else .slice none 0 0)
  it : ∀ i, i < k → b < lo i ∧ lo i ≤ mi i ∧ mi i ≤ hi i ∧ hi i ≤ W.heap.size ∧ (q i).P.Own W (lo i) (mi i) (u i) ∧ (q i).S.Own W (mi i) (hi i) (v i)
  ord : ∀ i j, i < j → j < k → hi i ≤ lo j
theorem Prq.step {W W1 : World} {b n k : Nat} {q : Nat → QD} {u v : Nat → Value} {lo mi hi : Nat → Nat} (h : Prq W b n k q u v lo mi hi) (hk : k < n) (x y : Value) (m : Nat) (kk : Chg nob W W1) (hb : b < W.heap.size) (m1 : W.heap.size ≤ m) (m2 : m ≤ W1.heap.size) (ho : (q k).P.Own W1 W.heap.size m x) (ho' : (q k).S.Own W1 m W1.heap.size y) :
    Prq ((W1.setCell ⟨b, k * 2, none⟩ x).setCell ⟨b, k * 2 + 1, none⟩ y) b n (k + 1) q (upd u k x) (upd v k y) (upd lo k W.heap.size) (upd mi k m) (upd hi k W1.heap.size) := by
  have kS : Chg (fun y => y = b) W1 ((W1.setCell ⟨b, k * 2, none⟩ x).setCell ⟨b, k * 2 + 1, none⟩ y) := ((Chg.refl (fun y => y = b) W1).setCell (p := ⟨b, k * 2, none⟩) (fun _ => rfl) _).setCell (p := ⟨b, k * 2 + 1, none⟩) (fun _ => rfl) _
  refine ⟨(((rowIs_keep h.row kk).set (k * 2) x).set (k * 2 + 1) y).congr (fun i _ => ?_), fun i hi => ?_, fun i j hij hj => ?_⟩
  · by_cases e : i = k * 2 + 1
    · subst e
      rw [if_pos rfl, if_pos (by omega)]
      unfold qv
      rw [if_neg (by omega), show (k * 2 + 1) / 2 = k by omega, upd_at]
    · rw [if_neg e]
      by_cases e1 : i = k * 2
      · subst e1
        rw [if_pos rfl, if_pos (by omega)]
        unfold qv
        rw [if_pos (by omega), show k * 2 / 2 = k by omega, upd_at]
      · rw [if_neg e1]
        have e3 : i / 2 ≠ k := by omega
        by_cases e2 : i < k * 2
        · rw [if_pos e2, if_pos (by omega)]
          unfold qv
          rw [upd_ne _ _ e3, upd_ne _ _ e3]
        · rw [if_neg e2, if_neg (by omega)]
  · by_cases e : i = k
    · subst e
      rw [upd_at, upd_at, upd_at, upd_at, upd_at]
      exact ⟨hb, m1, m2, by simp, ho.chg kS (fun y h1 h2 e => by omega), ho'.chg kS (fun y h1 h2 e => by omega)⟩
    · rw [upd_ne _ _ e, upd_ne _ _ e, upd_ne _ _ e, upd_ne _ _ e, upd_ne _ _ e]
      obtain ⟨q1, q2, q3, q4, q5, q6⟩ := h.it i (by omega)
      have := kk.size
      exact ⟨q1, q2, q3, by simp; omega, (q5.keep kk).chg kS (fun y h1 h2 e => by omega), (q6.keep kk).chg kS (fun y h1 h2 e => by omega)⟩
  · have e : i ≠ k := by omega
    rw [upd_ne hi _ e]
    by_cases e2 : j = k
    · subst e2
      rw [upd_at]
      exact (h.it i (by omega)).2.2.2.1
    · rw [upd_ne lo _ e2]
      exact h.ord i j hij (by omega)
theorem Prq.done {W : World} {b n B : Nat} {q : Nat → QD} {u v : Nat → Value} {lo mi hi : Nat → Nat} (h : Prq W b n n q u v lo mi hi) (hB : B ≤ b) (cap : Nat) : (dQs n q).Own W B W.heap.size (.slice (some ⟨b, 0, none⟩) n cap) := by
  have C : ∀ i j, i < n → j < 2 → W.cell? ⟨b, i * 2 + j, none⟩ = some (if j = 0 then u i else v i) := fun i j hi hj => by
    rw [h.row.cell (show i * 2 + j < n * 2 by omega), if_pos (by omega)]
    unfold qv
    rcases (show j = 0 ∨ j = 1 by omega) with rfl | rfl
    · rw [if_pos (by omega), show (i * 2 + 0) / 2 = i by omega]; rfl
    · rw [if_neg (by omega), show (i * 2 + 1) / 2 = i by omega]; rfl
  refine ⟨_, _, rfl, .inr ⟨b, fun i j => if j = 0 then lo i else mi i, fun i j => if j = 0 then mi i else hi i, rfl, ⟨hB, h.row.lt, h.row.lt, fun i j hi hj => ⟨_, C i j hi hj, ?_⟩, fun i j hi hj => ?_, fun i j hi hj => ?_, fun i j hi hj => ?_, fun i j i' j' hi hj hi' hj' hne => ?_⟩⟩⟩
  · rcases (show j = 0 ∨ j = 1 by omega) with rfl | rfl
    · exact (h.it i hi).2.2.2.2.1
    · exact (h.it i hi).2.2.2.2.2
  · have := h.it i hi
    rcases (show j = 0 ∨ j = 1 by omega) with rfl | rfl <;> simp <;> omega
  · have := h.it i hi
    rcases (show j = 0 ∨ j = 1 by omega) with rfl | rfl <;> simp <;> omega
  · have := h.it i hi
    rcases (show j = 0 ∨ j = 1 by omega) with rfl | rfl <;> simp <;> omega
  · have q1 := h.it i hi
    have q2 := h.it i' hi'
    rcases Nat.lt_trichotomy i i' with q | q | q
    · have := h.ord i i' q hi'
      left
      rcases (show j = 0 ∨ j = 1 by omega) with rfl | rfl <;> rcases (show j' = 0 ∨ j' = 1 by omega) with rfl | rfl <;> simp <;> omega
    · subst q
      rcases (show j = 0 ∨ j = 1 by omega) with rfl | rfl <;> rcases (show j' = 0 ∨ j' = 1 by omega) with rfl | rfl <;> simp at hne ⊢
    · have := h.ord i' i q hi
      right
      rcases (show j = 0 ∨ j = 1 by omega) with rfl | rfl <;> rcases (show j' = 0 ∨ j' = 1 by omega) with rfl | rfl <;> simp <;> omega
theorem dQs_at {w : World} {n : Nat} {q : Nat → QD} {c : Option Addr} {k cap : Nat} (h : (dQs n q).Rep w (.slice c k cap)) {i : Nat} (hi : i < n) : ∃ (xb xo : Nat) (ca : Option Addr) (pa : Nat) (cb : Option Addr) (pb : Nat), c = some ⟨xb, xo, none⟩ ∧ xb < w.heap.size ∧ w.cell? ⟨xb, xo + i * 2, none⟩ = some (.slice ca (q i).np pa) ∧ w.cell? ⟨xb, xo + i * 2 + 1, none⟩ = some (.slice cb (q i).nq pb) ∧ (q i).P.Rep w (.slice ca (q i).np pa) ∧ (q i).S.Rep w (.slice cb (q i).nq pb) := by
  obtain ⟨xb, xo, e, hx, hj⟩ := (rep_list h).2 i hi
  obtain ⟨u, hu, ru⟩ := hj 0 (by omega)
  obtain ⟨v, hv, rv⟩ := hj 1 (by omega)
  have ru' : (q i).P.Rep w u := ru
  have rv' : (q i).S.Rep w v := rv
  obtain ⟨ca, pa, rfl, _⟩ := ru'
  obtain ⟨cb, pb, rfl, _⟩ := rv'
  exact ⟨xb, xo, ca, pa, cb, pb, e, hx, hu, by rw [Nat.add_assoc]; exact hv, ru, rv⟩


end Go.Proofs.YtppiilbcnkphbaaGreat

namespace Go.Proofs.YtppiilbcnkphbaaGreat
open Go.ChangeShapes Go.WideShapes Go.ChangeAt Go.RowKit Go.Deep
set_option linter.unusedVariables false
set_option maxRecDepth 100000
set_option linter.unusedSimpArgs false

section
variable {H : Type} {enc : TypeId × Value → H} {w : World} {base : Nat} {spare : Nat → Bool} {held : Bool}

end

end Go.Proofs.YtppiilbcnkphbaaGreat
