/- Several texts in one: For the laws with lists: rows of a call's own under another one's marks. No condition but those that each theorem states. · Lists of lists of whatever depth in memory: what they hold (Rep), that they are a call's own (Own), marks: words. No condition but those that each theorem states. · Lists of lists in the laws: their sizes, copies, comparisons, marks: contracts. Conditions: lists that can be read, of at most 2 to the 40. · What the laws' copies of lists of lists, queries and openings are: contracts. Conditions: lists that can be read, lengths of at most 2 to the 20. -/
import Derived.Test.YtfbjlohnbpienaaGreatBzab
import Derived.Test.YtfbjlohnbpienaaGreatBzad
import Derived.Test.YtfbjlohnbpienaaGreatBzae
import Derived.Test.YtfbjlohnbpienaaGreatBzai
import Derived.Test.YtfbjlohnbpienaaGreatBzaj
namespace Go.Proofs.YtfbjlohnbpienaaGreat
open Go.ChangeShapes Go.WideShapes Go.ChangeAt Go.RowKit
set_option linter.unusedVariables false
set_option linter.unusedSimpArgs false

/-- What was made behind the marked block stays. -/
theorem OwnE.ahead {w w' v : World} {B B' b n : Nat} {c : Option Addr} {f g : Nat → Int} (h : OwnE w B c n f g) (k : Chg (Mkb v B' (some ⟨b, 0, none⟩)) w w') (hB : b < B) : OwnE w' B c n f g := by
  refine h.chg k (fun b' hb e m => ?_)
  have e2 := m.2.1
  cases e2
  omega


end Go.Proofs.YtfbjlohnbpienaaGreat

namespace Go.Proofs.YtfbjlohnbpienaaGreat
open Go.ChangeShapes Go.WideShapes Go.ChangeAt Go.RowKit
set_option linter.unusedVariables false

/-- What a cell may hold: when a value holds it (Rep), when in blocks of its own from lo to hi (Own), when its lengths are at most a number (small). -/
structure Dt where
  Rep : World → Value → Prop
  Own : World → Nat → Nat → Value → Prop
  small : Nat → Prop
  keepR : ∀ {w w' : World} {v : Value}, Chg nob w w' → Rep w v → Rep w' v
  repO : ∀ {w : World} {lo hi : Nat} {v : Value}, Own w lo hi v → Rep w v
  chgO : ∀ {P : Nat → Prop} {w w' : World} {lo hi : Nat} {v : Value}, Chg P w w' → Own w lo hi v → (∀ b, lo ≤ b → b < hi → ¬ P b) → Own w' lo hi v
  wideO : ∀ {w : World} {lo hi lo' hi' : Nat} {v : Value}, Own w lo hi v → lo' ≤ lo → hi ≤ hi' → Own w lo' hi' v
theorem Dt.Rep.keep {w w' : World} (k : Chg nob w w') {d : Dt} {v : Value} (h : d.Rep w v) : d.Rep w' v := d.keepR k h
theorem Dt.Own.rep {w : World} {d : Dt} {lo hi : Nat} {v : Value} (h : d.Own w lo hi v) : d.Rep w v := d.repO h
theorem Dt.Own.chg {P : Nat → Prop} {w w' : World} (k : Chg P w w') {d : Dt} {lo hi : Nat} {v : Value} (h : d.Own w lo hi v) (hp : ∀ b, lo ≤ b → b < hi → ¬ P b) : d.Own w' lo hi v := d.chgO k h hp
theorem Dt.Own.keep {w w' : World} (k : Chg nob w w') {d : Dt} {lo hi : Nat} {v : Value} (h : d.Own w lo hi v) : d.Own w' lo hi v := h.chg k (fun _ _ _ x => x)
theorem Dt.Own.wide {w : World} {d : Dt} {lo hi lo' hi' : Nat} {v : Value} (h : d.Own w lo hi v) (h1 : lo' ≤ lo) (h2 : hi ≤ hi') : d.Own w lo' hi' v := d.wideO h h1 h2
/-- Elements. -/
def Dt.exts (n : Nat) (f g : Nat → Int) : Dt where
  Rep w v := ∃ (c : Option Addr) (cap : Nat), v = .slice c n cap ∧ PairV w c n f g
  Own w lo hi v := ∃ (c : Option Addr) (cap : Nat), v = .slice c n cap ∧ (n = 0 ∨ OwnE w lo c n f g ∧ ∃ b, c = some ⟨b, 0, none⟩ ∧ b < hi)
  small B := n ≤ B
  keepR := by
    rintro w w' v k ⟨c, cap, e, h⟩
    exact ⟨c, cap, e, h.keep k⟩
  repO := by
    rintro w lo hi v ⟨c, cap, e, rfl | ⟨h, _⟩⟩
    · exact ⟨c, cap, e, fun i hi => absurd hi (by omega)⟩
    · exact ⟨c, cap, e, h.pairs⟩
  chgO := by
    rintro P w w' lo hi v k ⟨c, cap, e, h0 | ⟨h, b', e', hb'⟩⟩ hp
    · exact ⟨c, cap, e, .inl h0⟩
    · exact ⟨c, cap, e, .inr ⟨h.chg k (fun b hb ec => by rw [e'] at ec; cases ec; exact hp b' hb hb'), b', e', hb'⟩⟩
  wideO := by
    rintro w lo hi lo' hi' v ⟨c, cap, e, h0 | ⟨h, b, eb, hb⟩⟩ h1 h2
    · exact ⟨c, cap, e, .inl h0⟩
    · exact ⟨c, cap, e, .inr ⟨h.low h1, b, eb, by omega⟩⟩
/-- Texts. -/
def Dt.texts (n : Nat) (L : Nat → ByteArray) : Dt where
  Rep w v := ∃ (c : Option Addr) (cap : Nat), v = .slice c n cap ∧ RowV w c n (sb L)
  Own w lo hi v := ∃ (c : Option Addr) (cap : Nat), v = .slice c n cap ∧ Mine w lo hi c n (sb L)
  small B := n ≤ B ∧ ∀ i, i < n → (L i).size ≤ B
  keepR := by
    rintro w w' v k ⟨c, cap, e, h⟩
    exact ⟨c, cap, e, h.keep k⟩
  repO := by
    rintro w lo hi v ⟨c, cap, e, h⟩
    exact ⟨c, cap, e, h.row⟩
  chgO := by
    rintro P w w' lo hi v k ⟨c, cap, e, h⟩ hp
    exact ⟨c, cap, e, h.chg k hp⟩
  wideO := by
    rintro w lo hi lo' hi' v ⟨c, cap, e, h0 | ⟨b, eb, hb, hb', r⟩⟩ h1 h2
    · exact ⟨c, cap, e, .inl h0⟩
    · exact ⟨c, cap, e, .inr ⟨b, eb, by omega, by omega, r⟩⟩
/-- A row of cells that lie in blocks from lo to hi, each cell's own blocks between l and h, none of them shared. -/
structure OwnL (w : World) (n m : Nat) (P : Nat → Nat → Nat → Nat → Value → Prop) (lo hi b : Nat) (l h : Nat → Nat → Nat) : Prop where
  lob : lo ≤ b
  hib : b < hi
  lt : b < w.heap.size
  cell : ∀ i j, i < n → j < m → ∃ u, w.cell? ⟨b, i * m + j, none⟩ = some u ∧ P i j (l i j) (h i j) u
  lol : ∀ i j, i < n → j < m → lo ≤ l i j
  hih : ∀ i j, i < n → j < m → h i j ≤ hi
  top : ∀ i j, i < n → j < m → ¬ (l i j ≤ b ∧ b < h i j)
  dis : ∀ i j i' j', i < n → j < m → i' < n → j' < m → ¬ (i = i' ∧ j = j') → h i j ≤ l i' j' ∨ h i' j' ≤ l i j
theorem OwnL.wide {w : World} {n m : Nat} {P : Nat → Nat → Nat → Nat → Value → Prop} {lo hi lo' hi' b : Nat} {l h : Nat → Nat → Nat} (o : OwnL w n m P lo hi b l h) (h1 : lo' ≤ lo) (h2 : hi ≤ hi') : OwnL w n m P lo' hi' b l h :=
  ⟨Nat.le_trans h1 o.lob, Nat.lt_of_lt_of_le o.hib h2, o.lt, o.cell, fun i j hi hj => Nat.le_trans h1 (o.lol i j hi hj), fun i j hi hj => Nat.le_trans (o.hih i j hi hj) h2, o.top, o.dis⟩
theorem OwnL.chgP {P : Nat → Prop} {w w' : World} {n m : Nat} {x : Nat → Nat → Dt} {lo hi b : Nat} {l h : Nat → Nat → Nat} (o : OwnL w n m (fun i j lo hi u => (x i j).Own w lo hi u) lo hi b l h) (k : Chg P w w') (hp : ∀ b, lo ≤ b → b < hi → ¬ P b) : OwnL w' n m (fun i j lo hi u => (x i j).Own w' lo hi u) lo hi b l h :=
  ⟨o.lob, o.hib, Nat.lt_of_lt_of_le o.lt k.size, fun i j hi' hj => by
    obtain ⟨u, hc, hr⟩ := o.cell i j hi' hj
    exact ⟨u, by rw [k.cell (p := ⟨b, i * m + j, none⟩) o.lt (hp b o.lob o.hib)]; exact hc, hr.chg k (fun b' h1 h2 => hp b' (Nat.le_trans (o.lol i j hi' hj) h1) (Nat.lt_of_lt_of_le h2 (o.hih i j hi' hj)))⟩, o.lol, o.hih, o.top, o.dis⟩
/-- Lists of n items of m cells each. -/
def Dt.list (n m : Nat) (x : Nat → Nat → Dt) : Dt where
  Rep w v := ∃ (c : Option Addr) (cap : Nat), v = .slice c n cap ∧ ∀ i, i < n → ∃ xb xo : Nat, c = some ⟨xb, xo, none⟩ ∧ xb < w.heap.size ∧ ∀ j, j < m → ∃ u, w.cell? ⟨xb, xo + (i * m + j), none⟩ = some u ∧ (x i j).Rep w u
  Own w lo hi v := ∃ (c : Option Addr) (cap : Nat), v = .slice c n cap ∧ (n = 0 ∨ ∃ (b : Nat) (l h : Nat → Nat → Nat), c = some ⟨b, 0, none⟩ ∧ OwnL w n m (fun i j lo hi u => (x i j).Own w lo hi u) lo hi b l h)
  small B := n ≤ B ∧ ∀ i j, i < n → j < m → (x i j).small B
  keepR := by
    rintro w w' v k ⟨c, cap, e, h⟩
    refine ⟨c, cap, e, fun i hi => ?_⟩
    obtain ⟨xb, xo, ec, l, hj⟩ := h i hi
    exact ⟨xb, xo, ec, Nat.lt_of_lt_of_le l k.size, fun j hm => by
      obtain ⟨u, hc, hr⟩ := hj j hm
      exact ⟨u, k.see hc, hr.keep k⟩⟩
  repO := by
    rintro w lo hi v ⟨c, cap, e, h⟩
    refine ⟨c, cap, e, fun i hi => ?_⟩
    rcases h with rfl | ⟨b, l, hh, ec, o⟩
    · omega
    · refine ⟨b, 0, ec, o.lt, fun j hj => ?_⟩
      obtain ⟨u, hc, hr⟩ := o.cell i j hi hj
      exact ⟨u, by rw [Nat.zero_add]; exact hc, hr.rep⟩
  chgO := by
    rintro P w w' lo hi v k ⟨c, cap, e, h⟩ hp
    refine ⟨c, cap, e, ?_⟩
    rcases h with h0 | ⟨b, l, hh, ec, o⟩
    · exact .inl h0
    · exact .inr ⟨b, l, hh, ec, o.chgP k hp⟩
  wideO := by
    rintro w lo hi lo' hi' v ⟨c, cap, e, h0 | ⟨b, l, hh, eb, o⟩⟩ h1 h2
    · exact ⟨c, cap, e, .inl h0⟩
    · exact ⟨c, cap, e, .inr ⟨b, l, hh, eb, o.wide h1 h2⟩⟩
/-- One cell's own blocks have turned. -/
theorem OwnL.step {w w' : World} {n m : Nat} {x y : Nat → Nat → Dt} {lo hi b : Nat} {l h : Nat → Nat → Nat} (o : OwnL w n m (fun i j lo hi u => (x i j).Own w lo hi u) lo hi b l h) {i0 j0 : Nat} (hi0 : i0 < n) (hj0 : j0 < m) {u0 : Value} (hu0 : w.cell? ⟨b, i0 * m + j0, none⟩ = some u0)
    (k : Chg (fun c => l i0 j0 ≤ c ∧ c < h i0 j0) w w') (hy : (y i0 j0).Own w' (l i0 j0) (h i0 j0) u0) (he : ∀ i j, i < n → j < m → ¬ (i = i0 ∧ j = j0) → y i j = x i j) :
    OwnL w' n m (fun i j lo hi u => (y i j).Own w' lo hi u) lo hi b l h := by
  refine ⟨o.lob, o.hib, Nat.lt_of_lt_of_le o.lt k.size, fun i j hi' hj => ?_, o.lol, o.hih, o.top, o.dis⟩
  by_cases e : i = i0 ∧ j = j0
  · obtain ⟨rfl, rfl⟩ := e
    exact ⟨u0, by rw [k.cell (p := ⟨b, i * m + j, none⟩) o.lt (o.top i j hi' hj)]; exact hu0, hy⟩
  · obtain ⟨u, hc, hr⟩ := o.cell i j hi' hj
    refine ⟨u, by rw [k.cell (p := ⟨b, i * m + j, none⟩) o.lt (o.top i0 j0 hi0 hj0)]; exact hc, ?_⟩
    show (y i j).Own w' (l i j) (h i j) u
    rw [he i j hi' hj e]
    refine hr.chg k (fun c h1 h2 h3 => ?_)
    rcases o.dis i j i0 j0 hi' hj hi0 hj0 e with q | q <;> omega
theorem OwnL.congr {w : World} {n m : Nat} {x y : Nat → Nat → Dt} {lo hi b : Nat} {l h : Nat → Nat → Nat} (o : OwnL w n m (fun i j lo hi u => (x i j).Own w lo hi u) lo hi b l h) (he : ∀ i j, i < n → j < m → y i j = x i j) : OwnL w n m (fun i j lo hi u => (y i j).Own w lo hi u) lo hi b l h :=
  ⟨o.lob, o.hib, o.lt, fun i j hi' hj => by obtain ⟨u, hc, hr⟩ := o.cell i j hi' hj; exact ⟨u, hc, by show (y i j).Own w (l i j) (h i j) u; rw [he i j hi' hj]; exact hr⟩, o.lol, o.hih, o.top, o.dis⟩
/-- Sums. -/
def sumN (L : Nat → Nat) : Nat → Nat
  | 0 => 0
  | n + 1 => sumN L n + L n
theorem sumN_le (L : Nat → Nat) {i n : Nat} (h : i ≤ n) : sumN L i ≤ sumN L n := by
  induction n with
  | zero => obtain rfl : i = 0 := by omega
            exact Nat.le_refl _
  | succ n ih =>
    by_cases e : i = n + 1
    · subst e; exact Nat.le_refl _
    · exact Nat.le_trans (ih (by omega)) (by simp only [sumN]; omega)

end Go.Proofs.YtfbjlohnbpienaaGreat

namespace Go.Proofs.YtfbjlohnbpienaaGreat
open Go.ChangeShapes Go.WideShapes Go.ChangeAt Go.RowKit
set_option linter.unusedVariables false
set_option maxRecDepth 100000
set_option linter.unusedSimpArgs false

/-- make([]T, n), T a slice. -/
theorem wpList_make_rows {P : Program} (w : World) {ops : Array Oper} {rest : List Oper} {o : Oper} {a : Act} {Q : Exit → Act → World → Prop}
    (hg : o.guard = none) (l c : Operand) (t : TypeId) (hop : o.op = Op.makeSlice t l c) (e : TypeId) (i : TypeInfo)
    (h1 : P.underlying t = some (.slice e)) (h2 : P.info? e = some i) (h3 : i.zero = some (.slice none 0 0)) (h4 : i.size = 1)
    (kl kc : IntKind) (L C : Int) (n : Nat) (hl : a.eval l = .int kl L) (hc : a.eval c = .int kc C) (hL : L = (n : Int)) (hC : C = (n : Int)) (b2 : i.bytes * n ≤ 281474976710656) (b3 : n ≤ 9223372036854775807)
    (hK : ∀ w', w'.rowIs w.heap.size e n (fun _ => .slice none 0 0) → Chg nob w w' → wpList P ops Q rest (a.put o.dst (.slice (some ⟨w.heap.size, 0, none⟩) n n)) w') :
    wpList P ops Q (o :: rest) a w := by
  refine wpList_plain hg fun K hK' => ?_
  have hb' : (i.bytes : Int) * (n : Int) ≤ 281474976710656 := by
    have h : ((i.bytes * n : Nat) : Int) ≤ 281474976710656 := by omega
    rwa [Int.natCast_mul] at h
  have hrun := run_make (P := P) w t e i _ h1 h2 h3 kl kc n n (by omega) (Int.le_refl _) hb' (by omega)
  simp only [Int.toNat_natCast, h4, Nat.mul_one] at hrun
  subst hL
  subst hC
  unfold Oper.wp
  simp [execOp, hop, hl, hc, hrun, Result.andThen]
  refine hK' _ _ (hK _ ⟨_, Go.Deep.blk_alloc_new _ _, size_madeCells _ _, fun j hj => ?_⟩ ((Chg.refl _ _).alloc _))
  simp [madeCells, hj, Value.cells, Nat.mod_one]

/-- The first k of lists of lists copied. -/
def cpr (G L : Nat → Nat) (k i : Nat) : Value := if i < k then .slice (some ⟨G i, 0, none⟩) (L i) (L i) else .slice none 0 0
/-- A copy of lists of lists: a new row at the heap's end, its lists behind it. -/
def CopiedSS (w : World) (n : Nat) (L : Nat → Nat) (f g : Nat → Nat → Int) (e : Ending) (w' : World) : Prop :=
  ∃ G : Nat → Nat, e = .returned (.slice (some ⟨w.heap.size, 0, none⟩) n n) ∧ w'.rowIs w.heap.size 73 n (cpr G L n) ∧ (∀ i, i < n → w.heap.size < G i ∧ w'.rowIs (G i) 42 (L i * 2) (pf (f i) (g i))) ∧ (∀ i j, i < j → j < n → G i < G j) ∧ Chg nob w w'
theorem CopiedSS.rows {w w' : World} {n : Nat} {L G : Nat → Nat} {f g : Nat → Nat → Int} {b : Nat} (h : w'.rowIs b 73 n (cpr G L n)) (k : ∀ i, i < n → w'.rowIs (G i) 42 (L i * 2) (pf (f i) (g i))) : RowsV w' (some ⟨b, 0, none⟩) n (fun i => some ⟨G i, 0, none⟩) L L f g := by
  intro i hi
  refine ⟨b, 0, rfl, h.lt, ?_, PairV.of_row (k i hi) (Nat.le_refl _)⟩
  rw [Nat.zero_add, h.cell hi]
  unfold cpr
  rw [if_pos hi]


end Go.Proofs.YtfbjlohnbpienaaGreat

namespace Go.Proofs.YtfbjlohnbpienaaGreat
open Go.ChangeShapes Go.WideShapes Go.ChangeAt Go.RowKit
set_option linter.unusedVariables false
set_option maxRecDepth 100000
set_option linter.unusedSimpArgs false

/-- Lists of texts; lists of lists of elements; queries. -/
def dSS (n : Nat) (l : Nat → Nat) (T : Nat → Nat → ByteArray) : Dt := .list n 1 (fun i _ => .texts (l i) (T i))
def dEE (n : Nat) (l : Nat → Nat) (f g : Nat → Nat → Int) : Dt := .list n 1 (fun i _ => .exts (l i) (f i) (g i))
/-- What a query holds. -/
structure QD where
  np : Nat
  f : Nat → Int
  g : Nat → Int
  nq : Nat
  l : Nat → Nat
  T : Nat → Nat → ByteArray
def QD.P (q : QD) : Dt := .exts q.np q.f q.g
def QD.S (q : QD) : Dt := dSS q.nq q.l q.T
def dQs (n : Nat) (q : Nat → QD) : Dt := .list n 2 (fun i j => if j = 0 then (q i).P else (q i).S)
/-- What an opening holds. -/
structure OD where
  nr : Nat
  rl : Nat → Nat
  rf : Nat → Nat → Int
  rg : Nat → Nat → Int
  nt : Nat
  ts : Nat → ByteArray
  la : Int
  lb : Int
  no : Int
  nq : Nat
  q : Nat → QD
def OD.R (o : OD) : Dt := dEE o.nr o.rl o.rf o.rg
def OD.S (o : OD) : Dt := .texts o.nt o.ts
def OD.Q (o : OD) : Dt := dQs o.nq o.q
/-- A slice of a call's own. -/
def OwAns (w : World) (n : Nat) (d : Dt) (e : Ending) (w' : World) : Prop :=
  ∃ (c : Option Addr) (cap : Nat), e = .returned (.slice c n cap) ∧ d.Own w' w.heap.size w'.heap.size (.slice c n cap) ∧ Chg nob w w'
/-- k of n items are made. -/
structure Prt (W : World) (T : TypeId) (b n k : Nat) (len : Nat → Nat) (x : Nat → Dt) (C : Nat → Option Addr) (P lo hi : Nat → Nat) : Prop where
  row : W.rowIs b T n (fun i => if i < k then .slice (C i) (len i) (P i) else .slice none 0 0)
  it : ∀ i, i < k → b < lo i ∧ hi i ≤ W.heap.size ∧ (x i).Own W (lo i) (hi i) (.slice (C i) (len i) (P i))
  ord : ∀ i j, i < j → j < k → hi i ≤ lo j
def upd {α : Type} (f : Nat → α) (k : Nat) (a : α) (i : Nat) : α := if i = k then a else f i
theorem upd_at {α : Type} (f : Nat → α) (k : Nat) (a : α) : upd f k a k = a := if_pos rfl
theorem upd_ne {α : Type} (f : Nat → α) {k i : Nat} (a : α) (h : i ≠ k) : upd f k a i = f i := if_neg h
theorem Prt.step {W W1 : World} {T : TypeId} {b n k : Nat} {len : Nat → Nat} {x : Nat → Dt} {C : Nat → Option Addr} {P lo hi : Nat → Nat} (h : Prt W T b n k len x C P lo hi) (hk : k < n) (c : Option Addr) (cap : Nat) (kk : Chg nob W W1) (hb : b < W.heap.size) (ho : (x k).Own W1 W.heap.size W1.heap.size (.slice c (len k) cap)) :
    Prt (W1.setCell ⟨b, k, none⟩ (.slice c (len k) cap)) T b n (k + 1) len x (upd C k c) (upd P k cap) (upd lo k W.heap.size) (upd hi k W1.heap.size) := by
  have kS : Chg (fun y => y = b) W1 (W1.setCell ⟨b, k, none⟩ (.slice c (len k) cap)) := (Chg.refl (fun y => y = b) W1).setCell (p := ⟨b, k, none⟩) (fun _ => rfl) _
  refine ⟨((rowIs_keep h.row kk).set k (.slice c (len k) cap)).congr (fun i _ => ?_), fun i hi => ?_, fun i j hij hj => ?_⟩
  · by_cases e : i = k
    · subst e
      rw [if_pos rfl, if_pos (by omega), upd_at, upd_at]
    · rw [if_neg e, upd_ne _ _ e, upd_ne _ _ e]
      by_cases e2 : i < k
      · rw [if_pos e2, if_pos (by omega)]
      · rw [if_neg e2, if_neg (by omega)]
  · by_cases e : i = k
    · subst e
      rw [upd_at, upd_at, upd_at, upd_at]
      exact ⟨hb, by simp, ho.chg kS (fun y h1 h2 e => by omega)⟩
    · rw [upd_ne _ _ e, upd_ne _ _ e, upd_ne _ _ e, upd_ne _ _ e]
      obtain ⟨q1, q2, q3⟩ := h.it i (by omega)
      have := kk.size
      exact ⟨q1, by simp; omega, (q3.keep kk).chg kS (fun y h1 h2 e => by omega)⟩
  · have e : i ≠ k := by omega
    rw [upd_ne hi _ e]
    by_cases e2 : j = k
    · subst e2
      rw [upd_at]
      exact (h.it i (by omega)).2.1
    · rw [upd_ne lo _ e2]
      exact h.ord i j hij (by omega)
theorem Prt.done {W : World} {T : TypeId} {b n B : Nat} {len : Nat → Nat} {x : Nat → Dt} {C : Nat → Option Addr} {P lo hi : Nat → Nat} (h : Prt W T b n n len x C P lo hi) (hB : B ≤ b) (cap : Nat) : (Dt.list n 1 (fun i _ => x i)).Own W B W.heap.size (.slice (some ⟨b, 0, none⟩) n cap) := by
  refine ⟨_, _, rfl, .inr ⟨b, fun i _ => lo i, fun i _ => hi i, rfl, ⟨hB, h.row.lt, h.row.lt, fun i j hi hj => ?_, fun i j hi hj => ?_, fun i j hi hj => ?_, fun i j hi hj => ?_, fun i j i' j' hi hj hi' hj' hne => ?_⟩⟩⟩
  · obtain rfl : j = 0 := by omega
    refine ⟨_, ?_, (h.it i hi).2.2⟩
    rw [Nat.mul_one, Nat.add_zero, h.row.cell hi, if_pos hi]
  · have := (h.it i hi).1; omega
  · exact (h.it i hi).2.1
  · intro q; have := (h.it i hi).1; omega
  · have hne' : i ≠ i' := fun e => hne ⟨e, by omega⟩
    rcases Nat.lt_or_gt_of_ne hne' with q | q
    · exact .inl (h.ord i i' q hi')
    · exact .inr (h.ord i' i q hi)
theorem rep_list {w : World} {n m : Nat} {x : Nat → Nat → Dt} {c : Option Addr} {k cap : Nat} (h : (Dt.list n m x).Rep w (.slice c k cap)) : k = n ∧ ∀ i, i < n → ∃ xb xo : Nat, c = some ⟨xb, xo, none⟩ ∧ xb < w.heap.size ∧ ∀ j, j < m → ∃ u, w.cell? ⟨xb, xo + (i * m + j), none⟩ = some u ∧ (x i j).Rep w u := by
  obtain ⟨c', cap', e, q⟩ := h
  cases e
  exact ⟨rfl, q⟩
theorem infoLs9 : (Tryz.prog.info? 25).map (fun i => (i.zero, i.size, i.bytes)) = some (some (.slice none 0 0), 1, 24) := by kernel_rfl

set_option maxHeartbeats 2000000 in
theorem toStringSS_d (c : Option Addr) (n cap : Nat) (l : Nat → Nat) (T : Nat → Nat → ByteArray) (w : World) (h : Hid ((dSS n l T).Rep w (.slice c n cap))) (hs : Hid ((dSS n l T).small 1048576)) :
    Calls Tryz.prog 89 #[.slice c n cap] w fun e w' => OwAns w n (dSS n l T) e w' := by
  have hn : n ≤ 1048576 := hs.out.1
  obtain ⟨i1, hi, hz0, hz1, hz2⟩ := info_parts infoLs9
  have HI := hik hi
  have HZ0 := hik hz0
  have HZ1 := hik hz1
  have hb : i1.bytes * n ≤ 281474976710656 := by rw [hz2]; omega
  clear hi hz0 hz1 hz2
  go_enter Tryz.func89, Tryz.ntmps89
  go_wp2_with (at_make; refine wpList_make_rows _ rfl (.tmp 6) (.tmp 6) 104 rfl 25 i1 Tryz.underlying104 HI.out HZ0.out HZ1.out .i64 .i64 _ _ n rfl rfl rfl rfl hb (by omega) ?_)
  intro w0 hr hk
  have HR0 := hik hr
  have HK0 := hik hk
  clear hb HI HZ0 HZ1 hr hk
  go_wp2
  go_loopw [4] (fun i W => ∃ (k : Nat) (C : Nat → Option Addr) (P lo hi : Nat → Nat), k ≤ n ∧ i = .int .i64 (k : Int) ∧ Hid (Prt W 25 w.heap.size n k l (fun i => .texts (l i) (T i)) C P lo hi) ∧ Hid (Chg nob w W)) (fun i _ => n - (intOf i).toNat)
  case atStart => exact ⟨0, fun _ => none, fun _ => 0, fun _ => 0, fun _ => 0, Nat.zero_le _, rfl, hik ⟨HR0.out.congr (fun i _ => by rw [if_neg (by omega)]), fun i hi => absurd hi (by omega), fun i j _ hj => absurd hj (by omega)⟩, HK0⟩
  case round =>
    clear HR0 HK0
    obtain ⟨k, C, P, lo, hi, hk, rfl, HR, HG⟩ := hrel
    rename World => wi
    by_cases hlt : k < n
    · have hk1 : (k : Int) < (n : Int) := by omega
      have hk0 : (0 : Int) ≤ (k : Int) := by omega
      obtain ⟨xb, xo, ec, hxb, hcc⟩ := (rep_list (h.out.keep HG.out)).2 k hlt
      obtain ⟨u, hc, hu⟩ := hcc 0 (by omega)
      obtain ⟨c1, cap1, rfl, hP⟩ := hu
      subst ec
      rw [show xo + (k * 1 + 0) = xo + k by omega] at hc
      have PJ := hik hP
      have hwl : w.heap.size < wi.heap.size := HR.out.row.lt
      clear hP hcc
      have SK := hik (hs.out.2 k 0 hlt (by omega))
      go_wp2_with fail
      refine (toStringB_any c1 (l k) cap1 (T k) _ PJ (by have := SK.out.1; omega)).mono ?_
      rintro e W1 ⟨rfl, r1, k1⟩
      have O1 := hik (show (Dt.texts (l k) (T k)).Own W1 wi.heap.size W1.heap.size (.slice (some ⟨wi.heap.size, 0, none⟩) (l k) (l k)) from ⟨_, _, rfl, .inr ⟨_, rfl, Nat.le_refl _, r1.lt, WRow.of r1⟩⟩)
      have HR1 := hik (rowIs_keep HR.out.row k1)
      have K1 := hik k1
      clear k1 r1 hc PJ
      have g0 := HR1.out.cell hlt
      have f0 := HR1.out.frozen k
      rw [if_neg (by omega)] at g0
      have HR2 := hik (Prt.step HR.out hlt (some ⟨wi.heap.size, 0, none⟩) (l k) K1.out hwl O1.out)
      have HG2 := hik ((HG.out.trans K1.out).setCell (p := ⟨w.heap.size, k, none⟩) (fun l => absurd l (by simp)) (.slice (some ⟨wi.heap.size, 0, none⟩) (l k) (l k)))
      go_wp2
      go_roundw
      case rel => exact ⟨k + 1, _, _, _, _, by omega, by go_num, HR2, HG2⟩
      case measure => simp [intOf]; omega
    · obtain rfl : n = k := by omega
      have hcc : ¬ (n : Int) < (n : Int) := by omega
      go_wp2
      go_ret
      exact ⟨_, _, rfl, HR.out.done (Nat.le_refl _) _, HG.out⟩

set_option maxHeartbeats 2000000 in
theorem toExtSS_d (c : Option Addr) (n cap : Nat) (l : Nat → Nat) (f g : Nat → Nat → Int) (w : World) (h : Hid ((dEE n l f g).Rep w (.slice c n cap))) (hs : Hid ((dEE n l f g).small 1048576)) :
    Calls Tryz.prog 23 #[.slice c n cap] w fun e w' => OwAns w n (dEE n l f g) e w' := by
  have hn : n ≤ 1048576 := hs.out.1
  obtain ⟨i1, hi, hz0, hz1, hz2⟩ := info_parts infoRow
  have HI := hik hi
  have HZ0 := hik hz0
  have HZ1 := hik hz1
  have hb : i1.bytes * n ≤ 281474976710656 := by rw [hz2]; omega
  clear hi hz0 hz1 hz2
  go_enter Tryz.func23, Tryz.ntmps23
  go_wp2_with (at_make; refine wpList_make_rows _ rfl (.tmp 6) (.tmp 6) 41 rfl 73 i1 Tryz.underlying41 HI.out HZ0.out HZ1.out .i64 .i64 _ _ n rfl rfl rfl rfl hb (by omega) ?_)
  intro w0 hr hk
  have HR0 := hik hr
  have HK0 := hik hk
  clear hb HI HZ0 HZ1 hr hk
  go_wp2
  go_loopw [4] (fun i W => ∃ (k : Nat) (C : Nat → Option Addr) (P lo hi : Nat → Nat), k ≤ n ∧ i = .int .i64 (k : Int) ∧ Hid (Prt W 73 w.heap.size n k l (fun i => .exts (l i) (f i) (g i)) C P lo hi) ∧ Hid (Chg nob w W)) (fun i _ => n - (intOf i).toNat)
  case atStart => exact ⟨0, fun _ => none, fun _ => 0, fun _ => 0, fun _ => 0, Nat.zero_le _, rfl, hik ⟨HR0.out.congr (fun i _ => by rw [if_neg (by omega)]), fun i hi => absurd hi (by omega), fun i j _ hj => absurd hj (by omega)⟩, HK0⟩
  case round =>
    clear HR0 HK0
    obtain ⟨k, C, P, lo, hi, hk, rfl, HR, HG⟩ := hrel
    rename World => wi
    by_cases hlt : k < n
    · have hk1 : (k : Int) < (n : Int) := by omega
      have hk0 : (0 : Int) ≤ (k : Int) := by omega
      obtain ⟨xb, xo, ec, hxb, hcc⟩ := (rep_list (h.out.keep HG.out)).2 k hlt
      obtain ⟨u, hc, hu⟩ := hcc 0 (by omega)
      obtain ⟨c1, cap1, rfl, hP⟩ := hu
      subst ec
      rw [show xo + (k * 1 + 0) = xo + k by omega] at hc
      have PJ := hik hP
      have hwl : w.heap.size < wi.heap.size := HR.out.row.lt
      clear hP hcc
      have SK := hik (hs.out.2 k 0 hlt (by omega))
      go_wp2_with fail
      refine (toExtS_any c1 (l k) cap1 (f k) (g k) _ PJ (by have := SK.out; have : l k ≤ 1048576 := this; omega)).mono ?_
      rintro e W1 ⟨rfl, r1, k1⟩
      have O1 := hik (show (Dt.exts (l k) (f k) (g k)).Own W1 wi.heap.size W1.heap.size (.slice (some ⟨wi.heap.size, 0, none⟩) (l k) (l k)) from ⟨_, _, rfl, .inr ⟨OwnE.of_row r1 (Nat.le_refl _), _, rfl, r1.lt⟩⟩)
      have HR1 := hik (rowIs_keep HR.out.row k1)
      have K1 := hik k1
      clear k1 r1 hc PJ
      have g0 := HR1.out.cell hlt
      have f0 := HR1.out.frozen k
      rw [if_neg (by omega)] at g0
      have HR2 := hik (Prt.step HR.out hlt (some ⟨wi.heap.size, 0, none⟩) (l k) K1.out hwl O1.out)
      have HG2 := hik ((HG.out.trans K1.out).setCell (p := ⟨w.heap.size, k, none⟩) (fun l => absurd l (by simp)) (.slice (some ⟨wi.heap.size, 0, none⟩) (l k) (l k)))
      go_wp2
      go_roundw
      case rel => exact ⟨k + 1, _, _, _, _, by omega, by go_num, HR2, HG2⟩
      case measure => simp [intOf]; omega
    · obtain rfl : n = k := by omega
      have hcc : ¬ (n : Int) < (n : Int) := by omega
      go_wp2
      go_ret
      exact ⟨_, _, rfl, HR.out.done (Nat.le_refl _) _, HG.out⟩

/-- A query of a call's own. -/
def QyAns (w : World) (q : QD) (e : Ending) (w' : World) : Prop :=
  ∃ (ca : Option Addr) (pa : Nat) (cb : Option Addr) (pb m : Nat), e = .returned (.agg #[.slice ca q.np pa, .slice cb q.nq pb]) ∧ w.heap.size ≤ m ∧ m ≤ w'.heap.size ∧ q.P.Own w' w.heap.size m (.slice ca q.np pa) ∧ q.S.Own w' m w'.heap.size (.slice cb q.nq pb) ∧ Chg nob w w'
theorem rw2_a0 {W : World} {g : Nat} {ty : TypeId} {f : Nat → Value} (h : W.rowIs g ty 2 f) (u : Value) : (W.setCell ⟨g, 0, none⟩ u).cell? ⟨g, 0, none⟩ = some u := World.cell?_setCell_same _ _ _ (u := f 0) (h.cell (by omega))
theorem asz (w : World) (o : Obj) : (w.alloc o).heap.size = w.heap.size + 1 := by simp
theorem size_set (w : World) (p : Addr) (v : Value) : (w.setCell p v).heap.size = w.heap.size := by simp

set_option maxHeartbeats 2000000 in
theorem toQuery_d (c : Option Addr) (cap : Nat) (c' : Option Addr) (cap' : Nat) (q : QD) (w : World) (h : Hid (q.P.Rep w (.slice c q.np cap))) (h' : Hid (q.S.Rep w (.slice c' q.nq cap'))) (hs : Hid (q.P.small 1048576)) (hs' : Hid (q.S.small 1048576)) :
    Calls Tryz.prog 71 #[.agg #[.slice c q.np cap, .slice c' q.nq cap']] w fun e w' => QyAns w q e w' := by
  have hnp : q.np ≤ 1048576 := hs.out
  have R0 := hik (row2_new w (.slice c q.np cap) (.slice c' q.nq cap') 115)
  have K0 := hik ((((Chg.refl nob w).alloc (.cells #[.slice c q.np cap, .slice c' q.nq cap'] 115)).alloc (.cells #[.slice none 0 0, .slice none 0 0] 106)).alloc (.cells #[.slice none 0 0, .slice none 0 0] 106))
  have R1 := hik (row2_new (w.alloc (.cells #[.slice c q.np cap, .slice c' q.nq cap'] 115)) (.slice none 0 0) (.slice none 0 0) 106)
  have R2 := hik (row2_new ((w.alloc (.cells #[.slice c q.np cap, .slice c' q.nq cap'] 115)).alloc (.cells #[.slice none 0 0, .slice none 0 0] 106)) (.slice none 0 0) (.slice none 0 0) 106)
  replace R0 := hik (rowIs_keep R0.out (((Chg.refl nob _).alloc (.cells #[.slice none 0 0, .slice none 0 0] 106)).alloc (.cells #[.slice none 0 0, .slice none 0 0] 106)))
  replace R1 := hik (rowIs_keep R1.out ((Chg.refl nob _).alloc (.cells #[.slice none 0 0, .slice none 0 0] 106)))
  rw [asz] at R1
  rw [asz, asz] at R2
  have hz : (((w.alloc (.cells #[.slice c q.np cap, .slice c' q.nq cap'] 115)).alloc (.cells #[.slice none 0 0, .slice none 0 0] 106)).alloc (.cells #[.slice none 0 0, .slice none 0 0] 106)).heap.size = w.heap.size + 1 + 1 + 1 := by simp
  have HZ := hik hz
  clear hz
  obtain ⟨c1, cap1, e1, hP⟩ := h.out
  cases e1
  have PJ := hik (hP.keep K0.out)
  clear hP h
  go_enter Tryz.func71, Tryz.ntmps71
  go_wp2_with fail
  generalize hW : ((w.alloc (.cells #[.slice c q.np cap, .slice c' q.nq cap'] 115)).alloc (.cells #[.slice none 0 0, .slice none 0 0] 106)).alloc (.cells #[.slice none 0 0, .slice none 0 0] 106) = W0 at R0 R1 R2 K0 HZ PJ ⊢
  clear hW
  refine (toExtS_any c q.np cap q.f q.g _ PJ (by omega)).mono ?_
  rintro e W1 ⟨rfl, r1, k1⟩
  have O1 := hik (show q.P.Own W1 W0.heap.size W1.heap.size (.slice (some ⟨W0.heap.size, 0, none⟩) q.np q.np) from ⟨_, _, rfl, .inr ⟨OwnE.of_row r1 (Nat.le_refl _), _, rfl, r1.lt⟩⟩)
  replace R0 := hik (rowIs_keep R0.out k1)
  replace R1 := hik (rowIs_keep R1.out k1)
  replace R2 := hik (rowIs_keep R2.out k1)
  have K1 := hik (K0.out.trans k1)
  have hs1 := k1.size
  clear k1 r1 PJ K0
  have L1 := hik (show W0.heap.size ≤ W1.heap.size from hs1)
  clear hs1
  obtain ⟨X, hX⟩ : ∃ X : Value, X = .slice (some ⟨W0.heap.size, 0, none⟩) q.np q.np := ⟨_, rfl⟩
  have HX := hik hX
  have z2 := R2.out.lt
  have y0 := row2_c0 R2.out
  have v0 := R2.out.frozen 0
  have A0 := hik (R0.out.setOther (a := ⟨w.heap.size + 1 + 1, 0, none⟩) (show w.heap.size ≠ w.heap.size + 1 + 1 by omega) X)
  have A1 := hik (R1.out.setOther (a := ⟨w.heap.size + 1 + 1, 0, none⟩) (show w.heap.size + 1 ≠ w.heap.size + 1 + 1 by omega) X)
  have A2 := hik ((R2.out.set 0 X).congr (g := pv2 X (.slice none 0 0)) (fun i hi => by
    rcases (show i = 0 ∨ i = 1 by omega) with rfl | rfl <;> rfl))
  have kS := hik ((Chg.refl (fun y => y = w.heap.size + 1 + 1) W1).setCell (p := ⟨w.heap.size + 1 + 1, 0, none⟩) (fun _ => rfl) X)
  have O2 := hik (O1.out.chg kS.out (fun y h1 h2 e => by have := HZ.out; omega))
  have K2 := hik (K1.out.setCell (p := ⟨w.heap.size + 1 + 1, 0, none⟩) (fun l => absurd l (by simp; omega)) X)
  have S2 := hik (show (W1.setCell ⟨w.heap.size + 1 + 1, 0, none⟩ X).heap.size = W1.heap.size by simp)
  rw [hX] at A0 A1 A2 O2 K2 S2
  have x1 := row2_c1 A0.out
  have z0 := A0.out.lt
  clear hX O1 K1 R0 R1 R2 kS
  go_wp2_with fail
  generalize hW : W1.setCell ⟨w.heap.size + 1 + 1, 0, none⟩ (.slice (some ⟨W0.heap.size, 0, none⟩) q.np q.np) = W2 at A0 A1 A2 O2 K2 S2 x1 z0 ⊢
  clear hW y0 v0 z2
  refine (toStringSS_d c' q.nq cap' q.l q.T _ (hik (h'.out.keep K2.out)) hs').mono ?_
  rintro e W3 ⟨c3, cap3, rfl, o3, k3⟩
  have O3 := hik o3
  have B1 := hik (rowIs_keep A1.out k3)
  have B2 := hik (rowIs_keep A2.out k3)
  have P3 := hik (O2.out.keep k3)
  have K3 := hik (K2.out.trans k3)
  have L3 := hik k3.size
  clear o3 k3 x1 z0 A0 A1 A2 O2 K2
  have z2 := B2.out.lt
  have z1 := B1.out.lt
  have y0 := row2_c0 B2.out
  have y1 := row2_c1 B2.out
  have v1 := B2.out.frozen 1
  have u0 := row2_c0 B1.out
  have u1 := row2_c1 B1.out
  have f0 := B1.out.frozen 0
  have f1 := B1.out.frozen 1
  have D1 := hik (B1.out.setOther (a := ⟨w.heap.size + 1 + 1, 1, none⟩) (show w.heap.size + 1 ≠ w.heap.size + 1 + 1 by omega) (.slice c3 q.nq cap3))
  have D2 := hik (row2_set D1.out (.slice (some ⟨W0.heap.size, 0, none⟩) q.np q.np) (.slice c3 q.nq cap3))
  have d1 := row2_c1 D2.out
  have d0 := rw2_a0 D1.out (.slice (some ⟨W0.heap.size, 0, none⟩) q.np q.np)
  have k4 := hik ((((Chg.refl (fun y => y = w.heap.size + 1 + 1 ∨ y = w.heap.size + 1) W3).setCell (p := ⟨w.heap.size + 1 + 1, 1, none⟩) (fun _ => .inl rfl) (.slice c3 q.nq cap3)).setCell (p := ⟨w.heap.size + 1, 0, none⟩) (fun _ => .inr rfl) (.slice (some ⟨W0.heap.size, 0, none⟩) q.np q.np)).setCell (p := ⟨w.heap.size + 1, 1, none⟩) (fun _ => .inr rfl) (.slice c3 q.nq cap3))
  have P4 := hik ((P3.out.chg k4.out (fun y h1 h2 e => by have := HZ.out; rcases e with e | e <;> omega)).wide (lo' := w.heap.size) (hi' := W2.heap.size) (by have := HZ.out; omega) (by rw [S2.out]; exact Nat.le_refl _))
  have Q4 := hik ((O3.out.chg k4.out (fun y h1 h2 e => by have := HZ.out; have := S2.out; have := L1.out; rcases e with e | e <;> omega)).wide (lo' := W2.heap.size) (hi' := W3.heap.size) (Nat.le_refl _) (Nat.le_refl _))
  have K4 := hik (K3.out.near k4.out (fun i e => by rcases e with e | e <;> omega))
  clear P3 O3 K3 k4
  go_wp2
  exact bodyPost_ret (v := .agg #[.slice (some ⟨W0.heap.size, 0, none⟩) q.np q.np, .slice c3 q.nq cap3]) (by simp [results, Tryz.results71, go_sem, d0, d1]) rfl ⟨_, _, _, _, W2.heap.size, rfl, by have := HZ.out; have := S2.out; have := L1.out; omega, by simp; exact L3.out, P4.out, by rw [size_set, size_set, size_set]; exact Q4.out, K4.out⟩

/-- make([]T, n), T a struct of two slices. -/
theorem wpList_make_rows2 {P : Program} (w : World) {ops : Array Oper} {rest : List Oper} {o : Oper} {a : Act} {Q : Exit → Act → World → Prop}
    (hg : o.guard = none) (l c : Operand) (t : TypeId) (hop : o.op = Op.makeSlice t l c) (e : TypeId) (i : TypeInfo)
    (h1 : P.underlying t = some (.slice e)) (h2 : P.info? e = some i) (h3 : i.zero = some (.agg #[.slice none 0 0, .slice none 0 0])) (h4 : i.size = 2)
    (kl kc : IntKind) (L C : Int) (n : Nat) (hl : a.eval l = .int kl L) (hc : a.eval c = .int kc C) (hL : L = (n : Int)) (hC : C = (n : Int)) (b2 : i.bytes * n ≤ 281474976710656) (b3 : n ≤ 9223372036854775807)
    (hK : ∀ w', w'.rowIs w.heap.size e (n * 2) (fun _ => .slice none 0 0) → Chg nob w w' → wpList P ops Q rest (a.put o.dst (.slice (some ⟨w.heap.size, 0, none⟩) n n)) w') :
    wpList P ops Q (o :: rest) a w := by
  refine wpList_plain hg fun K hK' => ?_
  have hb' : (i.bytes : Int) * (n : Int) ≤ 281474976710656 := by
    have h : ((i.bytes * n : Nat) : Int) ≤ 281474976710656 := by omega
    rwa [Int.natCast_mul] at h
  have hrun := run_make (P := P) w t e i _ h1 h2 h3 kl kc n n (by omega) (Int.le_refl _) hb' (by omega)
  simp only [Int.toNat_natCast, h4] at hrun
  subst hL
  subst hC
  unfold Oper.wp
  simp [execOp, hop, hl, hc, hrun, Result.andThen]
  refine hK' _ _ (hK _ ⟨_, Go.Deep.blk_alloc_new _ _, size_madeCells _ _, fun j hj => ?_⟩ ((Chg.refl _ _).alloc _))
  rcases (show j % 2 = 0 ∨ j % 2 = 1 by omega) with e | e <;> simp [madeCells, hj, Value.cells, e]
theorem infoQy : (Tryz.prog.info? 106).map (fun i => (i.zero, i.size, i.bytes)) = some (some (.agg #[.slice none 0 0, .slice none 0 0]), 2, 48) := by kernel_rfl
/-- A query's two slices, one behind the other. -/
def qv (u v : Nat → Value) (c : Nat) : Value := if c % 2 = 0 then u (c / 2) else v (c / 2)
/-- k of n queries are made. -/
structure Prq (W : World) (b n k : Nat) (q : Nat → QD) (u v : Nat → Value) (lo mi hi : Nat → Nat) : Prop where
  row : W.rowIs b 106 (n * 2) (fun c => if c < k * 2 then qv u v c else .slice none 0 0)
  it : ∀ i, i < k → b < lo i ∧ lo i ≤ mi i ∧ mi i ≤ hi i ∧ hi i ≤ W.heap.size ∧ (q i).P.Own W (lo i) (mi i) (u i) ∧ (q i).S.Own W (mi i) (hi i) (v i)
  ord : ∀ i j, i < j → j < k → hi i ≤ lo j
theorem Prq.step {W W1 : World} {b n k : Nat} {q : Nat → QD} {u v : Nat → Value} {lo mi hi : Nat → Nat} (h : Prq W b n k q u v lo mi hi) (hk : k < n) (x y : Value) (m : Nat) (kk : Chg nob W W1) (hb : b < W.heap.size) (m1 : W.heap.size ≤ m) (m2 : m ≤ W1.heap.size) (ho : (q k).P.Own W1 W.heap.size m x) (ho' : (q k).S.Own W1 m W1.heap.size y) :
    Prq ((W1.setCell ⟨b, k * 2, none⟩ x).setCell ⟨b, k * 2 + 1, none⟩ y) b n (k + 1) q (upd u k x) (upd v k y) (upd lo k W.heap.size) (upd mi k m) (upd hi k W1.heap.size) := by
  have kS : Chg (fun y => y = b) W1 ((W1.setCell ⟨b, k * 2, none⟩ x).setCell ⟨b, k * 2 + 1, none⟩ y) := ((Chg.refl (fun y => y = b) W1).setCell (p := ⟨b, k * 2, none⟩) (fun _ => rfl) _).setCell (p := ⟨b, k * 2 + 1, none⟩) (fun _ => rfl) _
  refine ⟨(((rowIs_keep h.row kk).set (k * 2) x).set (k * 2 + 1) y).congr (fun i _ => ?_), fun i hi => ?_, fun i j hij hj => ?_⟩
  · by_cases e : i = k * 2 + 1
    · subst e
      rw [if_pos rfl, if_pos (by omega)]
      unfold qv
      rw [if_neg (by omega), show (k * 2 + 1) / 2 = k by omega, upd_at]
    · rw [if_neg e]
      by_cases e1 : i = k * 2
      · subst e1
        rw [if_pos rfl, if_pos (by omega)]
        unfold qv
        rw [if_pos (by omega), show k * 2 / 2 = k by omega, upd_at]
      · rw [if_neg e1]
        have e3 : i / 2 ≠ k := by omega
        by_cases e2 : i < k * 2
        · rw [if_pos e2, if_pos (by omega)]
          unfold qv
          rw [upd_ne _ _ e3, upd_ne _ _ e3]
        · rw [if_neg e2, if_neg (by omega)]
  · by_cases e : i = k
    · subst e
      rw [upd_at, upd_at, upd_at, upd_at, upd_at]
      exact ⟨hb, m1, m2, by simp, ho.chg kS (fun y h1 h2 e => by omega), ho'.chg kS (fun y h1 h2 e => by omega)⟩
    · rw [upd_ne _ _ e, upd_ne _ _ e, upd_ne _ _ e, upd_ne _ _ e, upd_ne _ _ e]
      obtain ⟨q1, q2, q3, q4, q5, q6⟩ := h.it i (by omega)
      have := kk.size
      exact ⟨q1, q2, q3, by simp; omega, (q5.keep kk).chg kS (fun y h1 h2 e => by omega), (q6.keep kk).chg kS (fun y h1 h2 e => by omega)⟩
  · have e : i ≠ k := by omega
    rw [upd_ne hi _ e]
    by_cases e2 : j = k
    · subst e2
      rw [upd_at]
      exact (h.it i (by omega)).2.2.2.1
    · rw [upd_ne lo _ e2]
      exact h.ord i j hij (by omega)
theorem Prq.done {W : World} {b n B : Nat} {q : Nat → QD} {u v : Nat → Value} {lo mi hi : Nat → Nat} (h : Prq W b n n q u v lo mi hi) (hB : B ≤ b) (cap : Nat) : (dQs n q).Own W B W.heap.size (.slice (some ⟨b, 0, none⟩) n cap) := by
  have C : ∀ i j, i < n → j < 2 → W.cell? ⟨b, i * 2 + j, none⟩ = some (if j = 0 then u i else v i) := fun i j hi hj => by
    rw [h.row.cell (show i * 2 + j < n * 2 by omega), if_pos (by omega)]
    unfold qv
    rcases (show j = 0 ∨ j = 1 by omega) with rfl | rfl
    · rw [if_pos (by omega), show (i * 2 + 0) / 2 = i by omega]; rfl
    · rw [if_neg (by omega), show (i * 2 + 1) / 2 = i by omega]; rfl
  refine ⟨_, _, rfl, .inr ⟨b, fun i j => if j = 0 then lo i else mi i, fun i j => if j = 0 then mi i else hi i, rfl, ⟨hB, h.row.lt, h.row.lt, fun i j hi hj => ⟨_, C i j hi hj, ?_⟩, fun i j hi hj => ?_, fun i j hi hj => ?_, fun i j hi hj => ?_, fun i j i' j' hi hj hi' hj' hne => ?_⟩⟩⟩
  · rcases (show j = 0 ∨ j = 1 by omega) with rfl | rfl
    · exact (h.it i hi).2.2.2.2.1
    · exact (h.it i hi).2.2.2.2.2
  · have := h.it i hi
    rcases (show j = 0 ∨ j = 1 by omega) with rfl | rfl <;> simp <;> omega
  · have := h.it i hi
    rcases (show j = 0 ∨ j = 1 by omega) with rfl | rfl <;> simp <;> omega
  · have := h.it i hi
    rcases (show j = 0 ∨ j = 1 by omega) with rfl | rfl <;> simp <;> omega
  · have q1 := h.it i hi
    have q2 := h.it i' hi'
    rcases Nat.lt_trichotomy i i' with q | q | q
    · have := h.ord i i' q hi'
      left
      rcases (show j = 0 ∨ j = 1 by omega) with rfl | rfl <;> rcases (show j' = 0 ∨ j' = 1 by omega) with rfl | rfl <;> simp <;> omega
    · subst q
      rcases (show j = 0 ∨ j = 1 by omega) with rfl | rfl <;> rcases (show j' = 0 ∨ j' = 1 by omega) with rfl | rfl <;> simp at hne ⊢
    · have := h.ord i' i q hi
      right
      rcases (show j = 0 ∨ j = 1 by omega) with rfl | rfl <;> rcases (show j' = 0 ∨ j' = 1 by omega) with rfl | rfl <;> simp <;> omega
theorem dQs_at {w : World} {n : Nat} {q : Nat → QD} {c : Option Addr} {k cap : Nat} (h : (dQs n q).Rep w (.slice c k cap)) {i : Nat} (hi : i < n) : ∃ (xb xo : Nat) (ca : Option Addr) (pa : Nat) (cb : Option Addr) (pb : Nat), c = some ⟨xb, xo, none⟩ ∧ xb < w.heap.size ∧ w.cell? ⟨xb, xo + i * 2, none⟩ = some (.slice ca (q i).np pa) ∧ w.cell? ⟨xb, xo + i * 2 + 1, none⟩ = some (.slice cb (q i).nq pb) ∧ (q i).P.Rep w (.slice ca (q i).np pa) ∧ (q i).S.Rep w (.slice cb (q i).nq pb) := by
  obtain ⟨xb, xo, e, hx, hj⟩ := (rep_list h).2 i hi
  obtain ⟨u, hu, ru⟩ := hj 0 (by omega)
  obtain ⟨v, hv, rv⟩ := hj 1 (by omega)
  have ru' : (q i).P.Rep w u := ru
  have rv' : (q i).S.Rep w v := rv
  obtain ⟨ca, pa, rfl, _⟩ := ru'
  obtain ⟨cb, pb, rfl, _⟩ := rv'
  exact ⟨xb, xo, ca, pa, cb, pb, e, hx, hu, by rw [Nat.add_assoc]; exact hv, ru, rv⟩

set_option maxHeartbeats 2000000 in
theorem toQueryS_d (c : Option Addr) (n cap : Nat) (q : Nat → QD) (w : World) (h : Hid ((dQs n q).Rep w (.slice c n cap))) (hs : Hid ((dQs n q).small 1048576)) :
    Calls Tryz.prog 49 #[.slice c n cap] w fun e w' => OwAns w n (dQs n q) e w' := by
  have hn : n ≤ 1048576 := hs.out.1
  obtain ⟨i1, hi, hz0, hz1, hz2⟩ := info_parts infoQy
  have HI := hik hi
  have HZ0 := hik hz0
  have HZ1 := hik hz1
  have hb : i1.bytes * n ≤ 281474976710656 := by rw [hz2]; omega
  clear hi hz0 hz1 hz2
  go_enter Tryz.func49, Tryz.ntmps49
  go_wp2_with (at_make; refine wpList_make_rows2 _ rfl (.tmp 6) (.tmp 6) 43 rfl 106 i1 Tryz.underlying43 HI.out HZ0.out HZ1.out .i64 .i64 _ _ n rfl rfl rfl rfl hb (by omega) ?_)
  intro w0 hr hk
  have HR0 := hik hr
  have HK0 := hik hk
  clear hb HI HZ0 HZ1 hr hk
  go_wp2
  go_loopw [4] (fun i W => ∃ (k : Nat) (u v : Nat → Value) (lo mi hi : Nat → Nat), k ≤ n ∧ i = .int .i64 (k : Int) ∧ Hid (Prq W w.heap.size n k q u v lo mi hi) ∧ Hid (Chg nob w W)) (fun i _ => n - (intOf i).toNat)
  case atStart => exact ⟨0, fun _ => undef, fun _ => undef, fun _ => 0, fun _ => 0, fun _ => 0, Nat.zero_le _, rfl, hik ⟨HR0.out.congr (fun i _ => by rw [if_neg (by omega)]), fun i hi => absurd hi (by omega), fun i j _ hj => absurd hj (by omega)⟩, HK0⟩
  case round =>
    clear HR0 HK0
    obtain ⟨k, u, v, lo, mi, hi, hk, rfl, HR, HG⟩ := hrel
    rename World => wi
    by_cases hlt : k < n
    · have hk1 : (k : Int) < (n : Int) := by omega
      have hk0 : (0 : Int) ≤ (k : Int) := by omega
      obtain ⟨xb, xo, ca, pa, cb, pb, ec, hxb, hc0, hc1, hP, hS⟩ := dQs_at (h.out.keep HG.out) hlt
      subst ec
      have PJ := hik hP
      have SJ := hik hS
      have hwl : w.heap.size < wi.heap.size := HR.out.row.lt
      clear hP hS
      have S0 := hik (hs.out.2 k 0 hlt (by omega))
      have S1 := hik (hs.out.2 k 1 hlt (by omega))
      go_wp2_with fail
      refine (toQuery_d ca pa cb pb (q k) _ PJ SJ S0 S1).mono ?_
      rintro e W1 ⟨ca', pa', cb', pb', m, rfl, m1, m2, o1, o2, k1⟩
      have HR1 := hik (rowIs_keep HR.out.row k1)
      have HR2 := hik (Prq.step HR.out hlt (.slice ca' (q k).np pa') (.slice cb' (q k).nq pb') m k1 hwl m1 m2 o1 o2)
      have HG2 := hik (((HG.out.trans k1).setCell (p := ⟨w.heap.size, k * 2, none⟩) (fun l => absurd l (by simp)) (.slice ca' (q k).np pa')).setCell (p := ⟨w.heap.size, k * 2 + 1, none⟩) (fun l => absurd l (by simp)) (.slice cb' (q k).nq pb'))
      clear k1 hc0 hc1 PJ SJ o1 o2 m1 m2
      have g0 := HR1.out.cell (i := k * 2) (by omega)
      have g1 := HR1.out.cell (i := k * 2 + 1) (by omega)
      have f0 := HR1.out.frozen (k * 2)
      have f1 := HR1.out.frozen (k * 2 + 1)
      rw [if_neg (by omega)] at g0 g1
      clear HR HG HR1
      go_wp2
      go_roundw
      case rel => exact ⟨k + 1, _, _, _, _, _, by omega, by go_num, HR2, HG2⟩
      case measure => simp [intOf]; omega
    · obtain rfl : n = k := by omega
      have hcc : ¬ (n : Int) < (n : Int) := by omega
      go_wp2
      go_ret
      exact ⟨_, _, rfl, HR.out.done (Nat.le_refl _) _, HG.out⟩


end Go.Proofs.YtfbjlohnbpienaaGreat
