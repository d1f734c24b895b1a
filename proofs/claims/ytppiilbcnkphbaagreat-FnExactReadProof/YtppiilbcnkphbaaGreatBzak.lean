/- Several texts in one: For the laws with lists: rows of a call's own under another one's marks. No condition but those that each theorem states. · Lists of lists of whatever depth in memory: what they hold (Rep), that they are a call's own (Own), marks: words. No condition but those that each theorem states. -/
import Derived.Test.YtppiilbcnkphbaaGreatBzaf
import Derived.Test.YtppiilbcnkphbaaGreatBzac
import Derived.Test.YtppiilbcnkphbaaGreatBzaj
namespace Go.Proofs.YtppiilbcnkphbaaGreat
open Go.ChangeShapes Go.WideShapes Go.ChangeAt Go.RowKit
set_option linter.unusedVariables false
set_option linter.unusedSimpArgs false

/-- What was made behind the marked block stays. -/
theorem OwnE.ahead {w w' v : World} {B B' b n : Nat} {c : Option Addr} {f g : Nat → Int} (h : OwnE w B c n f g) (k : Chg (Mkb v B' (some ⟨b, 0, none⟩)) w w') (hB : b < B) : OwnE w' B c n f g := by
  refine h.chg k (fun b' hb e m => ?_)
  have e2 := m.2.1
  cases e2
  omega


end Go.Proofs.YtppiilbcnkphbaaGreat

namespace Go.Proofs.YtppiilbcnkphbaaGreat
open Go.ChangeShapes Go.WideShapes Go.ChangeAt Go.RowKit
set_option linter.unusedVariables false

/-- What a cell may hold: when a value holds it (Rep), when in blocks of its own from lo to hi (Own), when its lengths are at most a number (small). -/
structure Dt where
  Rep : World → Value → Prop
  Own : World → Nat → Nat → Value → Prop
  small : Nat → Prop
  keepR : ∀ {w w' : World} {v : Value}, Chg nob w w' → Rep w v → Rep w' v
  repO : ∀ {w : World} {lo hi : Nat} {v : Value}, Own w lo hi v → Rep w v
  chgO : ∀ {P : Nat → Prop} {w w' : World} {lo hi : Nat} {v : Value}, Chg P w w' → Own w lo hi v → (∀ b, lo ≤ b → b < hi → ¬ P b) → Own w' lo hi v
  wideO : ∀ {w : World} {lo hi lo' hi' : Nat} {v : Value}, Own w lo hi v → lo' ≤ lo → hi ≤ hi' → Own w lo' hi' v
theorem Dt.Rep.keep {w w' : World} (k : Chg nob w w') {d : Dt} {v : Value} (h : d.Rep w v) : d.Rep w' v := d.keepR k h
theorem Dt.Own.rep {w : World} {d : Dt} {lo hi : Nat} {v : Value} (h : d.Own w lo hi v) : d.Rep w v := d.repO h
theorem Dt.Own.chg {P : Nat → Prop} {w w' : World} (k : Chg P w w') {d : Dt} {lo hi : Nat} {v : Value} (h : d.Own w lo hi v) (hp : ∀ b, lo ≤ b → b < hi → ¬ P b) : d.Own w' lo hi v := d.chgO k h hp
theorem Dt.Own.keep {w w' : World} (k : Chg nob w w') {d : Dt} {lo hi : Nat} {v : Value} (h : d.Own w lo hi v) : d.Own w' lo hi v := h.chg k (fun _ _ _ x => x)
theorem Dt.Own.wide {w : World} {d : Dt} {lo hi lo' hi' : Nat} {v : Value} (h : d.Own w lo hi v) (h1 : lo' ≤ lo) (h2 : hi ≤ hi') : d.Own w lo' hi' v := d.wideO h h1 h2
/-- Elements. -/
def Dt.exts (n : Nat) (f g : Nat → Int) : Dt where
  Rep w v := ∃ (c : Option Addr) (cap : Nat), v = .slice c n cap ∧ PairV w c n f g
  Own w lo hi v := ∃ (c : Option Addr) (cap : Nat), v = .slice c n cap ∧ (n = 0 ∨ OwnE w lo c n f g ∧ ∃ b, c = some ⟨b, 0, none⟩ ∧ b < hi)
  small B := n ≤ B
  keepR := by
    rintro w w' v k ⟨c, cap, e, h⟩
    exact ⟨c, cap, e, h.keep k⟩
  repO := by
    rintro w lo hi v ⟨c, cap, e, rfl | ⟨h, _⟩⟩
    · exact ⟨c, cap, e, fun i hi => absurd hi (by omega)⟩
    · exact ⟨c, cap, e, h.pairs⟩
  chgO := by
    rintro P w w' lo hi v k ⟨c, cap, e, h0 | ⟨h, b', e', hb'⟩⟩ hp
    · exact ⟨c, cap, e, .inl h0⟩
    · exact ⟨c, cap, e, .inr ⟨h.chg k (fun b hb ec => by rw [e'] at ec; cases ec; exact hp b' hb hb'), b', e', hb'⟩⟩
  wideO := by
    rintro w lo hi lo' hi' v ⟨c, cap, e, h0 | ⟨h, b, eb, hb⟩⟩ h1 h2
    · exact ⟨c, cap, e, .inl h0⟩
    · exact ⟨c, cap, e, .inr ⟨h.low h1, b, eb, by omega⟩⟩
/-- Texts. -/
def Dt.texts (n : Nat) (L : Nat → ByteArray) : Dt where
  Rep w v := ∃ (c : Option Addr) (cap : Nat), v = .slice c n cap ∧ RowV w c n (sb L)
  Own w lo hi v := ∃ (c : Option Addr) (cap : Nat), v = .slice c n cap ∧ Mine w lo hi c n (sb L)
  small B := n ≤ B ∧ ∀ i, i < n → (L i).size ≤ B
  keepR := by
    rintro w w' v k ⟨c, cap, e, h⟩
    exact ⟨c, cap, e, h.keep k⟩
  repO := by
    rintro w lo hi v ⟨c, cap, e, h⟩
    exact ⟨c, cap, e, h.row⟩
  chgO := by
    rintro P w w' lo hi v k ⟨c, cap, e, h⟩ hp
    exact ⟨c, cap, e, h.chg k hp⟩
  wideO := by
    rintro w lo hi lo' hi' v ⟨c, cap, e, h0 | ⟨b, eb, hb, hb', r⟩⟩ h1 h2
    · exact ⟨c, cap, e, .inl h0⟩
    · exact ⟨c, cap, e, .inr ⟨b, eb, by omega, by omega, r⟩⟩
/-- A row of cells that lie in blocks from lo to hi, each cell's own blocks between l and h, none of them shared. -/
structure OwnL (w : World) (n m : Nat) (P : Nat → Nat → Nat → Nat → Value → Prop) (lo hi b : Nat) (l h : Nat → Nat → Nat) : Prop where
  lob : lo ≤ b
  hib : b < hi
  lt : b < w.heap.size
  cell : ∀ i j, i < n → j < m → ∃ u, w.cell? ⟨b, i * m + j, none⟩ = some u ∧ P i j (l i j) (h i j) u
  lol : ∀ i j, i < n → j < m → lo ≤ l i j
  hih : ∀ i j, i < n → j < m → h i j ≤ hi
  top : ∀ i j, i < n → j < m → ¬ (l i j ≤ b ∧ b < h i j)
  dis : ∀ i j i' j', i < n → j < m → i' < n → j' < m → ¬ (i = i' ∧ j = j') → h i j ≤ l i' j' ∨ h i' j' ≤ l i j
theorem OwnL.wide {w : World} {n m : Nat} {P : Nat → Nat → Nat → Nat → Value → Prop} {lo hi lo' hi' b : Nat} {l h : Nat → Nat → Nat} (o : OwnL w n m P lo hi b l h) (h1 : lo' ≤ lo) (h2 : hi ≤ hi') : OwnL w n m P lo' hi' b l h :=
  ⟨Nat.le_trans h1 o.lob, Nat.lt_of_lt_of_le o.hib h2, o.lt, o.cell, fun i j hi hj => Nat.le_trans h1 (o.lol i j hi hj), fun i j hi hj => Nat.le_trans (o.hih i j hi hj) h2, o.top, o.dis⟩
theorem OwnL.chgP {P : Nat → Prop} {w w' : World} {n m : Nat} {x : Nat → Nat → Dt} {lo hi b : Nat} {l h : Nat → Nat → Nat} (o : OwnL w n m (fun i j lo hi u => (x i j).Own w lo hi u) lo hi b l h) (k : Chg P w w') (hp : ∀ b, lo ≤ b → b < hi → ¬ P b) : OwnL w' n m (fun i j lo hi u => (x i j).Own w' lo hi u) lo hi b l h :=
  ⟨o.lob, o.hib, Nat.lt_of_lt_of_le o.lt k.size, fun i j hi' hj => by
    obtain ⟨u, hc, hr⟩ := o.cell i j hi' hj
    exact ⟨u, by rw [k.cell (p := ⟨b, i * m + j, none⟩) o.lt (hp b o.lob o.hib)]; exact hc, hr.chg k (fun b' h1 h2 => hp b' (Nat.le_trans (o.lol i j hi' hj) h1) (Nat.lt_of_lt_of_le h2 (o.hih i j hi' hj)))⟩, o.lol, o.hih, o.top, o.dis⟩
/-- Lists of n items of m cells each. -/
def Dt.list (n m : Nat) (x : Nat → Nat → Dt) : Dt where
  Rep w v := ∃ (c : Option Addr) (cap : Nat), v = .slice c n cap ∧ ∀ i, i < n → ∃ xb xo : Nat, c = some ⟨xb, xo, none⟩ ∧ xb < w.heap.size ∧ ∀ j, j < m → ∃ u, w.cell? ⟨xb, xo + (i * m + j), none⟩ = some u ∧ (x i j).Rep w u
  Own w lo hi v := ∃ (c : Option Addr) (cap : Nat), v = .slice c n cap ∧ (n = 0 ∨ ∃ (b : Nat) (l h : Nat → Nat → Nat), c = some ⟨b, 0, none⟩ ∧ OwnL w n m (fun i j lo hi u => (x i j).Own w lo hi u) lo hi b l h)
  small B := n ≤ B ∧ ∀ i j, i < n → j < m → (x i j).small B
  keepR := by
    rintro w w' v k ⟨c, cap, e, h⟩
    refine ⟨c, cap, e, fun i hi => ?_⟩
    obtain ⟨xb, xo, ec, l, hj⟩ := h i hi
    exact ⟨xb, xo, ec, Nat.lt_of_lt_of_le l k.size, fun j hm => by
      obtain ⟨u, hc, hr⟩ := hj j hm
      exact ⟨u, k.see hc, hr.keep k⟩⟩
  repO := by
    rintro w lo hi v ⟨c, cap, e, h⟩
    refine ⟨c, cap, e, fun i hi => ?_⟩
    rcases h with rfl | ⟨b, l, hh, ec, o⟩
    · omega
    · refine ⟨b, 0, ec, o.lt, fun j hj => ?_⟩
      obtain ⟨u, hc, hr⟩ := o.cell i j hi hj
      exact ⟨u, by rw [Nat.zero_add]; exact hc, hr.rep⟩
  chgO := by
    rintro P w w' lo hi v k ⟨c, cap, e, h⟩ hp
    refine ⟨c, cap, e, ?_⟩
    rcases h with h0 | ⟨b, l, hh, ec, o⟩
    · exact .inl h0
    · exact .inr ⟨b, l, hh, ec, o.chgP k hp⟩
  wideO := by
    rintro w lo hi lo' hi' v ⟨c, cap, e, h0 | ⟨b, l, hh, eb, o⟩⟩ h1 h2
    · exact ⟨c, cap, e, .inl h0⟩
    · exact ⟨c, cap, e, .inr ⟨b, l, hh, eb, o.wide h1 h2⟩⟩
/-- One cell's own blocks have turned. -/
theorem OwnL.step {w w' : World} {n m : Nat} {x y : Nat → Nat → Dt} {lo hi b : Nat} {l h : Nat → Nat → Nat} (o : OwnL w n m (fun i j lo hi u => (x i j).Own w lo hi u) lo hi b l h) {i0 j0 : Nat} (hi0 : i0 < n) (hj0 : j0 < m) {u0 : Value} (hu0 : w.cell? ⟨b, i0 * m + j0, none⟩ = some u0)
    (k : Chg (fun c => l i0 j0 ≤ c ∧ c < h i0 j0) w w') (hy : (y i0 j0).Own w' (l i0 j0) (h i0 j0) u0) (he : ∀ i j, i < n → j < m → ¬ (i = i0 ∧ j = j0) → y i j = x i j) :
    OwnL w' n m (fun i j lo hi u => (y i j).Own w' lo hi u) lo hi b l h := by
  refine ⟨o.lob, o.hib, Nat.lt_of_lt_of_le o.lt k.size, fun i j hi' hj => ?_, o.lol, o.hih, o.top, o.dis⟩
  by_cases e : i = i0 ∧ j = j0
  · obtain ⟨rfl, rfl⟩ := e
    exact ⟨u0, by rw [k.cell (p := ⟨b, i * m + j, none⟩) o.lt (o.top i j hi' hj)]; exact hu0, hy⟩
  · obtain ⟨u, hc, hr⟩ := o.cell i j hi' hj
    refine ⟨u, by rw [k.cell (p := ⟨b, i * m + j, none⟩) o.lt (o.top i0 j0 hi0 hj0)]; exact hc, ?_⟩
    show (y i j).Own w' (l i j) (h i j) u
    rw [he i j hi' hj e]
    refine hr.chg k (fun c h1 h2 h3 => ?_)
    rcases o.dis i j i0 j0 hi' hj hi0 hj0 e with q | q <;> omega
theorem OwnL.congr {w : World} {n m : Nat} {x y : Nat → Nat → Dt} {lo hi b : Nat} {l h : Nat → Nat → Nat} (o : OwnL w n m (fun i j lo hi u => (x i j).Own w lo hi u) lo hi b l h) (he : ∀ i j, i < n → j < m → y i j = x i j) : OwnL w n m (fun i j lo hi u => (y i j).Own w lo hi u) lo hi b l h :=
  ⟨o.lob, o.hib, o.lt, fun i j hi' hj => by obtain ⟨u, hc, hr⟩ := o.cell i j hi' hj; exact ⟨u, hc, by show (y i j).Own w (l i j) (h i j) u; rw [he i j hi' hj]; exact hr⟩, o.lol, o.hih, o.top, o.dis⟩
/-- Sums. -/
def sumN (L : Nat → Nat) : Nat → Nat
  | 0 => 0
  | n + 1 => sumN L n + L n
theorem sumN_le (L : Nat → Nat) {i n : Nat} (h : i ≤ n) : sumN L i ≤ sumN L n := by
  induction n with
  | zero => obtain rfl : i = 0 := by omega
            exact Nat.le_refl _
  | succ n ih =>
    by_cases e : i = n + 1
    · subst e; exact Nat.le_refl _
    · exact Nat.le_trans (ih (by omega)) (by simp only [sumN]; omega)

end Go.Proofs.YtppiilbcnkphbaaGreat
