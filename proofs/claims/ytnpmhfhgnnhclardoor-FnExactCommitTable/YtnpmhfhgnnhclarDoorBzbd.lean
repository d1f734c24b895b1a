/- Several texts in one: What the model's paths are: contracts. Conditions: rows that can be read. · Nodes in memory: words and laws. No program is walked here. -/
import Derived.Test.YtnpmhfhgnnhclarDoorBzbb
namespace Go.Proofs.YtnpmhfhgnnhclarDoor
open Go.ChangeShapes Go.WideShapes Go.ChangeAt Go.RowKit
set_option linter.unusedVariables false
set_option maxRecDepth 100000
set_option linter.unusedSimpArgs false

/-- The place beside a place. -/
def sib (m : Nat) : Nat := if m % 2 = 1 then m - 1 else m + 1
/-- The hashes beside the way. -/
def pth (L : Nat → ByteArray) (i k : Nat) : ByteArray := lev L k (sib (i / 2 ^ k))

/-- Between two numbers. -/
def inB (n a b : Int) : Bool := decide (a ≤ n ∧ n ≤ b)

/-- The code of a path that is asked for, and how long the path is. -/
def mpc (n : Nat) (L : Nat → ByteArray) (i : Int) : Int := if lvc n L = 0 then (if inB i 0 ((n : Int) - 1) then 0 else 4) else lvc n L
def mpl (n : Nat) (L : Nat → ByteArray) (i : Int) : Nat := if mpc n L i = 0 then Nat.log2 n else 0
/-- A path with its code, in new memory. -/
def PmAns (w : World) (n : Nat) (L : Nat → ByteArray) (i : Int) (e : Ending) (w' : World) : Prop :=
  ∃ v, e = .returned (.tuple #[v, .int .i64 (mpc n L i)]) ∧ w'.ownsRow w.heap.size 9 1 v (mpl n L i) ((List.range (mpl n L i)).map (sb (pth L i.toNat))) ∧ Chg nob w w'
theorem PmAns.none {w : World} {n : Nat} {L : Nat → ByteArray} {i c : Int} (hc : mpc n L i = c) (h0 : c ≠ 0) (o : Obj) (ho : o = .cells #[] 9) : PmAns w n L i (.returned (.tuple #[.slice (some ⟨w.heap.size, 0, none⟩) 0 0, .int .i64 c])) (w.alloc o) := by
  subst ho
  have e : mpl n L i = 0 := by unfold mpl; rw [hc, if_neg h0]
  refine ⟨_, by rw [hc], ?_, (Chg.refl _ _).alloc _⟩
  rw [e]
  exact owns_new _ _ _ _ (Nat.le_refl _)


end Go.Proofs.YtnpmhfhgnnhclarDoor

namespace Go.Proofs.YtnpmhfhgnnhclarDoor
open Go.RowKit
set_option linter.unusedVariables false
set_option maxRecDepth 100000

/-- A pointer to a block, and none. -/
def ptr (b : Nat) : Value := .pointer (some ⟨b, 0, none⟩)
def nul : Value := .pointer none
theorem ptr_nul (a : Nat) : ¬ ptr a = nul := by unfold ptr nul; simp
/-- A node's three cells. -/
def nv (h : ByteArray) (s a : Value) (i : Nat) : Value := if i = 0 then .string h else if i = 1 then s else a
/-- A node. -/
def Nod (W : World) (b : Nat) (h : ByteArray) (s a : Value) : Prop := W.rowIs b 64 3 (nv h s a)
/-- A row of pointers. -/
def Prow (W : World) (b n : Nat) (f : Nat → Value) : Prop := W.rowIs b 62 n f
theorem Nod.lt {W : World} {b : Nat} {h : ByteArray} {s a : Value} (k : Nod W b h s a) : b < W.heap.size := World.rowIs.lt k
theorem Nod.hash {W : World} {b : Nat} {h : ByteArray} {s a : Value} (k : Nod W b h s a) : W.cell? ⟨b, 0, none⟩ = some (.string h) := World.rowIs.cell k (i := 0) (by omega)
theorem Nod.beside {W : World} {b : Nat} {h : ByteArray} {s a : Value} (k : Nod W b h s a) : W.cell? ⟨b, 1, none⟩ = some s := World.rowIs.cell k (i := 1) (by omega)
theorem Nod.above {W : World} {b : Nat} {h : ByteArray} {s a : Value} (k : Nod W b h s a) : W.cell? ⟨b, 2, none⟩ = some a := World.rowIs.cell k (i := 2) (by omega)
theorem Nod.chg {P : Nat → Prop} {W W' : World} {b : Nat} {h : ByteArray} {s a : Value} (k : Nod W b h s a) (c : Chg P W W') (hp : ¬ P b) : Nod W' b h s a := rowIs_chg k c hp
theorem Nod.keep {W W' : World} {b : Nat} {h : ByteArray} {s a : Value} (k : Nod W b h s a) (c : Chg nob W W') : Nod W' b h s a := rowIs_keep k c
theorem Prow.chg {P : Nat → Prop} {W W' : World} {b n : Nat} {f : Nat → Value} (k : Prow W b n f) (c : Chg P W W') (hp : ¬ P b) : Prow W' b n f := rowIs_chg k c hp
/-- A block has one type. -/
theorem rowIs_ty {W : World} {b : Nat} {t u : TypeId} {n m : Nat} {f g : Nat → Value} (h : W.rowIs b t n f) (k : W.rowIs b u m g) : t = u := by
  obtain ⟨c, hb, _⟩ := h
  obtain ⟨c', hb', _⟩ := k
  rw [hb] at hb'
  simp at hb'
  exact hb'.2
theorem Nod.not_row {W : World} {b r n : Nat} {h : ByteArray} {s a : Value} {f : Nat → Value} (k : Nod W b h s a) (q : Prow W r n f) : ¬ b = r := by
  rintro rfl
  have e := rowIs_ty k q
  exact absurd e (by decide)
theorem Nod.alike {W : World} {b : Nat} {h h' : ByteArray} {s s' a a' : Value} (k : Nod W b h s a) (q : Nod W b h' s' a') : h = h' ∧ s = s' ∧ a = a' := by
  have e0 := k.hash
  have e1 := k.beside
  have e2 := k.above
  rw [q.hash] at e0
  rw [q.beside] at e1
  rw [q.above] at e2
  refine ⟨?_, ?_, ?_⟩
  · simpa using e0.symm
  · simpa using e1.symm
  · simpa using e2.symm
/-- One that leads up is not one that does not. -/
theorem Nod.apart {W : World} {b b' x : Nat} {h h' : ByteArray} {s s' : Value} (k : Nod W b h s (ptr x)) (q : Nod W b' h' s' nul) : ¬ b = b' := by
  rintro rfl
  exact ptr_nul _ (k.alike q).2.2
theorem Nod.new (W : World) (h : ByteArray) : Nod (W.alloc (.cells #[.string h, nul, nul] 64)) W.heap.size h nul nul :=
  World.rowIs_alloc W #[.string h, nul, nul] 64 (nv h nul nul) (fun i hi => by
    match i, hi with
    | 0, _ => rfl
    | 1, _ => rfl
    | 2, _ => rfl)
theorem Nod.link {W : World} {b : Nat} {h : ByteArray} {s a : Value} (k : Nod W b h s a) (s' a' : Value) : Nod ((W.setCell ⟨b, 1, none⟩ s').setCell ⟨b, 2, none⟩ a') b h s' a' :=
  World.rowIs.congr (World.rowIs.set (World.rowIs.set k 1 s') 2 a') (fun i hi => by
    match i, hi with
    | 0, _ => rfl
    | 1, _ => rfl
    | 2, _ => rfl)
theorem Nod.link_other {W : World} {b b' : Nat} {h : ByteArray} {s a : Value} (k : Nod W b h s a) (hne : b ≠ b') (s' a' : Value) : Nod ((W.setCell ⟨b', 1, none⟩ s').setCell ⟨b', 2, none⟩ a') b h s a :=
  World.rowIs.setOther (a := ⟨b', 2, none⟩) (World.rowIs.setOther (a := ⟨b', 1, none⟩) k hne s') hne a'
theorem chg_link {P : Nat → Prop} {w W : World} {b : Nat} (k : Chg P w W) (hp : b < w.heap.size → P b) (s' a' : Value) : Chg P w ((W.setCell ⟨b, 1, none⟩ s').setCell ⟨b, 2, none⟩ a') :=
  (k.setCell (p := ⟨b, 1, none⟩) hp s').setCell (p := ⟨b, 2, none⟩) hp a'

/-- Two are joined: the one above them, in new memory, and what the two are told. -/
structure Jnd (w W : World) (bl br ba : Nat) (h1 h2 : ByteArray) : Prop where
  lo : w.heap.size ≤ ba
  new : Nod W ba (nd h1 h2) nul nul
  left : Nod W bl h1 (ptr br) (ptr ba)
  right : Nod W br h2 (ptr bl) (ptr ba)
  chg : Chg (fun b => b = bl ∨ b = br) w W
def JnAns (w : World) (bl br : Nat) (h1 h2 : ByteArray) (e : Ending) (w' : World) : Prop :=
  ∃ ba, e = .returned (.pointer (some ⟨ba, 0, none⟩)) ∧ Jnd w w' bl br ba h1 h2

/-- m of r nodes above a row are made. -/
structure RAb (w W : World) (r m : Nat) (nb nb' : Nat → Nat) (H : Nat → ByteArray) : Prop where
  row : Prow W w.heap.size r (fun j => if j < m then ptr (nb' j) else nul)
  new : ∀ j, j < m → w.heap.size < nb' j ∧ Nod W (nb' j) (nd (H (2 * j)) (H (2 * j + 1))) nul nul
  inj : ∀ i j, i < m → j < m → nb' i = nb' j → i = j
  old : ∀ i, i < 2 * m → Nod W (nb i) (H i) (ptr (nb (sib i))) (ptr (nb' (i / 2)))
  rest : ∀ i, 2 * m ≤ i → i < 2 * r → Nod W (nb i) (H i) nul nul
  chg : Chg (fun b => ∃ i, i < 2 * r ∧ b = nb i) w W

theorem sib_even (m : Nat) : sib (2 * m) = 2 * m + 1 := by unfold sib; rw [if_neg (by omega)]
theorem sib_odd (m : Nat) : sib (2 * m + 1) = 2 * m := by unfold sib; rw [if_pos (by omega)]; omega
theorem RAb.start {w : World} {r : Nat} {nb : Nat → Nat} {H : Nat → ByteArray} (h : ∀ i, i < 2 * r → Nod w (nb i) (H i) nul nul) : RAb w (w.alloc (.cells (madeCells #[nul] r) 62)) r 0 nb (fun _ => 0) H := by
  refine ⟨World.rowIs.congr (World.rowIs_made w nul r 62) (fun i _ => by rw [if_neg (by omega)]), fun j hj => absurd hj (by omega), fun i j hi => absurd hi (by omega), fun i hi => absurd hi (by omega), fun i _ hi => World.rowIs.alloc (h i hi) _, (Chg.refl _ _).alloc _⟩
theorem RAb.step {w W W1 : World} {r m ba : Nat} {nb nb' : Nat → Nat} {H : Nat → ByteArray} (h : RAb w W r m nb nb' H) (hm : m < r) (hb : ∀ i, i < 2 * r → nb i < w.heap.size) (hi : ∀ i j, i < 2 * r → j < 2 * r → nb i = nb j → i = j) (k : Jnd W W1 (nb (2 * m)) (nb (2 * m + 1)) ba (H (2 * m)) (H (2 * m + 1))) :
    RAb w (W1.setCell ⟨w.heap.size, m, none⟩ (ptr ba)) r (m + 1) nb (fun j => if j = m then ba else nb' j) H := by
  have e1 : nb (2 * m) < w.heap.size := hb _ (by omega)
  have e2 : nb (2 * m + 1) < w.heap.size := hb _ (by omega)
  have hsz := h.chg.size
  have hlo := k.lo
  have hrl : w.heap.size < W.heap.size := World.rowIs.lt h.row
  have r1 : Prow W1 w.heap.size r (fun j => if j < m then ptr (nb' j) else nul) := h.row.chg k.chg (by omega)
  have other : ∀ {b : Nat} {x : ByteArray} {s a : Value}, Nod W1 b x s a → ¬ b = w.heap.size → Nod (W1.setCell ⟨w.heap.size, m, none⟩ (ptr ba)) b x s a := fun {b x s a} q hne => World.rowIs.setOther (a := ⟨w.heap.size, m, none⟩) q hne _
  refine ⟨World.rowIs.congr (World.rowIs.set r1 m (ptr ba)) (fun i _ => ?_), fun j hj => ?_, fun i j hi' hj' he => ?_, fun i hi' => ?_, fun i h0 h1 => ?_, ?_⟩
  · by_cases e : i = m
    · subst e; rw [if_pos rfl, if_pos (by omega), if_pos rfl]
    · rw [if_neg e, if_neg e]
      by_cases e' : i < m
      · rw [if_pos e', if_pos (by omega)]
      · rw [if_neg e', if_neg (by omega)]
  · by_cases e : j = m
    · subst e
      rw [if_pos rfl]
      exact ⟨by omega, other k.new (by omega)⟩
    · rw [if_neg e]
      have q := h.new j (by omega)
      exact ⟨q.1, other (q.2.chg k.chg (by omega)) (by omega)⟩
  · by_cases ei : i = m
    · by_cases ej : j = m
      · omega
      · rw [if_pos ei, if_neg ej] at he
        have q := (h.new j (by omega)).2.lt
        omega
    · by_cases ej : j = m
      · rw [if_neg ei, if_pos ej] at he
        have q := (h.new i (by omega)).2.lt
        omega
      · rw [if_neg ei, if_neg ej] at he
        exact h.inj i j (by omega) (by omega) he
  · have hlt := hb i (by omega)
    by_cases e : i = 2 * m
    · subst e
      rw [sib_even, if_pos (by omega)]
      exact other k.left (by omega)
    · by_cases e' : i = 2 * m + 1
      · subst e'
        rw [sib_odd, if_pos (by omega)]
        exact other k.right (by omega)
      · rw [if_neg (by omega)]
        refine other ((h.old i (by omega)).chg k.chg ?_) (by omega)
        rintro (q | q)
        · exact e (hi _ _ (by omega) (by omega) q)
        · exact e' (hi _ _ (by omega) (by omega) q)
  · have hlt := hb i (by omega)
    refine other ((h.rest i (by omega) h1).chg k.chg ?_) (by omega)
    rintro (q | q)
    · have := hi _ _ h1 (by omega) q; omega
    · have := hi _ _ h1 (by omega) q; omega
  · refine Chg.setCell ?_ (p := ⟨w.heap.size, m, none⟩) (fun q => absurd q (by simp)) _
    exact h.chg.trans (k.chg.mono (fun i _ q => by
      rcases q with q | q
      · exact ⟨2 * m, by omega, q⟩
      · exact ⟨2 * m + 1, by omega, q⟩))
/-- The row above a row, in new memory. -/
def RaAns (w : World) (r : Nat) (nb : Nat → Nat) (H : Nat → ByteArray) (e : Ending) (w' : World) : Prop :=
  ∃ nb' : Nat → Nat, e = .returned (.slice (some ⟨w.heap.size, 0, none⟩) r r) ∧ RAb w w' r r nb nb' H

end Go.Proofs.YtnpmhfhgnnhclarDoor
