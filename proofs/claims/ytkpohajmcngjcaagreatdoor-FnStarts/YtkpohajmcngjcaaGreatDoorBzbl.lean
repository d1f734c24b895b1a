/- Several texts in one: What the model's bound tables and its rounds answer: contracts. Conditions: tables of at most 64 values that can be read. · A block that was made just now, as a row; a heap's size behind an alloc: plain. · What the laws' helpers on sources do: contracts. Conditions: rows that can be read, lengths of at most 2 to the 40. · What the laws' copies of lists of lists, queries and openings are: contracts. Conditions: lists that can be read, lengths of at most 2 to the 20. -/
import Derived.Test.YtkpohajmcngjcaaGreatDoorBzbk
import Derived.Test.YtkpohajmcngjcaaGreatDoorBzaa
import Derived.Deep.Heap
import Derived.Test.YtkpohajmcngjcaaGreatDoorBzae
import Derived.Deep.QuietTactic
import Derived.Deep.RegionHeld3
import Derived.BigQuiet
import Derived.Test.YtkpohajmcngjcaaGreatDoorBzbm
namespace Go.Proofs.YtkpohajmcngjcaaGreatDoor
open Go.ChangeShapes Go.WideShapes Go.ChangeAt Go.RowKit
set_option linter.unusedVariables false
set_option maxRecDepth 100000
set_option linter.unusedSimpArgs false


end Go.Proofs.YtkpohajmcngjcaaGreatDoor

namespace Go.Proofs.YtkpohajmcngjcaaGreatDoor
open Go.RowKit
theorem asz (w : World) (o : Obj) : (w.alloc o).heap.size = w.heap.size + 1 := by simp
theorem rowN_new (W : World) (n : Nat) (a : Array Value) (t : TypeId) (h : a.size = n) : (W.alloc (.cells a t)).rowIs W.heap.size t n (fun i => a.getD i undef) :=
  ⟨a, Go.Deep.blk_alloc_new _ _, h, fun i hi => by simp [h, hi]⟩

end Go.Proofs.YtkpohajmcngjcaaGreatDoor

namespace Go.Proofs.YtkpohajmcngjcaaGreatDoor
open Go.ChangeShapes Go.WideShapes Go.ChangeAt Go.RowKit
set_option linter.unusedVariables false
set_option maxRecDepth 100000
set_option linter.unusedSimpArgs false


end Go.Proofs.YtkpohajmcngjcaaGreatDoor

namespace Go.Proofs.YtkpohajmcngjcaaGreatDoor
open Go.ChangeShapes Go.WideShapes Go.ChangeAt Go.RowKit
set_option linter.unusedVariables false
set_option maxRecDepth 100000
set_option linter.unusedSimpArgs false

/-- Lists of texts; lists of lists of elements; queries. -/
def dSS (n : Nat) (l : Nat → Nat) (T : Nat → Nat → ByteArray) : Dt := .list n 1 (fun i _ => .texts (l i) (T i))
def dEE (n : Nat) (l : Nat → Nat) (f g : Nat → Nat → Int) : Dt := .list n 1 (fun i _ => .exts (l i) (f i) (g i))
/-- What a query holds. -/
structure QD where
  np : Nat
  f : Nat → Int
  g : Nat → Int
  nq : Nat
  l : Nat → Nat
  T : Nat → Nat → ByteArray
def QD.P (q : QD) : Dt := .exts q.np q.f q.g
def QD.S (q : QD) : Dt := dSS q.nq q.l q.T
def dQs (n : Nat) (q : Nat → QD) : Dt := .list n 2 (fun i j => if j = 0 then (q i).P else (q i).S)
/-- What an opening holds. -/
structure OD where
  nr : Nat
  rl : Nat → Nat
  rf : Nat → Nat → Int
  rg : Nat → Nat → Int
  nt : Nat
  ts : Nat → ByteArray
  la : Int
  lb : Int
  no : Int
  nq : Nat
  q : Nat → QD
def OD.R (o : OD) : Dt := dEE o.nr o.rl o.rf o.rg
def OD.S (o : OD) : Dt := .texts o.nt o.ts
def OD.Q (o : OD) : Dt := dQs o.nq o.q
/-- k of n items are made. -/
structure Prt (W : World) (T : TypeId) (b n k : Nat) (len : Nat → Nat) (x : Nat → Dt) (C : Nat → Option Addr) (P lo hi : Nat → Nat) : Prop where
  row : W.rowIs b T n (fun i => if i < k then .slice (C i) (len i) (P i) else .slice none 0 0)
  it : ∀ i, i < k → b < lo i ∧ hi i ≤ W.heap.size ∧ (x i).Own W (lo i) (hi i) (.slice (C i) (len i) (P i))
  ord : ∀ i j, i < j → j < k → hi i ≤ lo j
def upd {α : Type} (f : Nat → α) (k : Nat) (a : α) (i : Nat) : α := if i = k then a else f i
theorem upd_at {α : Type} (f : Nat → α) (k : Nat) (a : α) : upd f k a k = a := if_pos rfl
theorem upd_ne {α : Type} (f : Nat → α) {k i : Nat} (a : α) (h : i ≠ k) : upd f k a i = f i := if_neg h
theorem Prt.step {W W1 : World} {T : TypeId} {b n k : Nat} {len : Nat → Nat} {x : Nat → Dt} {C : Nat → Option Addr} {P lo hi : Nat → Nat} (h : Prt W T b n k len x C P lo hi) (hk : k < n) (c : Option Addr) (cap : Nat) (kk : Chg nob W W1) (hb : b < W.heap.size) (ho : (x k).Own W1 W.heap.size W1.heap.size (.slice c (len k) cap)) :
    Prt (W1.setCell ⟨b, k, none⟩ (.slice c (len k) cap)) T b n (k + 1) len x (upd C k c) (upd P k cap) (upd lo k W.heap.size) (upd hi k W1.heap.size) := by
  have kS : Chg (fun y => y = b) W1 (W1.setCell ⟨b, k, none⟩ (.slice c (len k) cap)) := (Chg.refl (fun y => y = b) W1).setCell (p := ⟨b, k, none⟩) (fun _ => rfl) _
  refine ⟨((rowIs_keep h.row kk).set k (.slice c (len k) cap)).congr (fun i _ => ?_), fun i hi => ?_, fun i j hij hj => ?_⟩
  · by_cases e : i = k
    · subst e
      rw [if_pos rfl, if_pos (by omega), upd_at, upd_at]
    · rw [if_neg e, upd_ne _ _ e, upd_ne _ _ e]
      by_cases e2 : i < k
      · rw [if_pos e2, if_pos (by omega)]
      · rw [if_neg e2, if_neg (by omega)]
  · by_cases e : i = k
    · subst e
      rw [upd_at, upd_at, upd_at, upd_at]
      exact ⟨hb, by simp, ho.chg kS (fun y h1 h2 e => by omega)⟩
    · rw [upd_ne _ _ e, upd_ne _ _ e, upd_ne _ _ e, upd_ne _ _ e]
      obtain ⟨q1, q2, q3⟩ := h.it i (by omega)
      have := kk.size
      exact ⟨q1, by simp; omega, (q3.keep kk).chg kS (fun y h1 h2 e => by omega)⟩
  · have e : i ≠ k := by omega
    rw [upd_ne hi _ e]
    by_cases e2 : j = k
    · subst e2
      rw [upd_at]
      exact (h.it i (by omega)).2.1
    · rw [upd_ne lo _ e2]
      exact h.ord i j hij (by omega)
theorem Prt.done {W : World} {T : TypeId} {b n B : Nat} {len : Nat → Nat} {x : Nat → Dt} {C : Nat → Option Addr} {P lo hi : Nat → Nat} (h : Prt W T b n n len x C P lo hi) (hB : B ≤ b) (cap : Nat) : (Dt.list n 1 (fun i _ => x i)).Own W B W.heap.size (.slice (some ⟨b, 0, none⟩) n cap) := by
  refine ⟨_, _, rfl, .inr ⟨b, fun i _ => lo i, fun i _ => hi i, rfl, ⟨hB, h.row.lt, h.row.lt, fun i j hi hj => ?_, fun i j hi hj => ?_, fun i j hi hj => ?_, fun i j hi hj => ?_, fun i j i' j' hi hj hi' hj' hne => ?_⟩⟩⟩
  · obtain rfl : j = 0 := by omega
    refine ⟨_, ?_, (h.it i hi).2.2⟩
    rw [Nat.mul_one, Nat.add_zero, h.row.cell hi, if_pos hi]
  · have := (h.it i hi).1; omega
  · exact (h.it i hi).2.1
  · intro q; have := (h.it i hi).1; omega
  · have hne' : i ≠ i' := fun e => hne ⟨e, by omega⟩
    rcases Nat.lt_or_gt_of_ne hne' with q | q
    · exact .inl (h.ord i i' q hi')
    · exact .inr (h.ord i' i q hi)

/-- A query's two slices, one behind the other. -/
def qv (u v : Nat → Value) (c : Nat) : Value := if c % 2 = 0 then u (c / 2) else v (c / 2)
end Go.Proofs.YtkpohajmcngjcaaGreatDoor
