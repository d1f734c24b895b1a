/- Several texts in one: Four bytes of a number, as a text. No condition but those that are stated. · One of a system's three matrices: plain, and the program's index. · What a system's digest is made of: plain. · Three lists of entries that lie in a block: words. No condition but those that each theorem states. -/
import Derived.Test.YtkpohajmcngjcaaGreatDoorBzaa
import Derived.Test.YtkpohajmcngjcaaGreatDoorBzaf
import Derived.Test.YtkpohajmcngjcaaGreatDoorBzaj
import Derived.Test.YtkpohajmcngjcaaGreatDoorBzaw
import Derived.Test.YtkpohajmcngjcaaGreatDoorBzaz
namespace Go.Proofs.YtkpohajmcngjcaaGreatDoor
open Go.ChangeShapes Go.WideShapes Go.ChangeAt Go.RowKit
set_option linter.unusedVariables false

/-- Four bytes of a number, as a text. -/
def be4 (a : Int) : ByteArray := bt (wb a) 4
theorem be4_size (a : Int) : (be4 a).size = 4 := bt_size _ _
theorem four_row {w' : World} {a : Int} {b : Nat} (hb : b < w'.heap.size) (h : ∀ j u, (wv a)[j]? = some u → w'.cell? ((⟨b, 0, none⟩ : Addr).add j) = some u) : RowV w' (some ⟨b, 0, none⟩) 4 (bb (wb a)) := by
  intro i hi
  refine ⟨b, 0, rfl, hb, ?_⟩
  have q := h i (.int .u8 (wb a i)) (by
    match i, hi with
    | 0, _ => rfl
    | 1, _ => rfl
    | 2, _ => rfl
    | 3, _ => rfl)
  rw [Go.WideShapes.add_plain] at q
  exact q

end Go.Proofs.YtkpohajmcngjcaaGreatDoor

namespace Go.Proofs.YtkpohajmcngjcaaGreatDoor
open Go.RowKit
set_option linter.unusedVariables false

/-- One of three. -/
def pk3 {α : Type} (a b c : α) : Nat → α
  | 0 => a
  | 1 => b
  | _ => c
theorem index3_at (k : Nat) (hk : k < 3) (cA cB cC : Option Addr) (nA pA nB pB nC pC : Nat) (W : World) : (Instr.index 135 (.agg #[.slice cA nA pA, .slice cB nB pB, .slice cC nC pC]) (.int .i64 (k : Int))).run Tryz.prog W = .ok (.slice (pk3 cA cB cC k) (pk3 nA nB nC k) (pk3 pA pB pC k)) W := by
  rcases (show k = 0 ∨ k = 1 ∨ k = 2 by omega) with rfl | rfl | rfl
  · exact index3_0 ..
  · exact index3_1 ..
  · exact index3_2 ..
theorem pk3_le {a b c m : Nat} (ha : a ≤ m) (hb : b ≤ m) (hc : c ≤ m) (k : Nat) : pk3 a b c k ≤ m := by
  unfold pk3
  split <;> assumption
/-- Right entries, of one of the three. -/
theorem sysb_ent {s : Sy} (h : sysb s = true) : (s.nA ≤ 200 ∧ s.nB ≤ 200 ∧ s.nC ≤ 200) ∧ (1 ≤ s.r ∧ s.r ≤ 5 ∧ 2 ≤ s.q ∧ s.q ≤ 5 ∧ 0 ≤ s.p ∧ s.p < 16) ∧ ∀ k i, i < pk3 s.nA s.nB s.nC k → win 32 32 (pk3 s.XA s.XB s.XC k i) = true := by
  unfold sysb at h
  simp only [Bool.and_eq_true, decide_eq_true_eq] at h
  obtain ⟨⟨⟨⟨⟨hr, hq⟩, hp⟩, hA⟩, hB⟩, hC⟩ := h
  have e1 : (2 : Int) ^ s.r.toNat ≤ 32 := by
    rcases (show s.r.toNat = 1 ∨ s.r.toNat = 2 ∨ s.r.toNat = 3 ∨ s.r.toNat = 4 ∨ s.r.toNat = 5 by omega) with e | e | e | e | e <;> rw [e] <;> decide
  have e2 : (2 : Int) ^ s.q.toNat ≤ 32 := by
    rcases (show s.q.toNat = 1 ∨ s.q.toNat = 2 ∨ s.q.toNat = 3 ∨ s.q.toNat = 4 ∨ s.q.toNat = 5 by omega) with e | e | e | e | e <;> rw [e] <;> decide
  have e3 : (2 : Int) ^ (s.q.toNat - 1) ≤ 16 := by
    rcases (show s.q.toNat - 1 = 1 ∨ s.q.toNat - 1 = 2 ∨ s.q.toNat - 1 = 3 ∨ s.q.toNat - 1 = 4 by omega) with e | e | e | e <;> rw [e] <;> decide
  have wd : ∀ {R C : Int} {x : En}, R ≤ 32 → C ≤ 32 → win R C x = true → win 32 32 x = true := fun a b h => by
    unfold win at h ⊢
    simp only [Bool.and_eq_true, decide_eq_true_eq] at h ⊢
    omega
  obtain ⟨nA, wA⟩ := elm_parts hA
  obtain ⟨nB, wB⟩ := elm_parts hB
  obtain ⟨nC, wC⟩ := elm_parts hC
  refine ⟨⟨nA, nB, nC⟩, ⟨hr.1, hr.2, hq.1, hq.2, hp.1, by omega⟩, fun k i hi => ?_⟩
  unfold pk3 at hi ⊢
  split at hi
  · exact wd e1 e2 (wA i hi)
  · exact wd e1 e2 (wB i hi)
  · exact wd e1 e2 (wC i hi)
theorem win32 {x : En} (h : win 32 32 x = true) : 0 ≤ x.1 ∧ x.1 < 32 ∧ 0 ≤ x.2.1 ∧ x.2.1 < 32 ∧ 1 ≤ x.2.2 ∧ x.2.2 < 2130706433 := by
  unfold win at h
  simp only [Bool.and_eq_true, decide_eq_true_eq] at h
  omega
theorem SyV.syAt {W : World} {s : Sy} {a : SyA} (h : SyV W s a) (k : Nat) : EntV W (pk3 a.cA a.cB a.cC k) (pk3 s.nA s.nB s.nC k) (pk3 s.XA s.XB s.XC k) := by
  unfold pk3
  split
  · exact h.A
  · exact h.B
  · exact h.C

end Go.Proofs.YtkpohajmcngjcaaGreatDoor

namespace Go.Proofs.YtkpohajmcngjcaaGreatDoor
open Go.RowKit
set_option linter.unusedVariables false

/-- Two bytes, three. -/
def by2 (r c : Int) : ByteArray := bt (fun i => if i = 0 then r else c) 2
def by3 (r q p : Int) : ByteArray := bt (fun i => if i = 0 then r else if i = 1 then q else p) 3
theorem by2_size (r c : Int) : (by2 r c).size = 2 := bt_size _ _
theorem by3_size (r q p : Int) : (by3 r q p).size = 3 := bt_size _ _
theorem by2_at {r c : Int} (r0 : 0 ≤ r) (r1 : r < 256) (c0 : 0 ≤ c) (c1 : c < 256) {j : Nat} (hj : j < 2) : zs (by2 r c) j = if j = 0 then r else c :=
  bt_zs _ 2 j hj (by (try dsimp only); split <;> omega) (by (try dsimp only); split <;> omega)
theorem by3_at {r q p : Int} (r0 : 0 ≤ r) (r1 : r < 256) (q0 : 0 ≤ q) (q1 : q < 256) (p0 : 0 ≤ p) (p1 : p < 256) {j : Nat} (hj : j < 3) : zs (by3 r q p) j = if j = 0 then r else if j = 1 then q else p :=
  bt_zs _ 3 j hj (by (try dsimp only); split <;> (try split) <;> omega) (by (try dsimp only); split <;> (try split) <;> omega)
theorem be4_at (a : Int) {j : Nat} (hj : j < 4) : zs (be4 a) j = wb a j := bt_zs _ 4 j hj (wb_lo a j) (wb_hi a j)
/-- The mark ahead of all. -/
def syW : ByteArray := ⟨#[115, 121, 115, 116, 101, 109]⟩
theorem BT.word (W : World) (t : TypeId) : BT (W.alloc (.cells #[.int .u8 115, .int .u8 121, .int .u8 115, .int .u8 116, .int .u8 101, .int .u8 109] t (6, 7))) W.heap.size W.heap.size 6 6 syW :=
  ⟨rfl, ⟨Nat.le_refl _, by simp, Nat.le_refl _, fun i hi => by
    have hb : (W.alloc (.cells #[.int .u8 115, .int .u8 121, .int .u8 115, .int .u8 116, .int .u8 101, .int .u8 109] t (6, 7))).heap[W.heap.size]? = some (.cells #[.int .u8 115, .int .u8 121, .int .u8 115, .int .u8 116, .int .u8 101, .int .u8 109] t (6, 7)) := by show (W.heap.push _)[W.heap.size]? = _; simp
    rcases (show i = 0 ∨ i = 1 ∨ i = 2 ∨ i = 3 ∨ i = 4 ∨ i = 5 by omega) with rfl | rfl | rfl | rfl | rfl | rfl <;> (simp only [World.cell?, hb]; rfl), fun i hi => by
    have hb : (W.alloc (.cells #[.int .u8 115, .int .u8 121, .int .u8 115, .int .u8 116, .int .u8 101, .int .u8 109] t (6, 7))).heap[W.heap.size]? = some (.cells #[.int .u8 115, .int .u8 121, .int .u8 115, .int .u8 116, .int .u8 101, .int .u8 109] t (6, 7)) := by show (W.heap.push _)[W.heap.size]? = _; simp
    rcases (show i = 0 ∨ i = 1 ∨ i = 2 ∨ i = 3 ∨ i = 4 ∨ i = 5 by omega) with rfl | rfl | rfl | rfl | rfl | rfl <;> (simp only [World.cell?, World.frozen?, hb]; exact ⟨rfl, rfl⟩)⟩, by decide⟩
def sdE (T : ByteArray) (X : Nat → En) : Nat → ByteArray
  | 0 => T
  | k + 1 => sdE T X k ++ by2 (X k).1 (X k).2.1 ++ be4 (X k).2.2
def sdP (T : ByteArray) (n : Nat) (X : Nat → En) : ByteArray := sdE (T ++ be4 n) X n
def sd0 (s : Sy) : ByteArray := syW ++ by3 s.r s.q s.p
/-- The text behind the first k matrices. -/
def sdK (s : Sy) : Nat → ByteArray
  | 0 => sd0 s
  | k + 1 => sdP (sdK s k) (pk3 s.nA s.nB s.nC k) (pk3 s.XA s.XB s.XC k)
theorem sdE_size (T : ByteArray) (X : Nat → En) : ∀ k, (sdE T X k).size = T.size + 6 * k
  | 0 => rfl
  | k + 1 => by
    unfold sdE
    rw [ByteArray.size_append, ByteArray.size_append, by2_size, be4_size, sdE_size T X k]
    omega
theorem sdP_size (T : ByteArray) (n : Nat) (X : Nat → En) : (sdP T n X).size = T.size + 4 + 6 * n := by
  unfold sdP
  rw [sdE_size, ByteArray.size_append, be4_size]
theorem sd0_size (s : Sy) : (sd0 s).size = 9 := by
  unfold sd0
  rw [ByteArray.size_append, by3_size]
  rfl
theorem sdK_size {s : Sy} (hA : s.nA ≤ 200) (hB : s.nB ≤ 200) (hC : s.nC ≤ 200) : ∀ k, (sdK s k).size ≤ 9 + 1204 * k
  | 0 => by rw [sdK, sd0_size]; omega
  | k + 1 => by
    rw [sdK, sdP_size]
    have := sdK_size hA hB hC k
    have := pk3_le hA hB hC k
    omega
/-- What is told. -/
def sdc (s : Sy) : Int := if sysb s = true then 0 else 1
def sdv (s : Sy) : ByteArray := if sysb s = true then hsh (sdK s 3) else ⟨#[]⟩

end Go.Proofs.YtkpohajmcngjcaaGreatDoor

namespace Go.Proofs.YtkpohajmcngjcaaGreatDoor
open Go.ChangeShapes Go.WideShapes Go.ChangeAt Go.RowKit
set_option linter.unusedVariables false
set_option maxRecDepth 100000
set_option linter.unusedSimpArgs false

/-- Three lists that lie in a block. -/
def Ls3 (W : World) (g : Nat) (s : Sy) (a : SyA) : Prop := g < W.heap.size ∧ ∀ i, i < 3 → W.cell? ⟨g, i, none⟩ = some (.slice (pk3 a.cA a.cB a.cC i) (pk3 s.nA s.nB s.nC i) (pk3 a.pA a.pB a.pC i))
theorem Ls3.chg {P : Nat → Prop} {W W' : World} {g : Nat} {s : Sy} {a : SyA} (h : Ls3 W g s a) (k : Chg P W W') (hp : ¬ P g) : Ls3 W' g s a :=
  ⟨Nat.lt_of_lt_of_le h.1 k.size, fun i hi => by rw [k.cell (p := ⟨g, i, none⟩) h.1 hp]; exact h.2 i hi⟩
theorem Ls3.keep {W W' : World} {g : Nat} {s : Sy} {a : SyA} (h : Ls3 W g s a) (k : Chg nob W W') : Ls3 W' g s a := h.chg k (fun x => x)
theorem Ls3.other {W : World} {g b : Nat} {s : Sy} {a : SyA} (h : Ls3 W g s a) (hne : g ≠ b) (o o' : Nat) (u v : Value) : Ls3 ((W.setCell ⟨b, o, none⟩ u).setCell ⟨b, o', none⟩ v) g s a :=
  ⟨by simpa using h.1, fun i hi => (by rw [World.cell?_setCell_far _ _ _ _ (fun h => hne h.symm), World.cell?_setCell_far _ _ _ _ (fun h => hne h.symm)]; exact h.2 i hi)⟩
theorem Ls3.new (W : World) (s : Sy) (a : SyA) (t : TypeId) : Ls3 (W.alloc (.cells #[.slice a.cA s.nA a.pA, .slice a.cB s.nB a.pB, .slice a.cC s.nC a.pC] t)) W.heap.size s a :=
  ⟨by simp, fun i hi => by rcases (show i = 0 ∨ i = 1 ∨ i = 2 by omega) with rfl | rfl | rfl <;> simp [pk3]⟩

end Go.Proofs.YtkpohajmcngjcaaGreatDoor
