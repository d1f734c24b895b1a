/- Several texts in one: Four bytes of a number, as a text. No condition but those that are stated. · What a system's digest is made of: plain. -/
import Derived.Test.YtbjhppamolmpeaaBzaa
import Derived.Test.YtbjhppamolmpeaaBzah
import Derived.Test.YtbjhppamolmpeaaBzaj
import Derived.Test.YtbjhppamolmpeaaBzap
import Derived.Test.YtbjhppamolmpeaaMrkM
namespace Go.Proofs.Ytbjhppamolmpeaa
open Go.ChangeShapes Go.WideShapes Go.ChangeAt Go.RowKit
set_option linter.unusedVariables false

/-- Four bytes of a number, as a text. -/
def be4 (a : Int) : ByteArray := bt (wb a) 4
theorem be4_size (a : Int) : (be4 a).size = 4 := bt_size _ _

end Go.Proofs.Ytbjhppamolmpeaa

namespace Go.Proofs.Ytbjhppamolmpeaa
open Go.RowKit
set_option linter.unusedVariables false

/-- Two bytes, three. -/
def by2 (r c : Int) : ByteArray := bt (fun i => if i = 0 then r else c) 2
def by3 (r q p : Int) : ByteArray := bt (fun i => if i = 0 then r else if i = 1 then q else p) 3
theorem by2_size (r c : Int) : (by2 r c).size = 2 := bt_size _ _
theorem by3_size (r q p : Int) : (by3 r q p).size = 3 := bt_size _ _
theorem by2_at {r c : Int} (r0 : 0 ≤ r) (r1 : r < 256) (c0 : 0 ≤ c) (c1 : c < 256) {j : Nat} (hj : j < 2) : zs (by2 r c) j = if j = 0 then r else c :=
  bt_zs _ 2 j hj (by (try dsimp only); split <;> omega) (by (try dsimp only); split <;> omega)
theorem by3_at {r q p : Int} (r0 : 0 ≤ r) (r1 : r < 256) (q0 : 0 ≤ q) (q1 : q < 256) (p0 : 0 ≤ p) (p1 : p < 256) {j : Nat} (hj : j < 3) : zs (by3 r q p) j = if j = 0 then r else if j = 1 then q else p :=
  bt_zs _ 3 j hj (by (try dsimp only); split <;> (try split) <;> omega) (by (try dsimp only); split <;> (try split) <;> omega)
theorem be4_at (a : Int) {j : Nat} (hj : j < 4) : zs (be4 a) j = wb a j := bt_zs _ 4 j hj (wb_lo a j) (wb_hi a j)
/-- The mark ahead of all. -/
def syW : ByteArray := ⟨#[115, 121, 115, 116, 101, 109]⟩
theorem BT.word (W : World) (t : TypeId) : BT (W.alloc (.cells #[.int .u8 115, .int .u8 121, .int .u8 115, .int .u8 116, .int .u8 101, .int .u8 109] t (6, 7))) W.heap.size W.heap.size 6 6 syW :=
  ⟨rfl, ⟨Nat.le_refl _, by simp, Nat.le_refl _, fun i hi => by
    have hb : (W.alloc (.cells #[.int .u8 115, .int .u8 121, .int .u8 115, .int .u8 116, .int .u8 101, .int .u8 109] t (6, 7))).heap[W.heap.size]? = some (.cells #[.int .u8 115, .int .u8 121, .int .u8 115, .int .u8 116, .int .u8 101, .int .u8 109] t (6, 7)) := by show (W.heap.push _)[W.heap.size]? = _; simp
    rcases (show i = 0 ∨ i = 1 ∨ i = 2 ∨ i = 3 ∨ i = 4 ∨ i = 5 by omega) with rfl | rfl | rfl | rfl | rfl | rfl <;> (simp only [World.cell?, hb]; rfl), fun i hi => by
    have hb : (W.alloc (.cells #[.int .u8 115, .int .u8 121, .int .u8 115, .int .u8 116, .int .u8 101, .int .u8 109] t (6, 7))).heap[W.heap.size]? = some (.cells #[.int .u8 115, .int .u8 121, .int .u8 115, .int .u8 116, .int .u8 101, .int .u8 109] t (6, 7)) := by show (W.heap.push _)[W.heap.size]? = _; simp
    rcases (show i = 0 ∨ i = 1 ∨ i = 2 ∨ i = 3 ∨ i = 4 ∨ i = 5 by omega) with rfl | rfl | rfl | rfl | rfl | rfl <;> (simp only [World.cell?, World.frozen?, hb]; exact ⟨rfl, rfl⟩)⟩, by decide⟩
def sdE (T : ByteArray) (X : Nat → En) : Nat → ByteArray
  | 0 => T
  | k + 1 => sdE T X k ++ by2 (X k).1 (X k).2.1 ++ be4 (X k).2.2
def sdP (T : ByteArray) (n : Nat) (X : Nat → En) : ByteArray := sdE (T ++ be4 n) X n
def sd0 (s : Sy) : ByteArray := syW ++ by3 s.r s.q s.p
/-- The text behind the first k matrices. -/
def sdK (s : Sy) : Nat → ByteArray
  | 0 => sd0 s
  | k + 1 => sdP (sdK s k) (pk3 s.nA s.nB s.nC k) (pk3 s.XA s.XB s.XC k)
theorem sdE_size (T : ByteArray) (X : Nat → En) : ∀ k, (sdE T X k).size = T.size + 6 * k
  | 0 => rfl
  | k + 1 => by
    unfold sdE
    rw [ByteArray.size_append, ByteArray.size_append, by2_size, be4_size, sdE_size T X k]
    omega
theorem sdP_size (T : ByteArray) (n : Nat) (X : Nat → En) : (sdP T n X).size = T.size + 4 + 6 * n := by
  unfold sdP
  rw [sdE_size, ByteArray.size_append, be4_size]
theorem sd0_size (s : Sy) : (sd0 s).size = 9 := by
  unfold sd0
  rw [ByteArray.size_append, by3_size]
  rfl

end Go.Proofs.Ytbjhppamolmpeaa
