/- Several texts in one: What the laws' likenesses of elements and of sources find. Conditions: rows that can be read, lengths of at most 2 to the 40. · Three and four elements in a row: words. No condition but those that each theorem states. -/
import Derived.Test.YtkpohajmcngjcaaGreatDoorBzae
import Derived.Deep.QuietTactic
import Derived.BigQuiet
import Derived.Test.YtkpohajmcngjcaaGreatDoorBzaj
import Derived.Test.YtkpohajmcngjcaaGreatDoorBzbd
namespace Go.Proofs.YtkpohajmcngjcaaGreatDoor
open Go.ChangeShapes Go.WideShapes Go.ChangeAt Go.RowKit
set_option linter.unusedVariables false
set_option maxRecDepth 100000
set_option linter.unusedSimpArgs false

set_option maxHeartbeats 1000000 in
theorem sameExts_any (c d : Option Addr) (n m cap cap' : Nat) (f g f' g' : Nat → Int) (w : World) (h : Hid (PairV w c n f g)) (h' : Hid (PairV w d m f' g')) (hm : n = m) (he : ∀ i, i < n → f i = f' i ∧ g i = g' i) (hn : n ≤ 1099511627776) :
    Calls Tryz.prog 62 #[.slice c n cap, .slice d m cap'] w fun e w' => e = .returned (.bool true) ∧ Chg nob w w' := by
  subst hm
  have HE := hide he
  clear he
  go_enter Tryz.func62, Tryz.ntmps62
  go_wp2
  go_loopw [5] (fun i W => ∃ k : Nat, k ≤ n ∧ i = .int .i64 k ∧ Hid (Chg nob w W)) (fun i _ => n - (intOf i).toNat)
  case atStart => exact ⟨0, Nat.zero_le _, rfl, hide (Chg.refl _ _)⟩
  case round =>
    obtain ⟨k, hk, rfl, HC⟩ := hrel
    by_cases hlt : k < n
    · have hk0 : (0 : Int) ≤ (k : Int) := by omega
      have hk1 : (k : Int) < (n : Int) := by omega
      obtain ⟨xb, xo, rfl, hxb, hx0, hx1⟩ := (h.out.keep HC.out) k hlt
      obtain ⟨yb, yo, rfl, hyb, hy0, hy1⟩ := (h'.out.keep HC.out) k hlt
      rw [← (HE.out k hlt).1] at hy0
      rw [← (HE.out k hlt).2] at hy1
      go_wp2
      go_quiet (fail)
      go_wp2
      go_roundw
      case rel => exact ⟨k + 1, by omega, by go_num, hide (HC.out.drewN _)⟩
      case measure => simp [intOf]; omega
    · go_wp2
      go_ret
      exact ⟨rfl, HC.out⟩

set_option maxHeartbeats 1000000 in
theorem sameSource_any (c d : Option Addr) (n cap cap' : Nat) (f g : Nat → Int) (at' : Int) (st : ByteArray) (ct : Int) (w : World) (h : Hid (PairV w c n f g)) (h' : Hid (PairV w d n f g)) (hn : n ≤ 1099511627776) :
    Calls Tryz.prog 29 #[.agg #[.slice c n cap, .int .i64 at', .string st, .int .i64 ct], .agg #[.slice d n cap', .int .i64 at', .string st, .int .i64 ct]] w fun e w' => e = .returned (.bool true) ∧ Chg nob w w' := by
  go_enter Tryz.func29, Tryz.ntmps29
  go_wp2_with fail
  refine (sameExts_any c d n n cap cap' f g f g _ (hik (h.out.keep (((Chg.refl nob w).alloc _).alloc _))) (hik (h'.out.keep (((Chg.refl nob w).alloc _).alloc _))) rfl (fun _ _ => ⟨rfl, rfl⟩) hn).mono ?_
  rintro e W1 ⟨rfl, k1⟩
  have G1 := hik ((((Chg.refl nob w).alloc (.cells #[.slice c n cap, .int .i64 at', .string st, .int .i64 ct] 35)).alloc (.cells #[.slice d n cap', .int .i64 at', .string st, .int .i64 ct] 35)).trans k1)
  have x1 : W1.cell? ⟨w.heap.size, 1, none⟩ = some (.int .i64 at') := k1.look (by go_simp)
  have x2 : W1.cell? ⟨w.heap.size, 2, none⟩ = some (.string st) := k1.look (by go_simp)
  have x3 : W1.cell? ⟨w.heap.size, 3, none⟩ = some (.int .i64 ct) := k1.look (by go_simp)
  have y1 : W1.cell? ⟨w.heap.size + 1, 1, none⟩ = some (.int .i64 at') := k1.look (by go_simp)
  have y2 : W1.cell? ⟨w.heap.size + 1, 2, none⟩ = some (.string st) := k1.look (by go_simp)
  have y3 : W1.cell? ⟨w.heap.size + 1, 3, none⟩ = some (.int .i64 ct) := k1.look (by go_simp)
  clear k1
  go_wp2
  go_ret
  exact ⟨by simp, G1.out⟩


end Go.Proofs.YtkpohajmcngjcaaGreatDoor

namespace Go.Proofs.YtkpohajmcngjcaaGreatDoor
open Go.ChangeShapes Go.WideShapes Go.ChangeAt Go.RowKit
set_option linter.unusedVariables false
set_option maxRecDepth 100000
set_option linter.unusedSimpArgs false

/-- One of four. -/
def pk4 (a b c d : Int) (i : Nat) : Int := if i = 0 then a else if i = 1 then b else if i = 2 then c else d
theorem pair3_new (W : World) (a0 a1 b0 b1 c0 c1 : Int) (t : TypeId) : PairV (W.alloc (.cells #[.int .i64 a0, .int .i64 a1, .int .i64 b0, .int .i64 b1, .int .i64 c0, .int .i64 c1] t)) (some ⟨W.heap.size, 0, none⟩) 3 (pk4 a0 b0 c0 0) (pk4 a1 b1 c1 0) := by
  intro i hi
  rcases (show i = 0 ∨ i = 1 ∨ i = 2 by omega) with rfl | rfl | rfl <;> exact ⟨W.heap.size, 0, rfl, by simp, by simp [pk4], by simp [pk4]⟩

end Go.Proofs.YtkpohajmcngjcaaGreatDoor
