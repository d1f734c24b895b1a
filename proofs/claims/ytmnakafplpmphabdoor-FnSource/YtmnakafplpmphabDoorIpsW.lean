/- The program's numbers as four bytes: contracts. Conditions: numbers below the prime. -/
import Derived.Test.YtmnakafplpmphabDoorSpsB
namespace Go.Proofs.YtmnakafplpmphabDoor
open Go.ChangeShapes Go.WideShapes Go.ChangeAt Go.RowKit
set_option linter.unusedVariables false
set_option maxRecDepth 100000
set_option linter.unusedSimpArgs false

theorem owns_nil (w : World) (B : Nat) (t : TypeId) (z : Nat) : w.ownsRow B t z (.slice none 0 0) 0 [] := ⟨by simp, .inl ⟨rfl, rfl⟩⟩

set_option maxHeartbeats 1000000 in
theorem appendWord_nil (a : Int) (w : World) (a0 : 0 ≤ a) (a1 : a < 2130706433) :
    Calls Tryd.prog 120 #[.slice none 0 0, .int .i64 a] w fun e w' => Four w a e w' := by
  obtain ⟨i0, hi, hz0, hz1, hz2⟩ := info_parts infoU8
  have HI := hide hi
  have HZ0 := hide hz0
  have HZ1 := hide hz1
  have HZ2 := hide hz2
  clear hi hz0 hz1 hz2
  go_enter Tryd.func120, Tryd.ntmps120
  go_wp2_with (at_builtin; refine wpList_append_own _ rfl (.tmp 5) (.tmp 17) 22 rfl w.heap.size 5 i0 (.int .u8 0) 1 1 Tryd.underlying22 HI.out HZ0.out HZ1.out HZ2.out rfl (by decide) _ 0 _ rfl (owns_nil _ _ _ _) ⟨_, 0, none⟩ 4 4 (wv a) rfl rfl ?c1 ?c2 ?c3 ?c4 ?c5 ?c6)
  case c1 =>
    intro j u hj
    match j, hj with
    | 0, hj => simp [wv, wb] at hj; subst hj; simp [Addr.add]; omega
    | 1, hj => simp [wv, wb] at hj; subst hj; simp [Addr.add]
    | 2, hj => simp [wv, wb] at hj; subst hj; simp [Addr.add]
    | 3, hj => simp [wv, wb] at hj; subst hj; simp [Addr.add]
    | j + 4, hj => simp [wv] at hj
  case c2 => intro u hu; simp [wv] at hu; rcases hu with rfl | rfl | rfl | rfl <;> rfl
  case c3 => unfold maxLen; omega
  case c4 => omega
  case c5 => simp
  case c6 =>
    intro v' w1 hown hgr _
    have HO : Hid (w1.ownsRow w.heap.size 5 1 v' 4 (wv a)) := hik (by simpa using hown)
    have HG := hik (((Chg.refl nob w).alloc _).grown hgr (fun b e _ => by cases e))
    clear hown hgr
    go_wp2
    go_ret
    exact four_of HO.out HG.out

set_option maxHeartbeats 1000000 in
theorem wordText_any (a : Int) (w : World) (a0 : 0 ≤ a) (a1 : a < 2130706433) :
    Calls Tryd.prog 114 #[.int .i64 a] w fun e w' => e = .returned (.string (be4 a)) ∧ Chg nob w w' := by
  go_enter Tryd.func114, Tryd.ntmps114
  go_wp2_with fail
  refine (appendWord_nil a _ a0 a1).mono ?_
  rintro e W1 ⟨b1, p1, hb1, rfl, hcells, k1⟩
  have K1 := hik k1
  have hcv := convB (some ⟨b1, 0, none⟩) 4 p1 (wb a) W1 (four_row (World.block_lt_of_cell? W1 _ (hcells 0 _ rfl)) hcells)
  have hcv : (convert 22 9 (.slice (some ⟨b1, 0, none⟩) 4 p1)).run Tryd.prog W1 = .ok (.string (be4 a)) W1 := hcv
  clear hcells k1 hb1
  go_wp2
  go_ret
  exact ⟨rfl, K1.out⟩

end Go.Proofs.YtmnakafplpmphabDoor
