/- Several texts in one: Bytes of elements: what is written, how, by the program and by its model: contracts. Conditions: rows that can be read, right elements. · What the laws' helpers on slices of bytes, and on own rows of elements, do: contracts. Conditions: rows that can be read, lengths of at most 2 to the 40. · The model's four bytes of a number: a contract. Condition: a number of the field. · The model's bytes of a list: contracts. Conditions: rows that can be read, right elements. -/
import Derived.Test.YtkpohajmcngjcaaGreatDoorBzae
import Derived.OwnWalk
import Derived.Deep.QuietTactic
import Derived.BigQuiet
import Derived.Deep.RegionWith
import Derived.Deep.AppendLies
namespace Go.Proofs.YtkpohajmcngjcaaGreatDoor
open Go.ChangeShapes Go.WideShapes Go.ChangeAt Go.RowKit
set_option linter.unusedVariables false
set_option linter.unusedSimpArgs false

theorem infoU8 : (Tryz.prog.info? 5).map (fun i => (i.zero, i.size, i.bytes)) = some (some (.int .u8 0), 1, 1) := by kernel_rfl
/-- The four bytes of a number, the higher ones first. -/
def wb (a : Int) : Nat → Int
  | 0 => a / 16777216 % 256
  | 1 => a / 65536 % 256
  | 2 => a / 256 % 256
  | _ => a % 256
/-- The bytes of elements. -/
def byt (f g : Nat → Int) (i : Nat) : Int := if i % 8 < 4 then wb (f (i / 8)) (i % 8) else wb (g (i / 8)) (i % 8 - 4)
def bvl (f g : Nat → Int) (i : Nat) : Value := .int .u8 (byt f g i)
theorem wb_lo (a : Int) (j : Nat) : 0 ≤ wb a j := by unfold wb; split <;> omega
theorem wb_hi (a : Int) (j : Nat) : wb a j < 256 := by unfold wb; split <;> omega
/-- The values of a number's bytes. -/
def wv (a : Int) : List Value := [.int .u8 (wb a 0), .int .u8 (wb a 1), .int .u8 (wb a 2), .int .u8 (wb a 3)]

/-- The code of a list. -/
def bc (f g : Nat → Int) (n : Nat) : Int := if 4096 < n then 2 else if okP f g n then 0 else 1
/-- No bytes, and a code. -/
def NoBytes (w : World) (code : Int) (e : Ending) (w' : World) : Prop := e = .returned (.tuple #[.slice none 0 0, .int .i64 code]) ∧ Chg nob w w'
/-- A new row of the bytes. -/
def NewBytes (w : World) (n : Nat) (f g : Nat → Int) (e : Ending) (w' : World) : Prop :=
  ∃ b : Nat, w.heap.size ≤ b ∧ e = .returned (.tuple #[.slice (some ⟨b, 0, none⟩) (n * 8) (n * 8), .int .i64 0]) ∧ w'.rowIs b 5 (n * 8) (bvl f g) ∧ Chg nob w w'
/-- Either, by the code. -/
def EAns (w : World) (n : Nat) (f g : Nat → Int) (e : Ending) (w' : World) : Prop := (bc f g n ≠ 0 ∧ NoBytes w (bc f g n) e w') ∨ (bc f g n = 0 ∧ NewBytes w n f g e w')
theorem EAns.no {w w' : World} {n : Nat} {f g : Nat → Int} {e : Ending} {code : Int} (hb : bc f g n = code) (hc : code ≠ 0) (h : e = .returned (.tuple #[.slice none 0 0, .int .i64 code])) (k : Chg nob w w') : EAns w n f g e w' :=
  .inl ⟨by rw [hb]; exact hc, by rw [hb]; exact ⟨h, k⟩⟩


end Go.Proofs.YtkpohajmcngjcaaGreatDoor

namespace Go.Proofs.YtkpohajmcngjcaaGreatDoor
open Go.ChangeShapes Go.WideShapes Go.ChangeAt Go.RowKit
set_option linter.unusedVariables false
set_option maxRecDepth 100000
set_option linter.unusedSimpArgs false


end Go.Proofs.YtkpohajmcngjcaaGreatDoor

namespace Go.Proofs.YtkpohajmcngjcaaGreatDoor
open Go.ChangeShapes Go.WideShapes Go.ChangeAt Go.RowKit
set_option linter.unusedVariables false
set_option linter.unusedSimpArgs false

/-! The model's. -/
theorem owns_none (w : World) (B : Nat) (t : TypeId) (z : Nat) (hB : B ≤ w.heap.size) : (w.alloc (.cells #[] t)).ownsRow B t z (.slice (some ⟨w.heap.size, 0, none⟩) 0 0) 0 [] :=
  ⟨by simp, .inr ⟨w.heap.size, 0, #[], rfl, hB, Array.getElem?_push_size, Nat.le_refl _, Nat.zero_le _, by simp, by simp⟩⟩
/-- Four bytes in new memory. -/
def Four (w : World) (a : Int) (e : Ending) (w' : World) : Prop :=
  ∃ b cap : Nat, w.heap.size ≤ b ∧ e = .returned (.slice (some ⟨b, 0, none⟩) 4 cap) ∧ (∀ j u, (wv a)[j]? = some u → w'.cell? ((⟨b, 0, none⟩ : Addr).add j) = some u) ∧ Chg nob w w'
theorem four_of {w w' : World} {a : Int} {v : Value} {t : TypeId} (h : w'.ownsRow w.heap.size t 1 v 4 (wv a)) (k : Chg nob w w') : Four w a (.returned v) w' := by
  have h' := h
  rcases h.2 with ⟨_, h0⟩ | ⟨g, cap, cur, rfl, hb, _⟩
  · cases h0
  · exact ⟨g, cap, hb, rfl, h'.cells rfl, k⟩

set_option maxHeartbeats 2000000 in
theorem l02Number_any (a : Int) (w : World) (a0 : 0 ≤ a) (a1 : a < 2130706433) :
    Calls Tryz.prog 69 #[.int .i64 a, .int .i64 4] w fun e w' => Four w a e w' := by
  obtain ⟨i0, hi, hz0, hz1, hz2⟩ := info_parts infoU8
  have HI := hide hi
  have HZ0 := hide hz0
  have HZ1 := hide hz1
  have HZ2 := hide hz2
  clear hi hz0 hz1 hz2
  go_enter Tryz.func69, Tryz.ntmps69
  go_wp2
  go_loopw [5, 6] (fun v i W => ∃ k : Nat, k ≤ 4 ∧ i = .int .i64 (3 - (k : Int)) ∧ Hid (W.ownsRow w.heap.size 5 1 v k ((wv a).take k)) ∧ Hid (Chg nob w W)) (fun _ i _ => (intOf i + 1).toNat)
  case atStart => exact ⟨0, by omega, rfl, hide (owns_none _ _ _ _ (Nat.le_refl _)), hide ((Chg.refl _ _).alloc _)⟩
  case round =>
    obtain ⟨k, hk, rfl, HW, HC⟩ := hrel
    have hsz := HC.out.size
    by_cases hlt : k < 4
    · have hd : k = 0 ∨ k = 1 ∨ k = 2 ∨ k = 3 := by omega
      rcases hd with rfl | rfl | rfl | rfl
      · go_wp2_with (at_builtin; refine wpList_append_own _ rfl (.tmp 14) (.tmp 21) 53 rfl w.heap.size 5 i0 (.int .u8 0) 1 1 Tryz.underlying53 HI.out HZ0.out HZ1.out HZ2.out rfl (by decide) _ 0 _ rfl (HW.out.alloc _) ⟨_, 0, none⟩ 1 1 [.int .u8 (wb a 0)] rfl rfl ?c1 ?c2 ?c3 ?c4 ?c5 ?c6)
        case c1 =>
          intro j u hj
          match j, hj with
          | 0, hj => simp [wb] at hj; subst hj; simp [Addr.add]; omega
          | j + 1, hj => simp at hj
        case c2 => intro u hu; simp at hu; subst hu; rfl
        case c3 => unfold maxLen; omega
        case c4 => omega
        case c5 => simp; omega
        case c6 =>
          intro v' w1 hown hgr _
          have HOW : Hid (w1.ownsRow w.heap.size 5 1 v' (0 + 1) ((wv a).take (0 + 1))) := hide hown
          have HGC := hide ((HC.out.alloc _).grown hgr (fun b e l => absurd (HW.out.lt b e).1 (by omega)))
          clear hown hgr
          go_wp2
          go_roundw
          case rel => exact ⟨0 + 1, by omega, by go_num, HOW, HGC⟩
          case measure => simp [intOf]
      · go_wp2_with (at_builtin; refine wpList_append_own _ rfl (.tmp 14) (.tmp 21) 53 rfl w.heap.size 5 i0 (.int .u8 0) 1 1 Tryz.underlying53 HI.out HZ0.out HZ1.out HZ2.out rfl (by decide) _ 1 _ rfl (HW.out.alloc _) ⟨_, 0, none⟩ 1 1 [.int .u8 (wb a 1)] rfl rfl ?c1 ?c2 ?c3 ?c4 ?c5 ?c6)
        case c1 =>
          intro j u hj
          match j, hj with
          | 0, hj => simp [wb] at hj; subst hj; simp [Addr.add]
          | j + 1, hj => simp at hj
        case c2 => intro u hu; simp at hu; subst hu; rfl
        case c3 => unfold maxLen; omega
        case c4 => omega
        case c5 => simp; omega
        case c6 =>
          intro v' w1 hown hgr _
          have HOW : Hid (w1.ownsRow w.heap.size 5 1 v' (1 + 1) ((wv a).take (1 + 1))) := hide hown
          have HGC := hide ((HC.out.alloc _).grown hgr (fun b e l => absurd (HW.out.lt b e).1 (by omega)))
          clear hown hgr
          go_wp2
          go_roundw
          case rel => exact ⟨1 + 1, by omega, by go_num, HOW, HGC⟩
          case measure => simp [intOf]
      · go_wp2_with (at_builtin; refine wpList_append_own _ rfl (.tmp 14) (.tmp 21) 53 rfl w.heap.size 5 i0 (.int .u8 0) 1 1 Tryz.underlying53 HI.out HZ0.out HZ1.out HZ2.out rfl (by decide) _ 2 _ rfl (HW.out.alloc _) ⟨_, 0, none⟩ 1 1 [.int .u8 (wb a 2)] rfl rfl ?c1 ?c2 ?c3 ?c4 ?c5 ?c6)
        case c1 =>
          intro j u hj
          match j, hj with
          | 0, hj => simp [wb] at hj; subst hj; simp [Addr.add]
          | j + 1, hj => simp at hj
        case c2 => intro u hu; simp at hu; subst hu; rfl
        case c3 => unfold maxLen; omega
        case c4 => omega
        case c5 => simp; omega
        case c6 =>
          intro v' w1 hown hgr _
          have HOW : Hid (w1.ownsRow w.heap.size 5 1 v' (2 + 1) ((wv a).take (2 + 1))) := hide hown
          have HGC := hide ((HC.out.alloc _).grown hgr (fun b e l => absurd (HW.out.lt b e).1 (by omega)))
          clear hown hgr
          go_wp2
          go_roundw
          case rel => exact ⟨2 + 1, by omega, by go_num, HOW, HGC⟩
          case measure => simp [intOf]
      · go_wp2_with (at_builtin; refine wpList_append_own _ rfl (.tmp 14) (.tmp 21) 53 rfl w.heap.size 5 i0 (.int .u8 0) 1 1 Tryz.underlying53 HI.out HZ0.out HZ1.out HZ2.out rfl (by decide) _ 3 _ rfl (HW.out.alloc _) ⟨_, 0, none⟩ 1 1 [.int .u8 (wb a 3)] rfl rfl ?c1 ?c2 ?c3 ?c4 ?c5 ?c6)
        case c1 =>
          intro j u hj
          match j, hj with
          | 0, hj => simp [wb] at hj; subst hj; simp [Addr.add]
          | j + 1, hj => simp at hj
        case c2 => intro u hu; simp at hu; subst hu; rfl
        case c3 => unfold maxLen; omega
        case c4 => omega
        case c5 => simp; omega
        case c6 =>
          intro v' w1 hown hgr _
          have HOW : Hid (w1.ownsRow w.heap.size 5 1 v' (3 + 1) ((wv a).take (3 + 1))) := hide hown
          have HGC := hide ((HC.out.alloc _).grown hgr (fun b e l => absurd (HW.out.lt b e).1 (by omega)))
          clear hown hgr
          go_wp2
          go_roundw
          case rel => exact ⟨3 + 1, by omega, by go_num, HOW, HGC⟩
          case measure => simp [intOf]
    · obtain rfl : k = 4 := by omega
      go_wp2
      go_ret
      exact four_of HW.out HC.out


end Go.Proofs.YtkpohajmcngjcaaGreatDoor

namespace Go.Proofs.YtkpohajmcngjcaaGreatDoor
open Go.ChangeShapes Go.WideShapes Go.ChangeAt Go.RowKit
set_option linter.unusedVariables false
set_option linter.unusedSimpArgs false

/-- The model's answer, by the code. -/
def SEAns (w : World) (n : Nat) (f g : Nat → Int) (e : Ending) (w' : World) : Prop :=
  (bc f g n ≠ 0 ∧ ∃ (c0 : Option Addr) (cap0 : Nat), e = .returned (.tuple #[.slice c0 0 cap0, .int .i64 (bc f g n)]) ∧ Chg nob w w') ∨
  (bc f g n = 0 ∧ ∃ (c0 : Option Addr) (cap0 : Nat), e = .returned (.tuple #[.slice c0 (n * 8) cap0, .int .i64 0]) ∧ RowV w' c0 (n * 8) (bvl f g) ∧ Chg nob w w')
theorem SEAns.no {w w' : World} {n : Nat} {f g : Nat → Int} {e : Ending} {code : Int} {c0 : Option Addr} {cap0 : Nat} (hb : bc f g n = code) (hc : code ≠ 0) (h : e = .returned (.tuple #[.slice c0 0 cap0, .int .i64 code])) (k : Chg nob w w') : SEAns w n f g e w' :=
  .inl ⟨by rw [hb]; exact hc, c0, cap0, by rw [hb]; exact h, k⟩


end Go.Proofs.YtkpohajmcngjcaaGreatDoor
