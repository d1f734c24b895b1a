/- What the laws' helpers on slices of bytes do: contracts. Conditions: rows that can be read, lengths of at most 2 to the 40. -/
import Derived.Test.YtmnakafplpmphakDoorKecZ
import Derived.Deep.QuietTactic
import Derived.BigQuiet
namespace Go.Proofs.YtmnakafplpmphakDoor
open Go.ChangeShapes Go.WideShapes Go.ChangeAt Go.RowKit
set_option linter.unusedVariables false
set_option linter.unusedSimpArgs false

set_option maxHeartbeats 1000000 in
theorem toByteB_any (c : Option Addr) (n cap : Nat) (f : Nat → Int) (w : World) (h : Hid (RowV w c n (bb f))) (hn : n ≤ 1099511627776) :
    Calls Tryd.prog 9 #[.slice c n cap] w fun e w' => e = .returned (.slice (some ⟨w.heap.size, 0, none⟩) n n) ∧ w'.rowIs w.heap.size 5 n (bb f) ∧ Chg nob w w' := by
  obtain ⟨i0, hi, hz0, hz1, hz2⟩ := info_parts infoB
  have HI := hik hi
  have HZ0 := hik hz0
  have HZ1 := hik hz1
  have HZ2 := hik hz2
  have hb : i0.bytes * n ≤ 281474976710656 := by rw [hz2]; omega
  clear hi hz0 hz1 hz2
  go_enter Tryd.func9, Tryd.ntmps9
  go_wp2_with (at_make; refine wpList_make_row _ rfl (.tmp 6) (.tmp 6) 25 rfl 5 i0 (.int .u8 0) Tryd.underlying25 HI.out HZ0.out HZ1.out rfl .i64 .i64 n rfl rfl hb (by omega) ?_)
  clear hb HI HZ0 HZ1 HZ2
  go_loopw [4] (fun i W => ∃ k : Nat, k ≤ n ∧ i = .int .i64 k ∧ Hid (W.rowIs w.heap.size 5 n (fun j => if j < k then bb f j else .int .u8 0)) ∧ Hid (Chg nob w W)) (fun i _ => n - (intOf i).toNat)
  case atStart => exact ⟨0, Nat.zero_le _, rfl, hik ((World.rowIs_made w (.int .u8 0) n 5).congr (fun i _ => by simp)), hik ((Chg.refl _ _).alloc _)⟩
  case round =>
    obtain ⟨k, hk, rfl, HR, HC⟩ := hrel
    by_cases hlt : k < n
    · obtain ⟨xb, xo, rfl, hxb, hcell⟩ := (h.out.keep HC.out) k hlt
      have hx : _ = some (Value.int .u8 (f k)) := hcell
      have hg := HR.out.cell hlt
      have hf := HR.out.frozen k
      simp only [Nat.lt_irrefl, if_false] at hg
      have HR2 := hik (show _ from (HR.out.set k (.int .u8 (f k))).congr (g := fun j => if j < k + 1 then bb f j else .int .u8 0) (fun i _ => by
        by_cases e : i = k
        · subst e; simp [bb]
        · by_cases e2 : i < k
          · simp [e, e2, show i < k + 1 by omega]
          · simp [e, e2, show ¬ i < k + 1 by omega]))
      have HC2 := hik (HC.out.setCell (p := ⟨w.heap.size, k, none⟩) (fun l => absurd l (by simp)) (.int .u8 (f k)))
      clear hcell
      go_wp2
      go_roundw
      case rel => exact ⟨k + 1, by omega, by go_num, HR2, HC2⟩
      case measure => simp [intOf]; omega
    · go_wp2
      go_ret
      exact ⟨rfl, HR.out.congr (fun i hi => by simp [show i < k by omega]), HC.out⟩

set_option maxHeartbeats 1000000 in
theorem eqByteB_any (c d : Option Addr) (n m cap cap' : Nat) (f g : Nat → Int) (w : World) (h : Hid (RowV w c n (bb f))) (h' : Hid (RowV w d m (bb g))) (hm : n = m) (he : ∀ i, i < n → f i = g i) (hn : n ≤ 1099511627776) :
    Calls Tryd.prog 11 #[.slice c n cap, .slice d m cap'] w fun e w' => e = .returned (.bool true) ∧ Chg nob w w' := by
  subst hm
  have HE := hik he
  clear he
  go_enter Tryd.func11, Tryd.ntmps11
  go_wp2
  go_loopw [5] (fun i W => ∃ k : Nat, k ≤ n ∧ i = .int .i64 k ∧ Hid (Chg nob w W)) (fun i _ => n - (intOf i).toNat)
  case atStart => exact ⟨0, Nat.zero_le _, rfl, hik (Chg.refl _ _)⟩
  case round =>
    obtain ⟨k, hk, rfl, HC⟩ := hrel
    by_cases hlt : k < n
    · obtain ⟨xb, xo, rfl, hxb, hcell⟩ := (h.out.keep HC.out) k hlt
      have hx : _ = some (Value.int .u8 (f k)) := hcell
      obtain ⟨yb, yo, rfl, hyb, hcell'⟩ := (h'.out.keep HC.out) k hlt
      have hy : _ = some (Value.int .u8 (g k)) := hcell'
      rw [← HE.out k hlt] at hy
      clear hcell hcell'
      go_wp2
      go_quiet (fail)
      go_wp2
      go_roundw
      case rel => exact ⟨k + 1, by omega, by go_num, hik (HC.out.drewN _)⟩
      case measure => simp [intOf]; omega
    · go_wp2
      go_ret
      exact ⟨rfl, HC.out⟩

end Go.Proofs.YtmnakafplpmphakDoor
