/- What HashText and its model answer: contracts. Condition: a string that can be. -/
import Derived.Test.YtmnakafplpmphabDoorKecZ
import Derived.Deep.RegionHeld3
import Derived.Deep.AppendLies
namespace Go.Proofs.YtmnakafplpmphabDoor
open Go.ChangeShapes Go.WideShapes Go.ChangeAt Go.RowKit
set_option linter.unusedVariables false
set_option maxRecDepth 100000
set_option linter.unusedSimpArgs false

/-- The digit of a number below 16. -/
def hexd (n : Nat) : Int := if n < 10 then 48 + (n : Int) else 87 + (n : Int)
/-- The digits of a text. -/
def hxz (s : ByteArray) (i : Nat) : Int := if i % 2 = 0 then hexd (zs s (i / 2) / 16).toNat else hexd (zs s (i / 2) % 16).toNat
def htc (s : ByteArray) : Int := if 65536 < s.size then 2 else if s.size = 32 then 0 else 8
def htt (s : ByteArray) : ByteArray := if s.size = 32 then bt (hxz s) 64 else ⟨#[]⟩
theorem hex_at (n : Nat) (h : n < 16) (w : World) : (Instr.index 9 (.string ⟨#[48, 49, 50, 51, 52, 53, 54, 55, 56, 57, 97, 98, 99, 100, 101, 102]⟩) (.int .u8 (n : Int))).run Tryd.prog w = .ok (.int .u8 (hexd n)) w := by
  match n, h with
  | 0, _ => rfl
  | 1, _ => rfl
  | 2, _ => rfl
  | 3, _ => rfl
  | 4, _ => rfl
  | 5, _ => rfl
  | 6, _ => rfl
  | 7, _ => rfl
  | 8, _ => rfl
  | 9, _ => rfl
  | 10, _ => rfl
  | 11, _ => rfl
  | 12, _ => rfl
  | 13, _ => rfl
  | 14, _ => rfl
  | 15, _ => rfl
  | n + 16, h => omega
theorem and15 (x : Nat) (h : x < 256) : bits .and .u8 (x : Int) 15 = ((x % 16 : Nat) : Int) := by
  have : ∀ x : Fin 256, bits .and .u8 (x.val : Int) 15 = ((x.val % 16 : Nat) : Int) := by decide +kernel
  exact this ⟨x, h⟩
theorem hx_two (s : ByteArray) (k : Nat) : (List.range (2 * k)).map (bb (hxz s)) ++ [.int .u8 (hexd (zs s k / 16).toNat), .int .u8 (hexd (zs s k % 16).toNat)] = (List.range (2 * k + 2)).map (bb (hxz s)) := by
  have e1 : bb (hxz s) (2 * k) = .int .u8 (hexd (zs s k / 16).toNat) := by
    unfold bb hxz; rw [if_pos (by omega), show 2 * k / 2 = k by omega]
  have e2 : bb (hxz s) (2 * k + 1) = .int .u8 (hexd (zs s k % 16).toNat) := by
    unfold bb hxz; rw [if_neg (by omega), show (2 * k + 1) / 2 = k by omega]
  rw [List.range_succ, List.range_succ, List.map_append, List.map_append, ← e1, ← e2]
  simp

set_option maxHeartbeats 2000000 in
theorem hashText_any (s : ByteArray) (w : World) (hm : (s.size : Int) ≤ 9223372036854775807) :
    Calls Tryd.prog 10 #[.string s] w fun e w' => e = .returned (.tuple #[.string (htt s), .int .i64 (htc s)]) ∧ Chg nob w w' := by
  by_cases h1 : 65536 < s.size
  · have h1' : 65536 < (s.size : Int) := by omega
    have hp : htt s = ⟨#[]⟩ := by unfold htt; rw [if_neg (by omega)]
    have hc : htc s = 2 := by unfold htc; rw [if_pos h1]
    rw [hp, hc]
    go_enter Tryd.func10, Tryd.ntmps10
    go_wp2
    go_ret2
    exact ⟨rfl, Chg.refl _ _⟩
  have h1' : ¬ 65536 < (s.size : Int) := by omega
  by_cases h2 : s.size = 32
  · have hp : htt s = bt (hxz s) 64 := by unfold htt; rw [if_pos h2]
    have hc : htc s = 0 := by unfold htc; rw [if_neg h1, if_pos h2]
    rw [hp, hc]
    have h2' : (s.size : Int) = 32 := by omega
    have H2 := hik h2
    clear h2 h1
    obtain ⟨i0, hi, hz0, hz1, hz2⟩ := info_parts infoB
    have HI := hik hi
    have HZ0 := hik hz0
    have HZ1 := hik hz1
    have HZ2 := hik hz2
    have hb : i0.bytes * 64 ≤ 281474976710656 := by rw [hz2]; omega
    clear hi hz0 hz1 hz2
    go_enter Tryd.func10, Tryd.ntmps10
    go_wp2_with (at_make; refine wpList_make_own _ rfl (.const (.int .i64 0)) (.const (.int .i64 64)) 22 rfl w.heap.size 5 i0 (.int .u8 0) 1 Tryd.underlying22 HI.out HZ0.out HZ1.out .i64 .i64 _ 64 rfl rfl (by omega) hb (by unfold maxLen; omega) (Nat.le_refl _) ?_)
    intro w2 hown hgr
    have HW0 := hik hown
    have K2 := hik ((Chg.refl nob w).grown hgr (fun b e _ => by cases e))
    clear hown hgr hb
    go_wp2
    go_loopw [4, 15] (fun v i W => ∃ k : Nat, k ≤ 32 ∧ i = .int .i64 k ∧ Hid (W.ownsRow w.heap.size 5 1 v (2 * k) ((List.range (2 * k)).map (bb (hxz s)))) ∧ Hid (Chg nob w W)) (fun _ i _ => 32 - (intOf i).toNat)
    case atStart => exact ⟨0, by omega, rfl, HW0, K2⟩
    case round =>
      clear HW0 K2
      obtain ⟨k, hk, rfl, HW, HG⟩ := hrel
      have hsz := HG.out.size
      by_cases hlt : k < 32
      · have hlt' : (k : Int) < 32 := by omega
        have hks : k < s.size := by have := H2.out; omega
        have z1 := zs_at s k hks
        have zl := zs_lo s k
        have zh := zs_hi s k
        obtain ⟨c, hc⟩ := Int.eq_ofNat_of_zero_le zl
        obtain ⟨u, hu⟩ : ∃ u : Nat, u = c / 16 := ⟨_, rfl⟩
        obtain ⟨v, hv⟩ : ∃ v : Nat, v = c % 16 := ⟨_, rfl⟩
        have d1 : (c : Int) / 16 = (u : Int) := by omega
        have d2 : bits .and .u8 (c : Int) 15 = (v : Int) := by rw [hv]; exact and15 c (by omega)
        have x1 := hex_at u (by omega)
        have x2 := hex_at v (by omega)
        have HU := hik (show u = (zs s k / 16).toNat by omega)
        have HV := hik (show v = (zs s k % 16).toNat by omega)
        clear hu hv zl zh
        go_wp2
        go_region_held3 (fun _ => True) (exact True.intro) (first | (refine step_append_lies _ (by rfl) (.tmp 18) (.tmp 29) 22 (by rfl) w.heap.size 5 i0 (.int .u8 0) 1 1 Tryd.underlying22 HI.out HZ0.out HZ1.out HZ2.out rfl (by decide) _ (2 * k) _ (by rfl) (HW.out.drew.alloc _) ⟨wr.heap.size, 0, none⟩ 2 2 [.int .u8 (hexd u), .int .u8 (hexd v)] (by rfl) rfl ?c1 ?c2 (by decide) (by unfold maxLen; omega) (by omega) (by simp; omega) _ rfl ?_; (case c1 => (intro j u' hj; match j, hj with | 0, hj => (simp at hj; subst hj; simp [Addr.add]) | 1, hj => (simp at hj; subst hj; simp [Addr.add]) | j + 2, hj => (simp at hj))); (case c2 => (intro u' hu'; simp at hu'; rcases hu' with rfl | rfl <;> rfl)); intro g5 cp5 w5 o5 hg5 hat5 hlt5; have O5 : Hid (w5.ownsRow w.heap.size 5 1 (.slice (some ⟨g5, 0, none⟩) (2 * k + 2) cp5) (2 * k + 2) ((List.range (2 * k + 2)).map (bb (hxz s)))) := hik (by rw [← hx_two, ← HU.out, ← HV.out]; exact o5); clear o5; have G5 := hik (Chg.grown (HG.out.drew1.alloc _) hg5 (fun b e l => absurd (HW.out.lt b e).1 (by omega)))))
        all_goals
          go_wp2
          go_roundw
          case rel => exact ⟨k + 1, by omega, by go_num, hik (by rw [show 2 * (k + 1) = 2 * k + 2 by omega]; exact O5.out), G5⟩
          case measure => simp [intOf]; omega
      · obtain rfl : k = 32 := by omega
        obtain ⟨b, cap, rfl, hb, hbl, hv⟩ := rowV_of_owns HW.out (by omega)
        have hcv := convB (some ⟨b, 0, none⟩) (2 * 32) cap (hxz s) wr hv
        go_wp2
        go_ret2
        exact ⟨rfl, HG.out⟩
  · have hp : htt s = ⟨#[]⟩ := by unfold htt; rw [if_neg h2]
    have hc : htc s = 8 := by unfold htc; rw [if_neg h1, if_neg h2]
    rw [hp, hc]
    have h2' : ¬ (s.size : Int) = 32 := by omega
    go_enter Tryd.func10, Tryd.ntmps10
    go_wp2
    go_ret2
    exact ⟨rfl, Chg.refl _ _⟩
set_option maxHeartbeats 2000000 in
theorem sHashText_any (s : ByteArray) (w : World) (hm : (s.size : Int) ≤ 9223372036854775807) :
    Calls Tryd.prog 11 #[.string s] w fun e w' => e = .returned (.tuple #[.string (htt s), .int .i64 (htc s)]) ∧ Chg nob w w' := by
  by_cases h1 : 65536 < s.size
  · have h1' : 65536 < (s.size : Int) := by omega
    have hp : htt s = ⟨#[]⟩ := by unfold htt; rw [if_neg (by omega)]
    have hc : htc s = 2 := by unfold htc; rw [if_pos h1]
    rw [hp, hc]
    go_enter Tryd.func11, Tryd.ntmps11
    go_wp2
    go_ret2
    exact ⟨rfl, Chg.refl _ _⟩
  have h1' : ¬ 65536 < (s.size : Int) := by omega
  by_cases h2 : s.size = 32
  · have hp : htt s = bt (hxz s) 64 := by unfold htt; rw [if_pos h2]
    have hc : htc s = 0 := by unfold htc; rw [if_neg h1, if_pos h2]
    rw [hp, hc]
    have h2' : (s.size : Int) = 32 := by omega
    have H2 := hik h2
    clear h2 h1
    obtain ⟨i0, hi, hz0, hz1, hz2⟩ := info_parts infoB
    have HI := hik hi
    have HZ0 := hik hz0
    have HZ1 := hik hz1
    have HZ2 := hik hz2
    clear hi hz0 hz1 hz2
    go_enter Tryd.func11, Tryd.ntmps11
    go_wp2
    go_loopw [4, 5] (fun v i W => ∃ k : Nat, k ≤ 32 ∧ i = .int .i64 k ∧ Hid (W.ownsRow w.heap.size 5 1 v (2 * k) ((List.range (2 * k)).map (bb (hxz s)))) ∧ Hid (Chg nob w W)) (fun _ i _ => 32 - (intOf i).toNat)
    case atStart => exact ⟨0, by omega, rfl, hik (owns_new _ _ _ _ (Nat.le_refl _)), hik ((Chg.refl _ _).alloc _)⟩
    case round =>
      obtain ⟨k, hk, rfl, HW, HG⟩ := hrel
      have hsz := HG.out.size
      by_cases hlt : k < 32
      · have hlt' : (k : Int) < 32 := by omega
        have hks : k < s.size := by have := H2.out; omega
        have z1 := zs_at s k hks
        have zl := zs_lo s k
        have zh := zs_hi s k
        obtain ⟨c, hc⟩ := Int.eq_ofNat_of_zero_le zl
        obtain ⟨u, hu⟩ : ∃ u : Nat, u = c / 16 := ⟨_, rfl⟩
        obtain ⟨v, hv⟩ : ∃ v : Nat, v = c % 16 := ⟨_, rfl⟩
        have d1 : (c : Int) / 16 = (u : Int) := by omega
        have d2 : bits .and .u8 (c : Int) 15 = (v : Int) := by rw [hv]; exact and15 c (by omega)
        have x1 := hex_at u (by omega)
        have x2 := hex_at v (by omega)
        have HU := hik (show u = (zs s k / 16).toNat by omega)
        have HV := hik (show v = (zs s k % 16).toNat by omega)
        clear hu hv zl zh
        go_wp2
        go_region_held3 (fun _ => True) (exact True.intro) (first | (refine step_append_lies _ (by rfl) (.tmp 19) (.tmp 30) 22 (by rfl) w.heap.size 5 i0 (.int .u8 0) 1 1 Tryd.underlying22 HI.out HZ0.out HZ1.out HZ2.out rfl (by decide) _ (2 * k) _ (by rfl) (HW.out.drew.alloc _) ⟨wr.heap.size, 0, none⟩ 2 2 [.int .u8 (hexd u), .int .u8 (hexd v)] (by rfl) rfl ?c1 ?c2 (by decide) (by unfold maxLen; omega) (by omega) (by simp; omega) _ rfl ?_; (case c1 => (intro j u' hj; match j, hj with | 0, hj => (simp at hj; subst hj; simp [Addr.add]) | 1, hj => (simp at hj; subst hj; simp [Addr.add]) | j + 2, hj => (simp at hj))); (case c2 => (intro u' hu'; simp at hu'; rcases hu' with rfl | rfl <;> rfl)); intro g5 cp5 w5 o5 hg5 hat5 hlt5; have O5 : Hid (w5.ownsRow w.heap.size 5 1 (.slice (some ⟨g5, 0, none⟩) (2 * k + 2) cp5) (2 * k + 2) ((List.range (2 * k + 2)).map (bb (hxz s)))) := hik (by rw [← hx_two, ← HU.out, ← HV.out]; exact o5); clear o5; have G5 := hik (Chg.grown (HG.out.drew1.alloc _) hg5 (fun b e l => absurd (HW.out.lt b e).1 (by omega)))))
        all_goals
          go_wp2
          go_roundw
          case rel => exact ⟨k + 1, by omega, by go_num, hik (by rw [show 2 * (k + 1) = 2 * k + 2 by omega]; exact O5.out), G5⟩
          case measure => simp [intOf]; omega
      · obtain rfl : k = 32 := by omega
        obtain ⟨b, cap, rfl, hb, hbl, hv⟩ := rowV_of_owns HW.out (by omega)
        have hcv := convB (some ⟨b, 0, none⟩) (2 * 32) cap (hxz s) wr hv
        go_wp2
        go_ret2
        exact ⟨rfl, HG.out⟩
  · have hp : htt s = ⟨#[]⟩ := by unfold htt; rw [if_neg h2]
    have hc : htc s = 8 := by unfold htc; rw [if_neg h1, if_neg h2]
    rw [hp, hc]
    have h2' : ¬ (s.size : Int) = 32 := by omega
    go_enter Tryd.func11, Tryd.ntmps11
    go_wp2
    go_ret2
    exact ⟨rfl, Chg.refl _ _⟩
end Go.Proofs.YtmnakafplpmphabDoor
