/- What the model's ways up are: contracts. Conditions: hashes of 32 bytes beside the way. -/
import Derived.Test.YtabioonijjibnabDoorMrkQ
namespace Go.Proofs.YtabioonijjibnabDoor
open Go.ChangeShapes Go.WideShapes Go.ChangeAt Go.RowKit
set_option linter.unusedVariables false
set_option maxRecDepth 100000
set_option linter.unusedSimpArgs false

/-- What is hashed on the way, as values. -/
def upv (i : Nat) (t : ByteArray) (P : Nat → ByteArray) (k : Nat) : Value := .string (upT i t P k).1
/-- The texts of a way up and what it comes to, in new memory. -/
def UpAns (w : World) (i : Nat) (t : ByteArray) (P : Nat → ByteArray) (d : Nat) (e : Ending) (w' : World) : Prop :=
  ∃ v, e = .returned (.tuple #[v, .string (upT i t P d).2]) ∧ w'.ownsRow w.heap.size 9 1 v (d + 1) ((List.range (d + 1)).map (upv i t P)) ∧ Chg nob w w'

set_option maxHeartbeats 4000000 in
theorem sUp_any (i : Nat) (t : ByteArray) (c : Option Addr) (d cap : Nat) (P : Nat → ByteArray) (w : World) (h : Hid (RowV w c d (sb P))) (hz : Hid (∀ k, k < d → (P k).size = 32)) (hd : d ≤ 20) (hi : i < 256) (ht : t.size ≤ 65535) :
    Calls Tryd.prog 77 #[.int .i64 i, .string t, .slice c d cap] w fun e w' => UpAns w i t P d e w' := by
  obtain ⟨i0, hi0, hz0, hz1, hz2⟩ := info_parts infoSt
  have HI := hik hi0
  have HZ0 := hik hz0
  have HZ1 := hik hz1
  have HZ2 := hik hz2
  clear hi0 hz0 hz1 hz2
  have ht' : (t.size : Int) ≤ 65535 := by omega
  go_enter Tryd.func77, Tryd.ntmps77
  go_wp2_with (go_at_call 109; refine (sLeaf_any t _ ht).mono ?_; rintro e W1 ⟨rfl, k1⟩; have G1 := hik k1; clear k1)
  go_loopw [0, 8, 9, 10] (fun v0 v8 v9 v10 W => ∃ (k m : Nat) (y : ByteArray), k ≤ d ∧ v10 = .int .i64 k ∧ v0 = .int .i64 m ∧ v9 = .string y ∧ Hid (m = i / 2 ^ k) ∧ Hid (y = (upT i t P k).2) ∧ Hid (y.size = 32) ∧ Hid (W.ownsRow w.heap.size 9 1 v8 (k + 1) ((List.range (k + 1)).map (upv i t P))) ∧ Hid (Chg nob w W)) (fun _ _ _ v _ => d - (intOf v).toNat)
  case atStart => exact ⟨0, i, lf t, Nat.zero_le _, rfl, rfl, rfl, hik (by simp), hik rfl, hik (lf_size _), hik (owns_kept (owns_one w _ _ _ (Nat.le_refl _)) G1.out), hik (((Chg.refl _ _).alloc _).trans G1.out)⟩
  case round =>
    obtain ⟨k, m, y, hk, rfl, rfl, rfl, HM, HH, SH, HW, HG⟩ := hrel
    have hs1 := HG.out.size
    by_cases hlt : k < d
    · obtain ⟨xb, xo, rfl, hxb, hcell⟩ := (h.out.keep HG.out) k hlt
      have hx : _ = some (Value.string (P k)) := hcell
      clear hcell
      have SP := hik (hz.out k hlt)
      have hm256 : m < 256 := by rw [HM.out]; exact Nat.lt_of_le_of_lt (Nat.div_le_self _ _) hi
      have HM2 := hik (show m / 2 = i / 2 ^ (k + 1) by rw [HM.out, Nat.pow_succ, Nat.div_div_eq_div_mul])
      have v1 : (m : Int).tdiv 2 = ((m / 2 : Nat) : Int) := by rw [Int.tdiv_eq_ediv_of_nonneg (by omega)]; omega
      have v2 : (m : Int).tmod 2 = ((m % 2 : Nat) : Int) := by rw [Int.tmod_eq_emod_of_nonneg (by omega)]; omega
      have z1 : (y.size : Int) ≤ 32 := by rw [SH.out]; omega
      have z2 : ((P k).size : Int) ≤ 32 := by rw [SP.out]; omega
      by_cases hp : m % 2 = 1
      · have hp' : ((m % 2 : Nat) : Int) = 1 := by omega
        have HX : Hid (Value.string (ndT (P k) y) = upv i t P (k + 1)) := hik (by unfold upv; simp only [upT]; rw [← HM.out, if_pos hp, ← HH.out])
        have HH2 : Hid (hsh (ndT (P k) y) = (upT i t P (k + 1)).2) := hik (by simp only [upT]; rw [← HM.out, if_pos hp, ← HH.out])
        clear hp
        go_wp2_with (first | (at_builtin; refine wpList_append_own _ rfl (.tmp 40) (.tmp 42) 29 rfl w.heap.size 9 i0 (.string ⟨#[]⟩) 1 16 Tryd.underlying29 HI.out HZ0.out HZ1.out HZ2.out rfl (by decide) _ (k + 1) _ rfl (HW.out.alloc _) ⟨_, 0, none⟩ 1 1 [.string (ndT (P k) y)] rfl rfl ?c1 ?c2 ?c3 ?c4 ?c5 ?c6))
        case c1 =>
          intro j u hj
          match j, hj with
          | 0, hj => simp at hj; subst hj; simp [Addr.add]; rfl
          | j + 1, hj => simp at hj
        case c2 => intro u hu; simp at hu; subst hu; rfl
        case c3 => unfold maxLen; omega
        case c4 => omega
        case c5 => simp; omega
        case c6 =>
          intro v' w1 hown hgr _
          have HOW : Hid (w1.ownsRow w.heap.size 9 1 v' (k + 1 + 1) ((List.range (k + 1 + 1)).map (upv i t P))) := hik (by rw [← snoc_map, ← HX.out, ← snoc_map, List.append_assoc]; exact hown)
          have HGC := hik ((HG.out.alloc _).grown hgr (fun b e l => absurd (HW.out.lt b e).1 (by omega)))
          clear hown hgr hx
          go_wp2_with (go_at_call 51; refine (sHash_any (ndT (P k) y) _ (by rw [ndT_size, SH.out, SP.out]; omega)).mono ?_; rintro e W3 ⟨rfl, k3⟩; have O3 := hik (owns_kept HOW.out k3); have G3 := hik (HGC.out.trans k3); clear k3)
          go_roundw
          case rel => exact ⟨k + 1, m / 2, hsh (ndT (P k) y), by omega, by go_num, by go_num, rfl, HM2, HH2, hik (hsh_size _), O3, G3⟩
          case measure => simp [intOf]; omega
      · have hp' : ¬ ((m % 2 : Nat) : Int) = 1 := by omega
        have HX : Hid (Value.string (ndT y (P k)) = upv i t P (k + 1)) := hik (by unfold upv; simp only [upT]; rw [← HM.out, if_neg hp, ← HH.out])
        have HH2 : Hid (hsh (ndT y (P k)) = (upT i t P (k + 1)).2) := hik (by simp only [upT]; rw [← HM.out, if_neg hp, ← HH.out])
        clear hp
        go_wp2_with (first | (at_builtin; refine wpList_append_own _ rfl (.tmp 40) (.tmp 42) 29 rfl w.heap.size 9 i0 (.string ⟨#[]⟩) 1 16 Tryd.underlying29 HI.out HZ0.out HZ1.out HZ2.out rfl (by decide) _ (k + 1) _ rfl (HW.out.alloc _) ⟨_, 0, none⟩ 1 1 [.string (ndT y (P k))] rfl rfl ?c1 ?c2 ?c3 ?c4 ?c5 ?c6))
        case c1 =>
          intro j u hj
          match j, hj with
          | 0, hj => simp at hj; subst hj; simp [Addr.add]; rfl
          | j + 1, hj => simp at hj
        case c2 => intro u hu; simp at hu; subst hu; rfl
        case c3 => unfold maxLen; omega
        case c4 => omega
        case c5 => simp; omega
        case c6 =>
          intro v' w1 hown hgr _
          have HOW : Hid (w1.ownsRow w.heap.size 9 1 v' (k + 1 + 1) ((List.range (k + 1 + 1)).map (upv i t P))) := hik (by rw [← snoc_map, ← HX.out, ← snoc_map, List.append_assoc]; exact hown)
          have HGC := hik ((HG.out.alloc _).grown hgr (fun b e l => absurd (HW.out.lt b e).1 (by omega)))
          clear hown hgr hx
          go_wp2_with (go_at_call 51; refine (sHash_any (ndT y (P k)) _ (by rw [ndT_size, SH.out, SP.out]; omega)).mono ?_; rintro e W3 ⟨rfl, k3⟩; have O3 := hik (owns_kept HOW.out k3); have G3 := hik (HGC.out.trans k3); clear k3)
          go_roundw
          case rel => exact ⟨k + 1, m / 2, hsh (ndT y (P k)), by omega, by go_num, by go_num, rfl, HM2, HH2, hik (hsh_size _), O3, G3⟩
          case measure => simp [intOf]; omega
    · obtain rfl : k = d := by omega
      go_wp2
      go_ret2
      exact ⟨_, by rw [← HH.out]; rfl, HW.out, HG.out⟩
end Go.Proofs.YtabioonijjibnabDoor
