/- What CodeOf and its model answer: contracts. Conditions: the table codeWords holds its words; strings of a length that can be. -/
import Derived.Test.YtbmeikbiibfpmahDoorCodeW
namespace Go.Proofs.YtbmeikbiibfpmahDoor
open Go.ChangeShapes Go.WideShapes Go.ChangeAt Go.RowKit

theorem grown_trans {a b c : World} (h : Grown a b) (k : Grown b c) : Grown a c :=
  ⟨World.keptBut_trans h.1 k.1, fun x => (k.2.1 x).trans (h.2.1 x), Nat.le_trans h.2.2 k.2.2⟩
/-- The code of a word: the first place, or -1. -/
def Found (s : ByteArray) (r : Int) : Prop := (∃ i : Nat, i < 20 ∧ r = i ∧ (wd i).toList = s.toList ∧ ∀ j, j < i → (wd j).toList ≠ s.toList) ∨ (r = -1 ∧ ∀ j, j < 20 → (wd j).toList ≠ s.toList)
theorem Found.uniq {s : ByteArray} {r r' : Int} (h : Found s r) (k : Found s r') : r = r' := by
  rcases h with ⟨i, hi, rfl, e, a⟩ | ⟨rfl, a⟩ <;> rcases k with ⟨j, hj, rfl, e', b⟩ | ⟨rfl, b⟩
  · by_cases h1 : i < j
    · exact absurd e (b i h1)
    · by_cases h2 : j < i
      · exact absurd e' (a j h2)
      · omega
  · exact absurd e (b i hi)
  · exact absurd e' (a j hj)
  · rfl
/-- An answer that is the code. -/
def CodeAns (s : ByteArray) (e : Ending) : Prop := ∃ r : Int, e = .returned (.int .i64 r) ∧ Found s r
theorem CodeAns.mk {s : ByteArray} {e : Ending} {r : Int} (h : e = .returned (.int .i64 r)) (k : Found s r) : CodeAns s e := ⟨r, h, k⟩
theorem cwd_nat (k : Nat) (h : k < 20) : cwd k = wd k := by rw [cwd, if_pos (by omega), Int.toNat_natCast]

set_option maxHeartbeats 2000000 in
theorem sCodeOf_any (s : ByteArray) (w : World) :
    Calls Tryd.prog 4 #[.string s] w fun e w' => CodeAns s e ∧ Grown w w' ∧ Below w.heap.size w w' := by
  go_enter Tryd.func4, Tryd.ntmps4
  go_wp2
  go_loopw [3] (fun i W => ∃ k : Nat, k ≤ 20 ∧ i = .int .i64 k ∧ Hid (∀ j, j < k → (wd j).toList ≠ s.toList) ∧ Hid (Grown w W) ∧ Hid (Below w.heap.size w W)) (fun i _ => 20 - (intOf i).toNat)
  case atStart => exact ⟨0, Nat.zero_le _, rfl, hid (fun j h => by omega), hid (Grown.refl _), hid (Below.refl _ _)⟩
  case round =>
    obtain ⟨k, hk, rfl, HN, HG, HB⟩ := hrel
    by_cases hlt : k < 20
    · have hk' : (k : Int) ≤ 19 := by omega
      go_wp2_with fail
      refine (sCodeWord_any (k : Int) _).mono ?_
      rintro e w1 ⟨rfl, hG1, hB1⟩
      rw [cwd_nat k hlt]
      have HG1 := hid (grown_trans HG.out hG1)
      have HB1 := hid (HB.out.trans (hB1.mono HB.out.size))
      clear hG1 hB1
      by_cases he : (wd k).toList = s.toList
      · have hb : ((wd k).toList == s.toList) = true := by simp [he]
        have HF := hid (show Found s (k : Int) from .inl ⟨k, hlt, rfl, he, HN.out⟩)
        clear he
        go_wp2
        go_ret
        exact ⟨CodeAns.mk rfl HF.out, HG1.out, HB1.out⟩
      · have hb : ((wd k).toList == s.toList) = false := by simp [he]
        have HN2 := hid (show ∀ j, j < k + 1 → (wd j).toList ≠ s.toList from fun j hj => by
          by_cases e : j = k
          · rw [e]; exact he
          · exact HN.out j (by omega))
        clear he
        go_wp2
        go_roundw
        case rel => exact ⟨k + 1, by omega, by go_num, HN2, HG1, HB1⟩
        case measure => simp [intOf]; omega
    · have hk' : ¬ (k : Int) ≤ 19 := by omega
      have HF := hid (show Found s (-1) from .inr ⟨rfl, fun j hj => HN.out j (by omega)⟩)
      go_wp2
      go_ret
      exact ⟨CodeAns.mk rfl HF.out, HG.out, HB.out⟩

set_option maxHeartbeats 2000000 in
theorem codeOf_any (s : ByteArray) (w : World) (h : Hid (∀ i : Nat, i < 20 → w.cell? ⟨0, i, none⟩ = some (.string (wd i)))) :
    Calls Tryd.prog 5 #[.string s] w fun e w' => CodeAns s e ∧ w' = w := by
  go_enter Tryd.func5, Tryd.ntmps5
  go_wp2
  go_loop [3] (fun i => ∃ k : Nat, k ≤ 20 ∧ i = .int .i64 k ∧ Hid (∀ j, j < k → (wd j).toList ≠ s.toList)) (fun i => 20 - (intOf i).toNat)
  case atStart => exact ⟨0, Nat.zero_le _, rfl, hid (fun j h => by omega)⟩
  case round =>
    obtain ⟨k, hk, rfl, HN⟩ := hrel
    by_cases hlt : k < 20
    · have hk' : (k : Int) < 20 := by omega
      have hA := h.out k hlt
      by_cases he : (wd k).toList = s.toList
      · have hb : ((wd k).toList == s.toList) = true := by simp [he]
        have HF := hid (show Found s (k : Int) from .inl ⟨k, hlt, rfl, he, HN.out⟩)
        clear he
        go_wp2
        go_ret
        exact ⟨CodeAns.mk rfl HF.out, rfl⟩
      · have hb : ((wd k).toList == s.toList) = false := by simp [he]
        have HN2 := hid (show ∀ j, j < k + 1 → (wd j).toList ≠ s.toList from fun j hj => by
          by_cases e : j = k
          · rw [e]; exact he
          · exact HN.out j (by omega))
        clear he
        go_wp2
        go_round
        case rel => exact ⟨k + 1, by omega, by go_num, HN2⟩
        case measure => simp [intOf]; omega
    · have hk' : ¬ (k : Int) < 20 := by omega
      have HF := hid (show Found s (-1) from .inr ⟨rfl, fun j hj => HN.out j (by omega)⟩)
      go_wp2
      go_ret
      exact ⟨CodeAns.mk rfl HF.out, rfl⟩
end Go.Proofs.YtbmeikbiibfpmahDoor
