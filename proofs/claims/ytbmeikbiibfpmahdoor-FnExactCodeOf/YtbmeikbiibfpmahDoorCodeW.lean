/- What CodeWord and its model answer: contracts. Conditions: the table codeWords holds its words. -/
import Derived.Test.YtbmeikbiibfpmahDoorRows
import Derived.WalkKit
import Derived.ProofKit
import Derived.OpenShut
import Derived.Below
namespace Go.Proofs.YtbmeikbiibfpmahDoor
open Go.ChangeShapes Go.WideShapes Go.ChangeAt Go.RowKit

theorem hid {p : Prop} (h : p) : Hid p := h
/-- The words, by their bytes. -/
def words : List (List UInt8) := [[111, 107], [98, 97, 100], [108, 111, 110, 103], [102, 111, 114, 109], [114, 97, 110, 103, 101], [110, 111, 110, 101], [109, 97, 110, 121], [122, 101, 114, 111], [115, 105, 122, 101], [112, 97, 116, 104], [115, 117, 109], [99, 108, 97, 105, 109], [102, 111, 108, 100], [108, 97, 115, 116], [103, 114, 105, 110, 100], [117, 110, 115, 97, 116, 105, 115, 102, 105, 101, 100], [115, 101, 99, 117, 114, 101], [112, 117, 98, 108, 105, 99], [108, 101, 110, 103, 116, 104], [99, 105, 114, 99, 117, 105, 116]]
/-- One of them. -/
def wd (i : Nat) : ByteArray := ⟨(words.getD i []).toArray⟩
theorem wordList_at (i : Nat) (h : i < 20) : ([.string ⟨#[111, 107]⟩, .string ⟨#[98, 97, 100]⟩, .string ⟨#[108, 111, 110, 103]⟩, .string ⟨#[102, 111, 114, 109]⟩, .string ⟨#[114, 97, 110, 103, 101]⟩, .string ⟨#[110, 111, 110, 101]⟩, .string ⟨#[109, 97, 110, 121]⟩, .string ⟨#[122, 101, 114, 111]⟩, .string ⟨#[115, 105, 122, 101]⟩, .string ⟨#[112, 97, 116, 104]⟩, .string ⟨#[115, 117, 109]⟩, .string ⟨#[99, 108, 97, 105, 109]⟩, .string ⟨#[102, 111, 108, 100]⟩, .string ⟨#[108, 97, 115, 116]⟩, .string ⟨#[103, 114, 105, 110, 100]⟩, .string ⟨#[117, 110, 115, 97, 116, 105, 115, 102, 105, 101, 100]⟩, .string ⟨#[115, 101, 99, 117, 114, 101]⟩, .string ⟨#[112, 117, 98, 108, 105, 99]⟩, .string ⟨#[108, 101, 110, 103, 116, 104]⟩, .string ⟨#[99, 105, 114, 99, 117, 105, 116]⟩] : List Value)[i]'h = .string (wd i) := by
  match i, h with
  | 0, _ => rfl
  | 1, _ => rfl
  | 2, _ => rfl
  | 3, _ => rfl
  | 4, _ => rfl
  | 5, _ => rfl
  | 6, _ => rfl
  | 7, _ => rfl
  | 8, _ => rfl
  | 9, _ => rfl
  | 10, _ => rfl
  | 11, _ => rfl
  | 12, _ => rfl
  | 13, _ => rfl
  | 14, _ => rfl
  | 15, _ => rfl
  | 16, _ => rfl
  | 17, _ => rfl
  | 18, _ => rfl
  | 19, _ => rfl
  | n + 20, h => omega
/-- The word of a code, empty of any other number. -/
def cwd (a : Int) : ByteArray := if 0 ≤ a ∧ a < 20 then wd a.toNat else ⟨#[]⟩
theorem ret_str {a b : ByteArray} (h : a = b) : Ending.returned (.string a) = .returned (.string b) := by rw [h]

set_option maxRecDepth 100000 in
set_option maxHeartbeats 4000000 in
theorem sCodeWord_any (a : Int) (w : World) :
    Calls Tryd.prog 6 #[.int .i64 a] w fun e w' => e = .returned (.string (cwd a)) ∧ Grown w w' ∧ Below w.heap.size w w' := by
  have hc : (a < 0 ∧ Hid (cwd a = ⟨#[]⟩)) ∨ (¬ a < 0 ∧ 20 ≤ a ∧ Hid (cwd a = ⟨#[]⟩)) ∨ ∃ i : Nat, i < 20 ∧ a = i := by
    by_cases h0 : a < 0
    · exact .inl ⟨h0, if_neg (by omega)⟩
    · by_cases h1 : 20 ≤ a
      · exact .inr (.inl ⟨h0, h1, if_neg (by omega)⟩)
      · exact .inr (.inr ⟨a.toNat, by omega, by omega⟩)
  rcases hc with ⟨h0, H⟩ | ⟨h0, h1, H⟩ | ⟨i, hi, rfl⟩
  · go_enter Tryd.func6, Tryd.ntmps6
    go_wp2
    go_ret
    exact ⟨ret_str H.out.symm, Grown.alloc (Grown.refl _) _ _, (Below.refl _ _).alloc (Nat.le_refl _) _⟩
  · go_enter Tryd.func6, Tryd.ntmps6
    go_wp2
    go_ret
    exact ⟨ret_str H.out.symm, Grown.alloc (Grown.refl _) _ _, (Below.refl _ _).alloc (Nat.le_refl _) _⟩
  · have H := hid (show wd i = cwd i by rw [cwd, if_pos (by omega), Int.toNat_natCast])
    have n0 : ¬ (i : Int) < 0 := by omega
    have n1 : ¬ 20 ≤ (i : Int) := by omega
    have n2 : (i : Int) < 20 := by omega
    go_enter Tryd.func6, Tryd.ntmps6
    go_wp2
    go_ret
    exact ⟨(congrArg Ending.returned (wordList_at i hi)).trans (ret_str H.out), Grown.alloc (Grown.refl _) _ _, (Below.refl _ _).alloc (Nat.le_refl _) _⟩