/- Several texts in one: One of a system's three matrices: plain, and the program's index. · Padded messages, blocks and what the hash is: plain functions. No program is named here. -/
import Derived.Test.YtbjhppamolmpeaaBzan
import Derived.Test.YtbjhppamolmpeaaBzaq
namespace Go.Proofs.Ytbjhppamolmpeaa
open Go.RowKit
set_option linter.unusedVariables false

/-- One of three. -/
def pk3 {α : Type} (a b c : α) : Nat → α
  | 0 => a
  | 1 => b
  | _ => c
theorem index3_at (k : Nat) (hk : k < 3) (cA cB cC : Option Addr) (nA pA nB pB nC pC : Nat) (W : World) : (Instr.index 74 (.agg #[.slice cA nA pA, .slice cB nB pB, .slice cC nC pC]) (.int .i64 (k : Int))).run Try.prog W = .ok (.slice (pk3 cA cB cC k) (pk3 nA nB nC k) (pk3 pA pB pC k)) W := by
  rcases (show k = 0 ∨ k = 1 ∨ k = 2 by omega) with rfl | rfl | rfl
  · exact index3_0 ..
  · exact index3_1 ..
  · exact index3_2 ..
theorem pk3_le {a b c m : Nat} (ha : a ≤ m) (hb : b ≤ m) (hc : c ≤ m) (k : Nat) : pk3 a b c k ≤ m := by
  unfold pk3
  split <;> assumption
/-- Right entries, of one of the three. -/
theorem sysb_ent {s : Sy} (h : sysb s = true) : (s.nA ≤ 200 ∧ s.nB ≤ 200 ∧ s.nC ≤ 200) ∧ (1 ≤ s.r ∧ s.r ≤ 5 ∧ 2 ≤ s.q ∧ s.q ≤ 5 ∧ 0 ≤ s.p ∧ s.p < 16) ∧ ∀ k i, i < pk3 s.nA s.nB s.nC k → win 32 32 (pk3 s.XA s.XB s.XC k i) = true := by
  unfold sysb at h
  simp only [Bool.and_eq_true, decide_eq_true_eq] at h
  obtain ⟨⟨⟨⟨⟨hr, hq⟩, hp⟩, hA⟩, hB⟩, hC⟩ := h
  have e1 : (2 : Int) ^ s.r.toNat ≤ 32 := by
    rcases (show s.r.toNat = 1 ∨ s.r.toNat = 2 ∨ s.r.toNat = 3 ∨ s.r.toNat = 4 ∨ s.r.toNat = 5 by omega) with e | e | e | e | e <;> rw [e] <;> decide
  have e2 : (2 : Int) ^ s.q.toNat ≤ 32 := by
    rcases (show s.q.toNat = 1 ∨ s.q.toNat = 2 ∨ s.q.toNat = 3 ∨ s.q.toNat = 4 ∨ s.q.toNat = 5 by omega) with e | e | e | e | e <;> rw [e] <;> decide
  have e3 : (2 : Int) ^ (s.q.toNat - 1) ≤ 16 := by
    rcases (show s.q.toNat - 1 = 1 ∨ s.q.toNat - 1 = 2 ∨ s.q.toNat - 1 = 3 ∨ s.q.toNat - 1 = 4 by omega) with e | e | e | e <;> rw [e] <;> decide
  have wd : ∀ {R C : Int} {x : En}, R ≤ 32 → C ≤ 32 → win R C x = true → win 32 32 x = true := fun a b h => by
    unfold win at h ⊢
    simp only [Bool.and_eq_true, decide_eq_true_eq] at h ⊢
    omega
  obtain ⟨nA, wA⟩ := elm_parts hA
  obtain ⟨nB, wB⟩ := elm_parts hB
  obtain ⟨nC, wC⟩ := elm_parts hC
  refine ⟨⟨nA, nB, nC⟩, ⟨hr.1, hr.2, hq.1, hq.2, hp.1, by omega⟩, fun k i hi => ?_⟩
  unfold pk3 at hi ⊢
  split at hi
  · exact wd e1 e2 (wA i hi)
  · exact wd e1 e2 (wB i hi)
  · exact wd e1 e2 (wC i hi)
theorem win32 {x : En} (h : win 32 32 x = true) : 0 ≤ x.1 ∧ x.1 < 32 ∧ 0 ≤ x.2.1 ∧ x.2.1 < 32 ∧ 1 ≤ x.2.2 ∧ x.2.2 < 2130706433 := by
  unfold win at h
  simp only [Bool.and_eq_true, decide_eq_true_eq] at h
  omega
theorem SyV.syAt {W : World} {s : Sy} {a : SyA} (h : SyV W s a) (k : Nat) : EntV W (pk3 a.cA a.cB a.cC k) (pk3 s.nA s.nB s.nC k) (pk3 s.XA s.XB s.XC k) := by
  unfold pk3
  split
  · exact h.A
  · exact h.B
  · exact h.C

end Go.Proofs.Ytbjhppamolmpeaa

namespace Go.Proofs.Ytbjhppamolmpeaa

/-- Block j of a padded message. -/
def blk (P : Nat → Int) (j i : Nat) : Int := P (136 * j + i)
/-- The state behind j blocks. -/
def hst (P : Nat → Int) : Nat → Nat → Lane
  | 0 => fun _ => 0
  | j + 1 => prm (fun l => hst P j l ^^^ ln (blk P j) 136 l) 24

end Go.Proofs.Ytbjhppamolmpeaa
