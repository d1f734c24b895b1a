/- Several texts in one: One of a system's three matrices: plain, and the program's index. · Three matrices' tables, their rows bound, put together: plain. -/
import Derived.Test.YtkfahghcbkdafaaBzak
import Derived.Test.YtkfahghcbkdafaaBzae
import Derived.Test.YtkfahghcbkdafaaBzas
namespace Go.Proofs.Ytkfahghcbkdafaa
open Go.RowKit
set_option linter.unusedVariables false

/-- One of three. -/
def pk3 {α : Type} (a b c : α) : Nat → α
  | 0 => a
  | 1 => b
  | _ => c
theorem index3_at (k : Nat) (hk : k < 3) (cA cB cC : Option Addr) (nA pA nB pB nC pC : Nat) (W : World) : (Instr.index 71 (.agg #[.slice cA nA pA, .slice cB nB pB, .slice cC nC pC]) (.int .i64 (k : Int))).run Try.prog W = .ok (.slice (pk3 cA cB cC k) (pk3 nA nB nC k) (pk3 pA pB pC k)) W := by
  rcases (show k = 0 ∨ k = 1 ∨ k = 2 by omega) with rfl | rfl | rfl
  · exact index3_0 ..
  · exact index3_1 ..
  · exact index3_2 ..
theorem pk3_le {a b c m : Nat} (ha : a ≤ m) (hb : b ≤ m) (hc : c ≤ m) (k : Nat) : pk3 a b c k ≤ m := by
  unfold pk3
  split <;> assumption
/-- Right entries, of one of the three. -/
theorem sysb_ent {s : Sy} (h : sysb s = true) : (s.nA ≤ 200 ∧ s.nB ≤ 200 ∧ s.nC ≤ 200) ∧ (1 ≤ s.r ∧ s.r ≤ 5 ∧ 2 ≤ s.q ∧ s.q ≤ 5 ∧ 0 ≤ s.p ∧ s.p < 16) ∧ ∀ k i, i < pk3 s.nA s.nB s.nC k → win 32 32 (pk3 s.XA s.XB s.XC k i) = true := by
  unfold sysb at h
  simp only [Bool.and_eq_true, decide_eq_true_eq] at h
  obtain ⟨⟨⟨⟨⟨hr, hq⟩, hp⟩, hA⟩, hB⟩, hC⟩ := h
  have e1 : (2 : Int) ^ s.r.toNat ≤ 32 := by
    rcases (show s.r.toNat = 1 ∨ s.r.toNat = 2 ∨ s.r.toNat = 3 ∨ s.r.toNat = 4 ∨ s.r.toNat = 5 by omega) with e | e | e | e | e <;> rw [e] <;> decide
  have e2 : (2 : Int) ^ s.q.toNat ≤ 32 := by
    rcases (show s.q.toNat = 1 ∨ s.q.toNat = 2 ∨ s.q.toNat = 3 ∨ s.q.toNat = 4 ∨ s.q.toNat = 5 by omega) with e | e | e | e | e <;> rw [e] <;> decide
  have e3 : (2 : Int) ^ (s.q.toNat - 1) ≤ 16 := by
    rcases (show s.q.toNat - 1 = 1 ∨ s.q.toNat - 1 = 2 ∨ s.q.toNat - 1 = 3 ∨ s.q.toNat - 1 = 4 by omega) with e | e | e | e <;> rw [e] <;> decide
  have wd : ∀ {R C : Int} {x : En}, R ≤ 32 → C ≤ 32 → win R C x = true → win 32 32 x = true := fun a b h => by
    unfold win at h ⊢
    simp only [Bool.and_eq_true, decide_eq_true_eq] at h ⊢
    omega
  obtain ⟨nA, wA⟩ := elm_parts hA
  obtain ⟨nB, wB⟩ := elm_parts hB
  obtain ⟨nC, wC⟩ := elm_parts hC
  refine ⟨⟨nA, nB, nC⟩, ⟨hr.1, hr.2, hq.1, hq.2, hp.1, by omega⟩, fun k i hi => ?_⟩
  unfold pk3 at hi ⊢
  split at hi
  · exact wd e1 e2 (wA i hi)
  · exact wd e1 e2 (wB i hi)
  · exact wd e1 e2 (wC i hi)

end Go.Proofs.Ytkfahghcbkdafaa

namespace Go.Proofs.Ytkfahghcbkdafaa
set_option linter.unusedVariables false

/-- The first k entries of a matrix put into a table: r times the value times the row's share, at the column. -/
def btE (e : Nat → El) (r : El) (X : Nat → En) (T : Nat → El) : Nat → Nat → El
  | 0, j => T j
  | k + 1, j => if j = (X k).2.1.toNat then El.ad (btE e r X T k j) (El.ml r (El.ml (El.ofi (X k).2.2) (e (X k).1.toNat))) else btE e r X T k j
/-- The table behind the first k matrices. -/
def btK (s : Sy) (e : Nat → El) (r : Nat → El) : Nat → Nat → El
  | 0 => fun _ => El.zr
  | k + 1 => btE e (r k) (pk3 s.XA s.XB s.XC k) (btK s e r k) (pk3 s.nA s.nB s.nC k)
theorem btE_congr {e e' : Nat → El} {r r' : El} {X : Nat → En} {T T' : Nat → El} (hr : r = r') (hT : ∀ j, T j = T' j) : ∀ {n : Nat}, (∀ i, i < n → e (X i).1.toNat = e' (X i).1.toNat) → ∀ j, btE e r X T n j = btE e' r' X T' n j
  | 0, _, j => hT j
  | n + 1, h, j => by
    unfold btE
    rw [btE_congr hr hT (fun i hi => h i (by omega)) j, h n (by omega), hr]
theorem btK_congr {s : Sy} {e e' : Nat → El} {r : Nat → El} (h : ∀ k i, i < pk3 s.nA s.nB s.nC k → e (pk3 s.XA s.XB s.XC k i).1.toNat = e' (pk3 s.XA s.XB s.XC k i).1.toNat) : ∀ k j, btK s e r k j = btK s e' r k j
  | 0, _ => rfl
  | k + 1, j => by
    unfold btK
    exact btE_congr rfl (btK_congr h k) (fun i hi => h k i hi) j
/-- What is told of a system, a point and three elements. -/
def bdc (s : Sy) (n : Nat) (f g u v : Nat → Int) : Int := if 4096 < n then 2 else if sysb s = false ∨ okP f g n = false ∨ okP u v 3 = false then 1 else if ¬ (n : Int) = s.r then 8 else 0
def bdn (s : Sy) (n : Nat) (f g u v : Nat → Int) : Nat := if bdc s n f g u v = 0 then 2 ^ s.q.toNat else 0
def bdv (s : Sy) (n : Nat) (f g u v : Nat → Int) : Nat → El := btK s (El.eqp (elF f g) n) (elF u v) 3
theorem bdn_le (s : Sy) (n : Nat) (f g u v : Nat → Int) : bdn s n f g u v ≤ 32 := by
  unfold bdn
  split
  · rename_i h0
    have hl : sysb s = true := by
      cases hl : sysb s with
      | true => rfl
      | false =>
        exfalso
        unfold bdc at h0
        split at h0
        · cases h0
        · rw [if_pos (.inl hl)] at h0; cases h0
    obtain ⟨rr, mm, er, eq_, r1, r5, m1, m4, _⟩ := sysb_parts hl
    exact pow5 (by omega)
  · omega
/-- Columns of right entries. -/
theorem win_col {s : Sy} (h : sysb s = true) {k i : Nat} (hi : i < pk3 s.nA s.nB s.nC k) : ∃ ri ci : Nat, (pk3 s.XA s.XB s.XC k i).1 = (ri : Int) ∧ (pk3 s.XA s.XB s.XC k i).2.1 = (ci : Int) ∧ ri < 2 ^ s.r.toNat ∧ ci < 2 ^ s.q.toNat ∧ 1 ≤ (pk3 s.XA s.XB s.XC k i).2.2 ∧ (pk3 s.XA s.XB s.XC k i).2.2 < 2130706433 := by
  obtain ⟨rr, mm, er, eq_, r1, r5, m1, m4, p0, p1, hA, hB, hC⟩ := sysb_parts h
  have key : win (2 ^ rr) (2 ^ (mm + 1)) (pk3 s.XA s.XB s.XC k i) = true := by
    unfold pk3 at hi ⊢
    split at hi
    · exact (elm_parts hA).2 i hi
    · exact (elm_parts hB).2 i hi
    · exact (elm_parts hC).2 i hi
  obtain ⟨ri, ci, e1, e2, h1, h2, v0, v1⟩ := win_nat key
  have c1 := pow_cast rr
  have c2 := pow_cast (mm + 1)
  refine ⟨ri, ci, e1, e2, ?_, ?_, v0, v1⟩
  · rw [er, Int.toNat_natCast]; omega
  · rw [eq_, Int.toNat_natCast]; omega

end Go.Proofs.Ytkfahghcbkdafaa
