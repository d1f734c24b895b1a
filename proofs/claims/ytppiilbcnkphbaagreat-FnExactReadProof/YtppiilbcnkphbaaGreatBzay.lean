/- Several texts in one: Systems: their numbers of rows and columns, their matrices, and whether they are right: the program's contracts. · Three and four elements in a row: words. No condition but those that each theorem states. -/
import Derived.Test.YtppiilbcnkphbaaGreatBzax
import Derived.Deep.DeepCutAuto
import Derived.Deep.QuietTactic
import Derived.BigQuiet
import Derived.Test.YtppiilbcnkphbaaGreatBzad
import Derived.Test.YtppiilbcnkphbaaGreatBzah
namespace Go.Proofs.YtppiilbcnkphbaaGreat
open Go.ChangeShapes Go.WideShapes Go.ChangeAt Go.RowKit
open Go.Maps (Keyed IsMap Tidy has)
set_option linter.unusedVariables false
set_option maxRecDepth 100000
set_option linter.unusedSimpArgs false

/-- A system, as plain data. -/
structure Sy where
  r : Int
  q : Int
  p : Int
  nA : Nat
  nB : Nat
  nC : Nat
  XA : Nat → En
  XB : Nat → En
  XC : Nat → En
/-- Where a system's lists lie. -/
structure SyA where
  cA : Option Addr
  cB : Option Addr
  cC : Option Addr
  pA : Nat
  pB : Nat
  pC : Nat
/-- A system's lists can be read. -/
structure SyV (w : World) (s : Sy) (a : SyA) : Prop where
  A : EntV w a.cA s.nA s.XA
  B : EntV w a.cB s.nB s.XB
  C : EntV w a.cC s.nC s.XC
theorem SyV.keep {w w' : World} {s : Sy} {a : SyA} (h : SyV w s a) (k : Chg nob w w') : SyV w' s a := ⟨h.A.keep k, h.B.keep k, h.C.keep k⟩
/-- Lists of lengths that a law takes. -/
def Sy.small (s : Sy) : Prop := s.nA ≤ 1099511627776 ∧ s.nB ≤ 1099511627776 ∧ s.nC ≤ 1099511627776
/-- A system is right. -/
def sysb (s : Sy) : Bool := decide (1 ≤ s.r ∧ s.r ≤ 5) && decide (2 ≤ s.q ∧ s.q ≤ 5) && decide (0 ≤ s.p ∧ s.p < 2 ^ (s.q.toNat - 1)) && elm (2 ^ s.r.toNat) (2 ^ s.q.toNat) s.nA s.XA && elm (2 ^ s.r.toNat) (2 ^ s.q.toNat) s.nB s.XB && elm (2 ^ s.r.toNat) (2 ^ s.q.toNat) s.nC s.XC

theorem wp2 : ∀ k : Nat, k ≤ 10 → wrap64 (2 ^ k) = 2 ^ k := by
  intro k hk
  rcases (show k = 0 ∨ k = 1 ∨ k = 2 ∨ k = 3 ∨ k = 4 ∨ k = 5 ∨ k = 6 ∨ k = 7 ∨ k = 8 ∨ k = 9 ∨ k = 10 by omega) with rfl | rfl | rfl | rfl | rfl | rfl | rfl | rfl | rfl | rfl | rfl <;> kernel_rfl

/-- How many rows or columns a system may have, as a power of two. -/
def lgb (n : Int) : Bool := decide (1 ≤ n ∧ n ≤ 5)
set_option maxHeartbeats 1000000 in
theorem isLog_any (n : Int) (w : World) : Calls Tryz.prog 65 #[.int .i64 n] w fun e w' => e = .returned (.bool (lgb n)) ∧ w' = w := by
  have H := hik (show lgb n = (decide (1 ≤ n) && decide (n ≤ 5)) by simp [lgb])
  by_cases h0 : 1 ≤ n
  · go_enter Tryz.func65, Tryz.ntmps65
    go_wp2
    go_ret
    exact ⟨ret_bool (by rw [H.out]; simp [h0]), rfl⟩
  · go_enter Tryz.func65, Tryz.ntmps65
    go_wp2
    go_ret
    exact ⟨ret_bool (by rw [H.out]; simp; omega), rfl⟩

set_option maxHeartbeats 1000000 in
theorem rowCount_any (k : Nat) (hk : k ≤ 10) (v1 v2 v3 v4 v5 : Value) (w : World) : Calls Tryz.prog 69 #[.agg #[.int .i64 k, v1, v2, v3, v4, v5]] w fun e w' => e = .returned (.int .i64 (2 ^ k)) ∧ Chg nob w w' := by
  have KK := hik ((Chg.refl nob w).alloc (.cells #[.int .i64 k, v1, v2, v3, v4, v5] 43))
  have H := hik (wp2 k hk)
  go_enter Tryz.func69, Tryz.ntmps69
  go_wp2
  go_ret
  exact ⟨ret_int H.out, KK.out⟩
set_option maxHeartbeats 1000000 in
theorem colCount_any (k : Nat) (hk : k ≤ 10) (v0 v2 v3 v4 v5 : Value) (w : World) : Calls Tryz.prog 70 #[.agg #[v0, .int .i64 k, v2, v3, v4, v5]] w fun e w' => e = .returned (.int .i64 (2 ^ k)) ∧ Chg nob w w' := by
  have KK := hik ((Chg.refl nob w).alloc (.cells #[v0, .int .i64 k, v2, v3, v4, v5] 43))
  have H := hik (wp2 k hk)
  go_enter Tryz.func70, Tryz.ntmps70
  go_wp2
  go_ret
  exact ⟨ret_int H.out, KK.out⟩
set_option maxHeartbeats 1000000 in
theorem half_any (k : Nat) (hk : k + 1 ≤ 10) (v0 v2 v3 v4 v5 : Value) (w : World) : Calls Tryz.prog 66 #[.agg #[v0, .int .i64 ((k + 1 : Nat) : Int), v2, v3, v4, v5]] w fun e w' => e = .returned (.int .i64 (2 ^ k)) ∧ Chg nob w w' := by
  have KK := hik ((Chg.refl nob w).alloc (.cells #[v0, .int .i64 ((k + 1 : Nat) : Int), v2, v3, v4, v5] 43))
  have H := hik (show ((2 : Int) ^ (k + 1)).tdiv 2 = 2 ^ k by rw [Int.pow_succ]; exact Int.mul_tdiv_cancel _ (by omega))
  have HP := hik (wp2 k (by omega))
  have hcon := colCount_any (k + 1) hk v0 v2 v3 v4 v5
  generalize ((k + 1 : Nat) : Int) = K at hcon KK ⊢
  generalize (2 : Int) ^ (k + 1) = Z at hcon H
  go_enter Tryz.func66, Tryz.ntmps66
  go_wp2_with (go_at_call 70; refine (hcon _).mono ?_; rintro e w1 ⟨rfl, k1⟩; have K1 := hik (KK.out.trans k1); clear k1)
  go_ret
  exact ⟨ret_int (by rw [H.out]; exact HP.out), K1.out⟩
set_option maxHeartbeats 1000000 in
theorem matrices_any (v0 v1 v2 : Value) (cA cB cC : Option Addr) (nA pA nB pB nC pC : Nat) (w : World) : Calls Tryz.prog 67 #[.agg #[v0, v1, v2, .slice cA nA pA, .slice cB nB pB, .slice cC nC pC]] w fun e w' => e = .returned (.agg #[.slice cA nA pA, .slice cB nB pB, .slice cC nC pC]) ∧ Chg nob w w' := by
  have KK := hik (((Chg.refl nob w).alloc (.cells #[v0, v1, v2, .slice cA nA pA, .slice cB nB pB, .slice cC nC pC] 43)).alloc (.cells #[.slice cA nA pA, .slice cB nB pB, .slice cC nC pC] 116))
  go_enter Tryz.func67, Tryz.ntmps67
  go_wp2
  exact bodyPost_ret (v := .agg #[.slice cA nA pA, .slice cB nB pB, .slice cC nC pC]) (by simp [results, Tryz.results67, go_sem, *]) rfl ⟨rfl, KK.out⟩

theorem index3_0 (cA cB cC : Option Addr) (nA pA nB pB nC pC : Nat) (W : World) : (Instr.index 116 (.agg #[.slice cA nA pA, .slice cB nB pB, .slice cC nC pC]) (.int .i64 0)).run Tryz.prog W = .ok (.slice cA nA pA) W := by kernel_rfl
theorem index3_1 (cA cB cC : Option Addr) (nA pA nB pB nC pC : Nat) (W : World) : (Instr.index 116 (.agg #[.slice cA nA pA, .slice cB nB pB, .slice cC nC pC]) (.int .i64 1)).run Tryz.prog W = .ok (.slice cB nB pB) W := by kernel_rfl
theorem index3_2 (cA cB cC : Option Addr) (nA pA nB pB nC pC : Nat) (W : World) : (Instr.index 116 (.agg #[.slice cA nA pA, .slice cB nB pB, .slice cC nC pC]) (.int .i64 2)).run Tryz.prog W = .ok (.slice cC nC pC) W := by kernel_rfl
/-- The cells of a block. -/
def Cel (w : World) (g : Nat) (a : Array Value) : Prop := g < w.heap.size ∧ ∀ i, i < a.size → w.cell? ⟨g, i, none⟩ = some (a.getD i undef)
theorem Cel.chg {P : Nat → Prop} {w w' : World} {g : Nat} {a : Array Value} (h : Cel w g a) (k : Chg P w w') (hp : ¬ P g) : Cel w' g a :=
  ⟨Nat.lt_of_lt_of_le h.1 k.size, fun i hi => by rw [k.cell (p := ⟨g, i, none⟩) h.1 hp]; exact h.2 i hi⟩
theorem Cel.keep {w w' : World} {g : Nat} {a : Array Value} (h : Cel w g a) (k : Chg nob w w') : Cel w' g a := h.chg k (fun x => x)
theorem cel6 {w : World} {g : Nat} {v0 v1 v2 v3 v4 v5 : Value} (x0 : w.cell? ⟨g, 0, none⟩ = some v0) (x1 : w.cell? ⟨g, 1, none⟩ = some v1) (x2 : w.cell? ⟨g, 2, none⟩ = some v2) (x3 : w.cell? ⟨g, 3, none⟩ = some v3) (x4 : w.cell? ⟨g, 4, none⟩ = some v4) (x5 : w.cell? ⟨g, 5, none⟩ = some v5) : Cel w g #[v0, v1, v2, v3, v4, v5] :=
  ⟨World.block_lt_of_cell? w _ x0, fun i hi => by
    have hi : i < 6 := hi
    rcases (show i = 0 ∨ i = 1 ∨ i = 2 ∨ i = 3 ∨ i = 4 ∨ i = 5 by omega) with rfl | rfl | rfl | rfl | rfl | rfl
    · exact x0
    · exact x1
    · exact x2
    · exact x3
    · exact x4
    · exact x5⟩
theorem Cel.six {w : World} {g : Nat} {v0 v1 v2 v3 v4 v5 : Value} (h : Cel w g #[v0, v1, v2, v3, v4, v5]) : w.cell? ⟨g, 0, none⟩ = some v0 ∧ w.cell? ⟨g, 1, none⟩ = some v1 ∧ w.cell? ⟨g, 2, none⟩ = some v2 ∧ w.cell? ⟨g, 3, none⟩ = some v3 ∧ w.cell? ⟨g, 4, none⟩ = some v4 ∧ w.cell? ⟨g, 5, none⟩ = some v5 :=
  ⟨h.2 0 (show 0 < 6 by omega), h.2 1 (show 1 < 6 by omega), h.2 2 (show 2 < 6 by omega), h.2 3 (show 3 < 6 by omega), h.2 4 (show 4 < 6 by omega), h.2 5 (show 5 < 6 by omega)⟩
/-- A system's numbers are in their bounds. -/
def synb (s : Sy) : Bool := lgb s.r && (lgb s.q && (decide (2 ≤ s.q) && (decide (0 ≤ s.p) && decide (s.p < 2 ^ (s.q.toNat - 1)))))
theorem sysb_n (s : Sy) : sysb s = (synb s && (elm (2 ^ s.r.toNat) (2 ^ s.q.toNat) s.nA s.XA && (elm (2 ^ s.r.toNat) (2 ^ s.q.toNat) s.nB s.XB && elm (2 ^ s.r.toNat) (2 ^ s.q.toNat) s.nC s.XC))) := by
  unfold sysb synb lgb
  generalize (2 : Int) ^ (s.q.toNat - 1) = Z
  generalize elm (2 ^ s.r.toNat) (2 ^ s.q.toNat) s.nA s.XA = x
  generalize elm (2 ^ s.r.toNat) (2 ^ s.q.toNat) s.nB s.XB = y
  generalize elm (2 ^ s.r.toNat) (2 ^ s.q.toNat) s.nC s.XC = z
  have h : (decide (1 ≤ s.r ∧ s.r ≤ 5) && decide (2 ≤ s.q ∧ s.q ≤ 5) && decide (0 ≤ s.p ∧ s.p < Z)) = (decide (1 ≤ s.r ∧ s.r ≤ 5) && (decide (1 ≤ s.q ∧ s.q ≤ 5) && (decide (2 ≤ s.q) && (decide (0 ≤ s.p) && decide (s.p < Z))))) := by
    rw [Bool.eq_iff_iff]
    simp
    omega
  rw [h, Bool.and_assoc, Bool.and_assoc]

set_option maxHeartbeats 4000000 in
theorem sysOK_any (s : Sy) (a : SyA) (w : World) (hv : Hid (SyV w s a)) (hs : s.small) :
    Calls Tryz.prog 41 #[.agg #[.int .i64 s.r, .int .i64 s.q, .int .i64 s.p, .slice a.cA s.nA a.pA, .slice a.cB s.nB a.pB, .slice a.cC s.nC a.pC]] w fun e w' => e = .returned (.bool (sysb s)) ∧ Chg nob w w' := by
  obtain ⟨r, q, p, nA, nB, nC, XA, XB, XC⟩ := s
  obtain ⟨cA, cB, cC, pA, pB, pC⟩ := a
  obtain ⟨hsA, hsB, hsC⟩ := hs
  simp only at hsA hsB hsC
  have hS := sysb_n ⟨r, q, p, nA, nB, nC, XA, XB, XC⟩
  simp only at hS
  have HS := hik hS
  simp only
  generalize hsb : sysb ⟨r, q, p, nA, nB, nC, XA, XB, XC⟩ = ans at HS ⊢
  clear hsb hS
  have KB := hik ((Chg.refl nob w).alloc (.cells #[.int .i64 r, .int .i64 q, .int .i64 p, .slice cA nA pA, .slice cB nB pB, .slice cC nC pC] 43))
  have x0 : World.cell? (w.alloc (.cells #[.int .i64 r, .int .i64 q, .int .i64 p, .slice cA nA pA, .slice cB nB pB, .slice cC nC pC] 43)) ⟨w.heap.size, 0, none⟩ = some (.int .i64 r) := by go_simp
  have x1 : World.cell? (w.alloc (.cells #[.int .i64 r, .int .i64 q, .int .i64 p, .slice cA nA pA, .slice cB nB pB, .slice cC nC pC] 43)) ⟨w.heap.size, 1, none⟩ = some (.int .i64 q) := by go_simp
  have x2 : World.cell? (w.alloc (.cells #[.int .i64 r, .int .i64 q, .int .i64 p, .slice cA nA pA, .slice cB nB pB, .slice cC nC pC] 43)) ⟨w.heap.size, 2, none⟩ = some (.int .i64 p) := by go_simp
  have x3 : World.cell? (w.alloc (.cells #[.int .i64 r, .int .i64 q, .int .i64 p, .slice cA nA pA, .slice cB nB pB, .slice cC nC pC] 43)) ⟨w.heap.size, 3, none⟩ = some (.slice cA nA pA) := by go_simp
  have x4 : World.cell? (w.alloc (.cells #[.int .i64 r, .int .i64 q, .int .i64 p, .slice cA nA pA, .slice cB nB pB, .slice cC nC pC] 43)) ⟨w.heap.size, 4, none⟩ = some (.slice cB nB pB) := by go_simp
  have x5 : World.cell? (w.alloc (.cells #[.int .i64 r, .int .i64 q, .int .i64 p, .slice cA nA pA, .slice cB nB pB, .slice cC nC pC] 43)) ⟨w.heap.size, 5, none⟩ = some (.slice cC nC pC) := by go_simp
  go_enter Tryz.func41, Tryz.ntmps41
  go_upto_region 1 with fail
  have HSZ := hik (show w.heap.size < (w.alloc (.cells #[.int .i64 r, .int .i64 q, .int .i64 p, .slice cA nA pA, .slice cB nB pB, .slice cC nC pC] 43)).heap.size by simp)
  generalize (w.alloc (.cells #[.int .i64 r, .int .i64 q, .int .i64 p, .slice cA nA pA, .slice cB nB pB, .slice cC nC pC] 43)) = B at x0 x1 x2 x3 x4 x5 KB HSZ ⊢
  cases h1 : lgb r with
  | false =>
    go_quiet ((go_at_call 65; refine Calls.quiet_of_same (isLog_any _ _)))
    go_wp2
    go_ret
    exact ⟨ret_bool (by rw [HS.out]; simp [synb, h1] <;> (intros; omega)), KB.out.drewN _⟩
  | true =>
  cases h2 : lgb q with
  | false =>
    go_quiet ((go_at_call 65; refine Calls.quiet_of_same (isLog_any _ _)))
    go_wp2
    go_ret
    exact ⟨ret_bool (by rw [HS.out]; simp [synb, h1, h2] <;> (intros; omega)), KB.out.drewN _⟩
  | true =>
  by_cases h3 : q < 2
  · have h3' : decide (q < 2) = true := by simp [h3]
    have h3'' : ¬ 2 ≤ q := by omega
    go_quiet ((go_at_call 65; refine Calls.quiet_of_same (isLog_any _ _)))
    go_wp2
    go_ret
    exact ⟨ret_bool (by rw [HS.out]; simp [synb, h1, h2] <;> (intros; omega)), KB.out.drewN _⟩
  have h3' : decide (q < 2) = false := by simp [h3]
  by_cases h4 : p < 0
  · have h4' : decide (p < 0) = true := by simp [h4]
    have h4'' : ¬ 0 ≤ p := by omega
    go_quiet ((go_at_call 65; refine Calls.quiet_of_same (isLog_any _ _)))
    go_wp2
    go_ret
    exact ⟨ret_bool (by rw [HS.out]; simp [synb, h1, h2] <;> (intros; omega)), KB.out.drewN _⟩
  have h4' : decide (p < 0) = false := by simp [h4]
  have hq5 : 1 ≤ q ∧ q ≤ 5 := by simpa [lgb] using h2
  have hr5 : 1 ≤ r ∧ r ≤ 5 := by simpa [lgb] using h1
  obtain ⟨m, rfl⟩ : ∃ m : Nat, q = ((m + 1 : Nat) : Int) := ⟨q.toNat - 1, by omega⟩
  obtain ⟨rr, rfl⟩ : ∃ rr : Nat, r = (rr : Int) := ⟨r.toNat, by omega⟩
  have hm : ((m + 1 : Nat) : Int).toNat = m + 1 := by omega
  have hrr : ((rr : Nat) : Int).toNat = rr := by omega
  have hm4 : m ≤ 4 := by omega
  have hr4 : rr ≤ 5 := by omega
  rw [hm, hrr] at HS
  have HC0 := fun v1 v2 v3 v4 v5 W => rowCount_any rr (by omega) v1 v2 v3 v4 v5 W
  have HCC := fun v0 v2 v3 v4 v5 W => half_any m (by omega) v0 v2 v3 v4 v5 W
  have HC1 := fun v0 v2 v3 v4 v5 W => colCount_any (m + 1) (by omega) v0 v2 v3 v4 v5 W
  have HSY := hik (show synb ⟨(rr : Int), ((m + 1 : Nat) : Int), p, nA, nB, nC, XA, XB, XC⟩ = decide (p < 2 ^ m) by simp only [synb, h1, h2, hm, Nat.add_sub_cancel]; simp [show 0 ≤ p by omega]; intros; omega)
  have HP1 := hik (show (2 : Int) ^ (m + 1) ≤ 1048576 by rcases (show m = 0 ∨ m = 1 ∨ m = 2 ∨ m = 3 ∨ m = 4 by omega) with rfl | rfl | rfl | rfl | rfl <;> decide)
  have HP0 := hik (show (2 : Int) ^ rr ≤ 1048576 by rcases (show rr = 0 ∨ rr = 1 ∨ rr = 2 ∨ rr = 3 ∨ rr = 4 ∨ rr = 5 by omega) with rfl | rfl | rfl | rfl | rfl | rfl <;> decide)
  have hv : Hid (EntV w cA nA XA ∧ EntV w cB nB XB ∧ EntV w cC nC XC) := hik ⟨hv.out.A, hv.out.B, hv.out.C⟩
  rw [HSY.out] at HS
  clear HSY
  have h1 : lgb ((rr : Nat) : Int) = true := h1
  generalize ((m + 1 : Nat) : Int) = q at x1 h2 h3 h3' HCC HC1 ⊢
  generalize ((rr : Nat) : Int) = r at x0 h1 HC0 ⊢
  generalize (2 : Int) ^ (m + 1) = C at HC1 HS HP1
  generalize (2 : Int) ^ m = Z at HCC HS
  generalize (2 : Int) ^ rr = R at HC0 HS HP0
  clear hq5 hr5 hm hrr hm4 hr4 h3 h4
  by_cases h5 : Z ≤ p
  · have h5' : decide (Z ≤ p) = true := by simp [h5]
    have h6 : ¬ p < Z := by omega
    go_region_held3 (fun w' => w'.cell? ⟨w.heap.size, 0, none⟩ = some (.int .i64 r) ∧ w'.cell? ⟨w.heap.size, 1, none⟩ = some (.int .i64 q) ∧ w'.cell? ⟨w.heap.size, 2, none⟩ = some (.int .i64 p) ∧ w'.cell? ⟨w.heap.size, 3, none⟩ = some (.slice cA nA pA) ∧ w'.cell? ⟨w.heap.size, 4, none⟩ = some (.slice cB nB pB) ∧ w'.cell? ⟨w.heap.size, 5, none⟩ = some (.slice cC nC pC)) (first | (exact ⟨x0, x1, x2, x3, x4, x5⟩) | (exact ⟨k6.look x0, k6.look x1, k6.look x2, k6.look x3, k6.look x4, k6.look x5⟩)) (first | (go_at_call 65; refine (isLog_any _ _).mono ?_; rintro e w' ⟨rfl, hw⟩; have hw := hw.symm; subst hw) | (go_at_call 66; refine (HCC _ _ _ _ _ _).mono ?_; rintro e w3 ⟨rfl, k6⟩))
    have KK := hik ((KB.out.drew1).trans k6)
    go_wp2
    go_ret
    exact ⟨ret_bool (by rw [HS.out, decide_eq_false (show ¬ p < Z by omega)]; rfl), KK.out⟩
  have h5' : decide (Z ≤ p) = false := by simp [h5]
  have h6 : p < Z := by omega
  have hmm := @run_makeMap Tryz.prog
  go_region_held3 (fun w' => w'.cell? ⟨w.heap.size, 0, none⟩ = some (.int .i64 r) ∧ w'.cell? ⟨w.heap.size, 1, none⟩ = some (.int .i64 q) ∧ w'.cell? ⟨w.heap.size, 2, none⟩ = some (.int .i64 p) ∧ w'.cell? ⟨w.heap.size, 3, none⟩ = some (.slice cA nA pA) ∧ w'.cell? ⟨w.heap.size, 4, none⟩ = some (.slice cB nB pB) ∧ w'.cell? ⟨w.heap.size, 5, none⟩ = some (.slice cC nC pC)) (first | (exact ⟨x0, x1, x2, x3, x4, x5⟩) | (exact ⟨k6.look x0, k6.look x1, k6.look x2, k6.look x3, k6.look x4, k6.look x5⟩)) (first | (go_at_call 65; refine (isLog_any _ _).mono ?_; rintro e w' ⟨rfl, hw⟩; have hw := hw.symm; subst hw) | (go_at_call 66; refine (HCC _ _ _ _ _ _).mono ?_; rintro e w3 ⟨rfl, k6⟩))
  have K3 := hik ((KB.out.drew1).trans k6)
  have BX : Hid (Cel w3 w.heap.size #[.int .i64 r, .int .i64 q, .int .i64 p, .slice cA nA pA, .slice cB nB pB, .slice cC nC pC]) := hik (cel6 (k6.look x0) (k6.look x1) (k6.look x2) (k6.look x3) (k6.look x4) (k6.look x5))
  rw [show decide (p < Z) = true by simp [h6], Bool.true_and] at HS
  have KX := hik (show w.heap.size < w3.heap.size from BX.out.1)
  clear k6 x0 x1 x2 x3 x4 x5 HCC h1 h2 h3' h4' h5 h5' h6 KB HSZ
  obtain ⟨x0, x1, x2, x3, x4, x5⟩ := BX.out.six
  have hlt3 := KX.out
  go_wp2_with fail
  refine (matrices_any _ _ _ cA cB cC nA pA nB pB nC pC _).mono ?_
  rintro e w4 ⟨rfl, k4⟩
  clear x0 x1 x2 x3 x4 x5 hlt3
  have G4 := hik (show Grd w4 w3.heap.size 0 (.map []) from Grd.keep (World.ownsMap_made w3 _ _ _) k4)
  have K4 := hik ((K3.out.alloc _).trans k4)
  have HB3 := hik K3.out.size
  replace BX := hik ((BX.out.keep ((Chg.refl nob w3).alloc (.map #[] 0))).keep k4)
  generalize w3.heap.size = b at G4 HB3 KX ⊢
  clear k4 hmm
  go_wp2_with fail
  go_loopw [36] (fun s36 wr => ∃ k : Nat, k ≤ 3 ∧ s36 = .int .i64 k ∧ Hid (∃ n D, Grd wr b n D) ∧ Hid (Chg nob w wr) ∧ Hid (Cel wr w.heap.size #[.int .i64 r, .int .i64 q, .int .i64 p, .slice cA nA pA, .slice cB nB pB, .slice cC nC pC]) ∧ Hid ((0 < k → elm R C nA XA = true) ∧ (1 < k → elm R C nB XB = true) ∧ (2 < k → elm R C nC XC = true))) (fun s36 _ => 3 - (intOf s36).toNat)
  case atStart => exact ⟨0, by omega, rfl, hik ⟨_, _, G4.out⟩, K4, BX, hik ⟨by omega, by omega, by omega⟩⟩
  case round =>
    obtain ⟨k, hk, rfl, GW, KW, BW, EW⟩ := hrel
    rcases (show k = 0 ∨ k = 1 ∨ k = 2 ∨ k = 3 by omega) with rfl | rfl | rfl | rfl
    · have ix := fun W => index3_0 cA cB cC nA pA nB pB nC pC W
      obtain ⟨x0, x1, x2, x3, x4, x5⟩ := BW.out.six
      obtain ⟨n0, D0, gw⟩ := GW.out
      have g0 := hik gw
      have HNB := hik (show ¬ w.heap.size = b by have := HB3.out; have := KX.out; omega)
      clear gw
      have EV := hik (hv.out.1.keep KW.out)
      cases hel : elm R C nA XA with
      | true =>
        go_wp2_with fail
        go_region_held3 (fun w' => w'.cell? ⟨w.heap.size, 0, none⟩ = some (.int .i64 r) ∧ w'.cell? ⟨w.heap.size, 1, none⟩ = some (.int .i64 q) ∧ w'.cell? ⟨w.heap.size, 2, none⟩ = some (.int .i64 p) ∧ w'.cell? ⟨w.heap.size, 3, none⟩ = some (.slice cA nA pA) ∧ w'.cell? ⟨w.heap.size, 4, none⟩ = some (.slice cB nB pB) ∧ w'.cell? ⟨w.heap.size, 5, none⟩ = some (.slice cC nC pC)) (first | (exact ⟨x0, x1, x2, x3, x4, x5⟩) | (exact ⟨k6.look x0, k6.look x1, k6.look x2, k6.look x3, k6.look x4, k6.look x5⟩) | (exact ⟨k7.look (k6.look x0), k7.look (k6.look x1), k7.look (k6.look x2), k7.look (k6.look x3), k7.look (k6.look x4), k7.look (k6.look x5)⟩) | (exact (((BW.out.keep (((Chg.refl nob _).drew1).trans (k6.trans k7))).chg k8 HNB.out).six))) (first | (go_at_call 69; refine (HC0 _ _ _ _ _ _).mono ?_; rintro e w5 ⟨rfl, k6⟩) | (go_at_call 70; refine (HC1 _ _ _ _ _ _).mono ?_; rintro e w6 ⟨rfl, k7⟩) | (go_at_call 68; refine (isMatrix_any b n0 D0 cA nA pA XA R C _ (hik (g0.out.keep (((Chg.refl nob _).drew1).trans (k6.trans k7)))) (hik (EV.out.keep (((Chg.refl nob _).drew1).trans (k6.trans k7)))) hsA HP0.out HP1.out).mono ?_; rw [hel]; rintro e w7 ⟨rfl, g8, k8⟩))
        have KE := (((Chg.refl nob wr).drew1).trans (k6.trans k7))
        have K8 := hik (KW.out.near ((KE.wide).trans k8) (fun i e => by rw [e]; exact HB3.out))
        have B8 := hik ((BW.out.keep KE).chg k8 HNB.out)
        have G8 := hik g8
        have HEL := hik hel
        clear k6 k7 k8 KE g8 x0 x1 x2 x3 x4 x5 hel
        go_wp2
        go_roundw
        case rel => exact ⟨1, by omega, by go_num, G8, K8, B8, hik ⟨fun _ => (by first | exact HEL.out | trivial), by omega, by omega⟩⟩
        case measure => simp [intOf]
      | false =>
        go_wp2_with fail
        go_region_held3 (fun w' => w'.cell? ⟨w.heap.size, 0, none⟩ = some (.int .i64 r) ∧ w'.cell? ⟨w.heap.size, 1, none⟩ = some (.int .i64 q) ∧ w'.cell? ⟨w.heap.size, 2, none⟩ = some (.int .i64 p) ∧ w'.cell? ⟨w.heap.size, 3, none⟩ = some (.slice cA nA pA) ∧ w'.cell? ⟨w.heap.size, 4, none⟩ = some (.slice cB nB pB) ∧ w'.cell? ⟨w.heap.size, 5, none⟩ = some (.slice cC nC pC)) (first | (exact ⟨x0, x1, x2, x3, x4, x5⟩) | (exact ⟨k6.look x0, k6.look x1, k6.look x2, k6.look x3, k6.look x4, k6.look x5⟩) | (exact ⟨k7.look (k6.look x0), k7.look (k6.look x1), k7.look (k6.look x2), k7.look (k6.look x3), k7.look (k6.look x4), k7.look (k6.look x5)⟩) | (exact (((BW.out.keep (((Chg.refl nob _).drew1).trans (k6.trans k7))).chg k8 HNB.out).six))) (first | (go_at_call 69; refine (HC0 _ _ _ _ _ _).mono ?_; rintro e w5 ⟨rfl, k6⟩) | (go_at_call 70; refine (HC1 _ _ _ _ _ _).mono ?_; rintro e w6 ⟨rfl, k7⟩) | (go_at_call 68; refine (isMatrix_any b n0 D0 cA nA pA XA R C _ (hik (g0.out.keep (((Chg.refl nob _).drew1).trans (k6.trans k7)))) (hik (EV.out.keep (((Chg.refl nob _).drew1).trans (k6.trans k7)))) hsA HP0.out HP1.out).mono ?_; rw [hel]; rintro e w7 ⟨rfl, g8, k8⟩))
        have KE := (((Chg.refl nob wr).drew1).trans (k6.trans k7))
        have K8 := hik (KW.out.near ((KE.wide).trans k8) (fun i e => by rw [e]; exact HB3.out))
        have HEL := hik hel
        clear k6 k7 k8 KE g8 x0 x1 x2 x3 x4 x5 hel
        go_wp2
        go_ret
        exact ⟨ret_bool (by rw [HS.out, HEL.out]; simp), K8.out⟩
    · have ix := fun W => index3_1 cA cB cC nA pA nB pB nC pC W
      obtain ⟨x0, x1, x2, x3, x4, x5⟩ := BW.out.six
      obtain ⟨n0, D0, gw⟩ := GW.out
      have g0 := hik gw
      have HNB := hik (show ¬ w.heap.size = b by have := HB3.out; have := KX.out; omega)
      clear gw
      have EV := hik (hv.out.2.1.keep KW.out)
      cases hel : elm R C nB XB with
      | true =>
        go_wp2_with fail
        go_region_held3 (fun w' => w'.cell? ⟨w.heap.size, 0, none⟩ = some (.int .i64 r) ∧ w'.cell? ⟨w.heap.size, 1, none⟩ = some (.int .i64 q) ∧ w'.cell? ⟨w.heap.size, 2, none⟩ = some (.int .i64 p) ∧ w'.cell? ⟨w.heap.size, 3, none⟩ = some (.slice cA nA pA) ∧ w'.cell? ⟨w.heap.size, 4, none⟩ = some (.slice cB nB pB) ∧ w'.cell? ⟨w.heap.size, 5, none⟩ = some (.slice cC nC pC)) (first | (exact ⟨x0, x1, x2, x3, x4, x5⟩) | (exact ⟨k6.look x0, k6.look x1, k6.look x2, k6.look x3, k6.look x4, k6.look x5⟩) | (exact ⟨k7.look (k6.look x0), k7.look (k6.look x1), k7.look (k6.look x2), k7.look (k6.look x3), k7.look (k6.look x4), k7.look (k6.look x5)⟩) | (exact (((BW.out.keep (((Chg.refl nob _).drew1).trans (k6.trans k7))).chg k8 HNB.out).six))) (first | (go_at_call 69; refine (HC0 _ _ _ _ _ _).mono ?_; rintro e w5 ⟨rfl, k6⟩) | (go_at_call 70; refine (HC1 _ _ _ _ _ _).mono ?_; rintro e w6 ⟨rfl, k7⟩) | (go_at_call 68; refine (isMatrix_any b n0 D0 cB nB pB XB R C _ (hik (g0.out.keep (((Chg.refl nob _).drew1).trans (k6.trans k7)))) (hik (EV.out.keep (((Chg.refl nob _).drew1).trans (k6.trans k7)))) hsB HP0.out HP1.out).mono ?_; rw [hel]; rintro e w7 ⟨rfl, g8, k8⟩))
        have KE := (((Chg.refl nob wr).drew1).trans (k6.trans k7))
        have K8 := hik (KW.out.near ((KE.wide).trans k8) (fun i e => by rw [e]; exact HB3.out))
        have B8 := hik ((BW.out.keep KE).chg k8 HNB.out)
        have G8 := hik g8
        have HEL := hik hel
        clear k6 k7 k8 KE g8 x0 x1 x2 x3 x4 x5 hel
        go_wp2
        go_roundw
        case rel => exact ⟨2, by omega, by go_num, G8, K8, B8, hik ⟨fun _ => EW.out.1 (by omega), fun _ => (by first | exact HEL.out | trivial), by omega⟩⟩
        case measure => simp [intOf]
      | false =>
        go_wp2_with fail
        go_region_held3 (fun w' => w'.cell? ⟨w.heap.size, 0, none⟩ = some (.int .i64 r) ∧ w'.cell? ⟨w.heap.size, 1, none⟩ = some (.int .i64 q) ∧ w'.cell? ⟨w.heap.size, 2, none⟩ = some (.int .i64 p) ∧ w'.cell? ⟨w.heap.size, 3, none⟩ = some (.slice cA nA pA) ∧ w'.cell? ⟨w.heap.size, 4, none⟩ = some (.slice cB nB pB) ∧ w'.cell? ⟨w.heap.size, 5, none⟩ = some (.slice cC nC pC)) (first | (exact ⟨x0, x1, x2, x3, x4, x5⟩) | (exact ⟨k6.look x0, k6.look x1, k6.look x2, k6.look x3, k6.look x4, k6.look x5⟩) | (exact ⟨k7.look (k6.look x0), k7.look (k6.look x1), k7.look (k6.look x2), k7.look (k6.look x3), k7.look (k6.look x4), k7.look (k6.look x5)⟩) | (exact (((BW.out.keep (((Chg.refl nob _).drew1).trans (k6.trans k7))).chg k8 HNB.out).six))) (first | (go_at_call 69; refine (HC0 _ _ _ _ _ _).mono ?_; rintro e w5 ⟨rfl, k6⟩) | (go_at_call 70; refine (HC1 _ _ _ _ _ _).mono ?_; rintro e w6 ⟨rfl, k7⟩) | (go_at_call 68; refine (isMatrix_any b n0 D0 cB nB pB XB R C _ (hik (g0.out.keep (((Chg.refl nob _).drew1).trans (k6.trans k7)))) (hik (EV.out.keep (((Chg.refl nob _).drew1).trans (k6.trans k7)))) hsB HP0.out HP1.out).mono ?_; rw [hel]; rintro e w7 ⟨rfl, g8, k8⟩))
        have KE := (((Chg.refl nob wr).drew1).trans (k6.trans k7))
        have K8 := hik (KW.out.near ((KE.wide).trans k8) (fun i e => by rw [e]; exact HB3.out))
        have HEL := hik hel
        clear k6 k7 k8 KE g8 x0 x1 x2 x3 x4 x5 hel
        go_wp2
        go_ret
        exact ⟨ret_bool (by rw [HS.out, HEL.out]; simp), K8.out⟩
    · have ix := fun W => index3_2 cA cB cC nA pA nB pB nC pC W
      obtain ⟨x0, x1, x2, x3, x4, x5⟩ := BW.out.six
      obtain ⟨n0, D0, gw⟩ := GW.out
      have g0 := hik gw
      have HNB := hik (show ¬ w.heap.size = b by have := HB3.out; have := KX.out; omega)
      clear gw
      have EV := hik (hv.out.2.2.keep KW.out)
      cases hel : elm R C nC XC with
      | true =>
        go_wp2_with fail
        go_region_held3 (fun w' => w'.cell? ⟨w.heap.size, 0, none⟩ = some (.int .i64 r) ∧ w'.cell? ⟨w.heap.size, 1, none⟩ = some (.int .i64 q) ∧ w'.cell? ⟨w.heap.size, 2, none⟩ = some (.int .i64 p) ∧ w'.cell? ⟨w.heap.size, 3, none⟩ = some (.slice cA nA pA) ∧ w'.cell? ⟨w.heap.size, 4, none⟩ = some (.slice cB nB pB) ∧ w'.cell? ⟨w.heap.size, 5, none⟩ = some (.slice cC nC pC)) (first | (exact ⟨x0, x1, x2, x3, x4, x5⟩) | (exact ⟨k6.look x0, k6.look x1, k6.look x2, k6.look x3, k6.look x4, k6.look x5⟩) | (exact ⟨k7.look (k6.look x0), k7.look (k6.look x1), k7.look (k6.look x2), k7.look (k6.look x3), k7.look (k6.look x4), k7.look (k6.look x5)⟩) | (exact (((BW.out.keep (((Chg.refl nob _).drew1).trans (k6.trans k7))).chg k8 HNB.out).six))) (first | (go_at_call 69; refine (HC0 _ _ _ _ _ _).mono ?_; rintro e w5 ⟨rfl, k6⟩) | (go_at_call 70; refine (HC1 _ _ _ _ _ _).mono ?_; rintro e w6 ⟨rfl, k7⟩) | (go_at_call 68; refine (isMatrix_any b n0 D0 cC nC pC XC R C _ (hik (g0.out.keep (((Chg.refl nob _).drew1).trans (k6.trans k7)))) (hik (EV.out.keep (((Chg.refl nob _).drew1).trans (k6.trans k7)))) hsC HP0.out HP1.out).mono ?_; rw [hel]; rintro e w7 ⟨rfl, g8, k8⟩))
        have KE := (((Chg.refl nob wr).drew1).trans (k6.trans k7))
        have K8 := hik (KW.out.near ((KE.wide).trans k8) (fun i e => by rw [e]; exact HB3.out))
        have B8 := hik ((BW.out.keep KE).chg k8 HNB.out)
        have G8 := hik g8
        have HEL := hik hel
        clear k6 k7 k8 KE g8 x0 x1 x2 x3 x4 x5 hel
        go_wp2
        go_roundw
        case rel => exact ⟨3, by omega, by go_num, G8, K8, B8, hik ⟨fun _ => EW.out.1 (by omega), fun _ => EW.out.2.1 (by omega), fun _ => (by first | exact HEL.out | trivial)⟩⟩
        case measure => simp [intOf]
      | false =>
        go_wp2_with fail
        go_region_held3 (fun w' => w'.cell? ⟨w.heap.size, 0, none⟩ = some (.int .i64 r) ∧ w'.cell? ⟨w.heap.size, 1, none⟩ = some (.int .i64 q) ∧ w'.cell? ⟨w.heap.size, 2, none⟩ = some (.int .i64 p) ∧ w'.cell? ⟨w.heap.size, 3, none⟩ = some (.slice cA nA pA) ∧ w'.cell? ⟨w.heap.size, 4, none⟩ = some (.slice cB nB pB) ∧ w'.cell? ⟨w.heap.size, 5, none⟩ = some (.slice cC nC pC)) (first | (exact ⟨x0, x1, x2, x3, x4, x5⟩) | (exact ⟨k6.look x0, k6.look x1, k6.look x2, k6.look x3, k6.look x4, k6.look x5⟩) | (exact ⟨k7.look (k6.look x0), k7.look (k6.look x1), k7.look (k6.look x2), k7.look (k6.look x3), k7.look (k6.look x4), k7.look (k6.look x5)⟩) | (exact (((BW.out.keep (((Chg.refl nob _).drew1).trans (k6.trans k7))).chg k8 HNB.out).six))) (first | (go_at_call 69; refine (HC0 _ _ _ _ _ _).mono ?_; rintro e w5 ⟨rfl, k6⟩) | (go_at_call 70; refine (HC1 _ _ _ _ _ _).mono ?_; rintro e w6 ⟨rfl, k7⟩) | (go_at_call 68; refine (isMatrix_any b n0 D0 cC nC pC XC R C _ (hik (g0.out.keep (((Chg.refl nob _).drew1).trans (k6.trans k7)))) (hik (EV.out.keep (((Chg.refl nob _).drew1).trans (k6.trans k7)))) hsC HP0.out HP1.out).mono ?_; rw [hel]; rintro e w7 ⟨rfl, g8, k8⟩))
        have KE := (((Chg.refl nob wr).drew1).trans (k6.trans k7))
        have K8 := hik (KW.out.near ((KE.wide).trans k8) (fun i e => by rw [e]; exact HB3.out))
        have HEL := hik hel
        clear k6 k7 k8 KE g8 x0 x1 x2 x3 x4 x5 hel
        go_wp2
        go_ret
        exact ⟨ret_bool (by rw [HS.out, HEL.out]; simp), K8.out⟩
    · go_wp2
      go_ret
      exact ⟨ret_bool (by rw [HS.out, EW.out.1 (by omega), EW.out.2.1 (by omega), EW.out.2.2 (by omega)]; rfl), KW.out⟩

end Go.Proofs.YtppiilbcnkphbaaGreat

namespace Go.Proofs.YtppiilbcnkphbaaGreat
open Go.ChangeShapes Go.WideShapes Go.ChangeAt Go.RowKit
set_option linter.unusedVariables false
set_option maxRecDepth 100000
set_option linter.unusedSimpArgs false

/-- One of four. -/
def pk4 (a b c d : Int) (i : Nat) : Int := if i = 0 then a else if i = 1 then b else if i = 2 then c else d
theorem pair3_new (W : World) (a0 a1 b0 b1 c0 c1 : Int) (t : TypeId) : PairV (W.alloc (.cells #[.int .i64 a0, .int .i64 a1, .int .i64 b0, .int .i64 b1, .int .i64 c0, .int .i64 c1] t)) (some ⟨W.heap.size, 0, none⟩) 3 (pk4 a0 b0 c0 0) (pk4 a1 b1 c1 0) := by
  intro i hi
  rcases (show i = 0 ∨ i = 1 ∨ i = 2 by omega) with rfl | rfl | rfl <;> exact ⟨W.heap.size, 0, rfl, by simp, by simp [pk4], by simp [pk4]⟩
theorem pair4_new (W : World) (a0 a1 b0 b1 c0 c1 d0 d1 : Int) (t : TypeId) : PairV (W.alloc (.cells #[.int .i64 a0, .int .i64 a1, .int .i64 b0, .int .i64 b1, .int .i64 c0, .int .i64 c1, .int .i64 d0, .int .i64 d1] t)) (some ⟨W.heap.size, 0, none⟩) 4 (pk4 a0 b0 c0 d0) (pk4 a1 b1 c1 d1) := by
  intro i hi
  rcases (show i = 0 ∨ i = 1 ∨ i = 2 ∨ i = 3 by omega) with rfl | rfl | rfl | rfl <;> exact ⟨W.heap.size, 0, rfl, by simp, by simp [pk4], by simp [pk4]⟩
theorem okP3 (a0 a1 b0 b1 c0 c1 : Int) : okP (pk4 a0 b0 c0 0) (pk4 a1 b1 c1 0) 3 = (eok a0 a1 && (eok b0 b1 && eok c0 c1)) := by
  simp [okP, pk4, Bool.and_assoc]
theorem okP4 (a0 a1 b0 b1 c0 c1 d0 d1 : Int) : okP (pk4 a0 b0 c0 d0) (pk4 a1 b1 c1 d1) 4 = ((eok a0 a1 && (eok b0 b1 && eok c0 c1)) && eok d0 d1) := by
  simp [okP, pk4, Bool.and_assoc]
theorem sysb_q {s : Sy} (h : sysb s = true) : 1 ≤ s.r ∧ s.r ≤ 5 ∧ 2 ≤ s.q ∧ s.q ≤ 5 := by
  unfold sysb at h
  simp only [Bool.and_eq_true, decide_eq_true_eq] at h
  omega

end Go.Proofs.YtppiilbcnkphbaaGreat
