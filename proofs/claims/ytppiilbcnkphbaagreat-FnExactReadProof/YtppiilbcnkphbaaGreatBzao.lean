/- Several texts in one: What the laws' sizes of lists of lists, queries and openings are: contracts. Conditions: lists that can be read, lengths that an int can have. · What the laws' marks of lists of lists, queries and openings are, and that they are found again: contracts. Conditions: lists of a call's own, of at most 2 to the 20 items; marks from 1 to 2 to the 39. · What a proof holds, and when it has all its parts: words. No condition but those that each theorem states. · When a proof has all its parts: words. No condition but those that each theorem states. -/
import Derived.Test.YtppiilbcnkphbaaGreatBzah
import Derived.Test.YtppiilbcnkphbaaGreatBzay
namespace Go.Proofs.YtppiilbcnkphbaaGreat
open Go.ChangeShapes Go.WideShapes Go.ChangeAt Go.RowKit
set_option linter.unusedVariables false
set_option maxRecDepth 100000
set_option linter.unusedSimpArgs false

/-- How many items a query has; an opening. -/
def QD.cnt (q : QD) : Nat := q.np + sumN (fun j => q.l j) q.nq
def OD.cnt (o : OD) : Nat := sumN (fun j => o.rl j) o.nr + o.nt + sumN (fun j => (o.q j).cnt) o.nq


end Go.Proofs.YtppiilbcnkphbaaGreat

namespace Go.Proofs.YtppiilbcnkphbaaGreat
open Go.ChangeShapes Go.WideShapes Go.ChangeAt Go.RowKit
set_option linter.unusedVariables false
set_option maxRecDepth 100000
set_option linter.unusedSimpArgs false

/-- The marks of texts, from k on. -/
def mvq (k i : Nat) : ByteArray := mt (k + i)
theorem ret_i {a b : Int} (h : a = b) : Ending.returned (.int .i64 a) = .returned (.int .i64 b) := by rw [h]

set_option maxHeartbeats 1000000 in
theorem markNone (c : Option Addr) (cap q : Nat) (w : World) : Calls Tryz.prog 55 #[.slice c 0 cap, .int .i64 (q : Int)] w fun e w' => e = .returned (.int .i64 (q : Int)) ∧ Chg nob w w' := by
  go_enter Tryz.func55, Tryz.ntmps55
  go_wp2
  go_loopw [1, 5] (fun v i W => i = .int .i64 0 ∧ v = .int .i64 (q : Int) ∧ Hid (Chg nob w W)) (fun _ _ _ => 0)
  case atStart => exact ⟨rfl, rfl, hik (Chg.refl _ _)⟩
  case round =>
    obtain ⟨rfl, rfl, HC⟩ := hrel
    go_wp2
    go_ret
    exact ⟨rfl, HC.out⟩

set_option maxHeartbeats 1000000 in
theorem markText_row (g n cap : Nat) (f : Nat → Value) (q : Nat) (w : World) (h : Hid (WRow w g n f)) (hn : n ≤ 549755813888) (q0 : 1 ≤ q) (q1 : q + n ≤ 1099511627775) :
    Calls Tryz.prog 56 #[.slice (some ⟨g, 0, none⟩) n cap, .int .i64 (q : Int)] w fun e w' => e = .returned (.int .i64 ((q + n : Nat) : Int)) ∧ WRow w' g n (sb (mvq q)) ∧ Chg (fun b => b = g) w w' := by
  have hgl := h.out.lt
  go_enter Tryz.func56, Tryz.ntmps56
  go_wp2
  go_loopw [1, 5] (fun v i W => ∃ k m : Nat, k ≤ n ∧ i = .int .i64 k ∧ v = .int .i64 m ∧ Hid (m = q + k) ∧ Hid (WRow W g n (fun j => if j < k then sb (mvq q) j else f j)) ∧ Hid (Chg (fun b => b = g) w W)) (fun _ i _ => n - (intOf i).toNat)
  case atStart => exact ⟨0, q, Nat.zero_le _, rfl, rfl, hik rfl, hik (by simpa using h.out), hik (Chg.refl _ _)⟩
  case round =>
    obtain ⟨k, m, hk, rfl, rfl, HM, HR, HC⟩ := hrel
    by_cases hlt : k < n
    · have hm1 : 1 ≤ m := by have := HM.out; omega
      have hm3 : m ≤ 1099511627776 := by have := HM.out; omega
      go_wp2_with (go_at_call 83; refine (markText_any m _ hm1 hm3).mono ?_; rintro e W1 ⟨rfl, k1⟩; have R1 := hik (HR.out.keep k1); have C1 := hik (HC.out.trans (k1.mono (fun _ _ x => x.elim))); clear k1; have hg := R1.out.cell k hlt; have hf := R1.out.fro k hlt; simp only [Nat.lt_irrefl, if_false] at hg)
      have HR2 := hik (show _ from (R1.out.set k hlt (.string (mt m))).congr (f' := fun j => if j < k + 1 then sb (mvq q) j else f j) (fun i _ => by
        by_cases e : i = k
        · subst e; rw [if_pos rfl, if_pos (by omega)]; unfold sb mvq; rw [HM.out]
        · rw [if_neg e]
          by_cases e2 : i < k
          · rw [if_pos e2, if_pos (by omega)]
          · rw [if_neg e2, if_neg (by omega)]))
      have HC2 := hik (C1.out.setCell (p := ⟨g, k, none⟩) (fun _ => rfl) (.string (mt m)))
      go_roundw
      case rel => exact ⟨k + 1, m + 1, by omega, by go_num, by go_num, hik (by rw [HM.out]; omega), HR2, HC2⟩
      case measure => simp [intOf]; omega
    · obtain rfl : k = n := by omega
      have E := hik (show (m : Int) = ((q + k : Nat) : Int) by have := HM.out; omega)
      go_wp2
      go_ret
      exact ⟨by rw [← E.out]; rfl, ⟨HR.out.lt, fun i hi => by rw [HR.out.cell i hi, if_pos hi], HR.out.fro⟩, HC.out⟩

set_option maxHeartbeats 1000000 in
theorem markTextNone (c : Option Addr) (cap q : Nat) (w : World) : Calls Tryz.prog 56 #[.slice c 0 cap, .int .i64 (q : Int)] w fun e w' => e = .returned (.int .i64 (q : Int)) ∧ Chg nob w w' := by
  go_enter Tryz.func56, Tryz.ntmps56
  go_wp2
  go_loopw [1, 5] (fun v i W => i = .int .i64 0 ∧ v = .int .i64 (q : Int) ∧ Hid (Chg nob w W)) (fun _ _ _ => 0)
  case atStart => exact ⟨rfl, rfl, hik (Chg.refl _ _)⟩
  case round =>
    obtain ⟨rfl, rfl, HC⟩ := hrel
    go_wp2
    go_ret
    exact ⟨rfl, HC.out⟩

/-- Marked lists. -/
def mEE (n : Nat) (l : Nat → Nat) (q : Nat) : Dt := dEE n l (fun i => mka ((q + 2 * sumN l i : Nat) : Int)) (fun i => mkd ((q + 2 * sumN l i : Nat) : Int))
def mSS (n : Nat) (l : Nat → Nat) (q : Nat) : Dt := dSS n l (fun i => mvq (q + 1 * sumN l i))

/-- A marked query, and how many marks it has. -/
def QD.mk9 (x : QD) (q : Nat) : QD := { x with f := mka (q : Int), g := mkd (q : Int), T := fun i => mvq (q + 2 * x.np + 1 * sumN x.l i) }
def QD.mc (x : QD) : Nat := 2 * x.np + 1 * sumN x.l x.nq
def mQs (n : Nat) (x : Nat → QD) (q : Nat) : Dt := dQs n (fun i => (x i).mk9 (q + sumN (fun i => (x i).mc) i))

/-- A marked opening, and how many marks it has. -/
def OD.mk9 (o : OD) (q : Nat) : OD := { o with rf := fun i => mka ((q + 2 * sumN o.rl i : Nat) : Int), rg := fun i => mkd ((q + 2 * sumN o.rl i : Nat) : Int), ts := mvq (q + 2 * sumN o.rl o.nr), q := fun i => (o.q i).mk9 (q + 2 * sumN o.rl o.nr + o.nt + sumN (fun i => (o.q i).mc) i) }
def OD.mc (o : OD) : Nat := 2 * sumN o.rl o.nr + o.nt + sumN (fun i => (o.q i).mc) o.nq
/-- An opening whose parts lie in blocks of their own. -/
def OpO (w : World) (lo m1 m2 hi : Nat) (o : OD) (cR : Option Addr) (pR : Nat) (cT : Option Addr) (pT : Nat) (cQ : Option Addr) (pQ : Nat) : Prop :=
  lo ≤ m1 ∧ m1 ≤ m2 ∧ m2 ≤ hi ∧ o.R.Own w lo m1 (.slice cR o.nr pR) ∧ o.S.Own w m1 m2 (.slice cT o.nt pT) ∧ o.Q.Own w m2 hi (.slice cQ o.nq pQ)
theorem OpO.chg {P : Nat → Prop} {w w' : World} {lo m1 m2 hi : Nat} {o : OD} {cR : Option Addr} {pR : Nat} {cT : Option Addr} {pT : Nat} {cQ : Option Addr} {pQ : Nat} (h : OpO w lo m1 m2 hi o cR pR cT pT cQ pQ) (k : Chg P w w') (hp : ∀ b, lo ≤ b → b < hi → ¬ P b) : OpO w' lo m1 m2 hi o cR pR cT pT cQ pQ :=
  ⟨h.1, h.2.1, h.2.2.1, h.2.2.2.1.chg k (fun b b1 b2 => hp b b1 (by have := h.2.1; have := h.2.2.1; omega)), h.2.2.2.2.1.chg k (fun b b1 b2 => hp b (by have := h.1; omega) (by have := h.2.2.1; omega)), h.2.2.2.2.2.chg k (fun b b1 b2 => hp b (by have := h.1; have := h.2.1; omega) b2)⟩
theorem OpO.keep {w w' : World} {lo m1 m2 hi : Nat} {o : OD} {cR : Option Addr} {pR : Nat} {cT : Option Addr} {pT : Nat} {cQ : Option Addr} {pQ : Nat} (h : OpO w lo m1 m2 hi o cR pR cT pT cQ pQ) (k : Chg nob w w') : OpO w' lo m1 m2 hi o cR pR cT pT cQ pQ := h.chg k (fun _ _ _ x => x)
theorem OpO.rep {w : World} {lo m1 m2 hi : Nat} {o : OD} {cR : Option Addr} {pR : Nat} {cT : Option Addr} {pT : Nat} {cQ : Option Addr} {pQ : Nat} (h : OpO w lo m1 m2 hi o cR pR cT pT cQ pQ) : OpV w o cR pR cT pT cQ pQ := ⟨h.2.2.2.1.rep, h.2.2.2.2.1.rep, h.2.2.2.2.2.rep⟩

set_option maxHeartbeats 1000000 in
theorem heldStringS_d (c : Option Addr) (n cap q : Nat) (w : World) (h : Hid ((Dt.texts n (mvq q)).Rep w (.slice c n cap))) (q0 : 1 ≤ q) (q1 : q + n ≤ 1099511627775) (hn : n ≤ 549755813888) :
    Calls Tryz.prog 59 #[.slice c n cap, .int .i64 (q : Int)] w fun e w' => e = .returned (.int .i64 ((q + n : Nat) : Int)) ∧ Chg nob w w' := by
  obtain ⟨c', cap', e', h0⟩ := h.out
  cases e'
  have HR := hik h0
  clear h0 h
  go_enter Tryz.func59, Tryz.ntmps59
  go_wp2
  go_loopw [1, 5] (fun v i W => ∃ k m : Nat, k ≤ n ∧ i = .int .i64 k ∧ v = .int .i64 m ∧ Hid (m = q + k) ∧ Hid (Chg nob w W)) (fun _ i _ => n - (intOf i).toNat)
  case atStart => exact ⟨0, q, Nat.zero_le _, rfl, rfl, hik rfl, hik (Chg.refl _ _)⟩
  case round =>
    obtain ⟨k, m, hk, rfl, rfl, HM, HC⟩ := hrel
    by_cases hlt : k < n
    · have hm1 : 1 ≤ m := by have := HM.out; omega
      have hm3 : m ≤ 1099511627776 := by have := HM.out; omega
      obtain ⟨xb, xo, rfl, hxb, hcell⟩ := (HR.out.keep HC.out) k hlt
      have hx : wr.cell? ⟨xb, xo + k, none⟩ = some (Value.string (mt m)) := by rw [HM.out]; exact hcell
      clear hcell
      go_wp2
      go_region_held3 (fun w' => w'.cell? ⟨xb, xo + k, none⟩ = some (.string (mt m))) (first | (with_reducible assumption) | go_keep) (first | (go_at_call 83; refine (markText_any m _ hm1 hm3).mono ?_; rintro e w3 ⟨rfl, k3⟩; have G3 := hik (HC.out.drew1.trans k3); have y0 := k3.see hx))
      clear hx y0 k3
      go_wp2
      go_roundw
      case rel => exact ⟨k + 1, m + 1, by omega, by go_num, by go_num, hik (by rw [HM.out]; omega), G3⟩
      case measure => simp [intOf]; omega
    · obtain rfl : k = n := by omega
      have E := hik (show (m : Int) = ((q + k : Nat) : Int) by have := HM.out; omega)
      go_wp2
      go_ret
      exact ⟨by rw [← E.out]; rfl, HC.out⟩
theorem heldExtS_d (c : Option Addr) (n cap q : Nat) (w : World) (h : Hid ((Dt.exts n (mka (q : Int)) (mkd (q : Int))).Rep w (.slice c n cap))) (q1 : q ≤ 549755813888) (hn : n ≤ 549755813888) :
    Calls Tryz.prog 58 #[.slice c n cap, .int .i64 (q : Int)] w fun e w' => e = .returned (.int .i64 ((q + 2 * n : Nat) : Int)) ∧ Chg nob w w' := by
  obtain ⟨c', cap', e', h0⟩ := h.out
  cases e'
  refine (heldExtS_own c n cap (q : Int) w (hik h0) (by omega) (by omega) (by omega)).mono ?_
  rintro e w' ⟨rfl, k⟩
  exact ⟨ret_i (by omega), k⟩

set_option maxHeartbeats 2000000 in
theorem heldExtSS_d (c : Option Addr) (n cap : Nat) (l : Nat → Nat) (q : Nat) (w : World) (h : Hid ((mEE n l q).Rep w (.slice c n cap))) (hn : n ≤ 1048576) (q0 : 1 ≤ q) (q1 : q + 2 * sumN l n ≤ 549755813888) :
    Calls Tryz.prog 31 #[.slice c n cap, .int .i64 (q : Int)] w fun e w' => e = .returned (.int .i64 ((q + 2 * sumN l n : Nat) : Int)) ∧ Chg nob w w' := by
  go_enter Tryz.func31, Tryz.ntmps31
  go_wp2
  go_loopw [1, 5] (fun v i W => ∃ k m : Nat, k ≤ n ∧ i = .int .i64 (k : Int) ∧ v = .int .i64 (m : Int) ∧ Hid (m = q + 2 * sumN l k) ∧ Hid (Chg nob w W)) (fun _ i _ => n - (intOf i).toNat)
  case atStart => exact ⟨0, q, Nat.zero_le _, rfl, rfl, hik (by simp [sumN]), hik (Chg.refl _ _)⟩
  case round =>
    obtain ⟨k, m, hk, rfl, rfl, HM, HG⟩ := hrel
    rename World => wi
    by_cases hlt : k < n
    · have hk1 : (k : Int) < (n : Int) := by omega
      have hk0 : (0 : Int) ≤ (k : Int) := by omega
      obtain ⟨xb, xo, ec, hxb, hcc⟩ := (rep_list (h.out.keep HG.out)).2 k hlt
      obtain ⟨u, hc, hu⟩ := hcc 0 (by omega)
      have hu0 := hu
      obtain ⟨c1, p1, rfl, hP⟩ := hu
      subst ec
      rw [show xo + (k * 1 + 0) = xo + k by omega] at hc
      have PJ := hik (show (Dt.exts (l k) (mka (m : Int)) (mkd (m : Int))).Rep wi (.slice c1 (l k) p1) by rw [HM.out]; exact hu0)
      have hlk : sumN l k + l k ≤ sumN l n := sumN_le l (i := k + 1) (by omega)
      have hm0 : 1 ≤ m := by have := HM.out; omega
      have hm1 : m + 2 * l k ≤ 549755813888 := by have := HM.out; omega
      clear hP hcc hu0
      go_wp2_with fail
      refine (heldExtS_d c1 (l k) p1 m _ PJ (by omega) (by omega)).mono ?_
      rintro e W1 ⟨rfl, k1⟩
      have HG2 := hik (HG.out.trans k1)
      have HM2 := hik (show m + 2 * l k = q + 2 * sumN l (k + 1) by rw [HM.out]; simp only [sumN]; omega)
      clear k1 hc PJ
      generalize m + 2 * l k = m2 at HM2 hm1 ⊢
      have hm2 : (0 : Int) ≤ (m2 : Int) := by omega
      go_wp2
      go_roundw
      case rel => exact ⟨k + 1, m2, by omega, by go_num, rfl, HM2, HG2⟩
      case measure => simp [intOf]; omega
    · obtain rfl : n = k := by omega
      have hcc : ¬ (n : Int) < (n : Int) := by omega
      go_wp2
      go_ret
      exact ⟨ret_i (by have := HM.out; omega), HG.out⟩

set_option maxHeartbeats 2000000 in
theorem heldStringSS_d (c : Option Addr) (n cap : Nat) (l : Nat → Nat) (q : Nat) (w : World) (h : Hid ((mSS n l q).Rep w (.slice c n cap))) (hn : n ≤ 1048576) (q0 : 1 ≤ q) (q1 : q + 1 * sumN l n ≤ 549755813888) :
    Calls Tryz.prog 85 #[.slice c n cap, .int .i64 (q : Int)] w fun e w' => e = .returned (.int .i64 ((q + 1 * sumN l n : Nat) : Int)) ∧ Chg nob w w' := by
  go_enter Tryz.func85, Tryz.ntmps85
  go_wp2
  go_loopw [1, 5] (fun v i W => ∃ k m : Nat, k ≤ n ∧ i = .int .i64 (k : Int) ∧ v = .int .i64 (m : Int) ∧ Hid (m = q + 1 * sumN l k) ∧ Hid (Chg nob w W)) (fun _ i _ => n - (intOf i).toNat)
  case atStart => exact ⟨0, q, Nat.zero_le _, rfl, rfl, hik (by simp [sumN]), hik (Chg.refl _ _)⟩
  case round =>
    obtain ⟨k, m, hk, rfl, rfl, HM, HG⟩ := hrel
    rename World => wi
    by_cases hlt : k < n
    · have hk1 : (k : Int) < (n : Int) := by omega
      have hk0 : (0 : Int) ≤ (k : Int) := by omega
      obtain ⟨xb, xo, ec, hxb, hcc⟩ := (rep_list (h.out.keep HG.out)).2 k hlt
      obtain ⟨u, hc, hu⟩ := hcc 0 (by omega)
      have hu0 := hu
      obtain ⟨c1, p1, rfl, hP⟩ := hu
      subst ec
      rw [show xo + (k * 1 + 0) = xo + k by omega] at hc
      have PJ := hik (show (Dt.texts (l k) (mvq m)).Rep wi (.slice c1 (l k) p1) by rw [HM.out]; exact hu0)
      have hlk : sumN l k + l k ≤ sumN l n := sumN_le l (i := k + 1) (by omega)
      have hm0 : 1 ≤ m := by have := HM.out; omega
      have hm1 : m + 1 * l k ≤ 549755813888 := by have := HM.out; omega
      clear hP hcc hu0
      go_wp2_with fail
      refine (heldStringS_d c1 (l k) p1 m _ PJ hm0 (by omega) (by omega)).mono ?_
      rintro e W1 ⟨rfl, k1⟩
      have HG2 := hik (HG.out.trans k1)
      have HM2 := hik (show m +  l k = q + 1 * sumN l (k + 1) by rw [HM.out]; simp only [sumN]; omega)
      clear k1 hc PJ
      generalize m +  l k = m2 at HM2 hm1 ⊢
      have hm2 : (0 : Int) ≤ (m2 : Int) := by omega
      go_wp2
      go_roundw
      case rel => exact ⟨k + 1, m2, by omega, by go_num, rfl, HM2, HG2⟩
      case measure => simp [intOf]; omega
    · obtain rfl : n = k := by omega
      have hcc : ¬ (n : Int) < (n : Int) := by omega
      go_wp2
      go_ret
      exact ⟨ret_i (by have := HM.out; omega), HG.out⟩

set_option maxHeartbeats 2000000 in
theorem heldQueryS_d (c : Option Addr) (n cap : Nat) (x : Nat → QD) (q : Nat) (w : World) (h : Hid ((mQs n x q).Rep w (.slice c n cap))) (hn : n ≤ 1048576) (hq : Hid (∀ i, i < n → (x i).np ≤ 1048576 ∧ (x i).nq ≤ 1048576)) (q0 : 1 ≤ q) (q1 : q + sumN (fun i => (x i).mc) n ≤ 549755813888) :
    Calls Tryz.prog 60 #[.slice c n cap, .int .i64 (q : Int)] w fun e w' => e = .returned (.int .i64 ((q + sumN (fun i => (x i).mc) n : Nat) : Int)) ∧ Chg nob w w' := by
  go_enter Tryz.func60, Tryz.ntmps60
  go_wp2
  go_loopw [1, 5] (fun v i W => ∃ k m : Nat, k ≤ n ∧ i = .int .i64 (k : Int) ∧ v = .int .i64 (m : Int) ∧ Hid (m = q + sumN (fun i => (x i).mc) k) ∧ Hid (Chg nob w W)) (fun _ i _ => n - (intOf i).toNat)
  case atStart => exact ⟨0, q, Nat.zero_le _, rfl, rfl, hik (by simp [sumN]), hik (Chg.refl _ _)⟩
  case round =>
    obtain ⟨k, m, hk, rfl, rfl, HM, HG⟩ := hrel
    rename World => wi
    by_cases hlt : k < n
    · have hk1 : (k : Int) < (n : Int) := by omega
      have hk0 : (0 : Int) ≤ (k : Int) := by omega
      obtain ⟨xb, xo, ca, pa, cb, pb, ec, hxb, hc0, hc1, hP, hS⟩ := dQs_at (h.out.keep HG.out) hlt
      subst ec
      have hc0 : wi.cell? ⟨xb, xo + k * 2, none⟩ = some (.slice ca (x k).np pa) := hc0
      have hc1 : wi.cell? ⟨xb, xo + k * 2 + 1, none⟩ = some (.slice cb (x k).nq pb) := hc1
      have hmc : sumN (fun i => (x i).mc) k + (x k).mc ≤ sumN (fun i => (x i).mc) n := sumN_le (fun i => (x i).mc) (i := k + 1) (by omega)
      have hmd : (x k).mc = 2 * (x k).np + 1 * sumN (x k).l (x k).nq := rfl
      have hm0 : 1 ≤ m := by have := HM.out; omega
      have hm1 : m + 2 * (x k).np + 1 * sumN (x k).l (x k).nq ≤ 549755813888 := by have := HM.out; omega
      have hqk := hq.out k hlt
      have PJ := hik (show (Dt.exts (x k).np (mka (m : Int)) (mkd (m : Int))).Rep wi (.slice ca (x k).np pa) by rw [HM.out]; exact hP)
      have SJ := hik (show (mSS (x k).nq (x k).l (m + 2 * (x k).np)).Rep wi (.slice cb (x k).nq pb) by rw [HM.out]; exact hS)
      clear hP hS hmc hmd
      go_wp2_with fail
      refine (heldExtS_d ca (x k).np pa m _ PJ (by omega) (by omega)).mono ?_
      rintro e W1 ⟨rfl, k1⟩
      have HG1 := hik (HG.out.trans k1)
      replace SJ := hik (SJ.out.keep k1)
      replace hc1 := k1.see hc1
      replace hxb := Nat.lt_of_lt_of_le hxb k1.size
      have HM1 := hik (show m + 2 * (x k).np = q + sumN (fun i => (x i).mc) k + 2 * (x k).np by rw [HM.out])
      clear k1 hc0 PJ
      generalize m + 2 * (x k).np = m1 at HM1 hm1 SJ ⊢
      have hm2 : (0 : Int) ≤ (m1 : Int) := by omega
      have hm3 : 1 ≤ m1 := by have := HM1.out; omega
      go_wp2_with fail
      refine (heldStringSS_d cb (x k).nq pb (x k).l m1 _ SJ (by omega) (by omega) (by omega)).mono ?_
      rintro e W2 ⟨rfl, k2⟩
      have HG2 := hik (HG1.out.trans k2)
      have HM2 := hik (show m1 + 1 * sumN (x k).l (x k).nq = q + sumN (fun i => (x i).mc) (k + 1) by rw [HM1.out]; simp only [sumN, QD.mc]; omega)
      clear k2 hc1 SJ
      generalize m1 + 1 * sumN (x k).l (x k).nq = m2 at HM2 hm1 ⊢
      have hm4 : (0 : Int) ≤ (m2 : Int) := by omega
      go_wp2
      go_roundw
      case rel => exact ⟨k + 1, m2, by omega, by go_num, rfl, HM2, HG2⟩
      case measure => simp [intOf]; omega
    · obtain rfl : n = k := by omega
      have hcc : ¬ (n : Int) < (n : Int) := by omega
      go_wp2
      go_ret
      exact ⟨ret_i (by have := HM.out; omega), HG.out⟩

set_option maxHeartbeats 2000000 in
theorem heldOpening_d (o : OD) (cR : Option Addr) (pR : Nat) (cT : Option Addr) (pT : Nat) (cQ : Option Addr) (pQ : Nat) (q : Nat) (w : World) (h : Hid (OpV w (o.mk9 q) cR pR cT pT cQ pQ)) (hs : Hid o.small) (q0 : 1 ≤ q) (q1 : q + o.mc ≤ 549755813888) :
    Calls Tryz.prog 32 #[.agg #[.slice cR o.nr pR, .slice cT o.nt pT, .int .i64 o.la, .int .i64 o.lb, .int .i64 o.no, .slice cQ o.nq pQ], .int .i64 (q : Int)] w fun e w' => e = .returned (.int .i64 ((q + o.mc : Nat) : Int)) ∧ Chg nob w w' := by
  have hnr : o.nr ≤ 1048576 := hs.out.1.1
  have hnt : o.nt ≤ 1048576 := hs.out.2.1.1
  have hnq : o.nq ≤ 1048576 := hs.out.2.2.1
  have hmd : o.mc = 2 * sumN o.rl o.nr + o.nt + sumN (fun i => (o.q i).mc) o.nq := rfl
  have HQN := hik (show ∀ i, i < o.nq → (o.q i).np ≤ 1048576 ∧ (o.q i).nq ≤ 1048576 from fun i hi => ⟨hs.out.2.2.2 i 0 hi (by omega), (show (o.q i).S.small 1048576 from hs.out.2.2.2 i 1 hi (by omega)).1⟩)
  have KA := hik ((Chg.refl nob w).alloc (.cells #[.slice cR o.nr pR, .slice cT o.nt pT, .int .i64 o.la, .int .i64 o.lb, .int .i64 o.no, .slice cQ o.nq pQ] 35))
  have RA := hik (rowN_new w 6 #[.slice cR o.nr pR, .slice cT o.nt pT, .int .i64 o.la, .int .i64 o.lb, .int .i64 o.no, .slice cQ o.nq pQ] 35 rfl)
  have OR := hik (show (mEE o.nr o.rl q).Rep w (.slice cR o.nr pR) from h.out.1)
  have OS := hik (show (Dt.texts o.nt (mvq (q + 2 * sumN o.rl o.nr))).Rep w (.slice cT o.nt pT) from h.out.2.1)
  have OQ := hik (show (mQs o.nq o.q (q + 2 * sumN o.rl o.nr + o.nt)).Rep w (.slice cQ o.nq pQ) from h.out.2.2)
  clear h
  go_enter Tryz.func32, Tryz.ntmps32
  go_wp2_with fail
  generalize hW : w.alloc (.cells #[.slice cR o.nr pR, .slice cT o.nt pT, .int .i64 o.la, .int .i64 o.lb, .int .i64 o.no, .slice cQ o.nq pQ] 35) = W0 at RA KA ⊢
  clear hW
  refine (heldExtSS_d cR o.nr pR o.rl q _ (hik (OR.out.keep KA.out)) hnr q0 (by omega)).mono ?_
  rintro e W1 ⟨rfl, k1⟩
  replace RA := hik (rowIs_keep RA.out k1)
  replace KA := hik (KA.out.trans k1)
  clear k1 OR
  generalize hn1 : q + 2 * sumN o.rl o.nr = n1 at OS OQ ⊢
  have hn1' : 1 ≤ n1 := by omega
  have hn1i : (0 : Int) ≤ (n1 : Int) := by omega
  have x1 : _ = some (.slice cT o.nt pT : Value) := RA.out.cell (i := 1) (by omega)
  have raz := RA.out.lt
  go_wp2_with fail
  refine (heldStringS_d cT o.nt pT n1 _ (hik (OS.out.keep KA.out)) hn1' (by omega) (by omega)).mono ?_
  rintro e W2 ⟨rfl, k2⟩
  replace RA := hik (rowIs_keep RA.out k2)
  replace KA := hik (KA.out.trans k2)
  clear k2 OS x1 raz
  generalize hn2 : n1 + o.nt = n2 at OQ ⊢
  have hn2' : 1 ≤ n2 := by omega
  have hn2i : (0 : Int) ≤ (n2 : Int) := by omega
  have x5 : _ = some (.slice cQ o.nq pQ : Value) := RA.out.cell (i := 5) (by omega)
  have raz := RA.out.lt
  go_wp2_with fail
  refine (heldQueryS_d cQ o.nq pQ o.q n2 _ (hik (OQ.out.keep KA.out)) hnq HQN hn2' (by omega)).mono ?_
  rintro e W3 ⟨rfl, k3⟩
  replace KA := hik (KA.out.trans k3)
  clear k3 OQ x5 raz
  generalize hn3 : n2 + sumN (fun i => (o.q i).mc) o.nq = n3
  have hn3i : (0 : Int) ≤ (n3 : Int) := by omega
  go_wp2
  go_ret
  exact ⟨ret_i (by omega), KA.out⟩

end Go.Proofs.YtppiilbcnkphbaaGreat

namespace Go.Proofs.YtppiilbcnkphbaaGreat
open Go.ChangeShapes Go.WideShapes Go.ChangeAt Go.RowKit
set_option linter.unusedVariables false
set_option maxRecDepth 100000
set_option linter.unusedSimpArgs false

/-- What a proof holds. -/
structure PD where
  rt : ByteArray
  ng : Nat
  gl : Nat → Nat
  gf : Nat → Nat → Int
  gg : Nat → Nat → Int
  a0 : Int
  a1 : Int
  b0 : Int
  b1 : Int
  c0 : Int
  c1 : Int
  nw : Nat
  wl : Nat → Nat
  wf : Nat → Nat → Int
  wg : Nat → Nat → Int
  v0 : Int
  v1 : Int
  op : OD
/-- Where its lists lie. -/
structure PA where
  cG : Option Addr
  pG : Nat
  cW : Option Addr
  pW : Nat
  cR : Option Addr
  pR : Nat
  cT : Option Addr
  pT : Nat
  cQ : Option Addr
  pQ : Nat
def PD.G (p : PD) : Dt := dEE p.ng p.gl p.gf p.gg
def PD.W (p : PD) : Dt := dEE p.nw p.wl p.wf p.wg
/-- A proof that can be read. -/
def PrV (w : World) (p : PD) (a : PA) : Prop := p.G.Rep w (.slice a.cG p.ng a.pG) ∧ p.W.Rep w (.slice a.cW p.nw a.pW) ∧ OpV w p.op a.cR a.pR a.cT a.pT a.cQ a.pQ
theorem PrV.keep {w w' : World} {p : PD} {a : PA} (h : PrV w p a) (k : Chg nob w w') : PrV w' p a := ⟨h.1.keep k, h.2.1.keep k, h.2.2.keep k⟩
/-- Lengths of at most 2 to the 20; that an int can have. -/
def PD.small (p : PD) : Prop := p.rt.size ≤ 1048576 ∧ p.G.small 1048576 ∧ p.W.small 1048576 ∧ p.op.small
/-- How many items. -/
def PD.cnt (p : PD) : Nat := p.rt.size + sumN (fun j => p.gl j) p.ng + sumN (fun j => p.wl j) p.nw + p.op.cnt

end Go.Proofs.YtppiilbcnkphbaaGreat

namespace Go.Proofs.YtppiilbcnkphbaaGreat
open Go.ChangeShapes Go.WideShapes Go.ChangeAt Go.RowKit
set_option linter.unusedVariables false
set_option maxRecDepth 100000
set_option linter.unusedSimpArgs false

/-- All parts of a proof of a system in a setting. -/
def pfb (p : PD) (s : Sy) (r n g : Int) : Bool := sysb s && (decide (p.rt.size = 32) && (rfB 4 s.r p.ng p.gl p.gf p.gg && ((eok p.a0 p.a1 && (eok p.b0 p.b1 && eok p.c0 p.c1)) && (rfB 3 s.q p.nw p.wl p.wf p.wg && (eok p.v0 p.v1 && ook p.op (s.q - 1) r n g)))))

end Go.Proofs.YtppiilbcnkphbaaGreat
