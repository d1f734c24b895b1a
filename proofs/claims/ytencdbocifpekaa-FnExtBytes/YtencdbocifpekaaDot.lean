/- Sums of products of elements: what ExtDot and its model answer: contracts. Conditions: rows that can be read. -/
import Derived.Test.YtencdbocifpekaaERow
namespace Go.Proofs.Ytencdbocifpekaa
open Go.ChangeShapes Go.WideShapes Go.ChangeAt Go.RowKit
set_option linter.unusedVariables false
set_option linter.unusedSimpArgs false

/-- The sum of the first n products. -/
def dE (f g f' g' : Nat → Int) : Nat → Int × Int
  | 0 => (0, 0)
  | n + 1 => (((dE f g f' g' n).1 + Fld.mA (f n) (g n) (f' n) (g' n)) % 2130706433, ((dE f g f' g' n).2 + Fld.mB (f n) (g n) (f' n) (g' n)) % 2130706433)
theorem dE_red (f g f' g' : Nat → Int) (n : Nat) : Fld.Red (dE f g f' g' n) := by
  cases n with
  | zero => exact ⟨by simp [dE], by simp [dE], by simp [dE], by simp [dE]⟩
  | succ n => exact ⟨mod_lo _, mod_hi _, mod_lo _, mod_hi _⟩
/-- The code, and the answer's parts. -/
def dc (f g f' g' : Nat → Int) (n m : Nat) : Int := if 4096 < n ∨ 4096 < m then 2 else if okP f g n && okP f' g' m then (if n = m then 0 else 8) else 1
def dv1 (f g f' g' : Nat → Int) (n m : Nat) : Int := if dc f g f' g' n m = 0 then (dE f g f' g' n).1 else 0
def dv2 (f g f' g' : Nat → Int) (n m : Nat) : Int := if dc f g f' g' n m = 0 then (dE f g f' g' n).2 else 0
theorem look_set2 {W : World} {g b o : Nat} {v : Value} (hne : b ≠ g) (c : W.cell? ⟨b, o, none⟩ = some v) (u u' : Value) : ((W.setCell ⟨g, 0, none⟩ u).setCell ⟨g, 1, none⟩ u').cell? ⟨b, o, none⟩ = some v := by
  rw [World.cell?_setCell_other _ _ _ _ (fun h => hne (congrArg Addr.block h).symm), World.cell?_setCell_other _ _ _ _ (fun h => hne (congrArg Addr.block h).symm), c]

set_option maxHeartbeats 1000000 in
theorem extDot_long (c d : Option Addr) (n m cap cap' : Nat) (w : World) (hl : 4096 < n ∨ 4096 < m) (hn : n ≤ 1099511627776) (hm : m ≤ 1099511627776) :
    Calls Try.prog 37 #[.slice c n cap, .slice d m cap'] w fun e w' => e = .returned (.tuple #[.agg #[.int .i64 0, .int .i64 0], .int .i64 2]) ∧ Chg nob w w' := by
  by_cases h0 : 4096 < n
  · have h1 : 4096 < (n : Int) := by omega
    go_enter Try.func37, Try.ntmps37
    go_wp2
    exact bodyPost_ret (v := .tuple #[.agg #[.int .i64 0, .int .i64 0], .int .i64 2]) (by simp [results, Try.results37, go_sem]) rfl ⟨rfl, (Chg.refl _ _).alloc _⟩
  · have h1 : ¬ 4096 < (n : Int) := by omega
    have h2 : 4096 < (m : Int) := by omega
    go_enter Try.func37, Try.ntmps37
    go_wp2
    exact bodyPost_ret (v := .tuple #[.agg #[.int .i64 0, .int .i64 0], .int .i64 2]) (by simp [results, Try.results37, go_sem]) rfl ⟨rfl, (Chg.refl _ _).alloc _⟩

set_option maxHeartbeats 2000000 in
theorem extDot_short (c d : Option Addr) (n m cap cap' : Nat) (f g f' g' : Nat → Int) (w : World) (h : Hid (PairV w c n f g)) (h' : Hid (PairV w d m f' g')) (hl : ¬ (4096 < n ∨ 4096 < m)) :
    Calls Try.prog 37 #[.slice c n cap, .slice d m cap'] w fun e w' => e = .returned (.tuple #[.agg #[.int .i64 (dv1 f g f' g' n m), .int .i64 (dv2 f g f' g' n m)], .int .i64 (dc f g f' g' n m)]) ∧ Chg nob w w' := by
  have h1 : ¬ 4096 < (n : Int) := by omega
  have h2 : ¬ 4096 < (m : Int) := by omega
  have hn : n ≤ 1099511627776 := by omega
  have hm : m ≤ 1099511627776 := by omega
  cases ha : okP f g n
  · have qc : dc f g f' g' n m = 1 := by simp [dc, hl, ha]
    have q1 : dv1 f g f' g' n m = 0 := by simp [dv1, qc]
    have q2 : dv2 f g f' g' n m = 0 := by simp [dv2, qc]
    rw [qc, q1, q2]
    clear qc q1 q2
    go_enter Try.func37, Try.ntmps37
    go_wp2_with fail
    refine (extsOK_any c n cap f g _ (hide (h.out.keep ((Chg.refl _ _).alloc _))) hn).mono ?_
    rintro e w1 ⟨rfl, k1⟩
    obtain ⟨hc, hf, hz⟩ := kcell k1 (w.heap.size + 1) (by simp)
    go_wp2
    exact bodyPost_ret (v := .tuple #[.agg #[.int .i64 0, .int .i64 0], .int .i64 1]) (by simp [results, Try.results37, go_sem, *]) rfl ⟨rfl, chg2_set (((Chg.refl _ _).alloc _).trans k1) w.heap.size (fun l => absurd l (by omega)) _ _⟩
  cases hb : okP f' g' m
  · have qc : dc f g f' g' n m = 1 := by simp [dc, hl, ha, hb]
    have q1 : dv1 f g f' g' n m = 0 := by simp [dv1, qc]
    have q2 : dv2 f g f' g' n m = 0 := by simp [dv2, qc]
    rw [qc, q1, q2]
    clear qc q1 q2
    go_enter Try.func37, Try.ntmps37
    go_wp2_with fail
    refine (extsOK_any c n cap f g _ (hide (h.out.keep ((Chg.refl _ _).alloc _))) hn).mono ?_
    rintro e w1 ⟨rfl, k1⟩
    obtain ⟨hc, hf, hz⟩ := kcell k1 (w.heap.size + 1) (by simp)
    go_wp2_with fail
    refine (extsOK_any d m cap' f' g' _ (hide (h'.out.keep (((Chg.refl _ _).alloc _).trans k1))) hm).mono ?_
    rintro e w2 ⟨rfl, k2⟩
    obtain ⟨hc2, hf2, hz2⟩ := kcell k2 (w.heap.size + 1) hz
    go_wp2
    exact bodyPost_ret (v := .tuple #[.agg #[.int .i64 0, .int .i64 0], .int .i64 1]) (by simp [results, Try.results37, go_sem, *]) rfl ⟨rfl, chg2_set ((((Chg.refl _ _).alloc _).trans k1).trans k2) w.heap.size (fun l => absurd l (by omega)) _ _⟩
  by_cases he : n = m
  · subst he
    have qc : dc f g f' g' n n = 0 := by simp [dc, ha, hb]; omega
    have q1 : dv1 f g f' g' n n = (dE f g f' g' n).1 := by simp [dv1, qc]
    have q2 : dv2 f g f' g' n n = (dE f g f' g' n).2 := by simp [dv2, qc]
    rw [qc, q1, q2]
    clear qc q1 q2
    go_enter Try.func37, Try.ntmps37
    go_wp2_with fail
    refine (extsOK_any c n cap f g _ (hide (h.out.keep ((Chg.refl _ _).alloc _))) hn).mono ?_
    rintro e w1 ⟨rfl, k1⟩
    obtain ⟨hc, hf, hz⟩ := kcell k1 (w.heap.size + 1) (by simp)
    go_wp2_with fail
    refine (extsOK_any d n cap' f' g' _ (hide (h'.out.keep (((Chg.refl _ _).alloc _).trans k1))) hm).mono ?_
    rintro e w2 ⟨rfl, k2⟩
    have HR0 : Hid (w2.rowIs w.heap.size 37 2 (pi2 0 0)) := hide (rowIs_keep (row2_new w _ _ _) (k1.trans k2))
    have HK : Hid (Chg nob w w2) := hide ((((Chg.refl _ _).alloc _).trans k1).trans k2)
    have hz2 : w.heap.size + 1 ≤ w2.heap.size := Nat.le_trans hz k2.size
    clear hc hf hz k1 k2
    go_wp2
    go_loopw [35] (fun i W => ∃ k : Nat, k ≤ n ∧ i = .int .i64 k ∧ Hid (W.rowIs w.heap.size 37 2 (pi2 0 0)) ∧ Hid (W.rowIs w2.heap.size 37 2 (pi2 (dE f g f' g' k).1 (dE f g f' g' k).2)) ∧ Hid (Chg nob w W)) (fun i _ => n - (intOf i).toNat)
    case atStart => exact ⟨0, Nat.zero_le _, rfl, hide (HR0.out.alloc _), hide (row2_new w2 _ _ _), hide (HK.out.alloc _)⟩
    case round =>
      obtain ⟨k, hk, rfl, HR, HS, HC⟩ := hrel
      by_cases hlt : k < n
      · have hk0 : (0 : Int) ≤ (k : Int) := by omega
        have hk1 : (k : Int) < (n : Int) := by omega
        obtain ⟨xb, xo, rfl, hxb, hx0, hx1⟩ := (h.out.keep HC.out) k hlt
        obtain ⟨yb, yo, rfl, hyb, hy0, hy1⟩ := (h'.out.keep HC.out) k hlt
        have hxw : xb < w.heap.size := by obtain ⟨b1, o1, e1, l1, _⟩ := h.out k hlt; simp at e1; omega
        have hyw : yb < w.heap.size := by obtain ⟨b1, o1, e1, l1, _⟩ := h'.out k hlt; simp at e1; omega
        have nx : xb ≠ w2.heap.size := by omega
        have ny : yb ≠ w2.heap.size := by omega
        have ea := okP_all f g n ha k hlt
        have eb' := okP_all f' g' n hb k hlt
        have a0 := fok_lo (eok_a ea)
        have a1 := fok_hi (eok_a ea)
        have b0 := fok_lo (eok_b ea)
        have b1 := fok_hi (eok_b ea)
        have c0 := fok_lo (eok_a eb')
        have c1 := fok_hi (eok_a eb')
        have d0 := fok_lo (eok_b eb')
        have d1 := fok_hi (eok_b eb')
        obtain ⟨p0, p1, p2, p3⟩ := dE_red f g f' g' k
        have m0 := Fld.mA_lo (f k) (g k) (f' k) (g' k)
        have m1 := Fld.mA_hi (f k) (g k) (f' k) (g' k)
        have m2 := Fld.mB_lo (f k) (g k) (f' k) (g' k)
        have m3 := Fld.mB_hi (f k) (g k) (f' k) (g' k)
        have s0 := row2_c0 HS.out
        have s1 := row2_c1 HS.out
        have u0 := HS.out.frozen 0
        have u1 := HS.out.frozen 1
        clear ea eb' ha hb
        go_wp2
        go_region_with (first | (go_at_call 57; refine (times_any _ _ _ _ _ (by assumption) (by assumption) (by assumption) (by assumption) (by assumption) (by assumption) (by assumption) (by assumption)).mono ?_; rintro e w3 ⟨rfl, k1⟩; have s2 := k1.look s0; have s3 := k1.look s1) | (go_at_call 56; refine (plus_any _ _ _ _ _ (by assumption) (by assumption) (by assumption) (by assumption) (by assumption) (by assumption) (by assumption) (by assumption)).mono ?_; rintro e w4 ⟨rfl, k2⟩; have s4 := k2.look (k1.look s0); have s5 := k2.look (k1.look s1); have u2 := (rowIs_keep (rowIs_keep HS.out.drew k1) k2).frozen 0; have u3 := (rowIs_keep (rowIs_keep HS.out.drew k1) k2).frozen 1))
        all_goals
          have HS2 := hide (rowIs_keep (rowIs_keep HS.out.drew k1) k2)
          have HR2 := hide (rowIs_keep (rowIs_keep HR.out.drew k1) k2)
          have HC2 := hide ((HC.out.drew.trans k1).trans k2)
          clear k1 k2
          go_wp2
          go_roundw
          case rel => exact ⟨k + 1, by omega, by go_num, hide (row2_other HR2.out (by omega) _ _), hide (row2_set HS2.out _ _), hide (chg2_set HC2.out w2.heap.size (fun l => absurd l (by omega)) _ _)⟩
          case measure => simp [intOf]; omega
      · obtain rfl : k = n := by omega
        have s0 := row2_c0 HS.out
        have s1 := row2_c1 HS.out
        have r0 := row2_c0 HR.out
        have r1 := row2_c1 HR.out
        have u0 := HR.out.frozen 0
        have u1 := HR.out.frozen 1
        go_wp2
        exact bodyPost_ret (v := .tuple #[.agg #[.int .i64 (dE f g f' g' k).1, .int .i64 (dE f g f' g' k).2], .int .i64 0]) (by simp [results, Try.results37, go_sem, *]) rfl ⟨rfl, chg2_set HC.out w.heap.size (fun l => absurd l (by omega)) _ _⟩
  · have qc : dc f g f' g' n m = 8 := by simp [dc, hl, ha, hb, he]
    have q1 : dv1 f g f' g' n m = 0 := by simp [dv1, qc]
    have q2 : dv2 f g f' g' n m = 0 := by simp [dv2, qc]
    rw [qc, q1, q2]
    clear qc q1 q2
    have he' : ¬ (n : Int) = (m : Int) := by omega
    go_enter Try.func37, Try.ntmps37
    go_wp2_with fail
    refine (extsOK_any c n cap f g _ (hide (h.out.keep ((Chg.refl _ _).alloc _))) hn).mono ?_
    rintro e w1 ⟨rfl, k1⟩
    obtain ⟨hc, hf, hz⟩ := kcell k1 (w.heap.size + 1) (by simp)
    go_wp2_with fail
    refine (extsOK_any d m cap' f' g' _ (hide (h'.out.keep (((Chg.refl _ _).alloc _).trans k1))) hm).mono ?_
    rintro e w2 ⟨rfl, k2⟩
    obtain ⟨hc2, hf2, hz2⟩ := kcell k2 (w.heap.size + 1) hz
    go_wp2
    exact bodyPost_ret (v := .tuple #[.agg #[.int .i64 0, .int .i64 0], .int .i64 8]) (by simp [results, Try.results37, go_sem, *]) rfl ⟨rfl, chg2_set ((((Chg.refl _ _).alloc _).trans k1).trans k2) w.heap.size (fun l => absurd l (by omega)) _ _⟩

theorem extDot_any (c d : Option Addr) (n m cap cap' : Nat) (f g f' g' : Nat → Int) (w : World) (h : Hid (PairV w c n f g)) (h' : Hid (PairV w d m f' g')) (hn : n ≤ 1099511627776) (hm : m ≤ 1099511627776) :
    Calls Try.prog 37 #[.slice c n cap, .slice d m cap'] w fun e w' => e = .returned (.tuple #[.agg #[.int .i64 (dv1 f g f' g' n m), .int .i64 (dv2 f g f' g' n m)], .int .i64 (dc f g f' g' n m)]) ∧ Chg nob w w' := by
  by_cases hl : 4096 < n ∨ 4096 < m
  · have q := extDot_long c d n m cap cap' w hl hn hm
    have qc : dc f g f' g' n m = 2 := by simp [dc, hl]
    rw [show dv1 f g f' g' n m = 0 by simp [dv1, qc], show dv2 f g f' g' n m = 0 by simp [dv2, qc], qc]
    exact q
  · exact extDot_short c d n m cap cap' f g f' g' w h h' hl

set_option maxHeartbeats 1000000 in
theorem sExtDot_long (c d : Option Addr) (n m cap cap' : Nat) (w : World) (hl : 4096 < n ∨ 4096 < m) (hn : n ≤ 1099511627776) (hm : m ≤ 1099511627776) :
    Calls Try.prog 38 #[.slice c n cap, .slice d m cap'] w fun e w' => e = .returned (.tuple #[.agg #[.int .i64 0, .int .i64 0], .int .i64 2]) ∧ Chg nob w w' := by
  by_cases h0 : 4096 < n
  · have h1 : 4096 < (n : Int) := by omega
    go_enter Try.func38, Try.ntmps38
    go_wp2
    exact bodyPost_ret (v := .tuple #[.agg #[.int .i64 0, .int .i64 0], .int .i64 2]) (by simp [results, Try.results38, go_sem]) rfl ⟨rfl, (Chg.refl _ _).alloc _⟩
  · have h1 : ¬ 4096 < (n : Int) := by omega
    have h2 : 4096 < (m : Int) := by omega
    go_enter Try.func38, Try.ntmps38
    go_wp2
    exact bodyPost_ret (v := .tuple #[.agg #[.int .i64 0, .int .i64 0], .int .i64 2]) (by simp [results, Try.results38, go_sem]) rfl ⟨rfl, (Chg.refl _ _).alloc _⟩

set_option maxHeartbeats 2000000 in
theorem sExtDot_short (c d : Option Addr) (n m cap cap' : Nat) (f g f' g' : Nat → Int) (w : World) (h : Hid (PairV w c n f g)) (h' : Hid (PairV w d m f' g')) (hl : ¬ (4096 < n ∨ 4096 < m)) :
    Calls Try.prog 38 #[.slice c n cap, .slice d m cap'] w fun e w' => e = .returned (.tuple #[.agg #[.int .i64 (dv1 f g f' g' n m), .int .i64 (dv2 f g f' g' n m)], .int .i64 (dc f g f' g' n m)]) ∧ Chg nob w w' := by
  have h1 : ¬ 4096 < (n : Int) := by omega
  have h2 : ¬ 4096 < (m : Int) := by omega
  have hn : n ≤ 1099511627776 := by omega
  have hm : m ≤ 1099511627776 := by omega
  cases ha : okP f g n
  · have qc : dc f g f' g' n m = 1 := by simp [dc, hl, ha]
    have q1 : dv1 f g f' g' n m = 0 := by simp [dv1, qc]
    have q2 : dv2 f g f' g' n m = 0 := by simp [dv2, qc]
    rw [qc, q1, q2]
    clear qc q1 q2
    go_enter Try.func38, Try.ntmps38
    go_wp2_with fail
    refine (l02List_any c n cap f g _ (hide (h.out.keep ((Chg.refl _ _).alloc _))) hn).mono ?_
    rintro e w1 ⟨rfl, k1⟩
    obtain ⟨hc, hf, hz⟩ := kcell k1 (w.heap.size + 1) (by simp)
    go_wp2
    exact bodyPost_ret (v := .tuple #[.agg #[.int .i64 0, .int .i64 0], .int .i64 1]) (by simp [results, Try.results38, go_sem, *]) rfl ⟨rfl, chg2_set (((Chg.refl _ _).alloc _).trans k1) w.heap.size (fun l => absurd l (by omega)) _ _⟩
  cases hb : okP f' g' m
  · have qc : dc f g f' g' n m = 1 := by simp [dc, hl, ha, hb]
    have q1 : dv1 f g f' g' n m = 0 := by simp [dv1, qc]
    have q2 : dv2 f g f' g' n m = 0 := by simp [dv2, qc]
    rw [qc, q1, q2]
    clear qc q1 q2
    go_enter Try.func38, Try.ntmps38
    go_wp2_with fail
    refine (l02List_any c n cap f g _ (hide (h.out.keep ((Chg.refl _ _).alloc _))) hn).mono ?_
    rintro e w1 ⟨rfl, k1⟩
    obtain ⟨hc, hf, hz⟩ := kcell k1 (w.heap.size + 1) (by simp)
    go_wp2_with fail
    refine (l02List_any d m cap' f' g' _ (hide (h'.out.keep (((Chg.refl _ _).alloc _).trans k1))) hm).mono ?_
    rintro e w2 ⟨rfl, k2⟩
    obtain ⟨hc2, hf2, hz2⟩ := kcell k2 (w.heap.size + 1) hz
    go_wp2
    exact bodyPost_ret (v := .tuple #[.agg #[.int .i64 0, .int .i64 0], .int .i64 1]) (by simp [results, Try.results38, go_sem, *]) rfl ⟨rfl, chg2_set ((((Chg.refl _ _).alloc _).trans k1).trans k2) w.heap.size (fun l => absurd l (by omega)) _ _⟩
  by_cases he : n = m
  · subst he
    have qc : dc f g f' g' n n = 0 := by simp [dc, ha, hb]; omega
    have q1 : dv1 f g f' g' n n = (dE f g f' g' n).1 := by simp [dv1, qc]
    have q2 : dv2 f g f' g' n n = (dE f g f' g' n).2 := by simp [dv2, qc]
    rw [qc, q1, q2]
    clear qc q1 q2
    go_enter Try.func38, Try.ntmps38
    go_wp2_with fail
    refine (l02List_any c n cap f g _ (hide (h.out.keep ((Chg.refl _ _).alloc _))) hn).mono ?_
    rintro e w1 ⟨rfl, k1⟩
    obtain ⟨hc, hf, hz⟩ := kcell k1 (w.heap.size + 1) (by simp)
    go_wp2_with fail
    refine (l02List_any d n cap' f' g' _ (hide (h'.out.keep (((Chg.refl _ _).alloc _).trans k1))) hm).mono ?_
    rintro e w2 ⟨rfl, k2⟩
    have HR0 : Hid (w2.rowIs w.heap.size 37 2 (pi2 0 0)) := hide (rowIs_keep (row2_new w _ _ _) (k1.trans k2))
    have HK : Hid (Chg nob w w2) := hide ((((Chg.refl _ _).alloc _).trans k1).trans k2)
    have hz2 : w.heap.size + 1 ≤ w2.heap.size := Nat.le_trans hz k2.size
    clear hc hf hz k1 k2
    go_wp2
    go_loopw [7] (fun i W => ∃ k : Nat, k ≤ n ∧ i = .int .i64 k ∧ Hid (W.rowIs w.heap.size 37 2 (pi2 0 0)) ∧ Hid (W.rowIs w2.heap.size 37 2 (pi2 (dE f g f' g' k).1 (dE f g f' g' k).2)) ∧ Hid (Chg nob w W)) (fun i _ => n - (intOf i).toNat)
    case atStart => exact ⟨0, Nat.zero_le _, rfl, hide (HR0.out.alloc _), hide (row2_new w2 _ _ _), hide (HK.out.alloc _)⟩
    case round =>
      obtain ⟨k, hk, rfl, HR, HS, HC⟩ := hrel
      by_cases hlt : k < n
      · have hk0 : (0 : Int) ≤ (k : Int) := by omega
        have hk1 : (k : Int) < (n : Int) := by omega
        obtain ⟨xb, xo, rfl, hxb, hx0, hx1⟩ := (h.out.keep HC.out) k hlt
        obtain ⟨yb, yo, rfl, hyb, hy0, hy1⟩ := (h'.out.keep HC.out) k hlt
        have hxw : xb < w.heap.size := by obtain ⟨b1, o1, e1, l1, _⟩ := h.out k hlt; simp at e1; omega
        have hyw : yb < w.heap.size := by obtain ⟨b1, o1, e1, l1, _⟩ := h'.out k hlt; simp at e1; omega
        have nx : xb ≠ w2.heap.size := by omega
        have ny : yb ≠ w2.heap.size := by omega
        have ea := okP_all f g n ha k hlt
        have eb' := okP_all f' g' n hb k hlt
        have a0 := fok_lo (eok_a ea)
        have a1 := fok_hi (eok_a ea)
        have b0 := fok_lo (eok_b ea)
        have b1 := fok_hi (eok_b ea)
        have c0 := fok_lo (eok_a eb')
        have c1 := fok_hi (eok_a eb')
        have d0 := fok_lo (eok_b eb')
        have d1 := fok_hi (eok_b eb')
        obtain ⟨p0, p1, p2, p3⟩ := dE_red f g f' g' k
        have m0 := Fld.mA_lo (f k) (g k) (f' k) (g' k)
        have m1 := Fld.mA_hi (f k) (g k) (f' k) (g' k)
        have m2 := Fld.mB_lo (f k) (g k) (f' k) (g' k)
        have m3 := Fld.mB_hi (f k) (g k) (f' k) (g' k)
        have s0 := row2_c0 HS.out
        have s1 := row2_c1 HS.out
        have u0 := HS.out.frozen 0
        have u1 := HS.out.frozen 1
        clear ea eb' ha hb
        go_wp2
        go_region_with (first | (go_at_call 60; refine (l02Mul_any _ _ _ _ _ (by assumption) (by assumption) (by assumption) (by assumption) (by assumption) (by assumption) (by assumption) (by assumption)).mono ?_; rintro e w3 ⟨rfl, k1⟩; have s2 := k1.look s0; have s3 := k1.look s1) | (go_at_call 70; refine (l02Add_any _ _ _ _ _ (by assumption) (by assumption) (by assumption) (by assumption) (by assumption) (by assumption) (by assumption) (by assumption)).mono ?_; rintro e w4 ⟨rfl, k2⟩; have s4 := k2.look (k1.look s0); have s5 := k2.look (k1.look s1); have u2 := (rowIs_keep (rowIs_keep HS.out.drew k1) k2).frozen 0; have u3 := (rowIs_keep (rowIs_keep HS.out.drew k1) k2).frozen 1))
        all_goals
          have HS2 := hide (rowIs_keep (rowIs_keep HS.out.drew k1) k2)
          have HR2 := hide (rowIs_keep (rowIs_keep HR.out.drew k1) k2)
          have HC2 := hide ((HC.out.drew.trans k1).trans k2)
          clear k1 k2
          go_wp2
          go_roundw
          case rel => exact ⟨k + 1, by omega, by go_num, hide (row2_other HR2.out (by omega) _ _), hide (row2_set HS2.out _ _), hide (chg2_set HC2.out w2.heap.size (fun l => absurd l (by omega)) _ _)⟩
          case measure => simp [intOf]; omega
      · obtain rfl : k = n := by omega
        have s0 := row2_c0 HS.out
        have s1 := row2_c1 HS.out
        have r0 := row2_c0 HR.out
        have r1 := row2_c1 HR.out
        have u0 := HR.out.frozen 0
        have u1 := HR.out.frozen 1
        go_wp2
        exact bodyPost_ret (v := .tuple #[.agg #[.int .i64 (dE f g f' g' k).1, .int .i64 (dE f g f' g' k).2], .int .i64 0]) (by simp [results, Try.results38, go_sem, *]) rfl ⟨rfl, chg2_set HC.out w.heap.size (fun l => absurd l (by omega)) _ _⟩
  · have qc : dc f g f' g' n m = 8 := by simp [dc, hl, ha, hb, he]
    have q1 : dv1 f g f' g' n m = 0 := by simp [dv1, qc]
    have q2 : dv2 f g f' g' n m = 0 := by simp [dv2, qc]
    rw [qc, q1, q2]
    clear qc q1 q2
    have he' : ¬ (n : Int) = (m : Int) := by omega
    go_enter Try.func38, Try.ntmps38
    go_wp2_with fail
    refine (l02List_any c n cap f g _ (hide (h.out.keep ((Chg.refl _ _).alloc _))) hn).mono ?_
    rintro e w1 ⟨rfl, k1⟩
    obtain ⟨hc, hf, hz⟩ := kcell k1 (w.heap.size + 1) (by simp)
    go_wp2_with fail
    refine (l02List_any d m cap' f' g' _ (hide (h'.out.keep (((Chg.refl _ _).alloc _).trans k1))) hm).mono ?_
    rintro e w2 ⟨rfl, k2⟩
    obtain ⟨hc2, hf2, hz2⟩ := kcell k2 (w.heap.size + 1) hz
    go_wp2
    exact bodyPost_ret (v := .tuple #[.agg #[.int .i64 0, .int .i64 0], .int .i64 8]) (by simp [results, Try.results38, go_sem, *]) rfl ⟨rfl, chg2_set ((((Chg.refl _ _).alloc _).trans k1).trans k2) w.heap.size (fun l => absurd l (by omega)) _ _⟩

theorem sExtDot_any (c d : Option Addr) (n m cap cap' : Nat) (f g f' g' : Nat → Int) (w : World) (h : Hid (PairV w c n f g)) (h' : Hid (PairV w d m f' g')) (hn : n ≤ 1099511627776) (hm : m ≤ 1099511627776) :
    Calls Try.prog 38 #[.slice c n cap, .slice d m cap'] w fun e w' => e = .returned (.tuple #[.agg #[.int .i64 (dv1 f g f' g' n m), .int .i64 (dv2 f g f' g' n m)], .int .i64 (dc f g f' g' n m)]) ∧ Chg nob w w' := by
  by_cases hl : 4096 < n ∨ 4096 < m
  · have q := sExtDot_long c d n m cap cap' w hl hn hm
    have qc : dc f g f' g' n m = 2 := by simp [dc, hl]
    rw [show dv1 f g f' g' n m = 0 by simp [dv1, qc], show dv2 f g f' g' n m = 0 by simp [dv2, qc], qc]
    exact q
  · exact sExtDot_short c d n m cap cap' f g f' g' w h h' hl

end Go.Proofs.Ytencdbocifpekaa
