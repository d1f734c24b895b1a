/- Several texts in one: Sums of products of elements: what ExtDot and its model answer: contracts. Conditions: rows that can be read. · A drawn setting is a right one: contracts. Conditions: those of each theorem. · What 'append([]byte{q}, more...)' makes: a slice of bytes, one longer, that can be read; nothing that was there has turned. Conditions: more can be read and holds at most 1048576 bytes. · Bound matrices are their tables, put together: plain. No condition but those that each theorem states. -/
import Derived.Test.YtkpohajmcngjcaaGreatDoorBzae
import Derived.Test.YtkpohajmcngjcaaGreatDoorBzab
import Derived.Test.YtkpohajmcngjcaaGreatDoorBzba
import Derived.Test.YtkpohajmcngjcaaGreatDoorBzbl
import Derived.Deep.AppendSrc
import Derived.OwnWalk
import Derived.Test.YtkpohajmcngjcaaGreatDoorBzbn
import Derived.Test.YtkpohajmcngjcaaGreatDoorBzan
import Derived.Test.YtkpohajmcngjcaaGreatDoorBzam
import Derived.Test.YtkpohajmcngjcaaGreatDoorBzar
namespace Go.Proofs.YtkpohajmcngjcaaGreatDoor
open Go.ChangeShapes Go.WideShapes Go.ChangeAt Go.RowKit
set_option linter.unusedVariables false
set_option linter.unusedSimpArgs false

/-- The sum of the first n products. -/
def dE (f g f' g' : Nat → Int) : Nat → Int × Int
  | 0 => (0, 0)
  | n + 1 => (((dE f g f' g' n).1 + Fld.mA (f n) (g n) (f' n) (g' n)) % 2130706433, ((dE f g f' g' n).2 + Fld.mB (f n) (g n) (f' n) (g' n)) % 2130706433)
theorem dE_red (f g f' g' : Nat → Int) (n : Nat) : Fld.Red (dE f g f' g' n) := by
  cases n with
  | zero => exact ⟨by simp [dE], by simp [dE], by simp [dE], by simp [dE]⟩
  | succ n => exact ⟨mod_lo _, mod_hi _, mod_lo _, mod_hi _⟩
/-- The code, and the answer's parts. -/
def dc (f g f' g' : Nat → Int) (n m : Nat) : Int := if 4096 < n ∨ 4096 < m then 2 else if okP f g n && okP f' g' m then (if n = m then 0 else 8) else 1
def dv1 (f g f' g' : Nat → Int) (n m : Nat) : Int := if dc f g f' g' n m = 0 then (dE f g f' g' n).1 else 0
def dv2 (f g f' g' : Nat → Int) (n m : Nat) : Int := if dc f g f' g' n m = 0 then (dE f g f' g' n).2 else 0

set_option maxHeartbeats 1000000 in
theorem extDot_long (c d : Option Addr) (n m cap cap' : Nat) (w : World) (hl : 4096 < n ∨ 4096 < m) (hn : n ≤ 1099511627776) (hm : m ≤ 1099511627776) :
    Calls Tryz.prog 28 #[.slice c n cap, .slice d m cap'] w fun e w' => e = .returned (.tuple #[.agg #[.int .i64 0, .int .i64 0], .int .i64 2]) ∧ Chg nob w w' := by
  by_cases h0 : 4096 < n
  · have h1 : 4096 < (n : Int) := by omega
    go_enter Tryz.func28, Tryz.ntmps28
    go_wp2
    exact bodyPost_ret (v := .tuple #[.agg #[.int .i64 0, .int .i64 0], .int .i64 2]) (by simp [results, Tryz.results28, go_sem]) rfl ⟨rfl, (Chg.refl _ _).alloc _⟩
  · have h1 : ¬ 4096 < (n : Int) := by omega
    have h2 : 4096 < (m : Int) := by omega
    go_enter Tryz.func28, Tryz.ntmps28
    go_wp2
    exact bodyPost_ret (v := .tuple #[.agg #[.int .i64 0, .int .i64 0], .int .i64 2]) (by simp [results, Tryz.results28, go_sem]) rfl ⟨rfl, (Chg.refl _ _).alloc _⟩

set_option maxHeartbeats 2000000 in
theorem extDot_short (c d : Option Addr) (n m cap cap' : Nat) (f g f' g' : Nat → Int) (w : World) (h : Hid (PairV w c n f g)) (h' : Hid (PairV w d m f' g')) (hl : ¬ (4096 < n ∨ 4096 < m)) :
    Calls Tryz.prog 28 #[.slice c n cap, .slice d m cap'] w fun e w' => e = .returned (.tuple #[.agg #[.int .i64 (dv1 f g f' g' n m), .int .i64 (dv2 f g f' g' n m)], .int .i64 (dc f g f' g' n m)]) ∧ Chg nob w w' := by
  have h1 : ¬ 4096 < (n : Int) := by omega
  have h2 : ¬ 4096 < (m : Int) := by omega
  have hn : n ≤ 1099511627776 := by omega
  have hm : m ≤ 1099511627776 := by omega
  cases ha : okP f g n
  · have qc : dc f g f' g' n m = 1 := by simp [dc, hl, ha]
    have q1 : dv1 f g f' g' n m = 0 := by simp [dv1, qc]
    have q2 : dv2 f g f' g' n m = 0 := by simp [dv2, qc]
    rw [qc, q1, q2]
    clear qc q1 q2
    go_enter Tryz.func28, Tryz.ntmps28
    go_wp2_with fail
    refine (extsOK_any c n cap f g _ (hide (h.out.keep ((Chg.refl _ _).alloc _))) hn).mono ?_
    rintro e w1 ⟨rfl, k1⟩
    obtain ⟨hc, hf, hz⟩ := kcell k1 (w.heap.size + 1) (by simp)
    go_wp2
    exact bodyPost_ret (v := .tuple #[.agg #[.int .i64 0, .int .i64 0], .int .i64 1]) (by simp [results, Tryz.results28, go_sem, *]) rfl ⟨rfl, chg2_set (((Chg.refl _ _).alloc _).trans k1) w.heap.size (fun l => absurd l (by omega)) _ _⟩
  cases hb : okP f' g' m
  · have qc : dc f g f' g' n m = 1 := by simp [dc, hl, ha, hb]
    have q1 : dv1 f g f' g' n m = 0 := by simp [dv1, qc]
    have q2 : dv2 f g f' g' n m = 0 := by simp [dv2, qc]
    rw [qc, q1, q2]
    clear qc q1 q2
    go_enter Tryz.func28, Tryz.ntmps28
    go_wp2_with fail
    refine (extsOK_any c n cap f g _ (hide (h.out.keep ((Chg.refl _ _).alloc _))) hn).mono ?_
    rintro e w1 ⟨rfl, k1⟩
    obtain ⟨hc, hf, hz⟩ := kcell k1 (w.heap.size + 1) (by simp)
    go_wp2_with fail
    refine (extsOK_any d m cap' f' g' _ (hide (h'.out.keep (((Chg.refl _ _).alloc _).trans k1))) hm).mono ?_
    rintro e w2 ⟨rfl, k2⟩
    obtain ⟨hc2, hf2, hz2⟩ := kcell k2 (w.heap.size + 1) hz
    go_wp2
    exact bodyPost_ret (v := .tuple #[.agg #[.int .i64 0, .int .i64 0], .int .i64 1]) (by simp [results, Tryz.results28, go_sem, *]) rfl ⟨rfl, chg2_set ((((Chg.refl _ _).alloc _).trans k1).trans k2) w.heap.size (fun l => absurd l (by omega)) _ _⟩
  by_cases he : n = m
  · subst he
    have qc : dc f g f' g' n n = 0 := by simp [dc, ha, hb]; omega
    have q1 : dv1 f g f' g' n n = (dE f g f' g' n).1 := by simp [dv1, qc]
    have q2 : dv2 f g f' g' n n = (dE f g f' g' n).2 := by simp [dv2, qc]
    rw [qc, q1, q2]
    clear qc q1 q2
    go_enter Tryz.func28, Tryz.ntmps28
    go_wp2_with fail
    refine (extsOK_any c n cap f g _ (hide (h.out.keep ((Chg.refl _ _).alloc _))) hn).mono ?_
    rintro e w1 ⟨rfl, k1⟩
    obtain ⟨hc, hf, hz⟩ := kcell k1 (w.heap.size + 1) (by simp)
    go_wp2_with fail
    refine (extsOK_any d n cap' f' g' _ (hide (h'.out.keep (((Chg.refl _ _).alloc _).trans k1))) hm).mono ?_
    rintro e w2 ⟨rfl, k2⟩
    have HR0 : Hid (w2.rowIs w.heap.size 62 2 (pi2 0 0)) := hide (rowIs_keep (row2_new w _ _ _) (k1.trans k2))
    have HK : Hid (Chg nob w w2) := hide ((((Chg.refl _ _).alloc _).trans k1).trans k2)
    have hz2 : w.heap.size + 1 ≤ w2.heap.size := Nat.le_trans hz k2.size
    clear hc hf hz k1 k2
    go_wp2
    go_loopw [35] (fun i W => ∃ k : Nat, k ≤ n ∧ i = .int .i64 k ∧ Hid (W.rowIs w.heap.size 62 2 (pi2 0 0)) ∧ Hid (W.rowIs w2.heap.size 62 2 (pi2 (dE f g f' g' k).1 (dE f g f' g' k).2)) ∧ Hid (Chg nob w W)) (fun i _ => n - (intOf i).toNat)
    case atStart => exact ⟨0, Nat.zero_le _, rfl, hide (HR0.out.alloc _), hide (row2_new w2 _ _ _), hide (HK.out.alloc _)⟩
    case round =>
      obtain ⟨k, hk, rfl, HR, HS, HC⟩ := hrel
      by_cases hlt : k < n
      · have hk0 : (0 : Int) ≤ (k : Int) := by omega
        have hk1 : (k : Int) < (n : Int) := by omega
        obtain ⟨xb, xo, rfl, hxb, hx0, hx1⟩ := (h.out.keep HC.out) k hlt
        obtain ⟨yb, yo, rfl, hyb, hy0, hy1⟩ := (h'.out.keep HC.out) k hlt
        have hxw : xb < w.heap.size := by obtain ⟨b1, o1, e1, l1, _⟩ := h.out k hlt; simp at e1; omega
        have hyw : yb < w.heap.size := by obtain ⟨b1, o1, e1, l1, _⟩ := h'.out k hlt; simp at e1; omega
        have nx : xb ≠ w2.heap.size := by omega
        have ny : yb ≠ w2.heap.size := by omega
        have ea := okP_all f g n ha k hlt
        have eb' := okP_all f' g' n hb k hlt
        have a0 := fok_lo (eok_a ea)
        have a1 := fok_hi (eok_a ea)
        have b0 := fok_lo (eok_b ea)
        have b1 := fok_hi (eok_b ea)
        have c0 := fok_lo (eok_a eb')
        have c1 := fok_hi (eok_a eb')
        have d0 := fok_lo (eok_b eb')
        have d1 := fok_hi (eok_b eb')
        obtain ⟨p0, p1, p2, p3⟩ := dE_red f g f' g' k
        have m0 := Fld.mA_lo (f k) (g k) (f' k) (g' k)
        have m1 := Fld.mA_hi (f k) (g k) (f' k) (g' k)
        have m2 := Fld.mB_lo (f k) (g k) (f' k) (g' k)
        have m3 := Fld.mB_hi (f k) (g k) (f' k) (g' k)
        have s0 := row2_c0 HS.out
        have s1 := row2_c1 HS.out
        have u0 := HS.out.frozen 0
        have u1 := HS.out.frozen 1
        clear ea eb' ha hb
        go_wp2
        go_region_with (first | (go_at_call 60; refine (times_any _ _ _ _ _ (by assumption) (by assumption) (by assumption) (by assumption) (by assumption) (by assumption) (by assumption) (by assumption)).mono ?_; rintro e w3 ⟨rfl, k1⟩; have s2 := k1.look s0; have s3 := k1.look s1) | (go_at_call 61; refine (plus_any _ _ _ _ _ (by assumption) (by assumption) (by assumption) (by assumption) (by assumption) (by assumption) (by assumption) (by assumption)).mono ?_; rintro e w4 ⟨rfl, k2⟩; have s4 := k2.look (k1.look s0); have s5 := k2.look (k1.look s1); have u2 := (rowIs_keep (rowIs_keep HS.out.drew k1) k2).frozen 0; have u3 := (rowIs_keep (rowIs_keep HS.out.drew k1) k2).frozen 1))
        all_goals
          have HS2 := hide (rowIs_keep (rowIs_keep HS.out.drew k1) k2)
          have HR2 := hide (rowIs_keep (rowIs_keep HR.out.drew k1) k2)
          have HC2 := hide ((HC.out.drew.trans k1).trans k2)
          clear k1 k2
          go_wp2
          go_roundw
          case rel => exact ⟨k + 1, by omega, by go_num, hide (row2_other HR2.out (by omega) _ _), hide (row2_set HS2.out _ _), hide (chg2_set HC2.out w2.heap.size (fun l => absurd l (by omega)) _ _)⟩
          case measure => simp [intOf]; omega
      · obtain rfl : k = n := by omega
        have s0 := row2_c0 HS.out
        have s1 := row2_c1 HS.out
        have r0 := row2_c0 HR.out
        have r1 := row2_c1 HR.out
        have u0 := HR.out.frozen 0
        have u1 := HR.out.frozen 1
        go_wp2
        exact bodyPost_ret (v := .tuple #[.agg #[.int .i64 (dE f g f' g' k).1, .int .i64 (dE f g f' g' k).2], .int .i64 0]) (by simp [results, Tryz.results28, go_sem, *]) rfl ⟨rfl, chg2_set HC.out w.heap.size (fun l => absurd l (by omega)) _ _⟩
  · have qc : dc f g f' g' n m = 8 := by simp [dc, hl, ha, hb, he]
    have q1 : dv1 f g f' g' n m = 0 := by simp [dv1, qc]
    have q2 : dv2 f g f' g' n m = 0 := by simp [dv2, qc]
    rw [qc, q1, q2]
    clear qc q1 q2
    have he' : ¬ (n : Int) = (m : Int) := by omega
    go_enter Tryz.func28, Tryz.ntmps28
    go_wp2_with fail
    refine (extsOK_any c n cap f g _ (hide (h.out.keep ((Chg.refl _ _).alloc _))) hn).mono ?_
    rintro e w1 ⟨rfl, k1⟩
    obtain ⟨hc, hf, hz⟩ := kcell k1 (w.heap.size + 1) (by simp)
    go_wp2_with fail
    refine (extsOK_any d m cap' f' g' _ (hide (h'.out.keep (((Chg.refl _ _).alloc _).trans k1))) hm).mono ?_
    rintro e w2 ⟨rfl, k2⟩
    obtain ⟨hc2, hf2, hz2⟩ := kcell k2 (w.heap.size + 1) hz
    go_wp2
    exact bodyPost_ret (v := .tuple #[.agg #[.int .i64 0, .int .i64 0], .int .i64 8]) (by simp [results, Tryz.results28, go_sem, *]) rfl ⟨rfl, chg2_set ((((Chg.refl _ _).alloc _).trans k1).trans k2) w.heap.size (fun l => absurd l (by omega)) _ _⟩

theorem extDot_any (c d : Option Addr) (n m cap cap' : Nat) (f g f' g' : Nat → Int) (w : World) (h : Hid (PairV w c n f g)) (h' : Hid (PairV w d m f' g')) (hn : n ≤ 1099511627776) (hm : m ≤ 1099511627776) :
    Calls Tryz.prog 28 #[.slice c n cap, .slice d m cap'] w fun e w' => e = .returned (.tuple #[.agg #[.int .i64 (dv1 f g f' g' n m), .int .i64 (dv2 f g f' g' n m)], .int .i64 (dc f g f' g' n m)]) ∧ Chg nob w w' := by
  by_cases hl : 4096 < n ∨ 4096 < m
  · have q := extDot_long c d n m cap cap' w hl hn hm
    have qc : dc f g f' g' n m = 2 := by simp [dc, hl]
    rw [show dv1 f g f' g' n m = 0 by simp [dv1, qc], show dv2 f g f' g' n m = 0 by simp [dv2, qc], qc]
    exact q
  · exact extDot_short c d n m cap cap' f g f' g' w h h' hl


end Go.Proofs.YtkpohajmcngjcaaGreatDoor

namespace Go.Proofs.YtkpohajmcngjcaaGreatDoor
open Go.ChangeShapes Go.WideShapes Go.ChangeAt Go.RowKit
set_option linter.unusedVariables false
set_option maxRecDepth 100000
set_option linter.unusedSimpArgs false

theorem set3_all {W : World} {g : Nat} {ty : TypeId} {h0 : Nat → Value} (h : W.rowIs g ty 3 h0) (a b c : Value) : (((W.setCell ⟨g, 0, none⟩ a).setCell ⟨g, 1, none⟩ b).setCell ⟨g, 2, none⟩ c).rowIs g ty 3 (fun i => (#[a, b, c] : Array Value).getD i undef) :=
  (((h.set 0 a).set 1 b).set 2 c).congr (fun i hi => by
    match i, hi with
    | 0, _ => rfl
    | 1, _ => rfl
    | 2, _ => rfl)
theorem chg3_at {P : Nat → Prop} {w W : World} (h : Chg P w W) (g : Nat) (hg : g < w.heap.size → P g) (a b c : Value) : Chg P w (((W.setCell ⟨g, 0, none⟩ a).setCell ⟨g, 1, none⟩ b).setCell ⟨g, 2, none⟩ c) :=
  ((h.setCell (p := ⟨g, 0, none⟩) hg a).setCell (p := ⟨g, 1, none⟩) hg b).setCell (p := ⟨g, 2, none⟩) hg c
/-- A drawn setting. -/
def SetDr (b : Nat) (w : World) (e : Ending) (w' : World) : Prop := ∃ r n g : Int, e = .returned (.agg #[.int .i64 r, .int .i64 n, .int .i64 g]) ∧ stb r n g = true ∧ Chg (fun k => k = b) w w'
def NewZ (w : World) (e : Ending) (w' : World) : Prop := ∃ r n g : Int, e = .returned (.agg #[.int .i64 r, .int .i64 n, .int .i64 g]) ∧ stb r n g = true ∧ Chg nob w w'

set_option maxHeartbeats 2000000 in
theorem settingD_any (n b : Nat) (w : World) (h : Src n w b) (hn : n ≤ 999999990000) :
    Calls Tryz.prog 46 #[.pointer (some ⟨b, 0, none⟩)] w fun e w' => SetDr b w e w' := by
  have hb := h.lt
  have K0 := hik ((Chg.refl (fun k => k = b) w).alloc (.cells #[.int .i64 0, .int .i64 0, .int .i64 0] 42))
  have A0 := hik (rowN_new w 3 #[.int .i64 0, .int .i64 0, .int .i64 0] 42 rfl)
  have S0 := hik (h.keep ((Chg.refl nob w).alloc (.cells #[.int .i64 0, .int .i64 0, .int .i64 0] 42)))
  go_enter Tryz.func46, Tryz.ntmps46
  go_wp2_with fail
  generalize hW : w.alloc (.cells #[.int .i64 0, .int .i64 0, .int .i64 0] 42) = W0 at K0 A0 S0 ⊢
  clear hW
  refine (nextC_any 2 _ _ _ S0.out (by omega) (by omega) (by omega)).mono ?_
  rintro e W1 ⟨x1, rfl, l1, u1, s1, kk⟩
  replace K0 := hik (K0.out.trans kk)
  replace A0 := hik (rowIs_chg A0.out kk (by omega))
  have S1 := hik s1
  clear kk s1 S0
  go_wp2_with fail
  refine (nextC_any 3 _ _ _ S1.out (by omega) (by omega) (by omega)).mono ?_
  rintro e W2 ⟨x2, rfl, l2, u2, s2, kk⟩
  replace K0 := hik (K0.out.trans kk)
  replace A0 := hik (rowIs_chg A0.out kk (by omega))
  have S2 := hik s2
  clear kk s2 S1
  go_wp2_with fail
  refine (nextC_any 3 _ _ _ S2.out (by omega) (by omega) (by omega)).mono ?_
  rintro e W3 ⟨x3, rfl, l3, u3, s3, kk⟩
  replace K0 := hik (K0.out.trans kk)
  replace A0 := hik (rowIs_chg A0.out kk (by omega))
  clear kk s3 S2
  have z0 : W3.cell? ⟨w.heap.size, 0, none⟩ = some (.int .i64 0) := A0.out.cell (i := 0) (by omega)
  have z1 : W3.cell? ⟨w.heap.size, 1, none⟩ = some (.int .i64 0) := A0.out.cell (i := 1) (by omega)
  have z2 : W3.cell? ⟨w.heap.size, 2, none⟩ = some (.int .i64 0) := A0.out.cell (i := 2) (by omega)
  have f0 := A0.out.frozen 0
  have f1 := A0.out.frozen 1
  have f2 := A0.out.frozen 2
  have zl := A0.out.lt
  have RE := hik (set3_all A0.out (.int .i64 (1 + x1)) (.int .i64 (1 + x2)) (.int .i64 x3))
  have KE := hik (chg3_at K0.out w.heap.size (fun l => absurd l (by omega)) (.int .i64 (1 + x1)) (.int .i64 (1 + x2)) (.int .i64 x3))
  clear A0
  go_wp2
  have d0 := RE.out.cell (i := 0) (by omega)
  have d1 := RE.out.cell (i := 1) (by omega)
  have d2 := RE.out.cell (i := 2) (by omega)
  simp at d0 d1 d2
  exact bodyPost_ret (v := .agg #[.int .i64 (1 + x1), .int .i64 (1 + x2), .int .i64 x3]) (by simp [results, Tryz.results46, go_sem, d0, d1, d2]) rfl ⟨1 + x1, 1 + x2, x3, rfl, decide_eq_true (by omega), KE.out⟩

set_option maxHeartbeats 2000000 in
theorem settingOf_any (c : Option Addr) (len cap : Nat) (w : World) (h : Bytes w c len) (hl : (len : Int) ≤ 9223372036854775807) :
    Calls Tryz.prog 21 #[.slice c len cap] w fun e w' => NewZ w e w' := by
  have K0 := hik ((Chg.refl nob w).alloc (.cells #[.int .i64 0, .int .i64 0, .int .i64 0] 42))
  have A0 := hik (rowN_new w 3 #[.int .i64 0, .int .i64 0, .int .i64 0] 42 rfl)
  go_enter Tryz.func21, Tryz.ntmps21
  go_wp2_with fail
  refine (l00Source_any c len cap _ (h.below K0.out.belowAll) hl).mono ?_
  rintro e W1 ⟨rfl, hs, hb⟩
  have k1 := chg_of_below hb
  have l0 : w.heap.size < (w.alloc (.cells #[.int .i64 0, .int .i64 0, .int .i64 0] 42)).heap.size := A0.out.lt
  replace A0 := hik (rowIs_keep A0.out k1)
  replace K0 := hik (K0.out.trans k1)
  have S1 := hik hs
  clear hs hb k1
  generalize hE : w.alloc (.cells #[.int .i64 0, .int .i64 0, .int .i64 0] 42) = W0 at S1 l0 ⊢
  clear hE
  go_wp2_with fail
  refine (settingD_any 0 _ _ S1.out (by omega)).mono ?_
  rintro e W2 ⟨r, n, g, rfl, hok, k2⟩
  replace A0 := hik (rowIs_chg A0.out k2 (by omega))
  replace K0 := hik (K0.out.near k2 (fun i e => by have e : i = W0.heap.size := e; omega))
  clear k2 S1
  have z0 : W2.cell? ⟨w.heap.size, 0, none⟩ = some (.int .i64 0) := A0.out.cell (i := 0) (by omega)
  have z1 : W2.cell? ⟨w.heap.size, 1, none⟩ = some (.int .i64 0) := A0.out.cell (i := 1) (by omega)
  have z2 : W2.cell? ⟨w.heap.size, 2, none⟩ = some (.int .i64 0) := A0.out.cell (i := 2) (by omega)
  have f0 := A0.out.frozen 0
  have f1 := A0.out.frozen 1
  have f2 := A0.out.frozen 2
  have zl := A0.out.lt
  have HOK := hik hok
  clear hok
  have RE := hik (set3_all A0.out (.int .i64 r) (.int .i64 n) (.int .i64 g))
  have KE := hik (chg3_at K0.out w.heap.size (fun l => absurd l (by omega)) (.int .i64 r) (.int .i64 n) (.int .i64 g))
  clear A0
  go_wp2
  have d0 := RE.out.cell (i := 0) (by omega)
  have d1 := RE.out.cell (i := 1) (by omega)
  have d2 := RE.out.cell (i := 2) (by omega)
  simp at d0 d1 d2
  exact bodyPost_ret (v := .agg #[.int .i64 r, .int .i64 n, .int .i64 g]) (by simp [results, Tryz.results21, go_sem, d0, d1, d2]) rfl ⟨r, n, g, rfl, HOK.out, KE.out⟩

end Go.Proofs.YtkpohajmcngjcaaGreatDoor

namespace Go.Proofs.YtkpohajmcngjcaaGreatDoor
open Go.ChangeShapes Go.WideShapes Go.ChangeAt Go.RowKit

theorem infoByte : (Tryz.prog.info? 5).map (fun i => (i.zero, i.size, i.bytes)) = some (some (.int .u8 0), 1, 1) := by kernel_rfl

theorem below_grown {w w' : World} (h : w.grownBy w' none) : Below w.heap.size w w' := (Below.refl _ _).grown h (Nat.le_refl _) (fun k e => by cases e)

theorem wp_appN (w : World) {ops : Array Oper} {rest : List Oper} {o : Oper} {a : Act} {Q : Exit → Act → World → Prop}
    (hg : o.guard = none) (s x : Operand) (hop : o.op = Op.call { callee := Callee.builtin Builtin.append, args := #[s, x], argTypes := #[53, 53] })
    (g : Nat) (hs : a.eval s = .slice (some ⟨g, 0, none⟩) 1 1) (q : Int) (q0 : 0 ≤ q) (q1 : q ≤ 255) (h7 : w.cell? ⟨g, 0, none⟩ = some (.int .u8 q))
    (c : Option Addr) (len cap : Nat) (hx : a.eval x = .slice c len cap) (hB : Bytes w c len) (hl : len ≤ 1048576)
    (hK : ∀ c' cap' w', Bytes w' c' (1 + len) → Below w.heap.size w w' → wpList Tryz.prog ops Q rest (a.put o.dst (.slice c' (1 + len) cap')) w') :
    wpList Tryz.prog ops Q (o :: rest) a w := by
  obtain ⟨i0, hi, hz0, hz1, hz2⟩ := info_parts infoByte
  by_cases hz : len = 0
  · subst hz
    have hsrc : Go.Src Tryz.prog i0.size 53 (.slice c 0 cap) 0 [] w := by
      cases c with
      | none => exact Go.Src.ofNil w Tryz.underlying53 cap
      | some ad => exact Go.Src.ofSlice w Tryz.underlying53 ad 0 cap [] (by simp) (by intro j u h; simp at h) (by intro u h; cases h)
    have hrun := run_append_room_src (P := Tryz.prog) w 53 53 o.type 5 i0 Tryz.underlying53 hi g 0 1 1 _ 0 [] hsrc (by omega) (by intro j h; simp at h) (by intro j h; simp at h)
    refine wpList_plain hg fun K hK' => ?_
    unfold Oper.wp
    simp [execOp, hop, resolve, invoke, builtin, hs, hx, hrun, Result.andThen]
    refine hK' _ _ (hK (some ⟨g, 0, none⟩) 1 _ ?_ (Below.refl _ _))
    intro i hi'
    obtain rfl : i = 0 := by omega
    exact ⟨g, 0, q, rfl, block_lt_of_cell h7, h7, by omega, by omega⟩
  · obtain ⟨xb, xo, z, rfl, hb, _⟩ := hB 0 (by omega)
    have hcell : ∀ j, j < len → ∃ z : Int, w.cell? ⟨xb, xo + j, none⟩ = some (.int .u8 z) ∧ 0 ≤ z ∧ z ≤ 255 := by
      intro j hj
      obtain ⟨xb', xo', z', e, _, cz, z0, z1⟩ := hB j hj
      obtain ⟨rfl, rfl⟩ : xb = xb' ∧ xo = xo' := by simpa using e
      exact ⟨z', cz, z0, z1⟩
    refine wpList_append_grows w hg s x 53 hop 5 i0 (.int .u8 0) 1 1 Tryz.underlying53 hi hz0 hz1 hz2 rfl (by decide) (some ⟨g, 0, none⟩) 1 1 [.int .u8 q] hs (by intro h; cases h) rfl ?_
      ⟨xb, xo, none⟩ len cap ((List.range len).map fun j => (w.cell? ⟨xb, xo + j, none⟩).getD (.int .u8 0)) hx (by simp) ?_ ?_ (by omega) (by unfold maxLen; omega) (by omega) ?_
    · intro b e j u h
      obtain rfl : (⟨g, 0, none⟩ : Addr) = b := by simpa using e
      match j, h with
      | 0, h => simp at h; subst h; simpa [Addr.add] using h7
    · intro j u h
      rw [List.getElem?_map] at h
      by_cases hj : j < len
      · rw [List.getElem?_range hj] at h
        obtain ⟨z, cz, _⟩ := hcell j hj
        simp only [Option.map_some, cz, Option.getD_some, Option.some.injEq] at h
        subst h
        rw [Addr.add_lit, cz]
      · rw [List.getElem?_eq_none (by simp; omega)] at h
        cases h
    · intro u hu
      obtain ⟨j, hj, rfl⟩ := List.mem_map.1 hu
      obtain ⟨z, cz, _⟩ := hcell j (by simpa using hj)
      rw [cz]
      rfl
    · intro v' w' hown hgr
      have hown' := hown
      obtain ⟨_, ⟨_, h0⟩ | ⟨g', cap', cur, rfl, hbase, hcur, hle, hcl, hsz, htk⟩⟩ := hown
      · omega
      · refine hK _ _ _ ?_ (below_grown hgr)
        intro i hi'
        have hc := hown'.cellAt i (by omega)
        by_cases h0 : i = 0
        · subst h0
          refine ⟨g', 0, q, rfl, (by have := block_lt_of_cell (show w'.cell? ⟨g', 0, none⟩ = some (.int .u8 q) by rw [hc]; rfl); exact this), ?_, by omega, by omega⟩
          rw [Nat.zero_add, hc]
          rfl
        · obtain ⟨z, cz, z0, z1⟩ := hcell (i - 1) (by omega)
          have hv : w'.cell? ⟨g', i, none⟩ = some (.int .u8 z) := by
            rw [hc, List.singleton_append, List.getElem?_cons, if_neg h0, List.getElem?_map, List.getElem?_range (by omega)]
            simp only [Option.map_some, cz, Option.getD_some]
          exact ⟨g', 0, z, rfl, block_lt_of_cell hv, by rw [Nat.zero_add]; exact hv, z0, z1⟩

end Go.Proofs.YtkpohajmcngjcaaGreatDoor

namespace Go.Proofs.YtkpohajmcngjcaaGreatDoor
set_option linter.unusedVariables false
open El in
theorem tat_add1 (t p : Nat → El) (n c : Nat) (x : El) (hc : c < 2 ^ n) : tat (fun j => if j = c then ad (t j) x else t j) p n = ad (tat t p n) (ml x (eqp p n c)) := by
  unfold tat
  rw [sm_congr (g := fun i => ad (ml (t i) (eqp p n i)) (if i = c then ml x (eqp p n c) else zr)) (fun i _ => by
    show ml (if i = c then ad (t i) x else t i) (eqp p n i) = ad (ml (t i) (eqp p n i)) (if i = c then ml x (eqp p n c) else zr)
    by_cases e : i = c
    · subst e; rw [if_pos rfl, if_pos rfl, ad_ml]
    · rw [if_neg e, if_neg e, ad_zr]), sm_ad, sm_one hc (fun i _ e => if_neg e), if_pos rfl]
open El in
theorem tat_btE (A : Nat → El) (r : El) (X : Nat → En) (T p : Nat → El) (n N : Nat) (hX : ∀ i, i < N → (X i).2.1.toNat < 2 ^ n) : ∀ k, k ≤ N → tat (btE A r X T k) p n = ad (tat T p n) (ml r (mte X A (eqp p n) k))
  | 0, _ => by rw [mte, ml_zr, ad_zr]; rfl
  | k + 1, hk => by
    have e : btE A r X T (k + 1) = fun j => if j = (X k).2.1.toNat then ad (btE A r X T k j) (ml r (ml (ofi (X k).2.2) (A (X k).1.toNat))) else btE A r X T k j := rfl
    rw [e, tat_add1 _ _ _ _ _ (hX k (by omega)), tat_btE A r X T p n N hX k (by omega), mte, ml_ad, ad_assoc, ml_assoc, ml_assoc]
open El in
theorem tat_zr (p : Nat → El) (n : Nat) : tat (fun _ => zr) p n = zr := sm_zr (fun i _ => zr_ml _)
open El in
theorem tat_btK (s : Sy) (A : Nat → El) (r : Nat → El) (p : Nat → El) (n : Nat) (hX : ∀ k i, k < 3 → i < pk3 s.nA s.nB s.nC k → (pk3 s.XA s.XB s.XC k i).2.1.toNat < 2 ^ n) :
    tat (btK s A r 3) p n = ad (ad (ml (r 0) (mte s.XA A (eqp p n) s.nA)) (ml (r 1) (mte s.XB A (eqp p n) s.nB))) (ml (r 2) (mte s.XC A (eqp p n) s.nC)) := by
  have e : btK s A r 3 = btE A (r 2) s.XC (btE A (r 1) s.XB (btE A (r 0) s.XA (fun _ => zr) s.nA) s.nB) s.nC := rfl
  rw [e, tat_btE A (r 2) s.XC _ p n s.nC (fun i hi => hX 2 i (by omega) hi) s.nC (Nat.le_refl _), tat_btE A (r 1) s.XB _ p n s.nB (fun i hi => hX 1 i (by omega) hi) s.nB (Nat.le_refl _), tat_btE A (r 0) s.XA _ p n s.nA (fun i hi => hX 0 i (by omega) hi) s.nA (Nat.le_refl _), tat_zr, zr_ad]
/-- Products of lists. -/
def dtE (x y : Nat → El) : Nat → El
  | 0 => El.zr
  | k + 1 => El.ad (dtE x y k) (El.ml (x k) (y k))
theorem dE_el (x y : Nat → El) : ∀ k, dE (cA x) (cB x) (cA y) (cB y) k = (dtE x y k).v
  | 0 => rfl
  | k + 1 => by
    rw [dE, dE_el x y k, dtE]
    simp only [El.ad, El.ml, Fld.mu, cA, cB]
    try (refine Prod.ext ?_ ?_ <;> simp [Int.add_emod])

end Go.Proofs.YtkpohajmcngjcaaGreatDoor
