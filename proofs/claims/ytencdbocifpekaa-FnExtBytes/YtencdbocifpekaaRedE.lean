/- What ReadExts answers: a contract. Condition: bytes that can be read. -/
import Derived.Test.YtencdbocifpekaaRed
namespace Go.Proofs.Ytencdbocifpekaa
open Go.ChangeShapes Go.WideShapes Go.ChangeAt Go.RowKit
set_option linter.unusedVariables false
set_option linter.unusedSimpArgs false

theorem RowV.whole {w : World} {c : Option Addr} {n : Nat} {f : Nat → Value} (h : RowV w c n f) (hn : 0 < n) : ∃ xb xo : Nat, c = some ⟨xb, xo, none⟩ ∧ xb < w.heap.size ∧ ∀ i, i < n → w.cell? ⟨xb, xo + i, none⟩ = some (f i) := by
  obtain ⟨xb, xo, e, l, _⟩ := h 0 hn
  refine ⟨xb, xo, e, l, fun i hi => ?_⟩
  obtain ⟨xb', xo', e', _, hc⟩ := h i hi
  rw [e] at e'
  obtain ⟨rfl, rfl⟩ : xb = xb' ∧ xo = xo' := by simpa using e'
  exact hc
/-- What the bytes say. -/
def rf (z : Nat → Int) (i : Nat) : Int := w4 z (i * 8)
def rg (z : Nat → Int) (i : Nat) : Int := w4 z (i * 8 + 4)
/-- The code of bytes. -/
def rc (z : Nat → Int) (n : Nat) : Int := if 65536 < n then 2 else if n % 8 = 0 then (if okP (rf z) (rg z) (n / 8) then (if 4096 < n / 8 then 6 else 0) else 3) else 3
def NoList (w : World) (code : Int) (e : Ending) (w' : World) : Prop := e = .returned (.tuple #[.slice none 0 0, .int .i64 code]) ∧ Chg nob w w'
def NewList (w : World) (n : Nat) (z : Nat → Int) (e : Ending) (w' : World) : Prop :=
  ∃ b : Nat, w.heap.size ≤ b ∧ e = .returned (.tuple #[.slice (some ⟨b, 0, none⟩) (n / 8) (n / 8), .int .i64 0]) ∧ w'.rowIs b 37 (n / 8 * 2) (pf (rf z) (rg z)) ∧ Chg nob w w'
def RAns (w : World) (n : Nat) (z : Nat → Int) (e : Ending) (w' : World) : Prop := (rc z n ≠ 0 ∧ NoList w (rc z n) e w') ∨ (rc z n = 0 ∧ NewList w n z e w')
theorem RAns.no {w w' : World} {n : Nat} {z : Nat → Int} {e : Ending} {code : Int} (hb : rc z n = code) (hc : code ≠ 0) (h : e = .returned (.tuple #[.slice none 0 0, .int .i64 code])) (k : Chg nob w w') : RAns w n z e w' :=
  .inl ⟨by rw [hb]; exact hc, by rw [hb]; exact ⟨h, k⟩⟩

set_option maxHeartbeats 2000000 in
theorem readExts_any (c : Option Addr) (n cap : Nat) (z : Nat → Int) (w : World) (h : Hid (RowV w c n (bw z))) (hz : Hid (∀ j, 0 ≤ z j ∧ z j < 256)) (hn : n ≤ 1099511627776) (hcap : n ≤ cap) (hc' : (cap : Int) ≤ 9223372036854775807) :
    Calls Try.prog 35 #[.slice c n cap] w fun e w' => RAns w n z e w' := by
  by_cases hl : 65536 < n
  · have hl' : 65536 < (n : Int) := by omega
    have HB := hide (show rc z n = 2 by simp [rc, hl])
    go_enter Try.func35, Try.ntmps35
    go_wp2
    go_ret2
    exact RAns.no HB.out (by omega) rfl (Chg.refl _ _)
  have hl' : ¬ 65536 < (n : Int) := by omega
  by_cases h8 : n % 8 = 0
  · obtain ⟨m, rfl⟩ : ∃ m, n = m * 8 := ⟨n / 8, by omega⟩
    have h8' : ((m : Int) * 8) % 8 = 0 := by omega
    obtain ⟨i0, hi, hz0, hz1, hz2⟩ := info_parts infoExt
    have HI := hide hi
    have HZ0 := hide hz0
    have HZ1 := hide hz1
    have hb : i0.bytes * m ≤ 281474976710656 := by rw [hz2]; omega
    clear hi hz0 hz1 hz2
    go_enter Try.func35, Try.ntmps35
    go_wp2_with (at_make; refine wpList_make_pairs _ rfl (.tmp 15) (.tmp 15) 45 rfl 37 i0 Try.underlying45 HI.out HZ0.out HZ1.out .i64 .i64 _ _ m rfl rfl (by omega) (by omega) hb (by omega) ?_)
    intro w0 hr hk
    have HR0 := hide hr
    have HK0 := hide hk
    clear hb HI HZ0 HZ1 hr hk
    go_wp2
    go_loopw [19] (fun i W => ∃ k : Nat, k ≤ m ∧ i = .int .i64 k ∧ Hid (W.rowIs w.heap.size 37 (m * 2) (cpy (rf z) (rg z) k)) ∧ Hid (Chg nob w W)) (fun i _ => m - (intOf i).toNat)
    case atStart => exact ⟨0, Nat.zero_le _, rfl, hide (HR0.out.congr (fun i _ => by simp [cpy, pf])), HK0⟩
    case round =>
      obtain ⟨k, hk, rfl, HR, HC⟩ := hrel
      by_cases hlt : k < m
      · obtain ⟨xb, xo, rfl, hxb, hcell⟩ := (h.out.keep HC.out).whole (by omega)
        have HX := hide hcell
        have q0 : (0 : Int) ≤ (k : Int) * 8 := by omega
        have q1 : (k : Int) * 8 ≤ (m : Int) * 8 := by omega
        have q2 : (m : Int) * 8 ≤ (cap : Int) := by omega
        have q3 : (k : Int) * 8 ≤ (cap : Int) := by omega
        clear hcell
        go_wp2_with fail
        refine (extAt_any xb (xo + k * 8) (m * 8 - k * 8) (cap - k * 8) (k * 8) z _ (hide (fun j hj => by have := HX.out (k * 8 + j) (by omega); rw [Nat.add_assoc]; exact this)) hz (by omega) (by omega) (by omega) (by omega)).mono ?_
        rintro e w1 ⟨he, k1⟩
        have he' : e = .returned (.agg #[.int .i64 (rf z k), .int .i64 (rg z k)]) := he
        subst he'
        clear he
        have HR1 := hide (rowIs_keep HR.out k1)
        have HC1 := hide (HC.out.trans k1)
        have g0 := HR1.out.cell (i := k * 2) (by omega)
        have g1 := HR1.out.cell (i := k * 2 + 1) (by omega)
        have f0 := HR1.out.frozen (k * 2)
        have f1 := HR1.out.frozen (k * 2 + 1)
        clear k1
        go_wp2
        go_roundw
        case rel => exact ⟨k + 1, by omega, by go_num, hide (cpy_set HR1.out), hide ((HC1.out.setCell (p := ⟨w.heap.size, k * 2, none⟩) (fun l => absurd l (by simp)) _).setCell (p := ⟨w.heap.size, k * 2 + 1, none⟩) (fun l => absurd l (by simp)) _)⟩
        case measure => simp [intOf]; omega
      · obtain rfl : k = m := by omega
        have HW : Hid (wr.rowIs w.heap.size 37 (k * 2) (pf (rf z) (rg z))) := hide (HR.out.congr (fun i hi => by simp [cpy, hi]))
        have hd : k * 8 / 8 = k := by omega
        cases ho : okP (rf z) (rg z) k
        · have HB := hide (show rc z (k * 8) = 3 by simp [rc, hl, hd, ho])
          go_wp2_with fail
          refine (extsOK_any _ k k (rf z) (rg z) _ (hide (PairV.of_row HW.out (Nat.le_refl _))) (by omega)).mono ?_
          rintro e w1 ⟨rfl, k1⟩
          have HC1 := hide (HC.out.trans k1)
          clear k1
          go_wp2
          go_ret2
          exact RAns.no HB.out (by omega) rfl HC1.out
        · by_cases hm : 4096 < k
          · have hm' : 4096 < (k : Int) := by omega
            have HB := hide (show rc z (k * 8) = 6 by simp [rc, hl, hd, ho, hm])
            go_wp2_with fail
            refine (extsOK_any _ k k (rf z) (rg z) _ (hide (PairV.of_row HW.out (Nat.le_refl _))) (by omega)).mono ?_
            rintro e w1 ⟨rfl, k1⟩
            have HC1 := hide (HC.out.trans k1)
            clear k1
            go_wp2
            go_ret2
            exact RAns.no HB.out (by omega) rfl HC1.out
          · have hm' : ¬ 4096 < (k : Int) := by omega
            have HB := hide (show rc z (k * 8) = 0 by simp [rc, hl, hd, ho]; omega)
            go_wp2_with fail
            refine (extsOK_any _ k k (rf z) (rg z) _ (hide (PairV.of_row HW.out (Nat.le_refl _))) (by omega)).mono ?_
            rintro e w1 ⟨rfl, k1⟩
            have HC1 := hide (HC.out.trans k1)
            have HW1 := hide (rowIs_keep HW.out k1)
            clear k1
            go_wp2
            go_ret2
            exact .inr ⟨HB.out, w.heap.size, Nat.le_refl _, by rw [hd]; rfl, by rw [hd]; exact HW1.out, HC1.out⟩
  · have h8' : ¬ (n : Int) % 8 = 0 := by omega
    have HB := hide (show rc z n = 3 by simp [rc, hl, h8])
    go_enter Try.func35, Try.ntmps35
    go_wp2
    go_ret2
    exact RAns.no HB.out (by omega) rfl (Chg.refl _ _)

end Go.Proofs.Ytencdbocifpekaa
