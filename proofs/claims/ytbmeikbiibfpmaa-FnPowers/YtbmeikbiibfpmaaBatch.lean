/- What BatchInverse and its parts answer: contracts. Conditions: rows that can be read. -/
import Derived.Test.YtbmeikbiibfpmaaWalks
import Derived.Test.YtbmeikbiibfpmaaBatchM
import Derived.Test.YtbmeikbiibfpmaaIntRow
namespace Go.Proofs.Ytbmeikbiibfpmaa
open Go.ChangeShapes Go.WideShapes Go.ChangeAt Go.RowKit

theorem infoMont : (Try.prog.info? 41).map (fun i => (i.zero, i.size, i.bytes)) = some (some (.int .u32 0), 1, 4) := by kernel_rfl
def okTo (f : Nat → Int) : Nat → Bool
  | 0 => true
  | n + 1 => okTo f n && fok (f n)
def zTo (f : Nat → Int) : Nat → Bool
  | 0 => false
  | n + 1 => zTo f n || f n == 0
/-- The code of a list. -/
def bcode (n : Nat) (f : Nat → Int) : Int := if 4096 < n then 2 else if okTo f n then (if zTo f n then 7 else 0) else 1
theorem okTo_no (f : Nat → Int) (k : Nat) (h : fok (f k) = false) : ∀ n, k < n → okTo f n = false := by
  intro n
  induction n with
  | zero => intro h; omega
  | succ n ih =>
    intro hn
    by_cases e : k = n
    · subst e; simp [okTo, h]
    · simp [okTo, ih (by omega)]
theorem zTo_yes (f : Nat → Int) (k : Nat) (h : f k = 0) : ∀ n, k < n → zTo f n = true := by
  intro n
  induction n with
  | zero => intro h; omega
  | succ n ih =>
    intro hn
    by_cases e : k = n
    · subst e; simp [zTo, h]
    · simp [zTo, ih (by omega)]
theorem okTo_all (f : Nat → Int) (n : Nat) (h : okTo f n = true) (i : Nat) (hi : i < n) : fok (f i) = true := by
  cases e : fok (f i)
  · rw [okTo_no f i e n hi] at h; cases h
  · rfl
theorem zTo_none (f : Nat → Int) (n : Nat) (h : zTo f n = false) (i : Nat) (hi : i < n) : f i ≠ 0 := by
  intro e
  rw [zTo_yes f i e n hi] at h
  cases h
theorem bcode_long {n : Nat} {f : Nat → Int} (h : 4096 < n) : bcode n f = 2 := by simp [bcode, h]
theorem bcode_bad {n : Nat} {f : Nat → Int} (h : ¬ 4096 < n) (k : okTo f n = false) : bcode n f = 1 := by simp [bcode, h, k]
theorem bcode_zero {n : Nat} {f : Nat → Int} (h : ¬ 4096 < n) (k : okTo f n = true) (l : zTo f n = true) : bcode n f = 7 := by simp [bcode, h, k, l]
theorem bcode_ok {n : Nat} {f : Nat → Int} (h : ¬ 4096 < n) (k : okTo f n = true) (l : zTo f n = false) : bcode n f = 0 := by simp [bcode, h, k, l]
theorem bcode_good {n : Nat} {f : Nat → Int} (h : bcode n f = 0) : n ≤ 4096 ∧ ∀ i, i < n → 0 < f i ∧ f i < 2130706433 := by
  by_cases h1 : 4096 < n
  · rw [bcode_long h1] at h; cases h
  · cases h2 : okTo f n
    · rw [bcode_bad h1 h2] at h; cases h
    · cases h3 : zTo f n
      · refine ⟨by omega, fun i hi => ?_⟩
        have a := okTo_all f n h2 i hi
        have b := zTo_none f n h3 i hi
        have c := fok_lo a
        have d := fok_hi a
        omega
      · rw [bcode_zero h1 h2 h3] at h; cases h

set_option maxHeartbeats 1000000 in
theorem batchFault_any (c : Option Addr) (n cap : Nat) (f : Nat → Int) (w : World) (h : Hid (RowV w c n (iv f))) (hn : n ≤ 1099511627776) :
    Calls Try.prog 29 #[.slice c n cap] w fun e w' => e = .returned (.int .i64 (bcode n f)) ∧ Chg nob w w' := by
  by_cases hl : 4096 < n
  · have hl' : 4096 < (n : Int) := by omega
    have HB := hid (bcode_long (f := f) hl)
    go_enter Try.func29, Try.ntmps29
    go_wp2
    go_ret
    exact ⟨ret_int HB.out.symm, Chg.refl _ _⟩
  · have hl' : ¬ 4096 < (n : Int) := by omega
    go_enter Try.func29, Try.ntmps29
    go_wp2
    go_loopw [3, 11] (fun z i W => ∃ k : Nat, k ≤ n ∧ i = .int .i64 k ∧ z = .bool (zTo f k) ∧ Hid (okTo f k = true) ∧ Hid (Chg nob w W)) (fun _ i _ => n - (intOf i).toNat)
    case atStart => exact ⟨0, Nat.zero_le _, rfl, rfl, hid rfl, hid (Chg.refl _ _)⟩
    case round =>
      obtain ⟨k, hk, rfl, rfl, HO, HC⟩ := hrel
      by_cases hlt : k < n
      · obtain ⟨xb, xo, rfl, hxb, hcell⟩ := (h.out.keep HC.out) k hlt
        have hx : _ = some (Value.int .i64 (f k)) := hcell
        clear hcell
        cases hfk : fok (f k)
        · have HB := hid (bcode_bad hl (okTo_no f k hfk n hlt))
          go_wp2_with (go_at_call 11; refine (fieldOK_any _ _).mono ?_; rintro e w' ⟨rfl, rfl⟩)
          go_ret
          exact ⟨ret_int HB.out.symm, HC.out⟩
        · have HO2 := hid (show okTo f (k + 1) = true by simp [okTo, HO.out, hfk])
          cases hz : zTo f k
          · cases h0 : f k == 0
            · have HZ := hid (show zTo f (k + 1) = false by simp [zTo, hz, h0])
              go_wp2_with (go_at_call 11; refine (fieldOK_any _ _).mono ?_; rintro e w' ⟨rfl, rfl⟩)
              go_roundw
              case rel => exact ⟨k + 1, by omega, by go_num, by rw [HZ.out], HO2, HC⟩
              case measure => simp [intOf]; omega
            · have HZ := hid (show zTo f (k + 1) = true by simp [zTo, hz, h0])
              go_wp2_with (go_at_call 11; refine (fieldOK_any _ _).mono ?_; rintro e w' ⟨rfl, rfl⟩)
              go_roundw
              case rel => exact ⟨k + 1, by omega, by go_num, by rw [HZ.out], HO2, HC⟩
              case measure => simp [intOf]; omega
          · have HZ := hid (show zTo f (k + 1) = true by simp [zTo, hz])
            go_wp2_with (go_at_call 11; refine (fieldOK_any _ _).mono ?_; rintro e w' ⟨rfl, rfl⟩)
            go_roundw
            case rel => exact ⟨k + 1, by omega, by go_num, by rw [HZ.out], HO2, HC⟩
            case measure => simp [intOf]; omega
      · obtain rfl : k = n := by omega
        cases hz : zTo f k
        · have HB := hid (bcode_ok hl HO.out hz)
          go_wp2
          go_ret
          exact ⟨ret_int HB.out.symm, HC.out⟩
        · have HB := hid (bcode_zero hl HO.out hz)
          go_wp2
          go_ret
          exact ⟨ret_int HB.out.symm, HC.out⟩

/-- The inverse of a number of the field but 0. -/
def invN (a : Int) : Int := Fld.pw a 2130706431 % 2130706433
/-- Montgomery's form of the products, as values. -/
def pv (f : Nat → Int) (i : Nat) : Value := .int .u32 (Fld.M (Fld.prd f i))
/-- A new row of the inverses. -/
def Inverted (w : World) (n : Nat) (f : Nat → Int) (e : Ending) (w' : World) : Prop :=
  ∃ g : Nat, w.heap.size ≤ g ∧ e = .returned (.slice (some ⟨g, 0, none⟩) n n) ∧ w'.rowIs g 3 n (iv (fun i => invN (f i))) ∧ Chg nob w w'

set_option maxHeartbeats 2000000 in
theorem invertAll_any (c : Option Addr) (n cap : Nat) (f : Nat → Int) (w : World) (h : Hid (RowV w c n (iv f))) (hn : n ≤ 4096) (hf : Hid (∀ i, i < n → 0 < f i ∧ f i < 2130706433)) :
    Calls Try.prog 30 #[.slice c n cap] w fun e w' => Inverted w n f e w' := by
  obtain ⟨i0, hi, hz0, hz1, hz2⟩ := info_parts infoMont
  obtain ⟨j0, hj, hy0, hy1, hy2⟩ := info_parts infoInt
  have HI := hid hi
  have HZ0 := hid hz0
  have HZ1 := hid hz1
  have HJ := hid hj
  have HY0 := hid hy0
  have HY1 := hid hy1
  have hb : i0.bytes * n ≤ 281474976710656 := by rw [hz2]; omega
  have hb' : j0.bytes * n ≤ 281474976710656 := by rw [hy2]; omega
  clear hi hz0 hz1 hz2 hj hy0 hy1 hy2
  go_enter Try.func30, Try.ntmps30
  go_wp2_with (at_make; refine wpList_make_row _ rfl (.tmp 11) (.tmp 11) 55 rfl 41 i0 (.int .u32 0) Try.underlying55 HI.out HZ0.out HZ1.out rfl .i64 .i64 n rfl rfl hb (by omega) ?_)
  clear hb HI HZ0 HZ1
  go_loopw [4, 15] (fun p i W => ∃ k : Nat, k ≤ n ∧ i = .int .i64 k ∧ p = .int .u32 (Fld.M (Fld.prd f k)) ∧ Hid (W.rowIs w.heap.size 41 n (fun j => if j < k then pv f j else .int .u32 0)) ∧ Hid (Chg nob w W)) (fun _ i _ => n - (intOf i).toNat)
  case atStart => exact ⟨0, Nat.zero_le _, rfl, by rw [Fld.prd, Fld.M_one], hid ((World.rowIs_made w (.int .u32 0) n 41).congr (fun i _ => by simp)), hid ((Chg.refl _ _).alloc _)⟩
  case round =>
    obtain ⟨k, hk, rfl, rfl, HR, HC⟩ := hrel
    by_cases hlt : k < n
    · obtain ⟨xb, xo, rfl, hxb, hcell⟩ := (h.out.keep HC.out) k hlt
      have hx : _ = some (Value.int .i64 (f k)) := hcell
      have hg := HR.out.cell hlt
      have hfz := HR.out.frozen k
      simp only [Nat.lt_irrefl, if_false] at hg
      have HR2 := hid (show _ from (HR.out.set k (.int .u32 (Fld.M (Fld.prd f k)))).congr (g := fun j => if j < k + 1 then pv f j else .int .u32 0) (fun i _ => by
        by_cases e : i = k
        · subst e; simp [pv]
        · by_cases e2 : i < k
          · simp [e, e2, show i < k + 1 by omega]
          · simp [e, e2, show ¬ i < k + 1 by omega]))
      have HC2 := hid (HC.out.setCell (p := ⟨w.heap.size, k, none⟩) (fun l => absurd l (by simp)) (.int .u32 (Fld.M (Fld.prd f k))))
      have f0 := (hf.out k hlt).1
      have f1 := (hf.out k hlt).2
      clear hcell
      go_wp2_with (first | (go_at_call 24; refine (toMont_any _ _ (by omega) (by omega)).mono ?_; rintro e w' ⟨rfl, rfl⟩) | (go_at_call 23; refine (montMul_any _ _ _).mono ?_; rintro e w' ⟨rfl, rfl⟩))
      go_roundw
      case rel => exact ⟨k + 1, by omega, by go_num, rfl, HR2, HC2⟩
      case measure => simp [intOf]; omega
    · obtain rfl : k = n := by omega
      have HA := hid (show _ from HR.out.congr (g := pv f) (fun i hi => by simp [hi]))
      have HV := hid (show Fld.pw (Fld.prd f k) 2130706431 * Fld.prd f k % 2130706433 = 1 from by
        obtain ⟨u, hu⟩ := Fld.prd_unit f k hf.out
        exact Fld.inv_any _ u hu)
      clear HR
      go_wp2_with (first | (go_at_call 27; refine (montInverse_any _ _).mono ?_; rintro e w' ⟨rfl, rfl⟩) | (at_make; refine wpList_make_row _ rfl (.tmp 32) (.tmp 32) 30 rfl 3 j0 (.int .i64 0) Try.underlying30 HJ.out HY0.out HY1.out rfl .i64 .i64 k rfl rfl hb' (by omega) ?_))
      clear hb' HJ HY0 HY1
      have hg1 : w.heap.size < w'.heap.size := HA.out.lt
      go_loopw [7, 9] (fun v i W => ∃ (q : Nat) (t x : Int), q ≤ k ∧ i = .int .i64 t ∧ Hid (t = (q : Int) - 1) ∧ v = .int .u32 (Fld.M x) ∧ Hid (x * Fld.prd f q % 2130706433 = 1) ∧ Hid (W.rowIs w.heap.size 41 k (pv f)) ∧ Hid (W.rowIs w'.heap.size 3 k (fun j => if q ≤ j then iv (fun i => invN (f i)) j else .int .i64 0)) ∧ Hid (Chg nob w W)) (fun _ i _ => (intOf i + 1).toNat)
      case atStart => exact ⟨k, (k : Int) - 1, _, Nat.le_refl _, rfl, hid rfl, rfl, HV, hid (HA.out.alloc _), hid ((World.rowIs_made w' (.int .i64 0) k 3).congr (fun i hi => by simp [show ¬ k ≤ i by omega])), hid (HC.out.alloc _)⟩
      case round =>
        obtain ⟨q, t, x, hq, rfl, HT, rfl, HX, GA, GB, GC⟩ := hrel
        by_cases hz : q = 0
        · obtain rfl : t = -1 := by have := HT.out; omega
          subst hz
          go_wp2
          go_ret
          exact ⟨w'.heap.size, by omega, rfl, GB.out.congr (fun i hi => by simp), GC.out⟩
        · obtain ⟨r, rfl⟩ : ∃ r, q = r + 1 := ⟨q - 1, by omega⟩
          obtain rfl : t = (r : Int) := by have := HT.out; omega
          have hrk : r < k := by omega
          obtain ⟨xb, xo, rfl, hxb, hcell⟩ := (h.out.keep GC.out) r hrk
          have hx : _ = some (Value.int .i64 (f r)) := hcell
          have ha : _ = some (Value.int .u32 (Fld.M (Fld.prd f r))) := GA.out.cell hrk
          have hb := GB.out.cell hrk
          have hfz := GB.out.frozen r
          simp only [show ¬ r + 1 ≤ r by omega, if_false] at hb
          have f0 := (hf.out r hrk).1
          have f1 := (hf.out r hrk).2
          have EA := hid (Fld.back_ans f r x HX.out f0 f1)
          have GB2 := hid (show _ from (GB.out.set r (.int .i64 (x * Fld.prd f r % 2130706433))).congr (g := fun j => if r ≤ j then iv (fun i => invN (f i)) j else .int .i64 0) (fun i _ => by
            by_cases e : i = r
            · subst e; simp [iv, invN, EA.out]
            · by_cases e2 : r + 1 ≤ i
              · simp [e, e2, show r ≤ i by omega]
              · simp [e, e2, show ¬ r ≤ i by omega]))
          have GA2 := hid (show _ from GA.out.setOther (a := ⟨w'.heap.size, r, none⟩) (by simp; omega) (.int .i64 (x * Fld.prd f r % 2130706433)))
          have GC2 := hid (GC.out.setCell (p := ⟨w'.heap.size, r, none⟩) (fun l => absurd l (by simp; omega)) (.int .i64 (x * Fld.prd f r % 2130706433)))
          have HX2 := hid (Fld.back_next f r x HX.out)
          have hxne : ¬ xb = w'.heap.size := by
            obtain ⟨xb', xo', e, l, _⟩ := h.out r hrk
            obtain ⟨rfl, rfl⟩ : xb = xb' ∧ xo = xo' := by simpa using e
            omega
          clear hcell
          go_wp2_with (first | (go_at_call 24; refine (toMont_any _ _ (by omega) (by omega)).mono ?_; rintro e w'' ⟨rfl, rfl⟩) | (go_at_call 23; refine (montMul_any _ _ _).mono ?_; rintro e w'' ⟨rfl, rfl⟩) | (go_at_call 22; refine (fromMont_any _ _).mono ?_; rintro e w'' ⟨rfl, rfl⟩))
          go_roundw
          case rel => exact ⟨r, (r : Int) - 1, x * f r, by omega, rfl, hid rfl, rfl, HX2, GA2, GB2, GC2⟩
          case measure => simp [intOf]

/-- The answer of a code that is not 0: no list. -/
def NoList (w : World) (code : Int) (e : Ending) (w' : World) : Prop := e = .returned (.tuple #[.slice none 0 0, .int .i64 code]) ∧ Chg nob w w'
/-- The answer of code 0. -/
def List0 (w : World) (n : Nat) (f : Nat → Int) (e : Ending) (w' : World) : Prop :=
  ∃ g : Nat, w.heap.size ≤ g ∧ e = .returned (.tuple #[.slice (some ⟨g, 0, none⟩) n n, .int .i64 0]) ∧ w'.rowIs g 3 n (iv (fun i => invN (f i))) ∧ Chg nob w w'

set_option maxHeartbeats 1000000 in
theorem batch_no (c : Option Addr) (n cap : Nat) (f : Nat → Int) (w : World) (h : Hid (RowV w c n (iv f))) (hn : n ≤ 1099511627776) (hb : bcode n f ≠ 0) :
    Calls Try.prog 15 #[.slice c n cap] w fun e w' => NoList w (bcode n f) e w' := by
  have hb' : (bcode n f == 0) = false := by simp [hb]
  clear hb
  go_enter Try.func15, Try.ntmps15
  go_wp2_with fail
  refine (batchFault_any c n cap f _ h hn).mono ?_
  rintro e w1 ⟨rfl, hC⟩
  have HC := hid hC
  clear hC
  go_wp2
  go_ret2
  exact ⟨rfl, HC.out⟩

set_option maxHeartbeats 1000000 in
theorem batch_yes (c : Option Addr) (n cap : Nat) (f : Nat → Int) (w : World) (h : Hid (RowV w c n (iv f))) (hb : bcode n f = 0) :
    Calls Try.prog 15 #[.slice c n cap] w fun e w' => List0 w n f e w' := by
  obtain ⟨hn, hf⟩ := bcode_good hb
  have HF := hid hf
  clear hf
  go_enter Try.func15, Try.ntmps15
  go_wp2_with fail
  refine (batchFault_any c n cap f _ h (by omega)).mono ?_
  rintro e w1 ⟨rfl, hC⟩
  have HC := hid hC
  clear hC
  go_wp2_with fail
  refine (invertAll_any c n cap f _ (h.out.keep HC.out) (by omega) HF).mono ?_
  rintro e w2 ⟨g, hg, rfl, hr, hC2⟩
  have HR := hid hr
  have HC2 := hid hC2
  clear hC2 hr
  have hsz : w.heap.size ≤ w1.heap.size := HC.out.size
  go_wp2
  go_ret2
  exact ⟨g, by omega, rfl, HR.out, HC.out.trans HC2.out⟩
end Go.Proofs.Ytbmeikbiibfpmaa
