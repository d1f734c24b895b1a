/- What the laws' sizes of lists of lists, queries and openings are: contracts. Conditions: lists that can be read, lengths that an int can have. -/
import Derived.Test.YtfbjlohnbpienaaBzap
namespace Go.Proofs.Ytfbjlohnbpienaa
open Go.ChangeShapes Go.WideShapes Go.ChangeAt Go.RowKit
set_option linter.unusedVariables false
set_option maxRecDepth 100000
set_option linter.unusedSimpArgs false

/-- If it is not below 0, then nothing is long. -/
def SzD (d : Prop) (m : Nat) (left : Int) (w : World) (e : Ending) (w' : World) : Prop := ∃ r : Int, e = .returned (.int .i64 r) ∧ -1 ≤ r ∧ r ≤ left ∧ (0 ≤ r → d ∧ (m : Int) + r ≤ left) ∧ Chg nob w w'
/-- What szStringS answers: if it is not below 0, then nothing is long, and what is left. -/
def SzAnsN (n : Nat) (L : Nat → ByteArray) (left : Int) (w : World) (e : Ending) (w' : World) : Prop := w' = w ∧ ∃ r : Int, e = .returned (.int .i64 r) ∧ -1 ≤ r ∧ r ≤ left ∧ (0 ≤ r → (n : Int) + r ≤ left ∧ ∀ i, i < n → ((L i).size : Int) ≤ left)

set_option maxHeartbeats 1000000 in
theorem szStringN_any (c : Option Addr) (n cap : Nat) (L : Nat → ByteArray) (left : Int) (w : World) (h : Hid (RowV w c n (sb L))) (hz : Hid (∀ i, i < n → (L i).size ≤ 9223372036854775807)) (h0 : 0 ≤ left) (h1 : left ≤ 1048576) (hn : (n : Int) ≤ 9223372036854775807) :
    Calls Try.prog 21 #[.slice c n cap, .int .i64 left] w fun e w' => SzAnsN n L left w e w' := by
  by_cases hl : left - (n : Int) < 0
  · go_enter Try.func21, Try.ntmps21
    go_wp2
    go_ret
    exact ⟨rfl, -1, rfl, by omega, by omega, fun q => by omega⟩
  · have hl' : 0 ≤ left - (n : Int) := by omega
    go_enter Try.func21, Try.ntmps21
    go_wp2
    go_loop [1, 5] (fun v i => ∃ (k : Nat) (r : Int), k ≤ n ∧ i = .int .i64 k ∧ v = .int .i64 r ∧ 0 ≤ r ∧ r ≤ left - n ∧ Hid (∀ j, j < k → ((L j).size : Int) ≤ left)) (fun _ i => n - (intOf i).toNat)
    case atStart => exact ⟨0, _, Nat.zero_le _, rfl, rfl, hl', by omega, hik (fun j hj => absurd hj (by omega))⟩
    case round =>
      obtain ⟨k, r, hk, rfl, rfl, r0, r1, HL⟩ := hrel
      by_cases hlt : k < n
      · obtain ⟨xb, xo, rfl, hxb, hcell⟩ := h.out k hlt
        have hx : _ = some (Value.string (L k)) := hcell
        have hzk := hz.out k hlt
        clear hcell
        by_cases hs : r - ((L k).size : Int) < 0
        · go_wp2
          go_ret
          exact ⟨rfl, -1, rfl, by omega, by omega, fun q => by omega⟩
        · have hs' : 0 ≤ r - ((L k).size : Int) := by omega
          go_wp2
          go_round
          case rel => exact ⟨k + 1, _, by omega, by go_num, rfl, hs', by omega, hik (fun j hj => by
            by_cases e : j = k
            · subst e; omega
            · exact HL.out j (by omega))⟩
          case measure => simp [intOf]; omega
      · obtain rfl : k = n := by omega
        go_wp2
        go_ret
        exact ⟨rfl, r, rfl, by omega, by omega, fun _ => ⟨by omega, HL.out⟩⟩

/-- Lengths that an int can have. -/
def Dt.big (d : Dt) : Prop := d.small 9223372036854775807

theorem szExtS_d (c : Option Addr) (n cap : Nat) (f g : Nat → Int) (left : Int) (w : World) (hb : Hid ((Dt.exts n f g).big)) (h0 : 0 ≤ left) (h1 : left ≤ 1048576) :
    Calls Try.prog 51 #[.slice c n cap, .int .i64 left] w fun e w' => SzD ((Dt.exts n f g).small 1048576) n left w e w' := by
  have hn : n ≤ 9223372036854775807 := hb.out
  by_cases hl : left < (n : Int)
  · refine (szExtS_no c n cap left w hl h0 (by omega)).mono ?_
    rintro e w' ⟨rfl, rfl⟩
    exact ⟨-1, rfl, by omega, by omega, fun q => by omega, Chg.refl _ _⟩
  · refine (szExtS_ok c n cap left w (by omega) h1).mono ?_
    rintro e w' ⟨rfl, rfl⟩
    exact ⟨_, rfl, by omega, by omega, fun q => ⟨by show n ≤ 1048576; omega, by omega⟩, Chg.refl _ _⟩
theorem szStringS_d (c : Option Addr) (n cap : Nat) (L : Nat → ByteArray) (left : Int) (w : World) (h : Hid ((Dt.texts n L).Rep w (.slice c n cap))) (hb : Hid ((Dt.texts n L).big)) (h0 : 0 ≤ left) (h1 : left ≤ 1048576) :
    Calls Try.prog 21 #[.slice c n cap, .int .i64 left] w fun e w' => SzD ((Dt.texts n L).small 1048576) n left w e w' := by
  have hn : n ≤ 9223372036854775807 := hb.out.1
  obtain ⟨c', cap', e', hr⟩ := h.out
  cases e'
  refine (szStringN_any c n cap L left w (hik hr) (hik hb.out.2) h0 h1 (by omega)).mono ?_
  rintro e w' ⟨rfl, r, rfl, q1, q2, q3⟩
  exact ⟨r, rfl, q1, q2, fun q => ⟨⟨by have := (q3 q).1; omega, fun i hi => by have := (q3 q).2 i hi; omega⟩, (q3 q).1⟩, Chg.refl _ _⟩

set_option maxHeartbeats 2000000 in
theorem szStringSS_d (c : Option Addr) (n cap : Nat) (l : Nat → Nat) (T : Nat → Nat → ByteArray) (left : Int) (w : World) (h : Hid ((dSS n l T).Rep w (.slice c n cap))) (hb : Hid ((dSS n l T).big)) (h0 : 0 ≤ left) (h1 : left ≤ 1048576) :
    Calls Try.prog 83 #[.slice c n cap, .int .i64 left] w fun e w' => SzD ((dSS n l T).small 1048576) (sumN (fun j => l j) n) left w e w' := by
  have hn : n ≤ 9223372036854775807 := hb.out.1
  by_cases hl : left - (n : Int) < 0
  · go_enter Try.func83, Try.ntmps83
    go_wp2
    go_ret
    exact ⟨-1, rfl, by omega, by omega, fun q => by omega, Chg.refl _ _⟩
  · have hl' : 0 ≤ left - (n : Int) := by omega
    go_enter Try.func83, Try.ntmps83
    go_wp2
    go_loopw [1, 5] (fun v i W => ∃ (k : Nat) (r : Int), k ≤ n ∧ i = .int .i64 (k : Int) ∧ v = .int .i64 r ∧ 0 ≤ r ∧ r ≤ left - n ∧ Hid (∀ j, j < k → (Dt.texts (l j) (T j)).small 1048576) ∧ Hid ((sumN (fun j => l j) k : Int) + r ≤ left) ∧ Hid (Chg nob w W)) (fun _ i _ => n - (intOf i).toNat)
    case atStart => exact ⟨0, _, Nat.zero_le _, rfl, rfl, hl', by omega, hik (fun j hj => absurd hj (by omega)), hik (by simp only [sumN]; omega), hik (Chg.refl _ _)⟩
    case round =>
      obtain ⟨k, r, hk, rfl, rfl, r0, r1, HL, HS, HG⟩ := hrel
      rename World => wi
      by_cases hlt : k < n
      · have hk1 : (k : Int) < (n : Int) := by omega
        have hk0 : (0 : Int) ≤ (k : Int) := by omega
        obtain ⟨xb, xo, ec, hxb, hcc⟩ := (rep_list (h.out.keep HG.out)).2 k hlt
        obtain ⟨u, hc, hu⟩ := hcc 0 (by omega)
        have hu0 := hu
        obtain ⟨c1, cap1, rfl, hP⟩ := hu
        subst ec
        rw [show xo + (k * 1 + 0) = xo + k by omega] at hc
        have PJ := hik hu0
        have BK := hik (show (Dt.texts (l k) (T k)).big from hb.out.2 k 0 hlt (by omega))
        clear hP hcc hu0
        go_wp2_with fail
        refine (szStringS_d c1 (l k) cap1 (T k) r _ PJ BK r0 (by omega)).mono ?_
        rintro e W1 ⟨r', rfl, q1, q2, q3, k1⟩
        have G1 := hik (HG.out.trans k1)
        have Q3 := hik q3
        clear k1 q3 hc PJ
        by_cases hs : r' < 0
        · go_wp2
          go_ret
          exact ⟨-1, rfl, by omega, by omega, fun q => by omega, G1.out⟩
        · go_wp2
          go_roundw
          case rel => exact ⟨k + 1, r', by omega, by go_num, rfl, by omega, by omega, hik (fun j hj => by
            by_cases e : j = k
            · subst e; exact (Q3.out (by omega)).1
            · exact HL.out j (by omega)), hik (by have q4 := (Q3.out (by omega)).2; have q5 := HS.out; simp only [sumN] at q4 ⊢; omega), G1⟩
          case measure => simp [intOf]; omega
      · obtain rfl : n = k := by omega
        have hcc : ¬ (n : Int) < (n : Int) := by omega
        go_wp2
        go_ret
        exact ⟨r, rfl, by omega, by omega, fun _ => ⟨⟨by omega, fun i j hi hj => HL.out i hi⟩, HS.out⟩, HG.out⟩

set_option maxHeartbeats 2000000 in
theorem szExtSS_d (c : Option Addr) (n cap : Nat) (l : Nat → Nat) (f g : Nat → Nat → Int) (left : Int) (w : World) (h : Hid ((dEE n l f g).Rep w (.slice c n cap))) (hb : Hid ((dEE n l f g).big)) (h0 : 0 ≤ left) (h1 : left ≤ 1048576) :
    Calls Try.prog 20 #[.slice c n cap, .int .i64 left] w fun e w' => SzD ((dEE n l f g).small 1048576) (sumN (fun j => l j) n) left w e w' := by
  have hn : n ≤ 9223372036854775807 := hb.out.1
  by_cases hl : left - (n : Int) < 0
  · go_enter Try.func20, Try.ntmps20
    go_wp2
    go_ret
    exact ⟨-1, rfl, by omega, by omega, fun q => by omega, Chg.refl _ _⟩
  · have hl' : 0 ≤ left - (n : Int) := by omega
    go_enter Try.func20, Try.ntmps20
    go_wp2
    go_loopw [1, 5] (fun v i W => ∃ (k : Nat) (r : Int), k ≤ n ∧ i = .int .i64 (k : Int) ∧ v = .int .i64 r ∧ 0 ≤ r ∧ r ≤ left - n ∧ Hid (∀ j, j < k → (Dt.exts (l j) (f j) (g j)).small 1048576) ∧ Hid ((sumN (fun j => l j) k : Int) + r ≤ left) ∧ Hid (Chg nob w W)) (fun _ i _ => n - (intOf i).toNat)
    case atStart => exact ⟨0, _, Nat.zero_le _, rfl, rfl, hl', by omega, hik (fun j hj => absurd hj (by omega)), hik (by simp only [sumN]; omega), hik (Chg.refl _ _)⟩
    case round =>
      obtain ⟨k, r, hk, rfl, rfl, r0, r1, HL, HS, HG⟩ := hrel
      rename World => wi
      by_cases hlt : k < n
      · have hk1 : (k : Int) < (n : Int) := by omega
        have hk0 : (0 : Int) ≤ (k : Int) := by omega
        obtain ⟨xb, xo, ec, hxb, hcc⟩ := (rep_list (h.out.keep HG.out)).2 k hlt
        obtain ⟨u, hc, hu⟩ := hcc 0 (by omega)
        have hu0 := hu
        obtain ⟨c1, cap1, rfl, hP⟩ := hu
        subst ec
        rw [show xo + (k * 1 + 0) = xo + k by omega] at hc
        have PJ := hik hu0
        have BK := hik (show (Dt.exts (l k) (f k) (g k)).big from hb.out.2 k 0 hlt (by omega))
        clear hP hcc hu0
        go_wp2_with fail
        refine (szExtS_d c1 (l k) cap1 (f k) (g k) r _ BK r0 (by omega)).mono ?_
        rintro e W1 ⟨r', rfl, q1, q2, q3, k1⟩
        have G1 := hik (HG.out.trans k1)
        have Q3 := hik q3
        clear k1 q3 hc PJ
        by_cases hs : r' < 0
        · go_wp2
          go_ret
          exact ⟨-1, rfl, by omega, by omega, fun q => by omega, G1.out⟩
        · go_wp2
          go_roundw
          case rel => exact ⟨k + 1, r', by omega, by go_num, rfl, by omega, by omega, hik (fun j hj => by
            by_cases e : j = k
            · subst e; exact (Q3.out (by omega)).1
            · exact HL.out j (by omega)), hik (by have q4 := (Q3.out (by omega)).2; have q5 := HS.out; simp only [sumN] at q4 ⊢; omega), G1⟩
          case measure => simp [intOf]; omega
      · obtain rfl : n = k := by omega
        have hcc : ¬ (n : Int) < (n : Int) := by omega
        go_wp2
        go_ret
        exact ⟨r, rfl, by omega, by omega, fun _ => ⟨⟨by omega, fun i j hi hj => HL.out i hi⟩, HS.out⟩, HG.out⟩

/-- How many items a query has; an opening. -/
def QD.cnt (q : QD) : Nat := q.np + sumN (fun j => q.l j) q.nq
def OD.cnt (o : OD) : Nat := sumN (fun j => o.rl j) o.nr + o.nt + sumN (fun j => (o.q j).cnt) o.nq

set_option maxHeartbeats 2000000 in
theorem szQuery_d (c : Option Addr) (cap : Nat) (c' : Option Addr) (cap' : Nat) (q : QD) (left : Int) (w : World) (h' : Hid (q.S.Rep w (.slice c' q.nq cap'))) (hb : Hid q.P.big) (hb' : Hid q.S.big) (h0 : 0 ≤ left) (h1 : left ≤ 1048576) :
    Calls Try.prog 52 #[.agg #[.slice c q.np cap, .slice c' q.nq cap'], .int .i64 left] w fun e w' => SzD (q.P.small 1048576 ∧ q.S.small 1048576) q.cnt left w e w' := by
  have R0 := hik (row2_new w (.slice c q.np cap) (.slice c' q.nq cap') 95)
  have K0 := hik ((Chg.refl nob w).alloc (.cells #[.slice c q.np cap, .slice c' q.nq cap'] 95))
  go_enter Try.func52, Try.ntmps52
  go_wp2_with fail
  generalize hW : w.alloc (.cells #[.slice c q.np cap, .slice c' q.nq cap'] 95) = W0 at R0 K0 ⊢
  clear hW
  refine (szExtS_d c q.np cap q.f q.g left _ hb h0 h1).mono ?_
  rintro e W1 ⟨r, rfl, q1, q2, q3, k1⟩
  have G1 := hik (K0.out.trans k1)
  have Q3 := hik q3
  replace R0 := hik (rowIs_keep R0.out k1)
  clear k1 q3
  by_cases hs : r < 0
  · go_wp2
    go_ret
    exact ⟨-1, rfl, by omega, by omega, fun q => by omega, G1.out⟩
  · have x1 := row2_c1 R0.out
    go_wp2_with fail
    refine (szStringSS_d c' q.nq cap' q.l q.T r _ (hik (h'.out.keep G1.out)) hb' (by omega) (by omega)).mono ?_
    rintro e W2 ⟨r2, rfl, p1, p2, p3, k2⟩
    have G2 := hik (G1.out.trans k2)
    have P3 := hik p3
    clear k2 p3 x1
    by_cases hs2 : r2 < 0
    · go_wp2
      go_ret
      exact ⟨-1, rfl, by omega, by omega, fun q => by omega, G2.out⟩
    · go_wp2
      go_ret
      exact ⟨r2, rfl, by omega, by omega, fun _ => ⟨⟨(Q3.out (by omega)).1, (P3.out (by omega)).1⟩, by have q4 := (Q3.out (by omega)).2; have q5 := (P3.out (by omega)).2; show ((q.np + sumN (fun j => q.l j) q.nq : Nat) : Int) + r2 ≤ left; omega⟩, G2.out⟩

set_option maxHeartbeats 2000000 in
theorem szQueryS_d (c : Option Addr) (n cap : Nat) (q : Nat → QD) (left : Int) (w : World) (h : Hid ((dQs n q).Rep w (.slice c n cap))) (hb : Hid ((dQs n q).big)) (h0 : 0 ≤ left) (h1 : left ≤ 1048576) :
    Calls Try.prog 22 #[.slice c n cap, .int .i64 left] w fun e w' => SzD ((dQs n q).small 1048576) (sumN (fun j => (q j).cnt) n) left w e w' := by
  have hn : n ≤ 9223372036854775807 := hb.out.1
  by_cases hl : left - (n : Int) < 0
  · go_enter Try.func22, Try.ntmps22
    go_wp2
    go_ret
    exact ⟨-1, rfl, by omega, by omega, fun q => by omega, Chg.refl _ _⟩
  · have hl' : 0 ≤ left - (n : Int) := by omega
    go_enter Try.func22, Try.ntmps22
    go_wp2
    go_loopw [1, 5] (fun v i W => ∃ (k : Nat) (r : Int), k ≤ n ∧ i = .int .i64 (k : Int) ∧ v = .int .i64 r ∧ 0 ≤ r ∧ r ≤ left - n ∧ Hid (∀ j, j < k → (q j).P.small 1048576 ∧ (q j).S.small 1048576) ∧ Hid ((sumN (fun j => (q j).cnt) k : Int) + r ≤ left) ∧ Hid (Chg nob w W)) (fun _ i _ => n - (intOf i).toNat)
    case atStart => exact ⟨0, _, Nat.zero_le _, rfl, rfl, hl', by omega, hik (fun j hj => absurd hj (by omega)), hik (by simp only [sumN]; omega), hik (Chg.refl _ _)⟩
    case round =>
      obtain ⟨k, r, hk, rfl, rfl, r0, r1, HL, HS, HG⟩ := hrel
      rename World => wi
      by_cases hlt : k < n
      · have hk1 : (k : Int) < (n : Int) := by omega
        have hk0 : (0 : Int) ≤ (k : Int) := by omega
        obtain ⟨xb, xo, ca, pa, cb, pb, ec, hxb, hc0, hc1, hP, hS⟩ := dQs_at (h.out.keep HG.out) hlt
        subst ec
        have SJ := hik hS
        have B0 := hik (show (q k).P.big from hb.out.2 k 0 hlt (by omega))
        have B1 := hik (show (q k).S.big from hb.out.2 k 1 hlt (by omega))
        clear hP hS
        go_wp2_with fail
        refine (szQuery_d ca pa cb pb (q k) r _ SJ B0 B1 r0 (by omega)).mono ?_
        rintro e W1 ⟨r', rfl, q1, q2, q3, k1⟩
        have G1 := hik (HG.out.trans k1)
        have Q3 := hik q3
        clear k1 q3 hc0 hc1 SJ
        by_cases hs : r' < 0
        · go_wp2
          go_ret
          exact ⟨-1, rfl, by omega, by omega, fun q => by omega, G1.out⟩
        · go_wp2
          go_roundw
          case rel => exact ⟨k + 1, r', by omega, by go_num, rfl, by omega, by omega, hik (fun j hj => by
            by_cases e : j = k
            · subst e; exact (Q3.out (by omega)).1
            · exact HL.out j (by omega)), hik (by have q4 := (Q3.out (by omega)).2; have q5 := HS.out; simp only [sumN] at q4 ⊢; omega), G1⟩
          case measure => simp [intOf]; omega
      · obtain rfl : n = k := by omega
        have hcc : ¬ (n : Int) < (n : Int) := by omega
        go_wp2
        go_ret
        exact ⟨r, rfl, by omega, by omega, fun _ => ⟨⟨by omega, fun i j hi hj => by
          rcases (show j = 0 ∨ j = 1 by omega) with rfl | rfl
          · exact (HL.out i hi).1
          · exact (HL.out i hi).2⟩, HS.out⟩, HG.out⟩

/-- Lengths that an int can have. -/
def OD.big (o : OD) : Prop := o.R.big ∧ o.S.big ∧ o.Q.big

set_option maxHeartbeats 2000000 in
theorem szOpening_d (o : OD) (cR : Option Addr) (pR : Nat) (cT : Option Addr) (pT : Nat) (cQ : Option Addr) (pQ : Nat) (left : Int) (w : World) (h : Hid (OpV w o cR pR cT pT cQ pQ)) (hb : Hid o.big) (h0 : 0 ≤ left) (h1 : left ≤ 1048576) :
    Calls Try.prog 5 #[.agg #[.slice cR o.nr pR, .slice cT o.nt pT, .int .i64 o.la, .int .i64 o.lb, .int .i64 o.no, .slice cQ o.nq pQ], .int .i64 left] w fun e w' => SzD o.small o.cnt left w e w' := by
  have R0 := hik (rowN_new w 6 #[.slice cR o.nr pR, .slice cT o.nt pT, .int .i64 o.la, .int .i64 o.lb, .int .i64 o.no, .slice cQ o.nq pQ] 28 rfl)
  have K0 := hik ((Chg.refl nob w).alloc (.cells #[.slice cR o.nr pR, .slice cT o.nt pT, .int .i64 o.la, .int .i64 o.lb, .int .i64 o.no, .slice cQ o.nq pQ] 28))
  go_enter Try.func5, Try.ntmps5
  go_wp2_with fail
  generalize hW : w.alloc (.cells #[.slice cR o.nr pR, .slice cT o.nt pT, .int .i64 o.la, .int .i64 o.lb, .int .i64 o.no, .slice cQ o.nq pQ] 28) = W0 at R0 K0 ⊢
  clear hW
  refine (szExtSS_d cR o.nr pR o.rl o.rf o.rg left _ (hik (h.out.1.keep K0.out)) (hik hb.out.1) h0 h1).mono ?_
  rintro e W1 ⟨r, rfl, q1, q2, q3, k1⟩
  have G1 := hik (K0.out.trans k1)
  have Q3 := hik q3
  replace R0 := hik (rowIs_keep R0.out k1)
  clear k1 q3
  by_cases hs : r < 0
  · go_wp2
    go_ret
    exact ⟨-1, rfl, by omega, by omega, fun q => by omega, G1.out⟩
  · have x1 : _ = some (.slice cT o.nt pT : Value) := R0.out.cell (i := 1) (by omega)
    go_wp2_with fail
    refine (szStringS_d cT o.nt pT o.ts r _ (hik (h.out.2.1.keep G1.out)) (hik hb.out.2.1) (by omega) (by omega)).mono ?_
    rintro e W2 ⟨r2, rfl, p1, p2, p3, k2⟩
    have G2 := hik (G1.out.trans k2)
    have P3 := hik p3
    replace R0 := hik (rowIs_keep R0.out k2)
    clear k2 p3 x1
    by_cases hs2 : r2 < 0
    · go_wp2
      go_ret
      exact ⟨-1, rfl, by omega, by omega, fun q => by omega, G2.out⟩
    · have x5 : _ = some (.slice cQ o.nq pQ : Value) := R0.out.cell (i := 5) (by omega)
      go_wp2_with fail
      refine (szQueryS_d cQ o.nq pQ o.q r2 _ (hik (h.out.2.2.keep G2.out)) (hik hb.out.2.2) (by omega) (by omega)).mono ?_
      rintro e W3 ⟨r3, rfl, t1, t2, t3, k3⟩
      have G3 := hik (G2.out.trans k3)
      have T3 := hik t3
      clear k3 t3 x5
      by_cases hs3 : r3 < 0
      · go_wp2
        go_ret
        exact ⟨-1, rfl, by omega, by omega, fun q => by omega, G3.out⟩
      · go_wp2
        go_ret
        exact ⟨r3, rfl, by omega, by omega, fun _ => ⟨⟨(Q3.out (by omega)).1, (P3.out (by omega)).1, (T3.out (by omega)).1⟩, by have q4 := (Q3.out (by omega)).2; have q5 := (P3.out (by omega)).2; have q6 := (T3.out (by omega)).2; show ((sumN (fun j => o.rl j) o.nr + o.nt + sumN (fun j => (o.q j).cnt) o.nq : Nat) : Int) + r3 ≤ left; omega⟩, G3.out⟩

end Go.Proofs.Ytfbjlohnbpienaa
