/- What the laws' likenesses of ints, elements and sources find, and a choice that some bytes make: contracts. Conditions: rows that can be read, lengths of at most 2 to the 40. -/
import Derived.Test.YtmnakafplpmphabDoorSpsP
import Derived.Test.YtmnakafplpmphabDoorSrcS
import Derived.Test.YtmnakafplpmphabDoorSrcD
import Derived.Deep.QuietTactic
import Derived.BigQuiet
namespace Go.Proofs.YtmnakafplpmphabDoor
open Go.ChangeShapes Go.WideShapes Go.ChangeAt Go.RowKit
set_option linter.unusedVariables false
set_option maxRecDepth 100000
set_option linter.unusedSimpArgs false

set_option maxHeartbeats 1000000 in
theorem sameExts_any (c d : Option Addr) (n m cap cap' : Nat) (f g f' g' : Nat → Int) (w : World) (h : Hid (PairV w c n f g)) (h' : Hid (PairV w d m f' g')) (hm : n = m) (he : ∀ i, i < n → f i = f' i ∧ g i = g' i) (hn : n ≤ 1099511627776) :
    Calls Tryd.prog 36 #[.slice c n cap, .slice d m cap'] w fun e w' => e = .returned (.bool true) ∧ Chg nob w w' := by
  subst hm
  have HE := hide he
  clear he
  go_enter Tryd.func36, Tryd.ntmps36
  go_wp2
  go_loopw [5] (fun i W => ∃ k : Nat, k ≤ n ∧ i = .int .i64 k ∧ Hid (Chg nob w W)) (fun i _ => n - (intOf i).toNat)
  case atStart => exact ⟨0, Nat.zero_le _, rfl, hide (Chg.refl _ _)⟩
  case round =>
    obtain ⟨k, hk, rfl, HC⟩ := hrel
    by_cases hlt : k < n
    · have hk0 : (0 : Int) ≤ (k : Int) := by omega
      have hk1 : (k : Int) < (n : Int) := by omega
      obtain ⟨xb, xo, rfl, hxb, hx0, hx1⟩ := (h.out.keep HC.out) k hlt
      obtain ⟨yb, yo, rfl, hyb, hy0, hy1⟩ := (h'.out.keep HC.out) k hlt
      rw [← (HE.out k hlt).1] at hy0
      rw [← (HE.out k hlt).2] at hy1
      go_wp2
      go_quiet (fail)
      go_wp2
      go_roundw
      case rel => exact ⟨k + 1, by omega, by go_num, hide (HC.out.drewN _)⟩
      case measure => simp [intOf]; omega
    · go_wp2
      go_ret
      exact ⟨rfl, HC.out⟩

set_option maxHeartbeats 1000000 in
theorem sameInts_any (c d : Option Addr) (n m cap cap' : Nat) (f g : Nat → Int) (w : World) (h : Hid (RowV w c n (ivl f))) (h' : Hid (RowV w d m (ivl g))) (hm : n = m) (he : ∀ i, i < n → f i = g i) (hn : n ≤ 1099511627776) :
    Calls Tryd.prog 43 #[.slice c n cap, .slice d m cap'] w fun e w' => e = .returned (.bool true) ∧ Chg nob w w' := by
  subst hm
  have HE := hik he
  clear he
  go_enter Tryd.func43, Tryd.ntmps43
  go_wp2
  go_loopw [5] (fun i W => ∃ k : Nat, k ≤ n ∧ i = .int .i64 k ∧ Hid (∃ q, W = w.drewN q)) (fun i _ => n - (intOf i).toNat)
  case atStart => exact ⟨0, Nat.zero_le _, rfl, hik ⟨0, rfl⟩⟩
  case round =>
    obtain ⟨k, hk, rfl, HC⟩ := hrel
    obtain ⟨q, rfl⟩ := HC.out
    clear HC
    by_cases hlt : k < n
    · obtain ⟨xb, xo, rfl, hxb, hcell⟩ := h.out k hlt
      have hx : w.cell? ⟨xb, xo + k, none⟩ = some (Value.int .i64 (f k)) := hcell
      obtain ⟨yb, yo, rfl, hyb, hcell'⟩ := h'.out k hlt
      have hy : w.cell? ⟨yb, yo + k, none⟩ = some (Value.int .i64 (g k)) := hcell'
      rw [← HE.out k hlt] at hy
      clear hcell hcell'
      go_wp2
      go_quiet (fail)
      go_wp2
      go_roundw
      case rel => exact ⟨k + 1, by omega, by go_num, hik ⟨_, rfl⟩⟩
      case measure => simp [intOf]; omega
    · go_wp2
      go_ret
      exact ⟨rfl, (Chg.refl _ _).drewN q⟩

set_option maxHeartbeats 1000000 in
theorem sameSource_any (c d : Option Addr) (n cap cap' : Nat) (f g : Nat → Int) (at' : Int) (st : ByteArray) (ct : Int) (w : World) (h : Hid (PairV w c n f g)) (h' : Hid (PairV w d n f g)) (hn : n ≤ 1099511627776) :
    Calls Tryd.prog 35 #[.agg #[.slice c n cap, .int .i64 at', .string st, .int .i64 ct], .agg #[.slice d n cap', .int .i64 at', .string st, .int .i64 ct]] w fun e w' => e = .returned (.bool true) ∧ Chg nob w w' := by
  go_enter Tryd.func35, Tryd.ntmps35
  go_wp2_with fail
  refine (sameExts_any c d n n cap cap' f g f g _ (hik (h.out.keep (((Chg.refl nob w).alloc _).alloc _))) (hik (h'.out.keep (((Chg.refl nob w).alloc _).alloc _))) rfl (fun _ _ => ⟨rfl, rfl⟩) hn).mono ?_
  rintro e W1 ⟨rfl, k1⟩
  have G1 := hik ((((Chg.refl nob w).alloc (.cells #[.slice c n cap, .int .i64 at', .string st, .int .i64 ct] 47)).alloc (.cells #[.slice d n cap', .int .i64 at', .string st, .int .i64 ct] 47)).trans k1)
  have x1 : W1.cell? ⟨w.heap.size, 1, none⟩ = some (.int .i64 at') := k1.look (by go_simp)
  have x2 : W1.cell? ⟨w.heap.size, 2, none⟩ = some (.string st) := k1.look (by go_simp)
  have x3 : W1.cell? ⟨w.heap.size, 3, none⟩ = some (.int .i64 ct) := k1.look (by go_simp)
  have y1 : W1.cell? ⟨w.heap.size + 1, 1, none⟩ = some (.int .i64 at') := k1.look (by go_simp)
  have y2 : W1.cell? ⟨w.heap.size + 1, 2, none⟩ = some (.string st) := k1.look (by go_simp)
  have y3 : W1.cell? ⟨w.heap.size + 1, 3, none⟩ = some (.int .i64 ct) := k1.look (by go_simp)
  clear k1
  go_wp2
  go_ret
  exact ⟨by simp, G1.out⟩

/-- The choice with the number 1 out of 90. -/
def at1 (z : Nat → Int) (len : Nat) : Int := if len = 0 then 7 else (z (1 % len) * 31 + z (2 % len) + ((1 / len : Nat) : Int)) % 90
theorem at1_in (z : Nat → Int) (len : Nat) : 0 ≤ at1 z len ∧ at1 z len < 90 := by unfold at1; split <;> omega

set_option maxHeartbeats 1000000 in
theorem at1_q (c : Option Addr) (len cap : Nat) (z : Nat → Int) (w : World) (h : Hid (RowV w c len (bb z))) (hz : Hid (isB z)) (hl : (len : Int) ≤ 9223372036854775807) :
    Calls Tryd.prog 26 #[.slice c len cap, .int .i64 1, .int .i64 90] w fun e w' => e = .returned (.int .i64 (at1 z len)) ∧ ∃ q, w' = w.drewN q := by
  by_cases h0 : len = 0
  · have hz' : ((len : Int) == 0) = true := by simp [h0]
    have E := hik (show at1 z len = 7 from if_pos h0)
    go_enter Tryd.func26, Tryd.ntmps26
    go_wp2
    go_ret
    exact ⟨by rw [E.out]; rfl, 0, rfl⟩
  · have hz' : ((len : Int) == 0) = false := by simp [h0]
    have hp : 0 < (len : Int) := by omega
    obtain ⟨xb, xo, rfl, l, cz⟩ := h.out (1 % len) (Nat.mod_lt _ (by omega))
    obtain ⟨xb', xo', e, l', cz'⟩ := h.out (2 % len) (Nat.mod_lt _ (by omega))
    obtain ⟨rfl, rfl⟩ : xb = xb' ∧ xo = xo' := by simpa using e
    obtain ⟨p, hpv⟩ : ∃ p, p = 1 % len := ⟨_, rfl⟩
    obtain ⟨q, hqv⟩ : ∃ q, q = 2 % len := ⟨_, rfl⟩
    obtain ⟨x, hx⟩ : ∃ x, x = z p := ⟨_, rfl⟩
    obtain ⟨y, hy⟩ : ∃ y, y = z q := ⟨_, rfl⟩
    have m1 : (1 : Int) % (len : Int) = (p : Int) := by rw [hpv, Int.natCast_emod]; rfl
    have m2 : (2 : Int) % (len : Int) = (q : Int) := by rw [hqv, Int.natCast_emod]; rfl
    obtain ⟨d, hd⟩ : ∃ d, d = 1 / len := ⟨_, rfl⟩
    have m3 : (1 : Int) / (len : Int) = (d : Int) := by rw [hd, Int.natCast_ediv]; rfl
    have d1 : d ≤ 1 := by rw [hd]; exact Nat.div_le_self _ _
    have c1 : w.cell? ⟨xb, xo + p, none⟩ = some (.int .u8 x) := by rw [hx, hpv]; exact cz
    have c2 : w.cell? ⟨xb, xo + q, none⟩ = some (.int .u8 y) := by rw [hy, hqv]; exact cz'
    have x0 := (hz.out p).1
    have x1 := (hz.out p).2
    have y0 := (hz.out q).1
    have y1 := (hz.out q).2
    rw [← hx] at x0 x1
    rw [← hy] at y0 y1
    have pl : (p : Int) < (len : Int) := by rw [hpv]; have := Nat.mod_lt 1 (show 0 < len by omega); omega
    have ql : (q : Int) < (len : Int) := by rw [hqv]; have := Nat.mod_lt 2 (show 0 < len by omega); omega
    have E := hik (show at1 z len = (x * 31 + y + (d : Int)) % 90 by unfold at1; rw [if_neg h0, ← hpv, ← hqv, ← hd, hx, hy])
    clear h cz cz' e hpv hqv hx hy hd
    go_enter Tryd.func26, Tryd.ntmps26
    go_wp2
    go_quiet (fail)
    go_wp2
    go_ret
    exact ⟨by rw [E.out]; rfl, _, rfl⟩
theorem at1_p (c : Option Addr) (len cap : Nat) (z : Nat → Int) (pm : Nat) (hp : at1 z len = (pm : Int)) (w : World) (h : Hid (RowV w c len (bb z))) (hz : Hid (isB z)) (hl : (len : Int) ≤ 9223372036854775807) :
    Calls Tryd.prog 26 #[.slice c len cap, .int .i64 1, .int .i64 90] w fun e w' => e = .returned (.int .i64 (pm : Int)) ∧ ∃ q, w' = w.drewN q := by
  rw [← hp]
  exact at1_q c len cap z w h hz hl
theorem at1_any (c : Option Addr) (len cap : Nat) (z : Nat → Int) (pm : Nat) (hp : at1 z len = (pm : Int)) (w : World) (h : Hid (RowV w c len (bb z))) (hz : Hid (isB z)) (hl : (len : Int) ≤ 9223372036854775807) :
    Calls Tryd.prog 26 #[.slice c len cap, .int .i64 1, .int .i64 90] w fun e w' => e = .returned (.int .i64 (pm : Int)) ∧ Chg nob w w' :=
  (at1_p c len cap z pm hp w h hz hl).mono (fun e w' ⟨he, q, hq⟩ => ⟨he, by rw [hq]; exact (Chg.refl _ _).drewN q⟩)

/-- Places and a source of a call's own, laid: what holds behind such a row of the law. -/
def PlCut (W0 : World) (n : Nat) (f g : Nat → Int) (at' : Int) (st : ByteArray) (ct : Int) (m : Nat) (p : Nat → Int) (u v x : Value) (W : World) : Prop :=
  ∃ (X : Nat) (c : Option Addr) (cap : Nat) (d : Option Addr) (cap' : Nat), u = .pointer (some ⟨X, 0, none⟩) ∧ v = .slice d m cap' ∧ x = .int .i64 0 ∧ W.rowIs X 47 4 (pv4 (.slice c n cap) (.int .i64 at') (.string st) (.int .i64 ct)) ∧ OwnE W W0.heap.size c n f g ∧ RowV W d m (ivl p) ∧ Chg nob W0 W
theorem drF_in {f g : Nat → Int} {len : Nat} (h : okP f g len = true) (at' : Int) (st : ByteArray) (ct : Int) (k : Nat) : 0 ≤ drF g len at' st ct k ∧ drF g len at' st ct k < 2130706433 := by
  unfold drF
  by_cases h0 : 0 < len
  · rw [if_pos h0]
    have q := eok_b (okP_all f g len h _ (Nat.mod_lt (at' + k).toNat h0))
    exact ⟨fok_lo q, fok_hi q⟩
  · rw [if_neg h0]
    exact fl8_in _ 8
theorem okP_dr {f g : Nat → Int} {len : Nat} (h : okP f g len = true) (at' : Int) (st : ByteArray) (ct : Int) (m : Nat) : okP (drE f len at' st ct) (drF g len at' st ct) m = true :=
  okP_of _ _ m (fun i _ => eok_mk (fok_mk (drE_in h at' st ct i).1 (drE_in h at' st ct i).2) (fok_mk (drF_in h at' st ct i).1 (drF_in h at' st ct i).2))
theorem plc5_in {f g : Nat → Int} {len : Nat} (at' : Int) (st : ByteArray) (ct : Int) (pm i : Nat) : 0 ≤ plc5 f len at' st ct (1 + (pm : Int)) i ∧ plc5 f len at' st ct (1 + (pm : Int)) i ≤ (pm : Int) := by
  unfold plc5
  have h1 := Int.emod_nonneg (drE f len at' st ct i) (show 1 + (pm : Int) ≠ 0 by omega)
  have h2 := Int.emod_lt_of_pos (drE f len at' st ct i) (show 0 < 1 + (pm : Int) by omega)
  omega

end Go.Proofs.YtmnakafplpmphabDoor
