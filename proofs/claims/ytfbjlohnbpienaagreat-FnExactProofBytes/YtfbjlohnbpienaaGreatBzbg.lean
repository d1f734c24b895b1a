/- Several texts in one: The model's four bytes of a number: a contract. Condition: a number of the field. · The model's bytes of a list: contracts. Conditions: rows that can be read, right elements. -/
import Derived.Test.YtfbjlohnbpienaaGreatBzab
import Derived.Deep.RegionWith
import Derived.Deep.AppendLies
namespace Go.Proofs.YtfbjlohnbpienaaGreat
open Go.ChangeShapes Go.WideShapes Go.ChangeAt Go.RowKit
set_option linter.unusedVariables false
set_option linter.unusedSimpArgs false

/-! The model's. -/
theorem owns_none (w : World) (B : Nat) (t : TypeId) (z : Nat) (hB : B ≤ w.heap.size) : (w.alloc (.cells #[] t)).ownsRow B t z (.slice (some ⟨w.heap.size, 0, none⟩) 0 0) 0 [] :=
  ⟨by simp, .inr ⟨w.heap.size, 0, #[], rfl, hB, Array.getElem?_push_size, Nat.le_refl _, Nat.zero_le _, by simp, by simp⟩⟩
/-- Four bytes in new memory. -/
def Four (w : World) (a : Int) (e : Ending) (w' : World) : Prop :=
  ∃ b cap : Nat, w.heap.size ≤ b ∧ e = .returned (.slice (some ⟨b, 0, none⟩) 4 cap) ∧ (∀ j u, (wv a)[j]? = some u → w'.cell? ((⟨b, 0, none⟩ : Addr).add j) = some u) ∧ Chg nob w w'
theorem four_of {w w' : World} {a : Int} {v : Value} {t : TypeId} (h : w'.ownsRow w.heap.size t 1 v 4 (wv a)) (k : Chg nob w w') : Four w a (.returned v) w' := by
  have h' := h
  rcases h.2 with ⟨_, h0⟩ | ⟨g, cap, cur, rfl, hb, _⟩
  · cases h0
  · exact ⟨g, cap, hb, rfl, h'.cells rfl, k⟩

set_option maxHeartbeats 2000000 in
theorem l02Number_any (a : Int) (w : World) (a0 : 0 ≤ a) (a1 : a < 2130706433) :
    Calls Tryz.prog 70 #[.int .i64 a, .int .i64 4] w fun e w' => Four w a e w' := by
  obtain ⟨i0, hi, hz0, hz1, hz2⟩ := info_parts infoU8
  have HI := hide hi
  have HZ0 := hide hz0
  have HZ1 := hide hz1
  have HZ2 := hide hz2
  clear hi hz0 hz1 hz2
  go_enter Tryz.func70, Tryz.ntmps70
  go_wp2
  go_loopw [5, 6] (fun v i W => ∃ k : Nat, k ≤ 4 ∧ i = .int .i64 (3 - (k : Int)) ∧ Hid (W.ownsRow w.heap.size 5 1 v k ((wv a).take k)) ∧ Hid (Chg nob w W)) (fun _ i _ => (intOf i + 1).toNat)
  case atStart => exact ⟨0, by omega, rfl, hide (owns_none _ _ _ _ (Nat.le_refl _)), hide ((Chg.refl _ _).alloc _)⟩
  case round =>
    obtain ⟨k, hk, rfl, HW, HC⟩ := hrel
    have hsz := HC.out.size
    by_cases hlt : k < 4
    · have hd : k = 0 ∨ k = 1 ∨ k = 2 ∨ k = 3 := by omega
      rcases hd with rfl | rfl | rfl | rfl
      · go_wp2_with (at_builtin; refine wpList_append_own _ rfl (.tmp 14) (.tmp 21) 38 rfl w.heap.size 5 i0 (.int .u8 0) 1 1 Tryz.underlying38 HI.out HZ0.out HZ1.out HZ2.out rfl (by decide) _ 0 _ rfl (HW.out.alloc _) ⟨_, 0, none⟩ 1 1 [.int .u8 (wb a 0)] rfl rfl ?c1 ?c2 ?c3 ?c4 ?c5 ?c6)
        case c1 =>
          intro j u hj
          match j, hj with
          | 0, hj => simp [wb] at hj; subst hj; simp [Addr.add]; omega
          | j + 1, hj => simp at hj
        case c2 => intro u hu; simp at hu; subst hu; rfl
        case c3 => unfold maxLen; omega
        case c4 => omega
        case c5 => simp; omega
        case c6 =>
          intro v' w1 hown hgr _
          have HOW : Hid (w1.ownsRow w.heap.size 5 1 v' (0 + 1) ((wv a).take (0 + 1))) := hide hown
          have HGC := hide ((HC.out.alloc _).grown hgr (fun b e l => absurd (HW.out.lt b e).1 (by omega)))
          clear hown hgr
          go_wp2
          go_roundw
          case rel => exact ⟨0 + 1, by omega, by go_num, HOW, HGC⟩
          case measure => simp [intOf]
      · go_wp2_with (at_builtin; refine wpList_append_own _ rfl (.tmp 14) (.tmp 21) 38 rfl w.heap.size 5 i0 (.int .u8 0) 1 1 Tryz.underlying38 HI.out HZ0.out HZ1.out HZ2.out rfl (by decide) _ 1 _ rfl (HW.out.alloc _) ⟨_, 0, none⟩ 1 1 [.int .u8 (wb a 1)] rfl rfl ?c1 ?c2 ?c3 ?c4 ?c5 ?c6)
        case c1 =>
          intro j u hj
          match j, hj with
          | 0, hj => simp [wb] at hj; subst hj; simp [Addr.add]
          | j + 1, hj => simp at hj
        case c2 => intro u hu; simp at hu; subst hu; rfl
        case c3 => unfold maxLen; omega
        case c4 => omega
        case c5 => simp; omega
        case c6 =>
          intro v' w1 hown hgr _
          have HOW : Hid (w1.ownsRow w.heap.size 5 1 v' (1 + 1) ((wv a).take (1 + 1))) := hide hown
          have HGC := hide ((HC.out.alloc _).grown hgr (fun b e l => absurd (HW.out.lt b e).1 (by omega)))
          clear hown hgr
          go_wp2
          go_roundw
          case rel => exact ⟨1 + 1, by omega, by go_num, HOW, HGC⟩
          case measure => simp [intOf]
      · go_wp2_with (at_builtin; refine wpList_append_own _ rfl (.tmp 14) (.tmp 21) 38 rfl w.heap.size 5 i0 (.int .u8 0) 1 1 Tryz.underlying38 HI.out HZ0.out HZ1.out HZ2.out rfl (by decide) _ 2 _ rfl (HW.out.alloc _) ⟨_, 0, none⟩ 1 1 [.int .u8 (wb a 2)] rfl rfl ?c1 ?c2 ?c3 ?c4 ?c5 ?c6)
        case c1 =>
          intro j u hj
          match j, hj with
          | 0, hj => simp [wb] at hj; subst hj; simp [Addr.add]
          | j + 1, hj => simp at hj
        case c2 => intro u hu; simp at hu; subst hu; rfl
        case c3 => unfold maxLen; omega
        case c4 => omega
        case c5 => simp; omega
        case c6 =>
          intro v' w1 hown hgr _
          have HOW : Hid (w1.ownsRow w.heap.size 5 1 v' (2 + 1) ((wv a).take (2 + 1))) := hide hown
          have HGC := hide ((HC.out.alloc _).grown hgr (fun b e l => absurd (HW.out.lt b e).1 (by omega)))
          clear hown hgr
          go_wp2
          go_roundw
          case rel => exact ⟨2 + 1, by omega, by go_num, HOW, HGC⟩
          case measure => simp [intOf]
      · go_wp2_with (at_builtin; refine wpList_append_own _ rfl (.tmp 14) (.tmp 21) 38 rfl w.heap.size 5 i0 (.int .u8 0) 1 1 Tryz.underlying38 HI.out HZ0.out HZ1.out HZ2.out rfl (by decide) _ 3 _ rfl (HW.out.alloc _) ⟨_, 0, none⟩ 1 1 [.int .u8 (wb a 3)] rfl rfl ?c1 ?c2 ?c3 ?c4 ?c5 ?c6)
        case c1 =>
          intro j u hj
          match j, hj with
          | 0, hj => simp [wb] at hj; subst hj; simp [Addr.add]
          | j + 1, hj => simp at hj
        case c2 => intro u hu; simp at hu; subst hu; rfl
        case c3 => unfold maxLen; omega
        case c4 => omega
        case c5 => simp; omega
        case c6 =>
          intro v' w1 hown hgr _
          have HOW : Hid (w1.ownsRow w.heap.size 5 1 v' (3 + 1) ((wv a).take (3 + 1))) := hide hown
          have HGC := hide ((HC.out.alloc _).grown hgr (fun b e l => absurd (HW.out.lt b e).1 (by omega)))
          clear hown hgr
          go_wp2
          go_roundw
          case rel => exact ⟨3 + 1, by omega, by go_num, HOW, HGC⟩
          case measure => simp [intOf]
    · obtain rfl : k = 4 := by omega
      go_wp2
      go_ret
      exact four_of HW.out HC.out


end Go.Proofs.YtfbjlohnbpienaaGreat

namespace Go.Proofs.YtfbjlohnbpienaaGreat
open Go.ChangeShapes Go.WideShapes Go.ChangeAt Go.RowKit
set_option linter.unusedVariables false
set_option linter.unusedSimpArgs false

theorem owns_keep {w w' : World} {B : Nat} {t : TypeId} {z : Nat} {v : Value} {n : Nat} {xs : List Value} (h : w.ownsRow B t z v n xs) (k : Chg nob w w') : w'.ownsRow B t z v n xs :=
  h.kept (row := none) ⟨k.os, k.tape, k.output, k.size, fun i hi _ => k.block i hi (fun x => x)⟩ (by cases e : v.ownBlock <;> simp)
theorem wv_one (a : Int) : ∀ u ∈ wv a, u.oneCell' = true := by
  intro u hu
  simp [wv] at hu
  rcases hu with rfl | rfl | rfl | rfl <;> rfl
/-- The model's bytes. -/
def SBytes (w : World) (n : Nat) (f g : Nat → Int) (e : Ending) (w' : World) : Prop :=
  ∃ (c0 : Option Addr) (cap0 : Nat), e = .returned (.slice c0 (n * 8) cap0) ∧ RowV w' c0 (n * 8) (bvl f g) ∧ Chg nob w w'
theorem sbytes_of {w w' : World} {n : Nat} {f g : Nat → Int} {v : Value} {t : TypeId} {B : Nat} (ho : w'.ownsRow B t 1 v (n * 8) ((List.range (n * 8)).map (bvl f g))) (k : Chg nob w w') : SBytes w n f g (.returned v) w' := by
  have ho' := ho
  rcases ho.2 with ⟨rfl, h0⟩ | ⟨b, cap, cur, rfl, _⟩
  · exact ⟨none, 0, by rw [h0], fun i hi => by omega, k⟩
  · refine ⟨some ⟨b, 0, none⟩, cap, rfl, fun i hi => ?_, k⟩
    have hc := ho'.cellAt i (by omega)
    rw [List.getElem?_map, List.getElem?_range hi] at hc
    exact ⟨b, 0, rfl, block_lt_of_cell hc, by rw [Nat.zero_add]; exact hc⟩

set_option maxRecDepth 100000 in
set_option maxHeartbeats 2000000 in
theorem l02Bytes_any (c : Option Addr) (n cap : Nat) (f g : Nat → Int) (w : World) (h : Hid (PairV w c n f g)) (hn : n ≤ 4096) (hok : Hid (okP f g n = true)) :
    Calls Tryz.prog 45 #[.slice c n cap] w fun e w' => SBytes w n f g e w' := by
  obtain ⟨i0, hi, hz0, hz1, hz2⟩ := info_parts infoU8
  have HI := hide hi
  have HZ0 := hide hz0
  have HZ1 := hide hz1
  have HZ2 := hide hz2
  clear hi hz0 hz1 hz2
  go_enter Tryz.func45, Tryz.ntmps45
  go_wp2
  go_loopw [3, 4] (fun v i W => ∃ k : Nat, k ≤ n ∧ i = .int .i64 k ∧ Hid (W.ownsRow w.heap.size 5 1 v (k * 8) ((List.range (k * 8)).map (bvl f g))) ∧ Hid (Chg nob w W)) (fun _ i _ => n - (intOf i).toNat)
  case atStart => exact ⟨0, Nat.zero_le _, rfl, hide (owns_none _ _ _ _ (Nat.le_refl _)), hide ((Chg.refl _ _).alloc _)⟩
  case round =>
    obtain ⟨k, hk, rfl, HW, HC⟩ := hrel
    by_cases hlt : k < n
    · have hk0 : (0 : Int) ≤ (k : Int) := by omega
      have hk1 : (k : Int) < (n : Int) := by omega
      obtain ⟨xb, xo, rfl, hxb, hx0, hx1⟩ := (h.out.keep HC.out) k hlt
      have hxw : xb < w.heap.size := by obtain ⟨p1, p2, p3, p4, _⟩ := h.out k hlt; simp at p3; omega
      have ee := okP_all f g n hok.out k hlt
      have a0 := fok_lo (eok_a ee)
      have a1 := fok_hi (eok_a ee)
      have b0' := fok_lo (eok_b ee)
      have b1' := fok_hi (eok_b ee)
      have hsz := HC.out.size
      have x0 : wr.drew.cell? ⟨xb, xo + k * 2, none⟩ = some (.int .i64 (f k)) := hx0
      have y0 : wr.drew.cell? ⟨xb, xo + k * 2 + 1, none⟩ = some (.int .i64 (g k)) := hx1
      clear ee
      go_wp2
      go_region_held3 (fun w' => w'.cell? ⟨xb, xo + k * 2, none⟩ = some (.int .i64 (f k)) ∧ w'.cell? ⟨xb, xo + k * 2 + 1, none⟩ = some (.int .i64 (g k))) (with_reducible exact ⟨by assumption, by assumption⟩) (first | (go_at_call_of 70 (Value.int IntKind.i64 (f k)); refine (l02Number_any (f k) _ a0 a1).mono ?_; rintro e w3 ⟨b1, q1, hb1, rfl, c1, k1⟩; have O1 := hide (owns_keep HW.out.drew k1); have C1 := hide c1; have G1 := hide (HC.out.drew.trans k1); have x1 := k1.look x0; have y1 := k1.look y0; clear c1) | (go_at_call_of 70 (Value.int IntKind.i64 (g k)); refine (l02Number_any (g k) _ b0' b1').mono ?_; rintro e w4 ⟨b2, q2, hb2, rfl, c2, k2⟩; have C2 := hide c2; clear c2; have O2 := hide (owns_keep O5.out k2); have G2 := hide (G5.out.trans k2); have x2 := k2.look x5; have y2 := k2.look y5) | (refine step_append_lies _ (by rfl) (.tmp 12) (.tmp 18) 38 (by rfl) w.heap.size 5 i0 (.int .u8 0) 1 1 Tryz.underlying38 HI.out HZ0.out HZ1.out HZ2.out rfl (by decide) _ (k * 8) _ (by rfl) O1.out ⟨b1, 0, none⟩ 4 q1 (wv (f k)) (by rfl) rfl C1.out (wv_one _) (by decide) (by unfold maxLen; omega) (by omega) G1.out.size _ rfl ?_; intro g5 cp5 w5 o5 hg5 hat5 hlt5; have O5 : Hid (w5.ownsRow w.heap.size 5 1 (.slice (some ⟨g5, 0, none⟩) (k * 8 + 4) cp5) (k * 8 + 4) ((List.range (k * 8 + 4)).map (bvl f g))) := hide (by rw [← bytes_a]; exact o5); clear o5; have G5 := hide (G1.out.grown hg5 (fun b e l => absurd (HW.out.lt b e).1 (by omega))); have x5 := hg5.cell x1 (fun e => absurd (HW.out.lt xb e.symm).1 (by omega)); have y5 := hg5.cell y1 (fun e => absurd (HW.out.lt xb e.symm).1 (by omega))) | (refine step_append_lies _ (by rfl) (.tmp 19) (.tmp 25) 38 (by rfl) w.heap.size 5 i0 (.int .u8 0) 1 1 Tryz.underlying38 HI.out HZ0.out HZ1.out HZ2.out rfl (by decide) _ (k * 8 + 4) _ (by rfl) O2.out ⟨b2, 0, none⟩ 4 q2 (wv (g k)) (by rfl) rfl C2.out (wv_one _) (by decide) (by unfold maxLen; omega) (by omega) G2.out.size _ rfl ?_; intro g6 cp6 w6 o6 hg6 hat6 hlt6; have O6 : Hid (w6.ownsRow w.heap.size 5 1 (.slice (some ⟨g6, 0, none⟩) (k * 8 + 4 + 4) cp6) (k * 8 + 4 + 4) ((List.range ((k + 1) * 8)).map (bvl f g))) := hide (by rw [← bytes_b]; exact o6); clear o6; have G6 := hide (G2.out.grown hg6 (fun b e l => absurd (O5.out.lt b e).1 (by omega))); have x6 := hg6.cell x2 (fun e => absurd (O5.out.lt xb e.symm).1 (by omega)); have y6 := hg6.cell y2 (fun e => absurd (O5.out.lt xb e.symm).1 (by omega))))
      all_goals
        have HR := hide O6.out
        have HG := hide G6.out
        clear x0 y0 x1 y1 x2 y2 x5 y5 x6 y6
        go_wp2
        go_roundw
        case rel => exact ⟨k + 1, by omega, by go_num, hide (by have q := HR.out; rw [show (k + 1) * 8 = k * 8 + 4 + 4 by omega] at q ⊢; exact q), HG⟩
        case measure => simp [intOf]; omega
    · obtain rfl : k = n := by omega
      go_wp2
      go_ret
      exact sbytes_of HW.out HC.out

/-- The model's answer, by the code. -/
def SEAns (w : World) (n : Nat) (f g : Nat → Int) (e : Ending) (w' : World) : Prop :=
  (bc f g n ≠ 0 ∧ ∃ (c0 : Option Addr) (cap0 : Nat), e = .returned (.tuple #[.slice c0 0 cap0, .int .i64 (bc f g n)]) ∧ Chg nob w w') ∨
  (bc f g n = 0 ∧ ∃ (c0 : Option Addr) (cap0 : Nat), e = .returned (.tuple #[.slice c0 (n * 8) cap0, .int .i64 0]) ∧ RowV w' c0 (n * 8) (bvl f g) ∧ Chg nob w w')
theorem SEAns.no {w w' : World} {n : Nat} {f g : Nat → Int} {e : Ending} {code : Int} {c0 : Option Addr} {cap0 : Nat} (hb : bc f g n = code) (hc : code ≠ 0) (h : e = .returned (.tuple #[.slice c0 0 cap0, .int .i64 code])) (k : Chg nob w w') : SEAns w n f g e w' :=
  .inl ⟨by rw [hb]; exact hc, c0, cap0, by rw [hb]; exact h, k⟩


end Go.Proofs.YtfbjlohnbpienaaGreat
