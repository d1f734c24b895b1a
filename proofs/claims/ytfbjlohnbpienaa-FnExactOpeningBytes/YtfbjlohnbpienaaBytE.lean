/- What ExtBytes answers: a contract. Condition: a row that can be read. -/
import Derived.Test.YtfbjlohnbpienaaBzah
import Derived.Deep.RegionWith
namespace Go.Proofs.Ytfbjlohnbpienaa
open Go.ChangeShapes Go.WideShapes Go.ChangeAt Go.RowKit
set_option linter.unusedVariables false
set_option linter.unusedSimpArgs false

set_option maxHeartbeats 1000000 in
theorem extBytes_any (c : Option Addr) (n cap : Nat) (f g : Nat → Int) (w : World) (h : Hid (PairV w c n f g)) (hn : n ≤ 1099511627776) :
    Calls Try.prog 65 #[.slice c n cap] w fun e w' => EAns w n f g e w' := by
  by_cases hl : 4096 < n
  · have hl' : 4096 < (n : Int) := by omega
    have HB := hide (show bc f g n = 2 by simp [bc, hl])
    go_enter Try.func65, Try.ntmps65
    go_wp2
    go_ret2
    exact EAns.no HB.out (by omega) rfl (Chg.refl _ _)
  have hl' : ¬ 4096 < (n : Int) := by omega
  cases ho : okP f g n
  · have HB := hide (show bc f g n = 1 by simp [bc, hl, ho])
    go_enter Try.func65, Try.ntmps65
    go_wp2_with fail
    refine (extsOK_any c n cap f g _ h hn).mono ?_
    rintro e w1 ⟨rfl, k1⟩
    go_wp2
    go_ret2
    exact EAns.no HB.out (by omega) rfl k1
  have HB := hide (show bc f g n = 0 by simp [bc, hl, ho])
  have HOK := hide ho
  obtain ⟨i0, hi, hz0, hz1, hz2⟩ := info_parts infoU8
  have HI := hide hi
  have HZ0 := hide hz0
  have HZ1 := hide hz1
  have hb : i0.bytes * (n * 8) ≤ 281474976710656 := by rw [hz2]; omega
  clear hi hz0 hz1 hz2
  go_enter Try.func65, Try.ntmps65
  go_wp2_with fail
  refine (extsOK_any c n cap f g _ h hn).mono ?_
  rintro e w1 ⟨rfl, k1⟩
  have K1 := hide k1
  clear k1
  go_wp2_with (at_make; refine wpList_make_own _ rfl (.const (.int .i64 0)) (.tmp 15) 32 rfl w1.heap.size 5 i0 (.int .u8 0) 1 Try.underlying32 HI.out HZ0.out HZ1.out .i64 .i64 _ (n * 8) rfl rfl (by omega) hb (by unfold maxLen; omega) (Nat.le_refl _) ?_)
  intro w2 hown hgr
  have HW0 := hide hown
  have K2 := hide (K1.out.grown hgr (fun b e _ => by cases e))
  clear hown hgr hb HI HZ0 HZ1
  go_wp2
  go_loopw [4, 19] (fun v i W => ∃ k : Nat, k ≤ n ∧ i = .int .i64 k ∧ v = .slice (some ⟨w1.heap.size, 0, none⟩) (k * 8) (n * 8) ∧ Hid (W.ownsRow w1.heap.size 5 1 (.slice (some ⟨w1.heap.size, 0, none⟩) (k * 8) (n * 8)) (k * 8) ((List.range (k * 8)).map (bvl f g))) ∧ Hid (Chg nob w W)) (fun _ i _ => n - (intOf i).toNat)
  case atStart => exact ⟨0, Nat.zero_le _, rfl, rfl, HW0, K2⟩
  case round =>
    obtain ⟨k, hk, rfl, rfl, HW, HC⟩ := hrel
    by_cases hlt : k < n
    · obtain ⟨xb, xo, rfl, hxb, hx0, hx1⟩ := (h.out.keep HC.out) k hlt
      have ee := okP_all f g n HOK.out k hlt
      have a0 := fok_lo (eok_a ee)
      have a1 := fok_hi (eok_a ee)
      have b0 := fok_lo (eok_b ee)
      have b1 := fok_hi (eok_b ee)
      clear ee
      have hb1 : w1.heap.size < wr.heap.size := (HW.out.lt w1.heap.size rfl).2
      have hne : ¬ wr.heap.size = w1.heap.size := by omega
      have hw1 := K1.out.size
      have s0 : (wr.alloc (.cells #[.int .i64 (f k), .int .i64 (g k)] 36)).drew.cell? ⟨wr.heap.size, 0, none⟩ = some (.int .i64 (f k)) := by go_simp
      have s1 : (wr.alloc (.cells #[.int .i64 (f k), .int .i64 (g k)] 36)).drew.cell? ⟨wr.heap.size, 1, none⟩ = some (.int .i64 (g k)) := by go_simp
      have HS0 := hide s0
      have HS1 := hide s1
      clear s0 s1
      go_wp2
      go_region_held3 (fun w' => w'.cell? ⟨wr.heap.size, 0, none⟩ = some (.int .i64 (f k)) ∧ w'.cell? ⟨wr.heap.size, 1, none⟩ = some (.int .i64 (g k))) (first | with_reducible exact ⟨HS0.out, HS1.out⟩ | with_reducible exact ⟨k2.lookP hne (k1.lookP hne HS0.out), k2.lookP hne (k1.lookP hne HS1.out)⟩ | with_reducible exact ⟨k1.lookP hne HS0.out, k1.lookP hne HS1.out⟩) (first | (go_at_call_of 32 (Value.int IntKind.i64 (f k)); refine (appendWord_any w1.heap.size w1.heap.size (k * 8) (n * 8) _ (f k) _ (hide ((HW.out.alloc _).drew)) (by simp; omega) (by omega) a0 a1).mono ?_; rintro e w3 ⟨rfl, o1, k1⟩; have HO1 : Hid (w3.ownsRow w1.heap.size 5 1 (.slice (some ⟨w1.heap.size, 0, none⟩) (k * 8 + 4) (n * 8)) (k * 8 + 4) ((List.range (k * 8 + 4)).map (bvl f g))) := hide (by rw [← bytes_a]; exact o1); have hs1 : wr.heap.size + 1 ≤ w3.heap.size := (by have := k1.size; simpa using this); clear o1) | (go_at_call_of 32 (Value.int IntKind.i64 (g k)); refine (appendWord_any w1.heap.size w1.heap.size (k * 8 + 4) (n * 8) _ (g k) _ HO1 (by omega) (by omega) b0 b1).mono ?_; rintro e w4 ⟨rfl, o2, k2⟩; have HO2 : Hid (w4.ownsRow w1.heap.size 5 1 (.slice (some ⟨w1.heap.size, 0, none⟩) (k * 8 + 4 + 4) (n * 8)) (k * 8 + 4 + 4) ((List.range ((k + 1) * 8)).map (bvl f g))) := hide (by rw [← bytes_b]; exact o2); clear o2))
      have HC2 : Hid (Chg nob w w4) := hide ((((HC.out.alloc _).drew.wide.trans k1).trans k2).mono (fun i hi e => by omega))
      clear k1 k2
      go_wp2
      go_roundw
      case rel => exact ⟨k + 1, by omega, by go_num, by rw [show (k + 1) * 8 = k * 8 + 4 + 4 by omega], hide (by have q := HO2.out; rw [show k * 8 + 4 + 4 = (k + 1) * 8 by omega] at q; exact q), HC2⟩
      case measure => simp [intOf]; omega
    · obtain rfl : k = n := by omega
      go_wp2
      go_ret2
      exact .inr ⟨HB.out, w1.heap.size, K1.out.size, rfl, rowIs_of_owns HW.out, HC.out⟩


end Go.Proofs.Ytfbjlohnbpienaa
