/- The vector of a system: the model. -/
import Derived.Test.YtjaopbaapldceaaBzaw
import Derived.Test.YtjaopbaapldceaaMulX
namespace Go.Proofs.Ytjaopbaapldceaa
open Go.ChangeShapes Go.WideShapes Go.ChangeAt Go.RowKit
set_option linter.unusedVariables false
set_option maxRecDepth 100000
set_option linter.unusedSimpArgs false

set_option maxHeartbeats 2000000 in
theorem sVec_any (mm H : Nat) (hHm : (2 : Int) ^ mm = (H : Int)) (hH : H ≤ 16) (hm : mm ≤ 4) (v0 v2 v3 v4 v5 : Value) (c : Option Addr) (np cap : Nat) (P : Nat → Int) (d : Option Addr) (nr cad : Nat) (R : Nat → Int) (w : World) (hp : Hid (RowV w c np (iv P))) (hr : Hid (RowV w d nr (iv R))) (hnp : np + 1 ≤ H) (hnr : nr ≤ H) :
    Calls Try.prog 24 #[.agg #[v0, .int .i64 ((mm : Int) + 1), v2, v3, v4, v5], .slice c np cap, .slice d nr cad] w fun e w' => e = .returned (.slice (some ⟨w.heap.size + 1, 0, none⟩) ((2 * H : Nat) : Nat) (2 * H)) ∧ w'.rowIs (w.heap.size + 1) 3 (2 * H) (iv (vcv H np P nr R)) ∧ Chg nob w w' := by
  obtain ⟨i0, hi, hz0, hz1, hz2⟩ := info_parts infoInt
  have HI := hik hi
  have HZ0 := hik hz0
  have HZ1 := hik hz1
  have hb : i0.bytes * (2 * H) ≤ 281474976710656 := by rw [hz2]; omega
  have hz := wp2 mm (by omega)
  have KK := hik ((Chg.refl nob w).alloc (.cells #[v0, .int .i64 ((mm : Int) + 1), v2, v3, v4, v5] 25))
  have hs1 : (w.alloc (.cells #[v0, .int .i64 ((mm : Int) + 1), v2, v3, v4, v5] 25)).heap.size = w.heap.size + 1 := by simp
  rw [hHm] at hz
  clear hi hz0 hz1 hz2
  go_enter Try.func24, Try.ntmps24
  go_wp2_with (at_make; refine wpList_make_row _ rfl _ _ 27 rfl 3 i0 (.int .i64 0) Try.underlying27 HI.out HZ0.out HZ1.out rfl .i64 .i64 (2 * H) (by show Value.int IntKind.i64 (2 * (H : Int)) = _; rw [Int.natCast_mul]; rfl) (by show Value.int IntKind.i64 (2 * (H : Int)) = _; rw [Int.natCast_mul]; rfl) hb (by omega) ?_; (have R0 := hik (World.rowIs_made (w.alloc (.cells #[v0, .int .i64 ((mm : Int) + 1), v2, v3, v4, v5] 25)) (.int .i64 0) (2 * H) 3); have K0 := hik (KK.out.alloc (.cells (madeCells #[.int .i64 0] (2 * H)) 3)); simp only [hs1] at R0 K0 ⊢; generalize (w.alloc (.cells #[v0, .int .i64 ((mm : Int) + 1), v2, v3, v4, v5] 25)).alloc (.cells (madeCells #[.int .i64 0] (2 * H)) 3) = W1 at R0 K0 ⊢; have hg := R0.out.cell (i := 0) (by omega); have hf := R0.out.frozen 0; have R1 := hik ((R0.out.set 0 (.int .i64 1)).congr (g := iv (vcv H 0 P 0 R)) (fun i _ => by unfold iv vcv; by_cases e : i = 0 <;> simp [e] <;> omega)); have K1 := hik (K0.out.setCell (p := ⟨w.heap.size + 1, 0, none⟩) (fun l => absurd (show w.heap.size + 1 < w.heap.size from l) (by omega)) (.int .i64 1))))
  clear hb HI HZ0 HZ1 hz hHm hs1 KK
  go_loopw [9] (fun i W => ∃ k : Nat, k ≤ np ∧ i = .int .i64 k ∧ Hid (W.rowIs (w.heap.size + 1) 3 (2 * H) (iv (vcv H k P 0 R))) ∧ Hid (Chg nob w W)) (fun i _ => np - (intOf i).toNat)
  case atStart => exact ⟨0, Nat.zero_le _, rfl, R1, K1⟩
  case round =>
    obtain ⟨k, hk, rfl, HR, HC⟩ := hrel
    rename World => wr
    by_cases hlt : k < np
    · obtain ⟨xb, xo, rfl, hxb, hcell⟩ := (hp.out.keep HC.out) k hlt
      have hx : wr.cell? ⟨xb, xo + k, none⟩ = some (Value.int .i64 (P k)) := hcell
      have hg := HR.out.cell (i := 1 + k) (by omega)
      have hf := HR.out.frozen (1 + k)
      have HR2 := hik ((HR.out.set (1 + k) (.int .i64 (P k))).congr (g := iv (vcv H (k + 1) P 0 R)) (fun i _ => by
        have e := vcv_pub (H := H) (k := k) (P := P) (R := R) i
        unfold iv
        rw [← e]
        split <;> rfl))
      have HC2 := hik (HC.out.setCell (p := ⟨w.heap.size + 1, 1 + k, none⟩) (fun l => absurd (show w.heap.size + 1 < w.heap.size from l) (by omega)) (.int .i64 (P k)))
      have hkn : ((k : Nat) : Int) < np := by omega
      have hat : IntKind.i64.wrap ((1 : Int) + (k : Int)) = ((1 + k : Nat) : Int) := by rw [IntKind.wrap_i64]; omega
      have hat2 : ((1 + k : Nat) : Int) < ((2 * H : Nat) : Int) := by omega
      clear hcell
      go_wp2
      go_roundw
      case rel => exact ⟨k + 1, by omega, by go_num, HR2, HC2⟩
      case measure => simp [intOf]; omega
    · obtain rfl : np = k := by omega
      clear hlt hk
      have RQ := HR
      have CQ := HC
      go_wp2_with fail
      go_loopw [10] (fun i W => ∃ k : Nat, k ≤ nr ∧ i = .int .i64 k ∧ Hid (W.rowIs (w.heap.size + 1) 3 (2 * H) (iv (vcv H np P k R))) ∧ Hid (Chg nob w W)) (fun i _ => nr - (intOf i).toNat)
      case atStart => exact ⟨0, Nat.zero_le _, rfl, RQ, CQ⟩
      case round =>
        obtain ⟨k, hk, rfl, HR, HC⟩ := hrel
        rename World => wr
        by_cases hlt : k < nr
        · obtain ⟨xb, xo, rfl, hxb, hcell⟩ := (hr.out.keep HC.out) k hlt
          have hx : wr.cell? ⟨xb, xo + k, none⟩ = some (Value.int .i64 (R k)) := hcell
          have hg := HR.out.cell (i := H + k) (by omega)
          have hf := HR.out.frozen (H + k)
          have HR2 := hik ((HR.out.set (H + k) (.int .i64 (R k))).congr (g := iv (vcv H np P (k + 1) R)) (fun i _ => by
            have e := vcv_priv (H := H) (np := np) (k := k) (P := P) (R := R) hnp i
            unfold iv
            rw [← e]
            split <;> rfl))
          have HC2 := hik (HC.out.setCell (p := ⟨w.heap.size + 1, H + k, none⟩) (fun l => absurd (show w.heap.size + 1 < w.heap.size from l) (by omega)) (.int .i64 (R k)))
          have hkn : ((k : Nat) : Int) < nr := by omega
          have hat : IntKind.i64.wrap ((H : Int) + (k : Int)) = ((H + k : Nat) : Int) := by rw [IntKind.wrap_i64]; omega
          have hat2 : ((H + k : Nat) : Int) < ((2 * H : Nat) : Int) := by omega
          clear hcell
          go_wp2
          go_roundw
          case rel => exact ⟨k + 1, by omega, by go_num, HR2, HC2⟩
          case measure => simp [intOf]; omega
        · obtain rfl : nr = k := by omega
          clear hlt hk
          go_wp2
          go_ret
          exact ⟨rfl, HR.out, HC.out⟩

end Go.Proofs.Ytjaopbaapldceaa
