/- Several texts in one: What permuted answers: a contract. Condition: the tables hold the shifts and the rounds' constants. · What taking and firstBytes answer: contracts. Conditions: a text of at most 200 bytes; at most 200 bytes are asked for. -/
import Derived.Test.YtkpohajmcngjcaaDoorBzbr
import Derived.Deep.RegionHeld3
import Derived.BigRegion
import Derived.OwnWalk
import Derived.Laws.BytesArg
namespace Go.Proofs.YtkpohajmcngjcaaDoor
open Go.ChangeShapes Go.WideShapes Go.ChangeAt Go.RowKit
set_option linter.unusedVariables false
set_option linter.unusedSimpArgs false

theorem rnd_set (a : Nat → Lane) (k i : Nat) : (if i = 0 then Value.int .u64 (bits .xor .u64 ((ch (pm (th (prm a k))) 0).toNat : Int) (rcn k : Int)) else lv (ch (pm (th (prm a k)))) i) = lv (prm a (k + 1)) i := by
  rw [← rcb_nat, xor64]
  unfold lv lw
  rw [prm]
  unfold rnd
  by_cases e : i = 0
  · subst e; simp
  · simp [e]

set_option maxRecDepth 100000 in
set_option maxHeartbeats 1000000 in
theorem permuted_any (a : Nat → Lane) (w : World) (ht : Hid (Tabs w)) :
    Calls Tryd.prog 62 #[.agg (la a)] w fun e w' => e = .returned (.agg (la (prm a 24))) ∧ Chg nob w w' := by
  have HI := hik infoL
  have hpos : 1 < w.heap.size := World.block_lt_of_cell? w _ (ht.out.sh 0 (by omega))
  go_enter Tryd.func62, Tryd.ntmps62
  go_wp2
  go_loopw [4] (fun i W => ∃ k : Nat, k ≤ 24 ∧ i = .int .i64 k ∧ Hid (W.rowIs w.heap.size 96 25 (lv (prm a k))) ∧ Hid (W.rowIs (w.heap.size + 1) 96 25 lz) ∧ Hid (Chg nob w W)) (fun i _ => 24 - (intOf i).toNat)
  case atStart => exact ⟨0, by omega, rfl, hik ((rowIs_new w 25 (lv a) _).alloc _), hik (rowIs_at _ _ (by simp) 25 lz _ _ rfl), hik (((Chg.refl _ _).alloc _).alloc _)⟩
  case round =>
    obtain ⟨k, hk, rfl, HS, HZ, HG⟩ := hrel
    by_cases hlt : k < 24
    · have hlt' : (k : Int) < 24 := by omega
      go_wp2_with (first | ((with_reducible refine wpList_load_all 96 (.tmp 1) rfl rfl w.heap.size ?hx 25 87 (lv (prm a k)) 96 HS.out Tryd.underlying96 HI.out ?_); (case hx => rfl)) | (go_at_call 80; refine (columnsMixed_any (prm a k) _).mono ?_; rintro e W1 ⟨rfl, k1⟩; have G1 := hik (HG.out.trans k1); have S1 := hik (rowIs_keep HS.out k1); have Z1 := hik (rowIs_keep HZ.out k1); clear k1) | (go_at_call 81; refine (turnedAndMoved_any (th (prm a k)) _ (hik (ht.out.keep G1.out))).mono ?_; rintro e W2 ⟨rfl, k2⟩; have G2 := hik (G1.out.trans k2); have S2 := hik (rowIs_keep S1.out k2); have Z2 := hik (rowIs_keep Z1.out k2); clear k2) | (go_at_call 82; refine (rowsMixed_any (pm (th (prm a k))) _).mono ?_; rintro e W3 ⟨rfl, k3⟩; have G3 := hik (G2.out.trans k3); have S3 := hik (rowIs_keep S2.out k3); have Z3 := hik (rowIs_keep Z2.out k3); clear k3) | ((with_reducible refine wpList_store_all 96 (.tmp 1) (.tmp 10) rfl rfl w.heap.size 25 (lv (ch (pm (th (prm a k))))) ?hx ?hy 96 (lv (prm a k)) S3.out HI.out (fun i _ => lv_one _ i) ?_); (case hx => rfl); (case hy => rfl); intro W4 hr4 hg4; have S4 := hik hr4; have G4 := hik (G3.out.near hg4 (fun i e => by omega)); have Z4 := hik (rowIs_chg Z3.out hg4 (by omega)); clear hr4 hg4))
      have c0 : W4.cell? ⟨w.heap.size, 0, none⟩ = some (.int .u64 ((ch (pm (th (prm a k))) 0).toNat : Int)) := S4.out.cell (by omega)
      have f0 := S4.out.frozen 0
      have c1 : W4.cell? ⟨0, k, none⟩ = some (.int .u64 (rcn k : Int)) := (ht.out.keep G4.out).rc _ (by omega)
      have n1 : ¬ w.heap.size = 0 := by omega
      have S5 := hik ((S4.out.set 0 (.int .u64 (bits .xor .u64 ((ch (pm (th (prm a k))) 0).toNat : Int) (rcn k : Int)))).congr (g := lv (prm a (k + 1))) (fun i hi => rnd_set a k i))
      have Z5 := hik (Z4.out.setOther (a := ⟨w.heap.size, 0, none⟩) (by simp only [ne_eq]; omega) (.int .u64 (bits .xor .u64 ((ch (pm (th (prm a k))) 0).toNat : Int) (rcn k : Int))))
      have G5 := hik (G4.out.setCell (p := ⟨w.heap.size, 0, none⟩) (fun l => absurd l (by simp)) (.int .u64 (bits .xor .u64 ((ch (pm (th (prm a k))) 0).toNat : Int) (rcn k : Int))))
      go_wp2
      go_region
      all_goals
        go_wp2
        go_roundw
        case rel => exact ⟨k + 1, by omega, by go_num, S5, Z5, hik G5.out.drew1⟩
        case measure => simp [intOf]; omega
    · obtain rfl : k = 24 := by omega
      go_wp2_with (first | ((with_reducible refine wpList_load_all 96 (.tmp 1) rfl rfl w.heap.size ?hx 25 87 (lv (prm a 24)) 96 HS.out Tryd.underlying96 HI.out ?_); (case hx => rfl)) | ((with_reducible refine wpList_store_all 96 (.tmp 2) (.tmp 19) rfl rfl (w.heap.size + 1) 25 (lv (prm a 24)) ?hx ?hy 96 lz HZ.out HI.out (fun i _ => lv_one _ i) ?_); (case hx => rfl); (case hy => rfl); intro W2 hr2 hg2; have HR2 := hik hr2; have HG2 := hik (HG.out.near hg2 (fun i e => by omega)); clear hr2 hg2))
      exact bodyPost_ret (results_all rfl _ _ (w.heap.size + 1) rfl 25 _ (lv (prm a 24)) _ HR2.out Tryd.underlying96 HI.out) rfl ⟨rfl, HG2.out⟩

end Go.Proofs.YtkpohajmcngjcaaDoor

namespace Go.Proofs.YtkpohajmcngjcaaDoor
open Go.ChangeShapes Go.WideShapes Go.ChangeAt Go.RowKit
set_option linter.unusedVariables false
set_option linter.unusedSimpArgs false

theorem bl_nat (z : Nat → Int) (k : Nat) (h0 : 0 ≤ z k) (h1 : z k < 256) : IntKind.u64.wrap (z k * 2 ^ (8 * (k % 8))) = ((bl z k).toNat : Int) := by
  obtain ⟨n, hn⟩ := Int.eq_ofNat_of_zero_le h0
  unfold bl
  rw [← shl64]
  have e : ((BitVec.ofInt 64 (z k)).toNat : Int) = z k := by
    rw [hn, BitVec.ofInt_natCast, BitVec.toNat_ofNat, Nat.mod_eq_of_lt (by omega)]
  rw [e]
theorem tk_set (a : Nat → Lane) (z : Nat → Int) (k i : Nat) : (if i = k / 8 then Value.int .u64 (bits .xor .u64 ((tk a z k (k / 8)).toNat : Int) ((bl z k).toNat : Int)) else lv (tk a z k) i) = lv (tk a z (k + 1)) i := by
  rw [xor64]
  unfold lv lw
  rw [tk]
  by_cases e : i = k / 8
  · subst e; simp
  · simp [e]

set_option maxRecDepth 100000 in
set_option maxHeartbeats 1000000 in
theorem taking_any (a : Nat → Lane) (s : ByteArray) (w : World) (hs : s.size ≤ 200) :
    Calls Tryd.prog 61 #[.agg (la a), .string s] w fun e w' => e = .returned (.agg (la (tk a (zs s) s.size))) ∧ Chg nob w w' := by
  have HI := hik infoL
  have hs' : (s.size : Int) ≤ 200 := by omega
  go_enter Tryd.func61, Tryd.ntmps61
  go_wp2
  go_loopw [8] (fun i W => ∃ k : Nat, k ≤ s.size ∧ i = .int .i64 k ∧ Hid (W.rowIs w.heap.size 96 25 (lv (tk a (zs s) k))) ∧ Hid (W.rowIs (w.heap.size + 1) 96 25 lz) ∧ Hid (Chg nob w W)) (fun i _ => s.size - (intOf i).toNat)
  case atStart => exact ⟨0, by omega, rfl, hik ((rowIs_new w 25 (lv a) _).alloc _), hik (rowIs_at _ _ (by simp) 25 lz _ _ rfl), hik (((Chg.refl _ _).alloc _).alloc _)⟩
  case round =>
    obtain ⟨k, hk, rfl, HS, HZ, HG⟩ := hrel
    by_cases hlt : k < s.size
    · have hlt' : (k : Int) < (s.size : Int) := by omega
      have c0 : wr.cell? ⟨w.heap.size, k / 8, none⟩ = some (.int .u64 ((tk a (zs s) k (k / 8)).toNat : Int)) := HS.out.cell (by omega)
      have f0 := HS.out.frozen (k / 8)
      have e0 : ((k : Int) / 8).toNat = k / 8 := by omega
      have b0 : (0 : Int) ≤ (k : Int) / 8 := by omega
      have b1 : (k : Int) / 8 < 25 := by omega
      have z1 := zs_at s k hlt
      have z2 : IntKind.u64.wrap (zs s k) = zs s k := by rw [IntKind.wrap_u64]; have := zs_lo s k; have := zs_hi s k; omega
      have z3 := bl_nat (zs s) k (zs_lo s k) (zs_hi s k)
      have S2 := hik ((HS.out.set (k / 8) (.int .u64 (bits .xor .u64 ((tk a (zs s) k (k / 8)).toNat : Int) ((bl (zs s) k).toNat : Int)))).congr (g := lv (tk a (zs s) (k + 1))) (fun i hi => tk_set a (zs s) k i))
      have Z2 := hik (HZ.out.setOther (a := ⟨w.heap.size, k / 8, none⟩) (by simp only [ne_eq]; omega) (.int .u64 (bits .xor .u64 ((tk a (zs s) k (k / 8)).toNat : Int) ((bl (zs s) k).toNat : Int))))
      have G2 := hik (HG.out.setCell (p := ⟨w.heap.size, k / 8, none⟩) (fun l => absurd l (by simp)) (.int .u64 (bits .xor .u64 ((tk a (zs s) k (k / 8)).toNat : Int) ((bl (zs s) k).toNat : Int))))
      go_wp2
      go_region
      all_goals
        go_wp2
        go_roundw
        case rel => exact ⟨k + 1, by omega, by go_num, S2, Z2, hik G2.out.drew1⟩
        case measure => simp [intOf]; omega
    · obtain rfl : k = s.size := by omega
      go_wp2_with (first | ((with_reducible refine wpList_load_all 96 (.tmp 2) rfl rfl w.heap.size ?hx 25 87 (lv (tk a (zs s) s.size)) 96 HS.out Tryd.underlying96 HI.out ?_); (case hx => rfl)) | ((with_reducible refine wpList_store_all 96 (.tmp 4) (.tmp 26) rfl rfl (w.heap.size + 1) 25 (lv (tk a (zs s) s.size)) ?hx ?hy 96 lz HZ.out HI.out (fun i _ => lv_one _ i) ?_); (case hx => rfl); (case hy => rfl); intro W2 hr2 hg2; have HR2 := hik hr2; have HG2 := hik (HG.out.near hg2 (fun i e => by omega)); clear hr2 hg2))
      exact bodyPost_ret (results_all rfl _ _ (w.heap.size + 1) rfl 25 _ (lv (tk a (zs s) s.size)) _ HR2.out Tryd.underlying96 HI.out) rfl ⟨rfl, HG2.out⟩

/-- No lane. -/
def l0 (_ : Nat) : Lane := 0
/-- The bytes of lanes. -/
def lb (a : Nat → Lane) (i : Nat) : Int := (by8 a i : Int)
theorem lb_nat (a : Nat → Lane) (i : Nat) : IntKind.u8.wrap (((a (i / 8)).toNat : Int) / 2 ^ (8 * (i % 8))) = lb a i := by
  rw [shr64]
  unfold lb by8
  simp [IntKind.wrap, IntKind.bits, IntKind.signed]
set_option maxRecDepth 100000 in
set_option maxHeartbeats 1000000 in
theorem firstBytes_any (a : Nat → Lane) (n : Nat) (w : World) (hn : n ≤ 200) :
    Calls Tryd.prog 64 #[.agg (la a), .int .i64 (n : Int)] w fun e w' => e = .returned (.string (bt (lb a) n)) ∧ Chg nob w w' := by
  obtain ⟨i0, hi, hz0, hz1, hz2⟩ := info_parts infoB
  have HI := hik hi
  have HZ0 := hik hz0
  have HZ1 := hik hz1
  have hb : i0.bytes * n ≤ 281474976710656 := by rw [hz2]; omega
  clear hi hz0 hz1 hz2
  have hn' : (n : Int) ≤ 200 := by omega
  go_enter Tryd.func64, Tryd.ntmps64
  go_wp2_with (at_make; refine wpList_make_row _ rfl (.tmp 7) (.tmp 7) 34 rfl 5 i0 (.int .u8 0) Tryd.underlying34 HI.out HZ0.out HZ1.out rfl .i64 .i64 n rfl rfl hb (by omega) ?_)
  clear hb HI HZ0 HZ1
  go_loopw [11] (fun i W => ∃ k : Nat, k ≤ n ∧ i = .int .i64 k ∧ Hid (W.rowIs (w.heap.size + 1) 5 n (fun j => if j < k then bb (lb a) j else .int .u8 0)) ∧ Hid (W.rowIs w.heap.size 96 25 (lv a)) ∧ Hid (Chg nob w W)) (fun i _ => n - (intOf i).toNat)
  case atStart => exact ⟨0, Nat.zero_le _, rfl, hik ((made_at _ _ (by simp) (.int .u8 0) n 5).congr (fun i _ => by rw [if_neg (by omega)])), hik ((rowIs_new w 25 (lv a) _).alloc _), hik (((Chg.refl _ _).alloc _).alloc _)⟩
  case round =>
    obtain ⟨k, hk, rfl, HR, HS, HG⟩ := hrel
    by_cases hlt : k < n
    · have hlt' : (k : Int) < (n : Int) := by omega
      have c0 : wr.cell? ⟨w.heap.size, k / 8, none⟩ = some (.int .u64 ((a (k / 8)).toNat : Int)) := HS.out.cell (by omega)
      have e0 : ((k : Int) / 8).toNat = k / 8 := by omega
      have b0 : (0 : Int) ≤ (k : Int) / 8 := by omega
      have b1 : (k : Int) / 8 < 25 := by omega
      have hg := HR.out.cell hlt
      have hf := HR.out.frozen k
      simp only [Nat.lt_irrefl, if_false] at hg
      have z3 := lb_nat a k
      go_wp2
      go_roundw
      case rel => exact ⟨k + 1, by omega, by go_num, hik ((HR.out.set k _).congr (fun i _ => by
        by_cases e : i = k
        · subst e; rw [if_pos rfl, if_pos (by omega)]; rfl
        · rw [if_neg e]
          by_cases e2 : i < k
          · rw [if_pos e2, if_pos (by omega)]
          · rw [if_neg e2, if_neg (by omega)])), hik (HS.out.setOther (by simp only [ne_eq]; omega) _), hik (HG.out.setCell (p := ⟨w.heap.size + 1, k, none⟩) (fun l => absurd l (by simp)) _)⟩
      case measure => simp [intOf]; omega
    · obtain rfl : k = n := by omega
      have hcv := convB (some ⟨w.heap.size + 1, 0, none⟩) k k (lb a) wr (RowV.of_row (HR.out.congr (fun i hi => by rw [if_pos hi])) (Nat.le_refl _))
      go_wp2
      go_ret
      exact ⟨rfl, HG.out⟩


end Go.Proofs.YtkpohajmcngjcaaDoor
