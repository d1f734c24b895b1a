/- Several texts in one: What permuted answers: a contract. Condition: the tables hold the shifts and the rounds' constants. · What taking and firstBytes answer: contracts. Conditions: a text of at most 200 bytes; at most 200 bytes are asked for. · What the model's lanes, texts and turns are: contracts. Conditions: a text of at most 200 bytes; at most 200 bytes are asked for. · What the model's tables hold, and words for the walk of the model's permutation: contracts. No condition. -/
import Derived.Test.YtkpohajmcngjcaaGreatDoorBzbr
import Derived.Deep.RegionHeld3
import Derived.BigRegion
import Derived.OwnWalk
import Derived.Laws.BytesArg
namespace Go.Proofs.YtkpohajmcngjcaaGreatDoor
open Go.ChangeShapes Go.WideShapes Go.ChangeAt Go.RowKit
set_option linter.unusedVariables false
set_option linter.unusedSimpArgs false

theorem rnd_set (a : Nat → Lane) (k i : Nat) : (if i = 0 then Value.int .u64 (bits .xor .u64 ((ch (pm (th (prm a k))) 0).toNat : Int) (rcn k : Int)) else lv (ch (pm (th (prm a k)))) i) = lv (prm a (k + 1)) i := by
  rw [← rcb_nat, xor64]
  unfold lv lw
  rw [prm]
  unfold rnd
  by_cases e : i = 0
  · subst e; simp
  · simp [e]

set_option maxRecDepth 100000 in
set_option maxHeartbeats 1000000 in
theorem permuted_any (a : Nat → Lane) (w : World) (ht : Hid (Tabs w)) :
    Calls Tryz.prog 130 #[.agg (la a)] w fun e w' => e = .returned (.agg (la (prm a 24))) ∧ Chg nob w w' := by
  have HI := hik infoL
  have hpos : 1 < w.heap.size := World.block_lt_of_cell? w _ (ht.out.sh 0 (by omega))
  go_enter Tryz.func130, Tryz.ntmps130
  go_wp2
  go_loopw [4] (fun i W => ∃ k : Nat, k ≤ 24 ∧ i = .int .i64 k ∧ Hid (W.rowIs w.heap.size 171 25 (lv (prm a k))) ∧ Hid (W.rowIs (w.heap.size + 1) 171 25 lz) ∧ Hid (Chg nob w W)) (fun i _ => 24 - (intOf i).toNat)
  case atStart => exact ⟨0, by omega, rfl, hik ((rowIs_new w 25 (lv a) _).alloc _), hik (rowIs_at _ _ (by simp) 25 lz _ _ rfl), hik (((Chg.refl _ _).alloc _).alloc _)⟩
  case round =>
    obtain ⟨k, hk, rfl, HS, HZ, HG⟩ := hrel
    by_cases hlt : k < 24
    · have hlt' : (k : Int) < 24 := by omega
      go_wp2_with (first | ((with_reducible refine wpList_load_all 171 (.tmp 1) rfl rfl w.heap.size ?hx 25 141 (lv (prm a k)) 171 HS.out Tryz.underlying171 HI.out ?_); (case hx => rfl)) | (go_at_call 138; refine (columnsMixed_any (prm a k) _).mono ?_; rintro e W1 ⟨rfl, k1⟩; have G1 := hik (HG.out.trans k1); have S1 := hik (rowIs_keep HS.out k1); have Z1 := hik (rowIs_keep HZ.out k1); clear k1) | (go_at_call 139; refine (turnedAndMoved_any (th (prm a k)) _ (hik (ht.out.keep G1.out))).mono ?_; rintro e W2 ⟨rfl, k2⟩; have G2 := hik (G1.out.trans k2); have S2 := hik (rowIs_keep S1.out k2); have Z2 := hik (rowIs_keep Z1.out k2); clear k2) | (go_at_call 140; refine (rowsMixed_any (pm (th (prm a k))) _).mono ?_; rintro e W3 ⟨rfl, k3⟩; have G3 := hik (G2.out.trans k3); have S3 := hik (rowIs_keep S2.out k3); have Z3 := hik (rowIs_keep Z2.out k3); clear k3) | ((with_reducible refine wpList_store_all 171 (.tmp 1) (.tmp 10) rfl rfl w.heap.size 25 (lv (ch (pm (th (prm a k))))) ?hx ?hy 171 (lv (prm a k)) S3.out HI.out (fun i _ => lv_one _ i) ?_); (case hx => rfl); (case hy => rfl); intro W4 hr4 hg4; have S4 := hik hr4; have G4 := hik (G3.out.near hg4 (fun i e => by omega)); have Z4 := hik (rowIs_chg Z3.out hg4 (by omega)); clear hr4 hg4))
      have c0 : W4.cell? ⟨w.heap.size, 0, none⟩ = some (.int .u64 ((ch (pm (th (prm a k))) 0).toNat : Int)) := S4.out.cell (by omega)
      have f0 := S4.out.frozen 0
      have c1 : W4.cell? ⟨0, k, none⟩ = some (.int .u64 (rcn k : Int)) := (ht.out.keep G4.out).rc _ (by omega)
      have n1 : ¬ w.heap.size = 0 := by omega
      have S5 := hik ((S4.out.set 0 (.int .u64 (bits .xor .u64 ((ch (pm (th (prm a k))) 0).toNat : Int) (rcn k : Int)))).congr (g := lv (prm a (k + 1))) (fun i hi => rnd_set a k i))
      have Z5 := hik (Z4.out.setOther (a := ⟨w.heap.size, 0, none⟩) (by simp only [ne_eq]; omega) (.int .u64 (bits .xor .u64 ((ch (pm (th (prm a k))) 0).toNat : Int) (rcn k : Int))))
      have G5 := hik (G4.out.setCell (p := ⟨w.heap.size, 0, none⟩) (fun l => absurd l (by simp)) (.int .u64 (bits .xor .u64 ((ch (pm (th (prm a k))) 0).toNat : Int) (rcn k : Int))))
      go_wp2
      go_region
      all_goals
        go_wp2
        go_roundw
        case rel => exact ⟨k + 1, by omega, by go_num, S5, Z5, hik G5.out.drew1⟩
        case measure => simp [intOf]; omega
    · obtain rfl : k = 24 := by omega
      go_wp2_with (first | ((with_reducible refine wpList_load_all 171 (.tmp 1) rfl rfl w.heap.size ?hx 25 141 (lv (prm a 24)) 171 HS.out Tryz.underlying171 HI.out ?_); (case hx => rfl)) | ((with_reducible refine wpList_store_all 171 (.tmp 2) (.tmp 19) rfl rfl (w.heap.size + 1) 25 (lv (prm a 24)) ?hx ?hy 171 lz HZ.out HI.out (fun i _ => lv_one _ i) ?_); (case hx => rfl); (case hy => rfl); intro W2 hr2 hg2; have HR2 := hik hr2; have HG2 := hik (HG.out.near hg2 (fun i e => by omega)); clear hr2 hg2))
      exact bodyPost_ret (results_all rfl _ _ (w.heap.size + 1) rfl 25 _ (lv (prm a 24)) _ HR2.out Tryz.underlying171 HI.out) rfl ⟨rfl, HG2.out⟩

end Go.Proofs.YtkpohajmcngjcaaGreatDoor

namespace Go.Proofs.YtkpohajmcngjcaaGreatDoor
open Go.ChangeShapes Go.WideShapes Go.ChangeAt Go.RowKit
set_option linter.unusedVariables false
set_option linter.unusedSimpArgs false

theorem bl_nat (z : Nat → Int) (k : Nat) (h0 : 0 ≤ z k) (h1 : z k < 256) : IntKind.u64.wrap (z k * 2 ^ (8 * (k % 8))) = ((bl z k).toNat : Int) := by
  obtain ⟨n, hn⟩ := Int.eq_ofNat_of_zero_le h0
  unfold bl
  rw [← shl64]
  have e : ((BitVec.ofInt 64 (z k)).toNat : Int) = z k := by
    rw [hn, BitVec.ofInt_natCast, BitVec.toNat_ofNat, Nat.mod_eq_of_lt (by omega)]
  rw [e]
theorem tk_set (a : Nat → Lane) (z : Nat → Int) (k i : Nat) : (if i = k / 8 then Value.int .u64 (bits .xor .u64 ((tk a z k (k / 8)).toNat : Int) ((bl z k).toNat : Int)) else lv (tk a z k) i) = lv (tk a z (k + 1)) i := by
  rw [xor64]
  unfold lv lw
  rw [tk]
  by_cases e : i = k / 8
  · subst e; simp
  · simp [e]

set_option maxRecDepth 100000 in
set_option maxHeartbeats 1000000 in
theorem taking_any (a : Nat → Lane) (s : ByteArray) (w : World) (hs : s.size ≤ 200) :
    Calls Tryz.prog 129 #[.agg (la a), .string s] w fun e w' => e = .returned (.agg (la (tk a (zs s) s.size))) ∧ Chg nob w w' := by
  have HI := hik infoL
  have hs' : (s.size : Int) ≤ 200 := by omega
  go_enter Tryz.func129, Tryz.ntmps129
  go_wp2
  go_loopw [8] (fun i W => ∃ k : Nat, k ≤ s.size ∧ i = .int .i64 k ∧ Hid (W.rowIs w.heap.size 171 25 (lv (tk a (zs s) k))) ∧ Hid (W.rowIs (w.heap.size + 1) 171 25 lz) ∧ Hid (Chg nob w W)) (fun i _ => s.size - (intOf i).toNat)
  case atStart => exact ⟨0, by omega, rfl, hik ((rowIs_new w 25 (lv a) _).alloc _), hik (rowIs_at _ _ (by simp) 25 lz _ _ rfl), hik (((Chg.refl _ _).alloc _).alloc _)⟩
  case round =>
    obtain ⟨k, hk, rfl, HS, HZ, HG⟩ := hrel
    by_cases hlt : k < s.size
    · have hlt' : (k : Int) < (s.size : Int) := by omega
      have c0 : wr.cell? ⟨w.heap.size, k / 8, none⟩ = some (.int .u64 ((tk a (zs s) k (k / 8)).toNat : Int)) := HS.out.cell (by omega)
      have f0 := HS.out.frozen (k / 8)
      have e0 : ((k : Int) / 8).toNat = k / 8 := by omega
      have b0 : (0 : Int) ≤ (k : Int) / 8 := by omega
      have b1 : (k : Int) / 8 < 25 := by omega
      have z1 := zs_at s k hlt
      have z2 : IntKind.u64.wrap (zs s k) = zs s k := by rw [IntKind.wrap_u64]; have := zs_lo s k; have := zs_hi s k; omega
      have z3 := bl_nat (zs s) k (zs_lo s k) (zs_hi s k)
      have S2 := hik ((HS.out.set (k / 8) (.int .u64 (bits .xor .u64 ((tk a (zs s) k (k / 8)).toNat : Int) ((bl (zs s) k).toNat : Int)))).congr (g := lv (tk a (zs s) (k + 1))) (fun i hi => tk_set a (zs s) k i))
      have Z2 := hik (HZ.out.setOther (a := ⟨w.heap.size, k / 8, none⟩) (by simp only [ne_eq]; omega) (.int .u64 (bits .xor .u64 ((tk a (zs s) k (k / 8)).toNat : Int) ((bl (zs s) k).toNat : Int))))
      have G2 := hik (HG.out.setCell (p := ⟨w.heap.size, k / 8, none⟩) (fun l => absurd l (by simp)) (.int .u64 (bits .xor .u64 ((tk a (zs s) k (k / 8)).toNat : Int) ((bl (zs s) k).toNat : Int))))
      go_wp2
      go_region
      all_goals
        go_wp2
        go_roundw
        case rel => exact ⟨k + 1, by omega, by go_num, S2, Z2, hik G2.out.drew1⟩
        case measure => simp [intOf]; omega
    · obtain rfl : k = s.size := by omega
      go_wp2_with (first | ((with_reducible refine wpList_load_all 171 (.tmp 2) rfl rfl w.heap.size ?hx 25 141 (lv (tk a (zs s) s.size)) 171 HS.out Tryz.underlying171 HI.out ?_); (case hx => rfl)) | ((with_reducible refine wpList_store_all 171 (.tmp 4) (.tmp 26) rfl rfl (w.heap.size + 1) 25 (lv (tk a (zs s) s.size)) ?hx ?hy 171 lz HZ.out HI.out (fun i _ => lv_one _ i) ?_); (case hx => rfl); (case hy => rfl); intro W2 hr2 hg2; have HR2 := hik hr2; have HG2 := hik (HG.out.near hg2 (fun i e => by omega)); clear hr2 hg2))
      exact bodyPost_ret (results_all rfl _ _ (w.heap.size + 1) rfl 25 _ (lv (tk a (zs s) s.size)) _ HR2.out Tryz.underlying171 HI.out) rfl ⟨rfl, HG2.out⟩

/-- No lane. -/
def l0 (_ : Nat) : Lane := 0
/-- The bytes of lanes. -/
def lb (a : Nat → Lane) (i : Nat) : Int := (by8 a i : Int)
theorem lb_nat (a : Nat → Lane) (i : Nat) : IntKind.u8.wrap (((a (i / 8)).toNat : Int) / 2 ^ (8 * (i % 8))) = lb a i := by
  rw [shr64]
  unfold lb by8
  simp [IntKind.wrap, IntKind.bits, IntKind.signed]
set_option maxRecDepth 100000 in
set_option maxHeartbeats 1000000 in
theorem firstBytes_any (a : Nat → Lane) (n : Nat) (w : World) (hn : n ≤ 200) :
    Calls Tryz.prog 132 #[.agg (la a), .int .i64 (n : Int)] w fun e w' => e = .returned (.string (bt (lb a) n)) ∧ Chg nob w w' := by
  obtain ⟨i0, hi, hz0, hz1, hz2⟩ := info_parts infoB
  have HI := hik hi
  have HZ0 := hik hz0
  have HZ1 := hik hz1
  have hb : i0.bytes * n ≤ 281474976710656 := by rw [hz2]; omega
  clear hi hz0 hz1 hz2
  have hn' : (n : Int) ≤ 200 := by omega
  go_enter Tryz.func132, Tryz.ntmps132
  go_wp2_with (at_make; refine wpList_make_row _ rfl (.tmp 7) (.tmp 7) 53 rfl 5 i0 (.int .u8 0) Tryz.underlying53 HI.out HZ0.out HZ1.out rfl .i64 .i64 n rfl rfl hb (by omega) ?_)
  clear hb HI HZ0 HZ1
  go_loopw [11] (fun i W => ∃ k : Nat, k ≤ n ∧ i = .int .i64 k ∧ Hid (W.rowIs (w.heap.size + 1) 5 n (fun j => if j < k then bb (lb a) j else .int .u8 0)) ∧ Hid (W.rowIs w.heap.size 171 25 (lv a)) ∧ Hid (Chg nob w W)) (fun i _ => n - (intOf i).toNat)
  case atStart => exact ⟨0, Nat.zero_le _, rfl, hik ((made_at _ _ (by simp) (.int .u8 0) n 5).congr (fun i _ => by rw [if_neg (by omega)])), hik ((rowIs_new w 25 (lv a) _).alloc _), hik (((Chg.refl _ _).alloc _).alloc _)⟩
  case round =>
    obtain ⟨k, hk, rfl, HR, HS, HG⟩ := hrel
    by_cases hlt : k < n
    · have hlt' : (k : Int) < (n : Int) := by omega
      have c0 : wr.cell? ⟨w.heap.size, k / 8, none⟩ = some (.int .u64 ((a (k / 8)).toNat : Int)) := HS.out.cell (by omega)
      have e0 : ((k : Int) / 8).toNat = k / 8 := by omega
      have b0 : (0 : Int) ≤ (k : Int) / 8 := by omega
      have b1 : (k : Int) / 8 < 25 := by omega
      have hg := HR.out.cell hlt
      have hf := HR.out.frozen k
      simp only [Nat.lt_irrefl, if_false] at hg
      have z3 := lb_nat a k
      go_wp2
      go_roundw
      case rel => exact ⟨k + 1, by omega, by go_num, hik ((HR.out.set k _).congr (fun i _ => by
        by_cases e : i = k
        · subst e; rw [if_pos rfl, if_pos (by omega)]; rfl
        · rw [if_neg e]
          by_cases e2 : i < k
          · rw [if_pos e2, if_pos (by omega)]
          · rw [if_neg e2, if_neg (by omega)])), hik (HS.out.setOther (by simp only [ne_eq]; omega) _), hik (HG.out.setCell (p := ⟨w.heap.size + 1, k, none⟩) (fun l => absurd l (by simp)) _)⟩
      case measure => simp [intOf]; omega
    · obtain rfl : k = n := by omega
      have hcv := convB (some ⟨w.heap.size + 1, 0, none⟩) k k (lb a) wr (RowV.of_row (HR.out.congr (fun i hi => by rw [if_pos hi])) (Nat.le_refl _))
      go_wp2
      go_ret
      exact ⟨rfl, HG.out⟩


end Go.Proofs.YtkpohajmcngjcaaGreatDoor

namespace Go.Proofs.YtkpohajmcngjcaaGreatDoor
open Go.ChangeShapes Go.WideShapes Go.ChangeAt Go.RowKit
set_option linter.unusedVariables false
set_option linter.unusedSimpArgs false

theorem infoA : (Tryz.prog.info? 154).map (·.size) = some 25 := by kernel_rfl

set_option maxHeartbeats 1000000 in
theorem sTurn_any (x : Lane) (n : Nat) (hn : (n : Int) ≤ 64) (w : World) :
    Calls Tryz.prog 128 #[.int .u64 (x.toNat : Int), .int .u64 (n : Int)] w fun e w' => e = .returned (.int .u64 ((rotl x n).toNat : Int)) ∧ w' = w := by
  have hx := lane_lt x
  by_cases h0 : n = 0
  · subst h0
    rw [rotl_zero]
    go_enter Tryz.func128, Tryz.ntmps128
    go_wp2
    go_ret
    exact ⟨rfl, rfl⟩
  · obtain ⟨m, rfl⟩ : ∃ m, n = m + 1 := ⟨n - 1, by omega⟩
    have h1' : ¬ ((m + 1 : Nat) : Int) = 0 := by omega
    clear h0 hx
    go_enter Tryz.func128, Tryz.ntmps128
    go_wp2
    go_ret
    exact ⟨ret_of (congrArg (Value.int .u64) (by rw [shl64, shr64, or64]; unfold rotl; rw [show 64 - (m + 1) = 63 - m by omega])), rfl⟩
theorem sTurn_one (x : Lane) (w : World) :
    Calls Tryz.prog 128 #[.int .u64 (x.toNat : Int), .int .u64 1] w fun e w' => e = .returned (.int .u64 ((rotl x 1).toNat : Int)) ∧ w' = w := sTurn_any x 1 (by decide) w

theorem ln_set (z : Nat → Int) (k i : Nat) : (if i = k / 8 then Value.int .u64 (bits .or .u64 ((ln z k (k / 8)).toNat : Int) ((bl z k).toNat : Int)) else lv (ln z k) i) = lv (ln z (k + 1)) i := by
  rw [or64]
  unfold lv lw
  rw [ln]
  by_cases e : i = k / 8
  · subst e; simp
  · simp [e]

set_option maxHeartbeats 1000000 in
theorem sLanes_any (s : ByteArray) (w : World) (hs : s.size ≤ 200) :
    Calls Tryz.prog 116 #[.string s] w fun e w' => e = .returned (.agg (la (ln (zs s) s.size))) ∧ Chg nob w w' := by
  have HI := hik infoA
  have hs' : (s.size : Int) ≤ 200 := by omega
  go_enter Tryz.func116, Tryz.ntmps116
  go_wp2_with ((with_reducible refine wpList_store_all 154 (.tmp 3) (.tmp 5) rfl rfl (w.heap.size + 1) 25 lz ?hx ?hy 154 lz ?hr HI.out (fun i _ => rfl) ?_); (case hx => rfl); (case hy => rfl); (case hr => exact rowIs_at _ _ (by simp) 25 lz _ _ rfl); intro W2 hr2 hg2; have HM := hik hr2; have HG := hik (Chg.near (((Chg.refl nob w).alloc _).alloc _) hg2 (fun i e => by omega)); have HZ := hik (rowIs_chg ((rowIs_at w w.heap.size rfl 25 lz 154 _ rfl).alloc _) hg2 (by omega)); clear hr2 hg2)
  go_loopw [4] (fun i W => ∃ k : Nat, k ≤ s.size ∧ i = .int .i64 k ∧ Hid (W.rowIs (w.heap.size + 1) 154 25 (lv (ln (zs s) k))) ∧ Hid (W.rowIs w.heap.size 154 25 lz) ∧ Hid (Chg nob w W)) (fun i _ => s.size - (intOf i).toNat)
  case atStart => exact ⟨0, by omega, rfl, HM, HZ, HG⟩
  case round =>
    clear HM HZ HG
    obtain ⟨k, hk, rfl, HS, HZ, HG⟩ := hrel
    by_cases hlt : k < s.size
    · have hlt' : (k : Int) < (s.size : Int) := by omega
      have c0 : wr.cell? ⟨w.heap.size + 1, k / 8, none⟩ = some (.int .u64 ((ln (zs s) k (k / 8)).toNat : Int)) := HS.out.cell (by omega)
      have f0 := HS.out.frozen (k / 8)
      have e0 : ((k : Int) / 8).toNat = k / 8 := by omega
      have b0 : (0 : Int) ≤ (k : Int) / 8 := by omega
      have b1 : (k : Int) / 8 < 25 := by omega
      have z1 := zs_at s k hlt
      have z2 : IntKind.u64.wrap (zs s k) = zs s k := by rw [IntKind.wrap_u64]; have := zs_lo s k; have := zs_hi s k; omega
      have z3 := bl_nat (zs s) k (zs_lo s k) (zs_hi s k)
      have z4 : IntKind.u64.wrap (8 * ((k : Int) % 8)) = 8 * ((k : Int) % 8) := by rw [IntKind.wrap_u64]; omega
      have S2 := hik ((HS.out.set (k / 8) (.int .u64 (bits .or .u64 ((ln (zs s) k (k / 8)).toNat : Int) ((bl (zs s) k).toNat : Int)))).congr (g := lv (ln (zs s) (k + 1))) (fun i hi => ln_set (zs s) k i))
      have Z2 := hik (HZ.out.setOther (a := ⟨w.heap.size + 1, k / 8, none⟩) (by simp only [ne_eq]; omega) (.int .u64 (bits .or .u64 ((ln (zs s) k (k / 8)).toNat : Int) ((bl (zs s) k).toNat : Int))))
      have G2 := hik (HG.out.setCell (p := ⟨w.heap.size + 1, k / 8, none⟩) (fun l => absurd l (by simp)) (.int .u64 (bits .or .u64 ((ln (zs s) k (k / 8)).toNat : Int) ((bl (zs s) k).toNat : Int))))
      go_wp2
      go_region
      all_goals
        go_wp2
        go_roundw
        case rel => exact ⟨k + 1, by omega, by go_num, S2, Z2, hik G2.out.drew1⟩
        case measure => simp [intOf]; omega
    · obtain rfl : k = s.size := by omega
      go_wp2_with (first | ((with_reducible refine wpList_load_all 154 (.tmp 3) rfl rfl (w.heap.size + 1) ?hx 25 141 (lv (ln (zs s) s.size)) 154 HS.out Tryz.underlying154 HI.out ?_); (case hx => rfl)) | ((with_reducible refine wpList_store_all 154 (.tmp 2) (.tmp 27) rfl rfl w.heap.size 25 (lv (ln (zs s) s.size)) ?hx ?hy 154 lz HZ.out HI.out (fun i _ => lv_one _ i) ?_); (case hx => rfl); (case hy => rfl); intro W2 hr2 hg2; have HR2 := hik hr2; have HG2 := hik (HG.out.near hg2 (fun i e => by omega)); clear hr2 hg2))
      exact bodyPost_ret (results_all rfl _ _ w.heap.size rfl 25 _ (lv (ln (zs s) s.size)) _ HR2.out Tryz.underlying154 HI.out) rfl ⟨rfl, HG2.out⟩

set_option maxHeartbeats 2000000 in
theorem sText_any (a : Nat → Lane) (n : Nat) (w : World) (hn : n ≤ 200) (hp : 0 < n) :
    Calls Tryz.prog 118 #[.agg (la a), .int .i64 (n : Int)] w fun e w' => e = .returned (.string (bt (lb a) n)) ∧ Chg nob w w' := by
  obtain ⟨i0, hi, hz0, hz1, hz2⟩ := info_parts infoB
  have HI := hik hi
  have HZ0 := hik hz0
  have HZ1 := hik hz1
  have HZ2 := hik hz2
  clear hi hz0 hz1 hz2
  have hn' : (n : Int) ≤ 200 := by omega
  go_enter Tryz.func118, Tryz.ntmps118
  go_wp2
  go_loopw [5, 6] (fun v i W => ∃ k : Nat, k ≤ n ∧ i = .int .i64 k ∧ Hid (W.ownsRow (w.heap.size + 1) 5 1 v k ((List.range k).map (bb (lb a)))) ∧ Hid (W.rowIs w.heap.size 154 25 (lv a)) ∧ Hid (Chg nob w W)) (fun _ i _ => n - (intOf i).toNat)
  case atStart => exact ⟨0, Nat.zero_le _, rfl, hik (by have q := owns_new (w.alloc (.cells (la a) 154)) (w.heap.size + 1) 5 1 (by simp); simpa using q), hik ((rowIs_new w 25 (lv a) _).alloc _), hik (((Chg.refl _ _).alloc _).alloc _)⟩
  case round =>
    obtain ⟨k, hk, rfl, HW, HS, HG⟩ := hrel
    have hsz := HG.out.size
    by_cases hlt : k < n
    · have hlt' : (k : Int) < (n : Int) := by omega
      have c0 : wr.cell? ⟨w.heap.size, k / 8, none⟩ = some (.int .u64 ((a (k / 8)).toNat : Int)) := HS.out.cell (by omega)
      have hw1 := HS.out.lt
      have e0 : ((k : Int) / 8).toNat = k / 8 := by omega
      have b0 : (0 : Int) ≤ (k : Int) / 8 := by omega
      have b1 : (k : Int) / 8 < 25 := by omega
      have z3 := lb_nat a k
      have z4 : IntKind.u64.wrap (8 * ((k : Int) % 8)) = 8 * ((k : Int) % 8) := by rw [IntKind.wrap_u64]; omega
      go_wp2_with (at_builtin; refine wpList_append_own _ rfl (.tmp 13) (.tmp 24) 53 rfl (w.heap.size + 1) 5 i0 (.int .u8 0) 1 1 Tryz.underlying53 HI.out HZ0.out HZ1.out HZ2.out rfl (by decide) _ k _ rfl (HW.out.alloc _) ⟨_, 0, none⟩ 1 1 [.int .u8 (lb a k)] rfl rfl ?c1 ?c2 ?c3 ?c4 ?c5 ?c6)
      case c1 =>
        intro j u hj
        match j, hj with
        | 0, hj => simp at hj; subst hj; simp [Addr.add]
        | j + 1, hj => simp at hj
      case c2 => intro u hu; simp at hu; subst hu; rfl
      case c3 => unfold maxLen; omega
      case c4 => omega
      case c5 => simp; omega
      case c6 =>
        intro v' w1 hown hgr _
        have HOW : Hid (w1.ownsRow (w.heap.size + 1) 5 1 v' (k + 1) ((List.range (k + 1)).map (bb (lb a)))) := hik (by rw [← bytes_snoc]; exact hown)
        have HGC := hik ((HG.out.alloc _).grown hgr (fun b e l => absurd (HW.out.lt b e).1 (by omega)))
        have HSC := hik ((HS.out.alloc _).of_block (hgr.block _ (by simp; omega) (fun e => absurd (HW.out.lt _ e.symm).1 (by omega))))
        clear hown hgr
        go_wp2
        go_roundw
        case rel => exact ⟨k + 1, by omega, by go_num, HOW, HSC, HGC⟩
        case measure => simp [intOf]; omega
    · obtain rfl : k = n := by omega
      obtain ⟨b, cap, rfl, hb, hbl, hv⟩ := rowV_of_owns HW.out hp
      have hcv := convB (some ⟨b, 0, none⟩) k cap (lb a) wr hv
      go_wp2
      go_ret
      exact ⟨rfl, HG.out⟩

end Go.Proofs.YtkpohajmcngjcaaGreatDoor

namespace Go.Proofs.YtkpohajmcngjcaaGreatDoor
open Go.ChangeShapes Go.WideShapes Go.ChangeAt Go.RowKit
set_option linter.unusedVariables false
set_option linter.unusedSimpArgs false

theorem infoR : (Tryz.prog.info? 165).map (·.size) = some 24 := by kernel_rfl
theorem infoS : (Tryz.prog.info? 167).map (·.size) = some 25 := by kernel_rfl
theorem infoC : (Tryz.prog.info? 169).map (·.size) = some 5 := by kernel_rfl
/-- The tables, as values. -/
def rv (i : Nat) : Value := .int .u64 (rcn i : Int)
def sv (i : Nat) : Value := .int .u64 (sh i : Int)
set_option maxRecDepth 10000 in
set_option maxHeartbeats 1000000 in
theorem sRounds_any (w : World) :
    Calls Tryz.prog 126 #[] w fun e w' => e = .returned (.agg (rowA 24 rv)) ∧ Chg nob w w' := by
  have HI := hik infoR
  go_enter Tryz.func126, Tryz.ntmps126
  go_wp2_with ((with_reducible refine wpList_store_all 165 (.tmp 0) (.tmp 1) rfl rfl w.heap.size 24 rv ?hx ?hy 165 lz ?hr HI.out (fun i _ => rfl) ?_); (case hx => rfl); (case hy => rfl); (case hr => exact rowIs_at _ _ rfl 24 lz _ _ rfl); intro W2 hr2 hg2; have HR2 := hik hr2; have HG2 := hik (Chg.near ((Chg.refl nob w).alloc _) hg2 (fun i e => by omega)); clear hr2 hg2)
  exact bodyPost_ret (results_all rfl _ _ w.heap.size rfl 24 _ rv _ HR2.out Tryz.underlying165 HI.out) rfl ⟨rfl, HG2.out⟩
set_option maxRecDepth 10000 in
set_option maxHeartbeats 1000000 in
theorem sShifts_any (w : World) :
    Calls Tryz.prog 127 #[] w fun e w' => e = .returned (.agg (rowA 25 sv)) ∧ Chg nob w w' := by
  have HI := hik infoS
  go_enter Tryz.func127, Tryz.ntmps127
  go_wp2_with ((with_reducible refine wpList_store_all 167 (.tmp 0) (.tmp 1) rfl rfl w.heap.size 25 sv ?hx ?hy 167 lz ?hr HI.out (fun i _ => rfl) ?_); (case hx => rfl); (case hy => rfl); (case hr => exact rowIs_at _ _ rfl 25 lz _ _ rfl); intro W2 hr2 hg2; have HR2 := hik hr2; have HG2 := hik (Chg.near ((Chg.refl nob w).alloc _) hg2 (fun i e => by omega)); clear hr2 hg2)
  exact bodyPost_ret (results_all rfl _ _ w.heap.size rfl 25 _ sv _ HR2.out Tryz.underlying167 HI.out) rfl ⟨rfl, HG2.out⟩

/-- What lies where in the model's permutation. -/
structure PI (w W : World) (b3 b4 : Nat) (f : Nat → Value) : Prop where
  a : W.rowIs w.heap.size 154 25 f
  z : W.rowIs (w.heap.size + 1) 154 25 lz
  r : W.rowIs b3 165 24 rv
  s : W.rowIs b4 167 25 sv
  g : Chg nob w W
  o3 : w.heap.size + 1 < b3
  o4 : b3 < b4
theorem PI.chg {P : Nat → Prop} {w W W' : World} {b3 b4 : Nat} {f : Nat → Value} (h : PI w W b3 b4 f) (k : Chg P W W') (hp : ∀ i, P i → b4 < i) : PI w W' b3 b4 f :=
  ⟨rowIs_chg h.a k (fun x => by have := hp _ x; have := h.o3; have := h.o4; omega), rowIs_chg h.z k (fun x => by have := hp _ x; have := h.o3; have := h.o4; omega), rowIs_chg h.r k (fun x => by have := hp _ x; have := h.o4; omega), rowIs_chg h.s k (fun x => by have := hp _ x; omega), h.g.near k (fun i x => by have := hp _ x; have := h.o3; have := h.o4; omega), h.o3, h.o4⟩
theorem PI.keep {w W W' : World} {b3 b4 : Nat} {f : Nat → Value} (h : PI w W b3 b4 f) (k : Chg nob W W') : PI w W' b3 b4 f := h.chg k (fun _ x => x.elim)
theorem PI.drew {w W : World} {b3 b4 : Nat} {f : Nat → Value} (h : PI w W b3 b4 f) : PI w W.drew b3 b4 f := h.keep ((Chg.refl _ _).drew1)
theorem PI.lt {w W : World} {b3 b4 : Nat} {f : Nat → Value} (h : PI w W b3 b4 f) : b4 < W.heap.size := h.s.lt
theorem PI.setOut {w W : World} {b3 b4 : Nat} {f : Nat → Value} (h : PI w W b3 b4 f) (c i : Nat) (hc : b4 < c) (v : Value) : PI w (W.setCell ⟨c, i, none⟩ v) b3 b4 f :=
  h.chg (P := fun b => b = c) ((Chg.refl (fun b => b = c) W).setCell (p := ⟨c, i, none⟩) (fun _ => rfl) v) (fun j e => by subst e; exact hc)
theorem PI.setA {w W : World} {b3 b4 : Nat} {f g : Nat → Value} (h : PI w W b3 b4 f) (i : Nat) (v : Value) (e : ∀ j, j < 25 → (if j = i then v else f j) = g j) : PI w (W.setCell ⟨w.heap.size, i, none⟩ v) b3 b4 g :=
  ⟨(h.a.set i v).congr e, h.z.setOther (a := ⟨w.heap.size, i, none⟩) (by simp only [ne_eq]; omega) v, h.r.setOther (a := ⟨w.heap.size, i, none⟩) (by have := h.o3; simp only [ne_eq]; omega) v, h.s.setOther (a := ⟨w.heap.size, i, none⟩) (by have := h.o3; have := h.o4; simp only [ne_eq]; omega) v, h.g.setCell (p := ⟨w.heap.size, i, none⟩) (fun l => absurd l (by simp)) v, h.o3, h.o4⟩
theorem PI.alike {w W : World} {b3 b4 : Nat} {f g : Nat → Value} (h : PI w W b3 b4 f) (e : ∀ j, j < 25 → f j = g j) : PI w W b3 b4 g := ⟨h.a.congr e, h.z, h.r, h.s, h.g, h.o3, h.o4⟩

/-- Columns below x reckoned. -/
def cX (a : Nat → Lane) (x i : Nat) : Value := if i < x then lw (col a i) else .int .u64 0
theorem cX_set (a : Nat → Lane) (x i : Nat) : (if i = x then Value.int .u64 (bits .xor .u64 (bits .xor .u64 (bits .xor .u64 (bits .xor .u64 ((a x).toNat : Int) ((a (x + 5)).toNat : Int)) ((a (x + 10)).toNat : Int)) ((a (x + 15)).toNat : Int)) ((a (x + 20)).toNat : Int)) else cX a x i) = cX a (x + 1) i := by
  rw [xor64, xor64, xor64, xor64]
  unfold cX
  by_cases e : i = x
  · subst e; rw [if_pos rfl, if_pos (by omega)]; rfl
  · rw [if_neg e]
    by_cases h : i < x
    · rw [if_pos h, if_pos (by omega)]
    · rw [if_neg h, if_neg (by omega)]
/-- Lanes below n mixed. -/
def tX (a : Nat → Lane) (n i : Nat) : Value := if i < n then lw (th a i) else lw (a i)
theorem tX_set (a : Nat → Lane) (k i : Nat) : (if i = k then Value.int .u64 (bits .xor .u64 ((a k).toNat : Int) (bits .xor .u64 ((col a ((k + 4) % 5)).toNat : Int) ((rotl (col a ((k + 1) % 5)) 1).toNat : Int))) else tX a k i) = tX a (k + 1) i := by
  rw [xor64, xor64]
  unfold tX
  by_cases e : i = k
  · subst e; rw [if_pos rfl, if_pos (by omega)]; rfl
  · rw [if_neg e]
    by_cases h : i < k
    · rw [if_pos h, if_pos (by omega)]
    · rw [if_neg h, if_neg (by omega)]
/-- What is moved with the places below (x, y) done, column by column. -/
def pY (a : Nat → Lane) (x y i : Nat) : Value := if sx i < x ∨ (sx i = x ∧ i % 5 < y) then lw (pm a i) else .int .u64 0
theorem pY_set (a : Nat → Lane) (x y i : Nat) (hi : i < 25) (hx : x < 5) (hy : y < 5) : (if i = y + 5 * ((2 * x + 3 * y) % 5) then Value.int .u64 ((rotl (a (x + 5 * y)) (sh (x + 5 * y))).toNat : Int) else pY a x y i) = pY a x (y + 1) i := by
  have h1 := (src_at ⟨x, hx⟩ ⟨y, hy⟩)
  simp only at h1
  by_cases e : i = y + 5 * ((2 * x + 3 * y) % 5)
  · rw [if_pos e]
    rw [← e] at h1
    unfold pY
    rw [if_pos (.inr ⟨h1.1, by omega⟩)]
    unfold pm src lw
    rw [h1.1, h1.2]
  · rw [if_neg e]
    have h2 : ¬ (sx i = x ∧ i % 5 = y) := fun ⟨p, q⟩ => e (src_only ⟨x, hx⟩ ⟨y, hy⟩ ⟨i, hi⟩ p q)
    unfold pY
    by_cases h : sx i < x ∨ (sx i = x ∧ i % 5 < y)
    · rw [if_pos h, if_pos (by omega)]
    · rw [if_neg h, if_neg (by omega)]
theorem not64 (x : Lane) : bits .xor .u64 18446744073709551615 (x.toNat : Int) = ((~~~ x).toNat : Int) := by
  have h : (18446744073709551615 : Int) = ((BitVec.allOnes 64).toNat : Int) := by decide
  rw [h, xor64, BitVec.allOnes_xor]
/-- Rows mixed with the places below (x, y) done, column by column. -/
def cY (b t : Nat → Lane) (x y i : Nat) : Value := if i % 5 < x ∨ (i % 5 = x ∧ i / 5 < y) then lw (ch b i) else lw (t i)
theorem cY_set (b t : Nat → Lane) (x y i : Nat) (hx : x < 5) : (if i = x + 5 * y then Value.int .u64 (bits .xor .u64 ((b (x + 5 * y)).toNat : Int) (bits .and .u64 (bits .xor .u64 18446744073709551615 ((b ((x + 1) % 5 + 5 * y)).toNat : Int)) ((b ((x + 2) % 5 + 5 * y)).toNat : Int))) else cY b t x y i) = cY b t x (y + 1) i := by
  rw [not64, and64, xor64]
  by_cases e : i = x + 5 * y
  · subst e
    rw [if_pos rfl]
    unfold cY
    rw [if_pos (by omega)]
    unfold ch lw
    have h1 : (x + 5 * y) / 5 = y := by omega
    have h2 : (x + 5 * y) % 5 = x := by omega
    rw [h1, h2, Nat.mul_comm y 5, Nat.add_comm (5 * y) ((x + 2) % 5), Nat.add_comm (5 * y) ((x + 1) % 5), BitVec.and_comm]
  · rw [if_neg e]
    unfold cY
    by_cases h : i % 5 < x ∨ (i % 5 = x ∧ i / 5 < y)
    · rw [if_pos h, if_pos (by omega)]
    · rw [if_neg h, if_neg (by omega)]

end Go.Proofs.YtkpohajmcngjcaaGreatDoor
