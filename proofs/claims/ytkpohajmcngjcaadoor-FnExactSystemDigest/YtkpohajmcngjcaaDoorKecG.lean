/- What the model's hash and permutation of texts answer: contracts. Condition: a message of at most 2 to the 40 bytes. -/
import Derived.Test.YtkpohajmcngjcaaDoorKecR
import Derived.Test.YtkpohajmcngjcaaDoorBzaj
import Derived.Test.YtkpohajmcngjcaaDoorKecN
import Derived.BigRegion
namespace Go.Proofs.YtkpohajmcngjcaaDoor
open Go.ChangeShapes Go.WideShapes Go.ChangeAt Go.RowKit
set_option linter.unusedVariables false
set_option linter.unusedSimpArgs false

theorem zs_B (s : ByteArray) : isB (zs s) := fun i => ⟨zs_lo s i, zs_hi s i⟩

theorem or128 (v : Int) (h0 : 0 ≤ v) (h1 : v ≤ 1) : bits .or .u8 v 128 = v + 128 := by
  have : v = 0 ∨ v = 1 := by omega
  rcases this with rfl | rfl <;> decide
theorem pn_mod (n : Nat) : pn n % 136 = 0 := by unfold pn; omega
theorem pn_not (n m : Nat) (h1 : n < m) (h2 : m < pn n) : ¬ m % 136 = 0 := by unfold pn at h2; omega
/-- The state with the lanes below k of a block taken in. -/
def xX (a x : Nat → Lane) (k i : Nat) : Value := if i < k then lw (a i ^^^ x i) else lw (a i)
theorem xX_set (a x : Nat → Lane) (k i : Nat) : (if i = k then Value.int .u64 (bits .xor .u64 ((a k).toNat : Int) ((x k).toNat : Int)) else xX a x k i) = xX a x (k + 1) i := by
  rw [xor64]
  unfold xX
  by_cases e : i = k
  · subst e; rw [if_pos rfl, if_pos (by omega)]; rfl
  · rw [if_neg e]
    by_cases h : i < k
    · rw [if_pos h, if_pos (by omega)]
    · rw [if_neg h, if_neg (by omega)]

set_option maxRecDepth 100000 in
set_option maxHeartbeats 4000000 in
theorem sHash_any (s : ByteArray) (w : World) (hs : s.size ≤ 1048576) :
    Calls Tryd.prog 37 #[.string s] w fun e w' => e = .returned (.string (bt (lb (hst (pd (zs s) s.size) (s.size / 136 + 1))) 32)) ∧ Chg nob w w' := by
  obtain ⟨n, hn⟩ : ∃ n, n = s.size := ⟨_, rfl⟩
  obtain ⟨z, hzz⟩ : ∃ z, z = zs s := ⟨_, rfl⟩
  have hzB : isB z := by rw [hzz]; exact zs_B s
  obtain ⟨W0, cap0, hcv, HB0, HG0⟩ : ∃ W0 cap0, (convert 9 34 (.string s)).run Tryd.prog w = .ok (.slice (some ⟨w.heap.size, 0, none⟩) n cap0) W0 ∧ Hid (BRow W0 w.heap.size w.heap.size n cap0 z) ∧ Hid (Chg nob w W0) := by
    rw [hn, hzz]
    exact ⟨_, _, Go.Lib.run_convert_string_bytes w 9 34 5 s Tryd.underlying9 Tryd.underlying34 Tryd.underlying5, hik (BRow.of_string w 5 s), hik (chg_string w 5 s)⟩
  rw [← hn, ← hzz]
  rw [← hn] at hs
  have HZB := hik hzB
  clear hn hzz hzB
  obtain ⟨i0, hi, hz0, hz1, hz2⟩ := info_parts infoB
  have HI := hik hi
  have HZ0 := hik hz0
  have HZ1 := hik hz1
  have HZ2 := hik hz2
  clear hi hz0 hz1 hz2
  have HIA := hik infoA
  have hl0 := HB0.out.lt
  go_enter Tryd.func37, Tryd.ntmps37
  go_wp2_with (at_builtin; refine wpList_append_brow _ (.tmp 9) (.tmp 10) 34 rfl rfl 5 i0 (.int .u8 0) Tryd.underlying34 HI.out HZ0.out HZ1.out HZ2.out rfl w.heap.size w.heap.size n cap0 z (by simp; omega) rfl (HB0.out.keep ((Chg.refl nob W0).alloc _)) ⟨W0.heap.size, 0, none⟩ 1 1 rfl (by simp) (by omega) ?_; intro g1 cap1 W1 hb1 hg1; have B1 := hik (hb1.alike (y := pz z n) (fun i hi => by unfold pz; split <;> split <;> first | rfl | omega)); have G1 := hik (Chg.near (HG0.out.alloc _) hg1 (fun i e => e)); clear hb1 hg1)
  clear hcv hl0 HB0 HG0
  have hpn := pn_gt n
  have hpl := pn_le n
  go_loopw [3] (fun v W => ∃ m g cap : Nat, n < m ∧ m ≤ pn n ∧ v = .slice (some ⟨g, 0, none⟩) m cap ∧ Hid (BRow W w.heap.size g m cap (pz z n)) ∧ Hid (Chg nob w W)) (fun v _ => match v with | .slice _ m _ => pn n - m | _ => 0)
  case atStart => exact ⟨n + 1, g1, cap1, by omega, by omega, rfl, B1, G1⟩
  case round =>
    clear B1 G1
    obtain ⟨m, g, cap, hnm, hmp, rfl, HB, HG⟩ := hrel
    have hsz := HG.out.size
    by_cases hlt : m < pn n
    · have hmod : ¬ (m : Int) % 136 = 0 := by have := pn_not n m hnm hlt; omega
      have hmb : ((m : Int) % 136 != 0) = true := by simpa using hmod
      go_wp2_with (at_builtin; refine wpList_append_brow _ (.tmp 16) (.tmp 17) 34 rfl rfl 5 i0 (.int .u8 0) Tryd.underlying34 HI.out HZ0.out HZ1.out HZ2.out rfl w.heap.size g m cap (pz z n) (by simp; omega) rfl (HB.out.keep ((Chg.refl nob wr).alloc _)) ⟨wr.heap.size, 0, none⟩ 1 0 rfl (by simp) (by omega) ?_; intro g2 cap2 W2 hb2 hg2; have B2 := hik (hb2.alike (y := pz z n) (fun i hi => by unfold pz; repeat' split; all_goals first | rfl | omega)); have G2 := hik (Chg.near (HG.out.alloc _) hg2 (fun i e => e)); clear hb2 hg2)
      go_roundw
      case rel => exact ⟨m + 1, g2, cap2, by omega, by omega, rfl, B2, G2⟩
      case measure => simp; omega
    · obtain ⟨N, hN⟩ : ∃ N, N = pn n := ⟨_, rfl⟩
      obtain rfl : m = N := by omega
      have hmod : (m : Int) % 136 = 0 := by have := pn_mod n; omega
      have hmb : ((m : Int) % 136 != 0) = false := by simp [hmod]
      have e1 : ((m : Int) - 1).toNat = m - 1 := by omega
      have b1 : (0 : Int) ≤ (m : Int) - 1 := by omega
      have b2 : (m : Int) - 1 < (m : Int) := by omega
      have c1 : wr.cell? ⟨g, m - 1, none⟩ = some (.int .u8 (pz z n (m - 1))) := HB.out.at_ (m - 1) (by omega)
      have f1 := (HB.out.there (m - 1) (by have := HB.out.le; omega)).2
      have o1 := or128 (pz z n (m - 1)) (pz_end z n (m - 1) (by omega)).1 (pz_end z n (m - 1) (by omega)).2
      have B2 := hik ((HB.out.set (m - 1) (by omega) (pz z n (m - 1) + 128)).alike (y := pd z n) (fun i hi => by
        unfold pd
        by_cases e : i = m - 1
        · rw [if_pos e, if_pos (by omega), e]
        · rw [if_neg e, if_neg (by omega)]))
      have G2 := hik (HG.out.setCell (p := ⟨g, m - 1, none⟩) (fun l => absurd l (by have := HB.out.lo; simp; omega)) (.int .u8 (pz z n (m - 1) + 128)))
      have hgl := HB.out.lt
      have hle := HB.out.le
      have HN := hik hN
      have hm2 : m ≤ 1048712 := by omega
      clear hN hmp hpl hpn hlt
      obtain ⟨wa, hwa⟩ : ∃ x, x = wr := ⟨wr, rfl⟩
      subst hwa
      go_wp2_with ((with_reducible refine wpList_store_all 92 (.tmp 4) (.tmp 27) rfl rfl wa.heap.size 25 lz ?hx ?hy 92 lz ?hr HIA.out (fun i _ => rfl) ?_); (case hx => rfl); (case hy => rfl); (case hr => exact rowIs_at _ _ (by simp) 25 lz _ _ rfl); intro W3 hr3 hg3; have A3 := hik hr3; have B3 := hik ((B2.out.keep ((Chg.refl nob _).alloc _)).chg hg3 (by omega)); have G3 := hik (Chg.near (G2.out.alloc _) hg3 (fun i e => by omega)); clear hr3 hg3)
      clear B2 G2 c1 f1 o1 e1 b1 b2 HB HG hmb hmod
      have HP := hik (pd_B z n HZB.out)
      go_loopw [5] (fun i W => ∃ j : Nat, j ≤ n / 136 + 1 ∧ i = .int .i64 (136 * (j : Int)) ∧ Hid (BRow W w.heap.size g m cap (pd z n)) ∧ Hid (W.rowIs wa.heap.size 92 25 (lv (hst (pd z n) j))) ∧ Hid (Chg nob w W)) (fun i _ => m + 136 - (intOf i).toNat)
      case atStart => exact ⟨0, by omega, rfl, B3, hik (A3.out.congr (fun i _ => rfl)), G3⟩
      case round =>
        clear B3 A3 G3
        obtain ⟨j, hj, rfl, HB, HA, HG⟩ := hrel
        by_cases hjt : j < n / 136 + 1
        · have hjm : 136 * j + 136 ≤ m := by have := HN.out; unfold pn at this; omega
          have q1 : 136 * (j : Int) < (m : Int) := by omega
          have q2 : (0 : Int) ≤ 136 * (j : Int) := by omega
          have q3 : 136 * (j : Int) + 136 ≤ (m : Int) := by omega
          have q4 : 136 * (j : Int) + 136 ≤ (cap : Int) := by omega
          have q5 : (136 * (j : Int)).toNat = 136 * j := by omega
          have q6 : (136 * (j : Int) + 136).toNat = 136 * j + 136 := by omega
          have q7 : 136 * (j : Int) ≤ 136 * (j : Int) + 136 := by omega
          have hcv := convB (some ⟨g, 136 * j, none⟩) 136 (cap - 136 * j) (blk (pd z n) j) wr (fun i hi => ⟨g, 136 * j, rfl, HB.out.lt, HB.out.at_ (136 * j + i) (by omega)⟩)
          go_wp2_with fail
          refine (sLanes_any (bt (blk (pd z n) j) 136) _ (by rw [bt_size]; omega)).mono ?_
          rintro e W4 ⟨he, k4⟩
          have he' : e = .returned (.agg (la (ln (blk (pd z n) j) 136))) := by
            rw [he, bt_size]
            exact ret_of (congrArg Value.agg (rowA_congr (fun i _ => by
              unfold lv
              rw [ln_congr (fun k hk => bt_zs (blk (pd z n) j) 136 k hk (HP.out _).1 (HP.out _).2) i])))
          subst he'
          clear he
          have hs4 := k4.size
          have B4 := hik (HB.out.keep k4)
          have A4 := hik (rowIs_keep HA.out k4)
          have G4 := hik (HG.out.trans k4)
          have hla := HA.out.lt
          have hlb := HB.out.lt
          clear k4 hcv HB HA HG q1 q2 q3 q4 q5 q6 q7
          obtain ⟨X, hX⟩ : ∃ X, X = ln (blk (pd z n) j) 136 := ⟨_, rfl⟩
          rw [← hX]
          have HX := hik hX
          clear hX
          go_wp2_with ((with_reducible refine wpList_store_all 92 (.tmp 6) (.tmp 40) rfl rfl W4.heap.size 25 (lv X) ?hx ?hy 92 lz ?hr HIA.out (fun i _ => lv_one _ i) ?_); (case hx => rfl); (case hy => rfl); (case hr => exact rowIs_at _ _ rfl 25 lz _ _ rfl); intro W5 hr5 hg5; have X5 := hik hr5; have B5 := hik ((B4.out.keep ((Chg.refl nob _).alloc _)).chg hg5 (by omega)); have A5 := hik (rowIs_chg (A4.out.alloc _) hg5 (by omega)); have G5 := hik (Chg.near (G4.out.alloc _) hg5 (fun i e => by have := G4.out.size; omega)); clear hr5 hg5)
          clear B4 A4 G4
          obtain ⟨S, hS⟩ : ∃ S, S = hst (pd z n) j := ⟨_, rfl⟩
          rw [← hS] at A5
          have HS := hik hS
          clear hS
          go_loopw [7] (fun i W => ∃ k : Nat, k ≤ 25 ∧ i = .int .i64 k ∧ Hid (BRow W w.heap.size g m cap (pd z n)) ∧ Hid (W.rowIs wa.heap.size 92 25 (xX S X k)) ∧ Hid (W.rowIs W4.heap.size 92 25 (lv X)) ∧ Hid (Chg nob w W)) (fun i _ => 25 - (intOf i).toNat)
          case atStart => exact ⟨0, by omega, rfl, B5, hik (A5.out.congr (fun i _ => by unfold xX; rw [if_neg (by omega)]; rfl)), X5, G5⟩
          case round =>
            clear B5 A5 X5 G5
            obtain ⟨k, hk, rfl, HB, HA, HXX, HG⟩ := hrel
            by_cases hkt : k < 25
            · have hkt' : (k : Int) < 25 := by omega
              have c0 : wr.cell? ⟨wa.heap.size, k, none⟩ = some (.int .u64 ((S k).toNat : Int)) := (HA.out.cell hkt).trans (by unfold xX; rw [if_neg (by omega)]; rfl)
              have f0 := HA.out.frozen k
              have c1 : wr.cell? ⟨W4.heap.size, k, none⟩ = some (.int .u64 ((X k).toNat : Int)) := HXX.out.cell hkt
              have A2 := hik ((HA.out.set k (.int .u64 (bits .xor .u64 ((S k).toNat : Int) ((X k).toNat : Int)))).congr (g := xX S X (k + 1)) (fun i _ => xX_set S X k i))
              have X2 := hik (HXX.out.setOther (a := ⟨wa.heap.size, k, none⟩) (by simp only [ne_eq]; omega) (.int .u64 (bits .xor .u64 ((S k).toNat : Int) ((X k).toNat : Int))))
              have hk2 : Chg (fun b => b = wa.heap.size) wr (wr.setCell ⟨wa.heap.size, k, none⟩ (.int .u64 (bits .xor .u64 ((S k).toNat : Int) ((X k).toNat : Int)))).drew := ((Chg.refl (fun b => b = wa.heap.size) wr).setCell (p := ⟨wa.heap.size, k, none⟩) (fun _ => rfl) _).drew1
              have B2 := hik (HB.out.chg hk2 (by omega))
              have G2 := hik (HG.out.near hk2 (fun i e => by omega))
              clear hk2
              go_wp2
              go_region
              all_goals
                go_wp2
                go_roundw
                case rel => exact ⟨k + 1, by omega, by go_num, B2, A2, X2, G2⟩
                case measure => simp [intOf]; omega
            · obtain rfl : k = 25 := by omega
              have A1 := hik (HA.out.congr (g := lv (fun l => S l ^^^ X l)) (fun i hi => by unfold xX lv; rw [if_pos hi]))
              clear HA HXX
              go_wp2_with (first | ((with_reducible refine wpList_load_all 92 (.tmp 4) rfl rfl wa.heap.size ?hx 25 87 (lv (fun l => S l ^^^ X l)) 92 A1.out Tryd.underlying92 HIA.out ?_); (case hx => rfl)) | (go_at_call 59; refine (sPermute_any (fun l => S l ^^^ X l) _).mono ?_; rintro e W7 ⟨rfl, k7⟩; have G7 := hik (HG.out.trans k7); have A7 := hik (rowIs_keep A1.out k7); have B7 := hik (HB.out.keep k7); clear k7) | ((with_reducible refine wpList_store_all 92 (.tmp 4) (.tmp 54) rfl rfl wa.heap.size 25 (lv (prm (fun l => S l ^^^ X l) 24)) ?hx ?hy 92 (lv (fun l => S l ^^^ X l)) A7.out HIA.out (fun i _ => lv_one _ i) ?_); (case hx => rfl); (case hy => rfl); intro W8 hr8 hg8; have A8 := hik (show W8.rowIs wa.heap.size 92 25 (lv (hst (pd z n) (j + 1))) from by have q := hr8; rw [HS.out, HX.out] at q; exact q); have B8 := hik (B7.out.chg hg8 (by omega)); have G8 := hik (G7.out.near hg8 (fun i e => by omega)); clear hr8 hg8))
              go_roundw
              case rel => exact ⟨j + 1, by omega, by go_num, B8, A8, G8⟩
              case measure => simp [intOf]; omega
        · obtain rfl : j = n / 136 + 1 := by omega
          have q1 : ¬ 136 * ((n / 136 + 1 : Nat) : Int) < (m : Int) := by have := HN.out; unfold pn at this; omega
          go_wp2_with (first | ((with_reducible refine wpList_load_all 92 (.tmp 4) rfl rfl wa.heap.size ?hx 25 87 (lv (hst (pd z n) (n / 136 + 1))) 92 HA.out Tryd.underlying92 HIA.out ?_); (case hx => rfl)) | (go_at_call 60; refine (sText_any (hst (pd z n) (n / 136 + 1)) 32 _ (by omega) (by omega)).mono ?_; rintro e W7 ⟨rfl, k7⟩; have G7 := hik (HG.out.trans k7); clear k7))
          go_ret
          exact ⟨rfl, G7.out⟩


end Go.Proofs.YtkpohajmcngjcaaDoor
