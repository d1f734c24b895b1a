/- Several texts in one: What the model's hash and permutation of texts answer: contracts. Condition: a message of at most 2 to the 40 bytes. · What lastBlock answers: a contract. Condition: fewer than 136 bytes that can be read. · What Keccak256 answers: a contract. Conditions: bytes that can be read; the tables hold the shifts and the rounds' constants. -/
import Derived.Test.YtgiefpipflcbgadGreatDoorKecR
import Derived.Test.YtgiefpipflcbgadGreatDoorBzac
import Derived.Test.YtgiefpipflcbgadGreatDoorBzad
import Derived.BigRegion
import Derived.Laws.CopyOwn
import Derived.Test.YtgiefpipflcbgadGreatDoorBzak
import Derived.Deep.RegionWith
import Derived.Deep.RegionHeld3
import Derived.Deep.DeepCutAuto
import Derived.Deep.CutBlock
import Derived.Deep.DrawnRows
namespace Go.Proofs.YtgiefpipflcbgadGreatDoor
open Go.ChangeShapes Go.WideShapes Go.ChangeAt Go.RowKit
set_option linter.unusedVariables false
set_option linter.unusedSimpArgs false

theorem zs_B (s : ByteArray) : isB (zs s) := fun i => ⟨zs_lo s i, zs_hi s i⟩

theorem or128 (v : Int) (h0 : 0 ≤ v) (h1 : v ≤ 1) : bits .or .u8 v 128 = v + 128 := by
  have : v = 0 ∨ v = 1 := by omega
  rcases this with rfl | rfl <;> decide
theorem pn_mod (n : Nat) : pn n % 136 = 0 := by unfold pn; omega
theorem pn_not (n m : Nat) (h1 : n < m) (h2 : m < pn n) : ¬ m % 136 = 0 := by unfold pn at h2; omega
/-- The state with the lanes below k of a block taken in. -/
def xX (a x : Nat → Lane) (k i : Nat) : Value := if i < k then lw (a i ^^^ x i) else lw (a i)
theorem xX_set (a x : Nat → Lane) (k i : Nat) : (if i = k then Value.int .u64 (bits .xor .u64 ((a k).toNat : Int) ((x k).toNat : Int)) else xX a x k i) = xX a x (k + 1) i := by
  rw [xor64]
  unfold xX
  by_cases e : i = k
  · subst e; rw [if_pos rfl, if_pos (by omega)]; rfl
  · rw [if_neg e]
    by_cases h : i < k
    · rw [if_pos h, if_pos (by omega)]
    · rw [if_neg h, if_neg (by omega)]

set_option maxRecDepth 100000 in
set_option maxHeartbeats 4000000 in
theorem sHash_any (s : ByteArray) (w : World) (hs : s.size ≤ 1048576) :
    Calls Tryz.prog 89 #[.string s] w fun e w' => e = .returned (.string (bt (lb (hst (pd (zs s) s.size) (s.size / 136 + 1))) 32)) ∧ Chg nob w w' := by
  obtain ⟨n, hn⟩ : ∃ n, n = s.size := ⟨_, rfl⟩
  obtain ⟨z, hzz⟩ : ∃ z, z = zs s := ⟨_, rfl⟩
  have hzB : isB z := by rw [hzz]; exact zs_B s
  obtain ⟨W0, cap0, hcv, HB0, HG0⟩ : ∃ W0 cap0, (convert 9 22 (.string s)).run Tryz.prog w = .ok (.slice (some ⟨w.heap.size, 0, none⟩) n cap0) W0 ∧ Hid (BRow W0 w.heap.size w.heap.size n cap0 z) ∧ Hid (Chg nob w W0) := by
    rw [hn, hzz]
    exact ⟨_, _, Go.Lib.run_convert_string_bytes w 9 22 5 s Tryz.underlying9 Tryz.underlying22 Tryz.underlying5, hik (BRow.of_string w 5 s), hik (chg_string w 5 s)⟩
  rw [← hn, ← hzz]
  rw [← hn] at hs
  have HZB := hik hzB
  clear hn hzz hzB
  obtain ⟨i0, hi, hz0, hz1, hz2⟩ := info_parts infoB
  have HI := hik hi
  have HZ0 := hik hz0
  have HZ1 := hik hz1
  have HZ2 := hik hz2
  clear hi hz0 hz1 hz2
  have HIA := hik infoA
  have hl0 := HB0.out.lt
  go_enter Tryz.func89, Tryz.ntmps89
  go_wp2_with (at_builtin; refine wpList_append_brow _ (.tmp 9) (.tmp 10) 22 rfl rfl 5 i0 (.int .u8 0) Tryz.underlying22 HI.out HZ0.out HZ1.out HZ2.out rfl w.heap.size w.heap.size n cap0 z (by simp; omega) rfl (HB0.out.keep ((Chg.refl nob W0).alloc _)) ⟨W0.heap.size, 0, none⟩ 1 1 rfl (by simp) (by omega) ?_; intro g1 cap1 W1 hb1 hg1; have B1 := hik (hb1.alike (y := pz z n) (fun i hi => by unfold pz; split <;> split <;> first | rfl | omega)); have G1 := hik (Chg.near (HG0.out.alloc _) hg1 (fun i e => e)); clear hb1 hg1)
  clear hcv hl0 HB0 HG0
  have hpn := pn_gt n
  have hpl := pn_le n
  go_loopw [3] (fun v W => ∃ m g cap : Nat, n < m ∧ m ≤ pn n ∧ v = .slice (some ⟨g, 0, none⟩) m cap ∧ Hid (BRow W w.heap.size g m cap (pz z n)) ∧ Hid (Chg nob w W)) (fun v _ => match v with | .slice _ m _ => pn n - m | _ => 0)
  case atStart => exact ⟨n + 1, g1, cap1, by omega, by omega, rfl, B1, G1⟩
  case round =>
    clear B1 G1
    obtain ⟨m, g, cap, hnm, hmp, rfl, HB, HG⟩ := hrel
    have hsz := HG.out.size
    by_cases hlt : m < pn n
    · have hmod : ¬ (m : Int) % 136 = 0 := by have := pn_not n m hnm hlt; omega
      have hmb : ((m : Int) % 136 != 0) = true := by simpa using hmod
      go_wp2_with (at_builtin; refine wpList_append_brow _ (.tmp 16) (.tmp 17) 22 rfl rfl 5 i0 (.int .u8 0) Tryz.underlying22 HI.out HZ0.out HZ1.out HZ2.out rfl w.heap.size g m cap (pz z n) (by simp; omega) rfl (HB.out.keep ((Chg.refl nob wr).alloc _)) ⟨wr.heap.size, 0, none⟩ 1 0 rfl (by simp) (by omega) ?_; intro g2 cap2 W2 hb2 hg2; have B2 := hik (hb2.alike (y := pz z n) (fun i hi => by unfold pz; repeat' split; all_goals first | rfl | omega)); have G2 := hik (Chg.near (HG.out.alloc _) hg2 (fun i e => e)); clear hb2 hg2)
      go_roundw
      case rel => exact ⟨m + 1, g2, cap2, by omega, by omega, rfl, B2, G2⟩
      case measure => simp; omega
    · obtain ⟨N, hN⟩ : ∃ N, N = pn n := ⟨_, rfl⟩
      obtain rfl : m = N := by omega
      have hmod : (m : Int) % 136 = 0 := by have := pn_mod n; omega
      have hmb : ((m : Int) % 136 != 0) = false := by simp [hmod]
      have e1 : ((m : Int) - 1).toNat = m - 1 := by omega
      have b1 : (0 : Int) ≤ (m : Int) - 1 := by omega
      have b2 : (m : Int) - 1 < (m : Int) := by omega
      have c1 : wr.cell? ⟨g, m - 1, none⟩ = some (.int .u8 (pz z n (m - 1))) := HB.out.at_ (m - 1) (by omega)
      have f1 := (HB.out.there (m - 1) (by have := HB.out.le; omega)).2
      have o1 := or128 (pz z n (m - 1)) (pz_end z n (m - 1) (by omega)).1 (pz_end z n (m - 1) (by omega)).2
      have B2 := hik ((HB.out.set (m - 1) (by omega) (pz z n (m - 1) + 128)).alike (y := pd z n) (fun i hi => by
        unfold pd
        by_cases e : i = m - 1
        · rw [if_pos e, if_pos (by omega), e]
        · rw [if_neg e, if_neg (by omega)]))
      have G2 := hik (HG.out.setCell (p := ⟨g, m - 1, none⟩) (fun l => absurd l (by have := HB.out.lo; simp; omega)) (.int .u8 (pz z n (m - 1) + 128)))
      have hgl := HB.out.lt
      have hle := HB.out.le
      have HN := hik hN
      have hm2 : m ≤ 1048712 := by omega
      clear hN hmp hpl hpn hlt
      obtain ⟨wa, hwa⟩ : ∃ x, x = wr := ⟨wr, rfl⟩
      subst hwa
      go_wp2_with ((with_reducible refine wpList_store_all 134 (.tmp 4) (.tmp 27) rfl rfl wa.heap.size 25 lz ?hx ?hy 134 lz ?hr HIA.out (fun i _ => rfl) ?_); (case hx => rfl); (case hy => rfl); (case hr => exact rowIs_at _ _ (by simp) 25 lz _ _ rfl); intro W3 hr3 hg3; have A3 := hik hr3; have B3 := hik ((B2.out.keep ((Chg.refl nob _).alloc _)).chg hg3 (by omega)); have G3 := hik (Chg.near (G2.out.alloc _) hg3 (fun i e => by omega)); clear hr3 hg3)
      clear B2 G2 c1 f1 o1 e1 b1 b2 HB HG hmb hmod
      have HP := hik (pd_B z n HZB.out)
      go_loopw [5] (fun i W => ∃ j : Nat, j ≤ n / 136 + 1 ∧ i = .int .i64 (136 * (j : Int)) ∧ Hid (BRow W w.heap.size g m cap (pd z n)) ∧ Hid (W.rowIs wa.heap.size 134 25 (lv (hst (pd z n) j))) ∧ Hid (Chg nob w W)) (fun i _ => m + 136 - (intOf i).toNat)
      case atStart => exact ⟨0, by omega, rfl, B3, hik (A3.out.congr (fun i _ => rfl)), G3⟩
      case round =>
        clear B3 A3 G3
        obtain ⟨j, hj, rfl, HB, HA, HG⟩ := hrel
        by_cases hjt : j < n / 136 + 1
        · have hjm : 136 * j + 136 ≤ m := by have := HN.out; unfold pn at this; omega
          have q1 : 136 * (j : Int) < (m : Int) := by omega
          have q2 : (0 : Int) ≤ 136 * (j : Int) := by omega
          have q3 : 136 * (j : Int) + 136 ≤ (m : Int) := by omega
          have q4 : 136 * (j : Int) + 136 ≤ (cap : Int) := by omega
          have q5 : (136 * (j : Int)).toNat = 136 * j := by omega
          have q6 : (136 * (j : Int) + 136).toNat = 136 * j + 136 := by omega
          have q7 : 136 * (j : Int) ≤ 136 * (j : Int) + 136 := by omega
          have hcv := convB (some ⟨g, 136 * j, none⟩) 136 (cap - 136 * j) (blk (pd z n) j) wr (fun i hi => ⟨g, 136 * j, rfl, HB.out.lt, HB.out.at_ (136 * j + i) (by omega)⟩)
          go_wp2_with fail
          refine (sLanes_any (bt (blk (pd z n) j) 136) _ (by rw [bt_size]; omega)).mono ?_
          rintro e W4 ⟨he, k4⟩
          have he' : e = .returned (.agg (la (ln (blk (pd z n) j) 136))) := by
            rw [he, bt_size]
            exact ret_of (congrArg Value.agg (rowA_congr (fun i _ => by
              unfold lv
              rw [ln_congr (fun k hk => bt_zs (blk (pd z n) j) 136 k hk (HP.out _).1 (HP.out _).2) i])))
          subst he'
          clear he
          have hs4 := k4.size
          have B4 := hik (HB.out.keep k4)
          have A4 := hik (rowIs_keep HA.out k4)
          have G4 := hik (HG.out.trans k4)
          have hla := HA.out.lt
          have hlb := HB.out.lt
          clear k4 hcv HB HA HG q1 q2 q3 q4 q5 q6 q7
          obtain ⟨X, hX⟩ : ∃ X, X = ln (blk (pd z n) j) 136 := ⟨_, rfl⟩
          rw [← hX]
          have HX := hik hX
          clear hX
          go_wp2_with ((with_reducible refine wpList_store_all 134 (.tmp 6) (.tmp 40) rfl rfl W4.heap.size 25 (lv X) ?hx ?hy 134 lz ?hr HIA.out (fun i _ => lv_one _ i) ?_); (case hx => rfl); (case hy => rfl); (case hr => exact rowIs_at _ _ rfl 25 lz _ _ rfl); intro W5 hr5 hg5; have X5 := hik hr5; have B5 := hik ((B4.out.keep ((Chg.refl nob _).alloc _)).chg hg5 (by omega)); have A5 := hik (rowIs_chg (A4.out.alloc _) hg5 (by omega)); have G5 := hik (Chg.near (G4.out.alloc _) hg5 (fun i e => by have := G4.out.size; omega)); clear hr5 hg5)
          clear B4 A4 G4
          obtain ⟨S, hS⟩ : ∃ S, S = hst (pd z n) j := ⟨_, rfl⟩
          rw [← hS] at A5
          have HS := hik hS
          clear hS
          go_loopw [7] (fun i W => ∃ k : Nat, k ≤ 25 ∧ i = .int .i64 k ∧ Hid (BRow W w.heap.size g m cap (pd z n)) ∧ Hid (W.rowIs wa.heap.size 134 25 (xX S X k)) ∧ Hid (W.rowIs W4.heap.size 134 25 (lv X)) ∧ Hid (Chg nob w W)) (fun i _ => 25 - (intOf i).toNat)
          case atStart => exact ⟨0, by omega, rfl, B5, hik (A5.out.congr (fun i _ => by unfold xX; rw [if_neg (by omega)]; rfl)), X5, G5⟩
          case round =>
            clear B5 A5 X5 G5
            obtain ⟨k, hk, rfl, HB, HA, HXX, HG⟩ := hrel
            by_cases hkt : k < 25
            · have hkt' : (k : Int) < 25 := by omega
              have c0 : wr.cell? ⟨wa.heap.size, k, none⟩ = some (.int .u64 ((S k).toNat : Int)) := (HA.out.cell hkt).trans (by unfold xX; rw [if_neg (by omega)]; rfl)
              have f0 := HA.out.frozen k
              have c1 : wr.cell? ⟨W4.heap.size, k, none⟩ = some (.int .u64 ((X k).toNat : Int)) := HXX.out.cell hkt
              have A2 := hik ((HA.out.set k (.int .u64 (bits .xor .u64 ((S k).toNat : Int) ((X k).toNat : Int)))).congr (g := xX S X (k + 1)) (fun i _ => xX_set S X k i))
              have X2 := hik (HXX.out.setOther (a := ⟨wa.heap.size, k, none⟩) (by simp only [ne_eq]; omega) (.int .u64 (bits .xor .u64 ((S k).toNat : Int) ((X k).toNat : Int))))
              have hk2 : Chg (fun b => b = wa.heap.size) wr (wr.setCell ⟨wa.heap.size, k, none⟩ (.int .u64 (bits .xor .u64 ((S k).toNat : Int) ((X k).toNat : Int)))).drew := ((Chg.refl (fun b => b = wa.heap.size) wr).setCell (p := ⟨wa.heap.size, k, none⟩) (fun _ => rfl) _).drew1
              have B2 := hik (HB.out.chg hk2 (by omega))
              have G2 := hik (HG.out.near hk2 (fun i e => by omega))
              clear hk2
              go_wp2
              go_region
              all_goals
                go_wp2
                go_roundw
                case rel => exact ⟨k + 1, by omega, by go_num, B2, A2, X2, G2⟩
                case measure => simp [intOf]; omega
            · obtain rfl : k = 25 := by omega
              have A1 := hik (HA.out.congr (g := lv (fun l => S l ^^^ X l)) (fun i hi => by unfold xX lv; rw [if_pos hi]))
              clear HA HXX
              go_wp2_with (first | ((with_reducible refine wpList_load_all 134 (.tmp 4) rfl rfl wa.heap.size ?hx 25 128 (lv (fun l => S l ^^^ X l)) 134 A1.out Tryz.underlying134 HIA.out ?_); (case hx => rfl)) | (go_at_call 116; refine (sPermute_any (fun l => S l ^^^ X l) _).mono ?_; rintro e W7 ⟨rfl, k7⟩; have G7 := hik (HG.out.trans k7); have A7 := hik (rowIs_keep A1.out k7); have B7 := hik (HB.out.keep k7); clear k7) | ((with_reducible refine wpList_store_all 134 (.tmp 4) (.tmp 54) rfl rfl wa.heap.size 25 (lv (prm (fun l => S l ^^^ X l) 24)) ?hx ?hy 134 (lv (fun l => S l ^^^ X l)) A7.out HIA.out (fun i _ => lv_one _ i) ?_); (case hx => rfl); (case hy => rfl); intro W8 hr8 hg8; have A8 := hik (show W8.rowIs wa.heap.size 134 25 (lv (hst (pd z n) (j + 1))) from by have q := hr8; rw [HS.out, HX.out] at q; exact q); have B8 := hik (B7.out.chg hg8 (by omega)); have G8 := hik (G7.out.near hg8 (fun i e => by omega)); clear hr8 hg8))
              go_roundw
              case rel => exact ⟨j + 1, by omega, by go_num, B8, A8, G8⟩
              case measure => simp [intOf]; omega
        · obtain rfl : j = n / 136 + 1 := by omega
          have q1 : ¬ 136 * ((n / 136 + 1 : Nat) : Int) < (m : Int) := by have := HN.out; unfold pn at this; omega
          go_wp2_with (first | ((with_reducible refine wpList_load_all 134 (.tmp 4) rfl rfl wa.heap.size ?hx 25 128 (lv (hst (pd z n) (n / 136 + 1))) 134 HA.out Tryz.underlying134 HIA.out ?_); (case hx => rfl)) | (go_at_call 117; refine (sText_any (hst (pd z n) (n / 136 + 1)) 32 _ (by omega) (by omega)).mono ?_; rintro e W7 ⟨rfl, k7⟩; have G7 := hik (HG.out.trans k7); clear k7))
          go_ret
          exact ⟨rfl, G7.out⟩

end Go.Proofs.YtgiefpipflcbgadGreatDoor

namespace Go.Proofs.YtgiefpipflcbgadGreatDoor
open Go.ChangeShapes Go.WideShapes Go.ChangeAt Go.RowKit
set_option linter.unusedVariables false
set_option linter.unusedSimpArgs false

theorem setRow_row {w : World} {g : Nat} {old : Array Value} {t : TypeId} (h : w.heap[g]? = some (.cells old t (0, 0))) (c : Array Value) : (w.setRow g c).heap[g]? = some (.cells c t (0, 0)) := by
  simp [World.setRow, Array.getElem?_modify, h]
section
variable {P : Program}
/-- Bytes copied into the beginning of a row. -/
theorem wpList_copy_into {w : World} {ops : Array Oper} {rest : List Oper} {o : Oper} {a : Act} {Q : Exit → Act → World → Prop} (d s : Operand) (dT sT : TypeId) (hgd : o.guard = none)
    (ho : o.op = .call { callee := .builtin .copy, args := #[d, s], argTypes := #[dT, sT] }) (elem : TypeId) (hu : P.underlying dT = some (.slice elem)) (hsz : (P.info? elem).map (·.size) = some 1)
    (g m : Nat) (c : Option Addr) (r cap : Nat) (hd : a.eval d = .slice (some ⟨g, 0, none⟩) m m) (hs : a.eval s = .slice c r cap)
    (t : TypeId) (f0 : Nat → Value) (hr : w.rowIs g t m f0) (y : Nat → Int) (hv : RowV w c r (bb y)) (hl : r ≤ m)
    (h : ∀ w', w'.rowIs g t m (fun i => if i < r then bb y i else f0 i) → Chg (fun b => b = g) w w' → wpList P ops Q rest (a.put o.dst (goInt r)) w') : wpList P ops Q (o :: rest) a w := by
  by_cases h0 : r = 0
  · subst h0
    exact wpList_copy_nothing hgd d s dT sT ho elem hu hsz _ _ m m 0 cap hd hs (by simp) (h w (hr.congr (fun i _ => by simp)) (Chg.refl _ _))
  · obtain ⟨xb, xo, rfl, hxb, hc⟩ := hv.all (by omega)
    refine wpList_copy_own hgd d s dT sT ho elem hu hsz g 0 m m ⟨xb, xo, none⟩ r cap hd hs (rowA m f0) t (rowA_of hr) ((List.range r).map (bb y)) (by simp [Nat.min_eq_left hl]) ?_ (by rw [rowA_size]; simp; exact hl) (by intro v hv; simp at hv; obtain ⟨i, _, rfl⟩ := hv; rfl) ?_
    · intro j v hj
      by_cases hjr : j < r
      · rw [List.getElem?_map, List.getElem?_range hjr] at hj
        simp at hj
        subst hj
        rw [Go.WideShapes.add_plain]
        exact hc j hjr
      · rw [List.getElem?_eq_none (by simp; omega)] at hj
        cases hj
    · have e : (a.put o.dst (goInt ((List.range r).map (bb y)).length)) = a.put o.dst (goInt r) := by simp
      rw [e]
      refine h _ ?_ ?_
      · refine ⟨_, setRow_row (rowA_of hr) _, by simp [rowA_size]; omega, fun i hi => ?_⟩
        simp only [List.take_zero, List.nil_append, List.getElem?_toArray]
        by_cases hir : i < r
        · rw [List.getElem?_append_left (by simpa using hir), List.getElem?_map, List.getElem?_range hir]
          simp [hir]
        · rw [List.getElem?_append_right (by simpa using Nat.le_of_not_lt hir)]
          simp [rowA, hir]
          rw [show r + (i - r) = i by omega]
          exact ⟨i, List.getElem?_range hi, rfl⟩
      · refine ⟨rfl, rfl, rfl, by simp [World.setRow], fun k hk hp => ?_⟩
        simp only [World.setRow, Array.getElem?_modify]
        rw [if_neg (fun e => hp e.symm)]
end
/-- The last block's bytes. -/
def lbz (y : Nat → Int) (r i : Nat) : Int := (if i < r then y i else if i = r then 1 else 0) + (if i = 135 then 128 else 0)
theorem lbz_blk (z : Nat → Int) (n i : Nat) (hi : i < 136) : lbz (fun i => z (136 * (n / 136) + i)) (n - 136 * (n / 136)) i = blk (pd z n) (n / 136) i := by
  unfold lbz blk pd pz pn
  dsimp only
  repeat' split
  all_goals omega

/-- Nothing in a row of bytes. -/
def b0 (_ : Nat) : Value := .int .u8 0
theorem infoBl : (Tryz.prog.info? 167).map (fun i => (i.zero, i.size)) = some (some (.agg (rowA 136 b0)), 136) := by kernel_rfl
theorem infoB1 : (Tryz.prog.info? 5).map (·.size) = some 1 := by kernel_rfl

theorem lbz_set1 (y : Nat → Int) (r i : Nat) (hi : i < 136) (h : r = 135) : (if i = 135 then Value.int .u8 129 else if i = r then .int .u8 1 else if i < r then bb y i else b0 i) = bb (lbz y r) i := by
  unfold bb b0 lbz
  repeat' split
  all_goals first | omega | rfl | (congr 1; omega)
theorem lbz_set0 (y : Nat → Int) (r i : Nat) (hi : i < 136) (h : r < 135) : (if i = 135 then Value.int .u8 128 else if i = r then .int .u8 1 else if i < r then bb y i else b0 i) = bb (lbz y r) i := by
  unfold bb b0 lbz
  repeat' split
  all_goals first | omega | rfl | (congr 1; omega)

set_option maxRecDepth 100000 in
set_option maxHeartbeats 1000000 in
theorem lastBlock_any (c : Option Addr) (r cap : Nat) (y : Nat → Int) (w : World) (hv : Hid (RowV w c r (bb y))) (hr : r < 136) :
    Calls Tryz.prog 135 #[.slice c r cap] w fun e w' => e = .returned (.string (bt (lbz y r) 136)) ∧ Chg nob w w' := by
  have hz := (zero_of_info infoBl).1
  have HB1 := hik infoB1
  have hr' : (r : Int) < 136 := by omega
  have x1 : bits .xor .u8 0 1 = 1 := by decide
  have x2 : bits .xor .u8 0 128 = 128 := by decide
  have x3 : bits .xor .u8 1 128 = 129 := by decide
  by_cases h5 : r = 135
  · have H5 := hik h5
    clear h5
    go_enter Tryz.func135, Tryz.ntmps135
    go_wp2_with ((with_reducible refine wpList_copy_into (.tmp 4) (.tmp 5) 22 22 rfl rfl 5 Tryz.underlying22 HB1.out w.heap.size 136 c r cap ?hd ?hs 167 b0 (rowIs_new w 136 b0 _) y ?hv (by omega) ?_); (case hd => rfl); (case hs => rfl); (case hv => exact hv.out.keep ((Chg.refl _ _).alloc _)); intro W1 hr1 hg1; have R1 := hik hr1; have G1 := hik (Chg.near ((Chg.refl nob w).alloc _) hg1 (fun i e => by omega)); clear hr1 hg1; have f1 := R1.out.frozen r; have c1 : W1.cell? ⟨w.heap.size, r, none⟩ = some (.int .u8 0) := ((R1.out.cell (i := r) (by omega)).trans (by simp [b0])); have R2 := hik (R1.out.set r (.int .u8 1)); have f2 := R2.out.frozen 135; have c2 : (W1.setCell ⟨w.heap.size, r, none⟩ (.int .u8 1)).cell? ⟨w.heap.size, 135, none⟩ = some (.int .u8 1) := ((R2.out.cell (i := 135) (by omega)).trans (congrArg some (if_pos H5.out.symm))); have R3 := hik ((R2.out.set 135 (.int .u8 129)).congr (g := bb (lbz y r)) (fun i hi => lbz_set1 y r i (by omega) H5.out)); have hcv := convB (some ⟨w.heap.size, 0, none⟩) 136 136 (lbz y r) _ (RowV.of_row R3.out (Nat.le_refl _)))
    go_ret
    exact ⟨rfl, (G1.out.setCell (p := ⟨w.heap.size, r, none⟩) (fun l => absurd l (by simp)) _).setCell (p := ⟨w.heap.size, 135, none⟩) (fun l => absurd l (by simp)) _⟩
  · go_enter Tryz.func135, Tryz.ntmps135
    go_wp2_with ((with_reducible refine wpList_copy_into (.tmp 4) (.tmp 5) 22 22 rfl rfl 5 Tryz.underlying22 HB1.out w.heap.size 136 c r cap ?hd ?hs 167 b0 (rowIs_new w 136 b0 _) y ?hv (by omega) ?_); (case hd => rfl); (case hs => rfl); (case hv => exact hv.out.keep ((Chg.refl _ _).alloc _)); intro W1 hr1 hg1; have R1 := hik hr1; have G1 := hik (Chg.near ((Chg.refl nob w).alloc _) hg1 (fun i e => by omega)); clear hr1 hg1; have f1 := R1.out.frozen r; have c1 : W1.cell? ⟨w.heap.size, r, none⟩ = some (.int .u8 0) := ((R1.out.cell (i := r) (by omega)).trans (by simp [b0])); have R2 := hik (R1.out.set r (.int .u8 1)); have f2 := R2.out.frozen 135; have c2 : (W1.setCell ⟨w.heap.size, r, none⟩ (.int .u8 1)).cell? ⟨w.heap.size, 135, none⟩ = some (.int .u8 0) := ((R2.out.cell (i := 135) (by omega)).trans (congrArg some ((if_neg (by omega)).trans (if_neg (by omega))))); have R3 := hik ((R2.out.set 135 (.int .u8 128)).congr (g := bb (lbz y r)) (fun i hi => lbz_set0 y r i (by omega) (by omega))); have hcv := convB (some ⟨w.heap.size, 0, none⟩) 136 136 (lbz y r) _ (RowV.of_row R3.out (Nat.le_refl _)))
    go_ret
    exact ⟨rfl, (G1.out.setCell (p := ⟨w.heap.size, r, none⟩) (fun l => absurd l (by simp)) _).setCell (p := ⟨w.heap.size, 135, none⟩) (fun l => absurd l (by simp)) _⟩

end Go.Proofs.YtgiefpipflcbgadGreatDoor

namespace Go.Proofs.YtgiefpipflcbgadGreatDoor
open Go.ChangeShapes Go.WideShapes Go.ChangeAt Go.RowKit
set_option linter.unusedVariables false
set_option linter.unusedSimpArgs false

/-- The hash of a message. -/
def kh (z : Nat → Int) (n : Nat) : ByteArray := if 65536 < n then ⟨#[]⟩ else bt (lb (hst (pd z n) (n / 136 + 1))) 32
theorem run_load_all {P : Program} {w : World} {g n : Nat} {t e : TypeId} {f : Nat → Value} (hr : w.rowIs g t n f) (hu : P.underlying t = some (.array n e)) (hi : (P.info? t).map (·.size) = some n) :
    (Instr.loadAt t (.pointer (some ⟨g, 0, none⟩))).run P w = .ok (.agg (rowA n f)) w := by
  simp only [Instr.loadAt, Instr.sureAddr, Sem.run_bind, Sem.run_pure, Result.andThen]
  exact run_loadVar_row w g t t (rowA n f) (0, 0) (.array n e) (rowA_of hr) hu rfl (by rw [rowA_size]; exact hi)
theorem run_store_all {P : Program} {w : World} {g n : Nat} {t : TypeId} {f f0 : Nat → Value} (hr : w.rowIs g t n f0) (hi : (P.info? t).map (·.size) = some n) (h1 : ∀ i, i < n → (f i).oneCell' = true) :
    (Instr.storeAt t (.pointer (some ⟨g, 0, none⟩)) (.agg (rowA n f))).run P w = .ok () (w.setRow g (rowA n f)) := by
  simp only [Instr.storeAt, Instr.sureAddr, Sem.run_bind, Sem.run_pure, Result.andThen]
  refine run_storeVar_row w g t t (rowA n f0) (rowA n f) (rowA_of hr) (by rw [rowA_size]; exact hi) (by rw [rowA_size, rowA_size]) ?_
  rw [Array.all_eq_true_iff_forall_mem]
  intro v hv
  simp only [rowA, List.mem_toArray, List.mem_map, List.mem_range] at hv
  obtain ⟨i, hi, rfl⟩ := hv
  exact h1 i hi
theorem rowIs_setRow {w : World} {g n : Nat} {t : TypeId} {f f0 : Nat → Value} (hr : w.rowIs g t n f0) : (w.setRow g (rowA n f)).rowIs g t n f := rowIs_of (setRow_row (rowA_of hr) _)
theorem chg_setRow (w : World) (g : Nat) (c : Array Value) : Chg (fun b => b = g) w (w.setRow g c) :=
  ⟨rfl, rfl, rfl, by simp [World.setRow], fun k hk hp => by
    simp only [World.setRow, Array.getElem?_modify]
    rw [if_neg (fun e => hp e.symm)]⟩

/-- A whole state out of memory, into memory. -/
def loadLn (v : Value) : Sem Value := Instr.loadAt 160 v
def storeLn (v x : Value) : Sem Unit := Instr.storeAt 160 v x
theorem exec_loadLn (a : Act) (dst : Option Tmp) (x : Operand) (ty : TypeId) (pos : String) (after : Array Edge) (guard : Option (Nat × Bool)) :
    execOp a.eval { dst, op := .load 160 x, type := ty, pos, after, guard } = (do pure (.value (← loadLn (a.eval x)))) := rfl
theorem exec_storeLn (a : Act) (dst : Option Tmp) (x y : Operand) (ty : TypeId) (pos : String) (after : Array Edge) (guard : Option (Nat × Bool)) :
    execOp a.eval { dst, op := .store 160 x y, type := ty, pos, after, guard } = (do storeLn (a.eval x) (a.eval y); pure .skip) := rfl
attribute [local go_sem ↓] exec_loadLn exec_storeLn Go.wp_at_zero Go.wp_at_succ

theorem pd_mid (z : Nat → Int) (n j i : Nat) (h : 136 * j + i < n) : z (136 * j + i) = blk (pd z n) j i := by
  have := pn_gt n
  unfold blk pd pz
  rw [if_neg (by omega), if_pos h]

theorem lbz_B (z : Nat → Int) (j k i : Nat) (hz : isB z) (hk : k < 136) : 0 ≤ lbz (fun i => z (136 * j + i)) k i ∧ lbz (fun i => z (136 * j + i)) k i < 256 := by
  have h := hz (136 * j + i)
  unfold lbz
  dsimp only
  repeat' split
  all_goals omega

set_option maxRecDepth 100000 in
set_option maxHeartbeats 4000000 in
theorem keccak_any (c : Option Addr) (n cap : Nat) (z : Nat → Int) (w : World) (hv : Hid (RowV w c n (bb z))) (hz : Hid (isB z)) (ht : Hid (Tabs w)) (hn : n ≤ 1099511627776) (hcap : n ≤ cap) (hcm : (cap : Int) ≤ 9223372036854775807) :
    Calls Tryz.prog 128 #[.slice c n cap] w fun e w' => e = .returned (.string (bt (lb (hst (pd z n) (n / 136 + 1))) 32)) ∧ Chg nob w w' := by
  have HI := hik infoL
  have HP := hik (pd_B z n hz.out)
  go_enter Tryz.func128, Tryz.ntmps128
  go_wp2
  go_loopw [0] (fun v W => ∃ (j k cap' : Nat) (c' : Option Addr), n = 136 * j + k ∧ k ≤ cap' ∧ (cap' : Int) ≤ 9223372036854775807 ∧ v = .slice c' k cap' ∧ Hid (RowV w c' k (bb (fun i => z (136 * j + i)))) ∧ Hid (W.rowIs w.heap.size 160 25 (lv (hst (pd z n) j))) ∧ Hid (Chg nob w W)) (fun v _ => match v with | .slice _ k _ => k | _ => 0)
  case atStart => exact ⟨0, n, cap, c, by omega, hcap, hcm, rfl, hik (hv.out.congr (fun i _ => by unfold bb; simp)), hik (rowIs_at _ _ rfl 25 _ _ _ rfl), hik ((Chg.refl _ _).alloc _)⟩
  case round =>
    obtain ⟨j, k, cap', c', hnk, hkc, hcm', rfl, HV, HS, HG⟩ := hrel
    have HN := hik hnk
    by_cases hlt : 136 ≤ k
    · have hlt' : (136 : Int) ≤ (k : Int) := by omega
      have hkc' : (k : Int) ≤ (cap' : Int) := by omega
      have hc136 : (136 : Int) ≤ (cap' : Int) := by omega
      obtain ⟨xb, xo, rfl, hxb, hcell⟩ := HV.out.all (by omega)
      have HX := hik hcell
      clear hcell hnk
      have hld : (loadLn (.pointer (some ⟨w.heap.size, 0, none⟩))).run Tryz.prog wr.drew = .ok (.agg (rowA 25 (lv (hst (pd z n) j)))) wr.drew := run_load_all (P := Tryz.prog) (w := wr.drew) HS.out Tryz.underlying160 HI.out
      have hcv := convB (some ⟨xb, xo, none⟩) 136 cap' (fun i => z (136 * j + i)) wr.drew (RowV.keep (show RowV w (some ⟨xb, xo, none⟩) 136 _ from fun i hi => ⟨xb, xo, rfl, hxb, HX.out i (by omega)⟩) HG.out.drew1)
      go_wp2
      go_region_with (first | (go_at_call 133; refine (taking_any (hst (pd z n) j) (bt (fun i => z (136 * j + i)) 136) _ (by rw [bt_size]; omega)).mono ?_; rintro e W1 ⟨rfl, k1⟩; have G1 := hik (HG.out.drew1.trans k1); have S1 := hik (rowIs_keep HS.out.drew k1); clear k1) | (go_at_call 134; refine (permuted_any _ _ (hik (ht.out.keep G1.out))).mono ?_; rintro e W2 ⟨rfl, k2⟩; have G2 := hik (G1.out.trans k2); have S2 := hik (rowIs_keep S1.out k2); clear k2; have hst2 : (storeLn (.pointer (some ⟨w.heap.size, 0, none⟩)) (.agg (la (prm (tk (hst (pd z n) j) (zs (bt (fun i => z (136 * j + i)) 136)) (bt (fun i => z (136 * j + i)) 136).size) 24)))).run Tryz.prog W2 = .ok () (W2.setRow w.heap.size (la (prm (tk (hst (pd z n) j) (zs (bt (fun i => z (136 * j + i)) 136)) (bt (fun i => z (136 * j + i)) 136).size) 24))) := run_store_all (P := Tryz.prog) S2.out HI.out (fun i _ => lv_one _ i)))
      all_goals
        have HR := hik ((rowIs_setRow (f := lv (prm (tk (hst (pd z n) j) (zs (bt (fun i => z (136 * j + i)) 136)) (bt (fun i => z (136 * j + i)) 136).size) 24)) S2.out).congr (g := lv (hst (pd z n) (j + 1))) (fun i hi => by
          unfold lv
          rw [bt_size, hst_take (pd z n) HP.out j (zs (bt (fun i => z (136 * j + i)) 136)) (fun i hi => (bt_zs (fun i => z (136 * j + i)) 136 i hi (hz.out _).1 (hz.out _).2).trans (pd_mid z n j i (by have := HN.out; omega))) i hi]))
        have HG2 := hik (G2.out.near (chg_setRow W2 w.heap.size (la (prm (tk (hst (pd z n) j) (zs (bt (fun i => z (136 * j + i)) 136)) (bt (fun i => z (136 * j + i)) 136).size) 24))) (fun i e => by omega))
        clear hst2 S2 G2 S1 G1
        by_cases hq : cap' = 136
        · have hq' : (cap' : Int) = 136 := by omega
          have hk6 : k = 136 := by omega
          subst hk6
          subst hq
          go_wp2
          go_roundw
          case rel => exact ⟨j + 1, 0, 0, _, by have := HN.out; omega, by omega, by omega, rfl, hik (fun i hi => absurd hi (by omega)), HR, HG2⟩
          case measure => simp
        · have hq' : (136 : Int) < (cap' : Int) := by omega
          have hq2 : ¬ (cap' : Int) - 136 = 0 := by omega
          have hq3 : ¬ cap' - 136 = 0 := by omega
          go_wp2
          go_roundw
          case rel => exact ⟨j + 1, k - 136, cap' - 136, some ⟨xb, xo + 136, none⟩, by have := HN.out; omega, by omega, by omega, rfl, hik (fun i hi => ⟨xb, xo + 136, rfl, hxb, by
            have q := HX.out (136 + i) (by omega)
            rw [← Nat.add_assoc] at q
            rw [q]
            show some (Value.int .u8 (z (136 * j + (136 + i)))) = some (Value.int .u8 (z (136 * (j + 1) + i)))
            rw [show 136 * j + (136 + i) = 136 * (j + 1) + i by omega]⟩), HR, HG2⟩
          case measure => simp; omega
    · have hlt' : ¬ (136 : Int) ≤ (k : Int) := by omega
      have hj : j = n / 136 := by omega
      have hk : k = n - 136 * (n / 136) := by omega
      have HJ := hik hj
      have HKK := hik hk
      clear hnk hj hk
      have hld : (loadLn (.pointer (some ⟨w.heap.size, 0, none⟩))).run Tryz.prog wr.drew = .ok (.agg (rowA 25 (lv (hst (pd z n) j)))) wr.drew := run_load_all (P := Tryz.prog) (w := wr.drew) HS.out Tryz.underlying160 HI.out
      go_wp2
      go_region_with (first | (go_at_call 135; refine (lastBlock_any c' k cap' (fun i => z (136 * j + i)) _ (hik (HV.out.keep HG.out.drew1)) (by omega)).mono ?_; rintro e W1 ⟨rfl, k1⟩; have G1 := hik (HG.out.drew1.trans k1); have hld1 : (loadLn (.pointer (some ⟨w.heap.size, 0, none⟩))).run Tryz.prog W1 = .ok (.agg (rowA 25 (lv (hst (pd z n) j)))) W1 := run_load_all (P := Tryz.prog) (w := W1) (rowIs_keep HS.out.drew k1) Tryz.underlying160 HI.out; clear k1) | (go_at_call 133; refine (taking_any (hst (pd z n) j) (bt (lbz (fun i => z (136 * j + i)) k) 136) _ (by rw [bt_size]; omega)).mono ?_; rintro e W2 ⟨rfl, k2⟩; have G2 := hik (G1.out.trans k2); clear k2) | (go_at_call 134; refine (permuted_any _ _ (hik (ht.out.keep G2.out))).mono ?_; rintro e W3 ⟨rfl, k3⟩; have G3 := hik (G2.out.trans k3); clear k3) | (go_at_call 136; refine (firstBytes_any _ 32 _ (by omega)).mono ?_; rintro e W4 ⟨rfl, k4⟩; have G4 := hik (G3.out.trans k4); clear k4))
      all_goals
        go_wp2
        go_ret
        refine ⟨ret_of (congrArg Value.string ?_), G4.out⟩
        rw [bt_size]
        apply bt_congr
        intro i hi
        have hs := hst_take (pd z n) HP.out j (zs (bt (lbz (fun i => z (136 * j + i)) k) 136)) (fun i hi => (bt_zs (lbz (fun i => z (136 * j + i)) k) 136 i hi (lbz_B z j k i hz.out (by omega)).1 (lbz_B z j k i hz.out (by omega)).2).trans (by rw [HJ.out, HKK.out]; exact lbz_blk z n i hi))
        unfold lb by8
        rw [hs (i / 8) (by omega), HJ.out]

set_option maxHeartbeats 1000000 in
theorem keccak256_any (c : Option Addr) (n cap : Nat) (z : Nat → Int) (w : World) (hv : Hid (RowV w c n (bb z))) (hz : Hid (isB z)) (ht : Hid (Tabs w)) (hn : n ≤ 1099511627776) (hcap : n ≤ cap) (hcm : (cap : Int) ≤ 9223372036854775807) :
    Calls Tryz.prog 161 #[.slice c n cap] w fun e w' => e = .returned (.string (kh z n)) ∧ Chg nob w w' := by
  by_cases h1 : 65536 < n
  · have h1' : 65536 < (n : Int) := by omega
    have hp : kh z n = ⟨#[]⟩ := by unfold kh; rw [if_pos h1]
    rw [hp]
    go_enter Tryz.func161, Tryz.ntmps161
    go_wp2
    go_ret
    exact ⟨rfl, Chg.refl _ _⟩
  have h1' : ¬ 65536 < (n : Int) := by omega
  have hp : kh z n = bt (lb (hst (pd z n) (n / 136 + 1))) 32 := by unfold kh; rw [if_neg h1]
  rw [hp]
  clear hp h1
  go_enter Tryz.func161, Tryz.ntmps161
  go_wp2_with (go_at_call 128; refine (keccak_any c n cap z _ hv hz ht hn hcap hcm).mono ?_; rintro e W1 ⟨rfl, k1⟩)
  go_ret
  exact ⟨rfl, k1⟩

end Go.Proofs.YtgiefpipflcbgadGreatDoor
