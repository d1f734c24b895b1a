/- Several texts in one: What the model's lanes, texts and turns are: contracts. Conditions: a text of at most 200 bytes; at most 200 bytes are asked for. · What the model's tables hold, and words for the walk of the model's permutation: contracts. No condition. -/
import Derived.Test.YtkpohajmcngjcaaDoorBzbj
namespace Go.Proofs.YtkpohajmcngjcaaDoor
open Go.ChangeShapes Go.WideShapes Go.ChangeAt Go.RowKit
set_option linter.unusedVariables false
set_option linter.unusedSimpArgs false

theorem infoA : (Tryd.prog.info? 92).map (·.size) = some 25 := by kernel_rfl

set_option maxHeartbeats 1000000 in
theorem sTurn_any (x : Lane) (n : Nat) (hn : (n : Int) ≤ 64) (w : World) :
    Calls Tryd.prog 79 #[.int .u64 (x.toNat : Int), .int .u64 (n : Int)] w fun e w' => e = .returned (.int .u64 ((rotl x n).toNat : Int)) ∧ w' = w := by
  have hx := lane_lt x
  by_cases h0 : n = 0
  · subst h0
    rw [rotl_zero]
    go_enter Tryd.func79, Tryd.ntmps79
    go_wp2
    go_ret
    exact ⟨rfl, rfl⟩
  · obtain ⟨m, rfl⟩ : ∃ m, n = m + 1 := ⟨n - 1, by omega⟩
    have h1' : ¬ ((m + 1 : Nat) : Int) = 0 := by omega
    clear h0 hx
    go_enter Tryd.func79, Tryd.ntmps79
    go_wp2
    go_ret
    exact ⟨ret_of (congrArg (Value.int .u64) (by rw [shl64, shr64, or64]; unfold rotl; rw [show 64 - (m + 1) = 63 - m by omega])), rfl⟩
theorem sTurn_one (x : Lane) (w : World) :
    Calls Tryd.prog 79 #[.int .u64 (x.toNat : Int), .int .u64 1] w fun e w' => e = .returned (.int .u64 ((rotl x 1).toNat : Int)) ∧ w' = w := sTurn_any x 1 (by decide) w

theorem ln_set (z : Nat → Int) (k i : Nat) : (if i = k / 8 then Value.int .u64 (bits .or .u64 ((ln z k (k / 8)).toNat : Int) ((bl z k).toNat : Int)) else lv (ln z k) i) = lv (ln z (k + 1)) i := by
  rw [or64]
  unfold lv lw
  rw [ln]
  by_cases e : i = k / 8
  · subst e; simp
  · simp [e]

set_option maxHeartbeats 1000000 in
theorem sLanes_any (s : ByteArray) (w : World) (hs : s.size ≤ 200) :
    Calls Tryd.prog 58 #[.string s] w fun e w' => e = .returned (.agg (la (ln (zs s) s.size))) ∧ Chg nob w w' := by
  have HI := hik infoA
  have hs' : (s.size : Int) ≤ 200 := by omega
  go_enter Tryd.func58, Tryd.ntmps58
  go_wp2_with ((with_reducible refine wpList_store_all 92 (.tmp 3) (.tmp 5) rfl rfl (w.heap.size + 1) 25 lz ?hx ?hy 92 lz ?hr HI.out (fun i _ => rfl) ?_); (case hx => rfl); (case hy => rfl); (case hr => exact rowIs_at _ _ (by simp) 25 lz _ _ rfl); intro W2 hr2 hg2; have HM := hik hr2; have HG := hik (Chg.near (((Chg.refl nob w).alloc _).alloc _) hg2 (fun i e => by omega)); have HZ := hik (rowIs_chg ((rowIs_at w w.heap.size rfl 25 lz 92 _ rfl).alloc _) hg2 (by omega)); clear hr2 hg2)
  go_loopw [4] (fun i W => ∃ k : Nat, k ≤ s.size ∧ i = .int .i64 k ∧ Hid (W.rowIs (w.heap.size + 1) 92 25 (lv (ln (zs s) k))) ∧ Hid (W.rowIs w.heap.size 92 25 lz) ∧ Hid (Chg nob w W)) (fun i _ => s.size - (intOf i).toNat)
  case atStart => exact ⟨0, by omega, rfl, HM, HZ, HG⟩
  case round =>
    clear HM HZ HG
    obtain ⟨k, hk, rfl, HS, HZ, HG⟩ := hrel
    by_cases hlt : k < s.size
    · have hlt' : (k : Int) < (s.size : Int) := by omega
      have c0 : wr.cell? ⟨w.heap.size + 1, k / 8, none⟩ = some (.int .u64 ((ln (zs s) k (k / 8)).toNat : Int)) := HS.out.cell (by omega)
      have f0 := HS.out.frozen (k / 8)
      have e0 : ((k : Int) / 8).toNat = k / 8 := by omega
      have b0 : (0 : Int) ≤ (k : Int) / 8 := by omega
      have b1 : (k : Int) / 8 < 25 := by omega
      have z1 := zs_at s k hlt
      have z2 : IntKind.u64.wrap (zs s k) = zs s k := by rw [IntKind.wrap_u64]; have := zs_lo s k; have := zs_hi s k; omega
      have z3 := bl_nat (zs s) k (zs_lo s k) (zs_hi s k)
      have z4 : IntKind.u64.wrap (8 * ((k : Int) % 8)) = 8 * ((k : Int) % 8) := by rw [IntKind.wrap_u64]; omega
      have S2 := hik ((HS.out.set (k / 8) (.int .u64 (bits .or .u64 ((ln (zs s) k (k / 8)).toNat : Int) ((bl (zs s) k).toNat : Int)))).congr (g := lv (ln (zs s) (k + 1))) (fun i hi => ln_set (zs s) k i))
      have Z2 := hik (HZ.out.setOther (a := ⟨w.heap.size + 1, k / 8, none⟩) (by simp only [ne_eq]; omega) (.int .u64 (bits .or .u64 ((ln (zs s) k (k / 8)).toNat : Int) ((bl (zs s) k).toNat : Int))))
      have G2 := hik (HG.out.setCell (p := ⟨w.heap.size + 1, k / 8, none⟩) (fun l => absurd l (by simp)) (.int .u64 (bits .or .u64 ((ln (zs s) k (k / 8)).toNat : Int) ((bl (zs s) k).toNat : Int))))
      go_wp2
      go_region
      all_goals
        go_wp2
        go_roundw
        case rel => exact ⟨k + 1, by omega, by go_num, S2, Z2, hik G2.out.drew1⟩
        case measure => simp [intOf]; omega
    · obtain rfl : k = s.size := by omega
      go_wp2_with (first | ((with_reducible refine wpList_load_all 92 (.tmp 3) rfl rfl (w.heap.size + 1) ?hx 25 87 (lv (ln (zs s) s.size)) 92 HS.out Tryd.underlying92 HI.out ?_); (case hx => rfl)) | ((with_reducible refine wpList_store_all 92 (.tmp 2) (.tmp 27) rfl rfl w.heap.size 25 (lv (ln (zs s) s.size)) ?hx ?hy 92 lz HZ.out HI.out (fun i _ => lv_one _ i) ?_); (case hx => rfl); (case hy => rfl); intro W2 hr2 hg2; have HR2 := hik hr2; have HG2 := hik (HG.out.near hg2 (fun i e => by omega)); clear hr2 hg2))
      exact bodyPost_ret (results_all rfl _ _ w.heap.size rfl 25 _ (lv (ln (zs s) s.size)) _ HR2.out Tryd.underlying92 HI.out) rfl ⟨rfl, HG2.out⟩

set_option maxHeartbeats 2000000 in
theorem sText_any (a : Nat → Lane) (n : Nat) (w : World) (hn : n ≤ 200) (hp : 0 < n) :
    Calls Tryd.prog 60 #[.agg (la a), .int .i64 (n : Int)] w fun e w' => e = .returned (.string (bt (lb a) n)) ∧ Chg nob w w' := by
  obtain ⟨i0, hi, hz0, hz1, hz2⟩ := info_parts infoB
  have HI := hik hi
  have HZ0 := hik hz0
  have HZ1 := hik hz1
  have HZ2 := hik hz2
  clear hi hz0 hz1 hz2
  have hn' : (n : Int) ≤ 200 := by omega
  go_enter Tryd.func60, Tryd.ntmps60
  go_wp2
  go_loopw [5, 6] (fun v i W => ∃ k : Nat, k ≤ n ∧ i = .int .i64 k ∧ Hid (W.ownsRow (w.heap.size + 1) 5 1 v k ((List.range k).map (bb (lb a)))) ∧ Hid (W.rowIs w.heap.size 92 25 (lv a)) ∧ Hid (Chg nob w W)) (fun _ i _ => n - (intOf i).toNat)
  case atStart => exact ⟨0, Nat.zero_le _, rfl, hik (by have q := owns_new (w.alloc (.cells (la a) 92)) (w.heap.size + 1) 5 1 (by simp); simpa using q), hik ((rowIs_new w 25 (lv a) _).alloc _), hik (((Chg.refl _ _).alloc _).alloc _)⟩
  case round =>
    obtain ⟨k, hk, rfl, HW, HS, HG⟩ := hrel
    have hsz := HG.out.size
    by_cases hlt : k < n
    · have hlt' : (k : Int) < (n : Int) := by omega
      have c0 : wr.cell? ⟨w.heap.size, k / 8, none⟩ = some (.int .u64 ((a (k / 8)).toNat : Int)) := HS.out.cell (by omega)
      have hw1 := HS.out.lt
      have e0 : ((k : Int) / 8).toNat = k / 8 := by omega
      have b0 : (0 : Int) ≤ (k : Int) / 8 := by omega
      have b1 : (k : Int) / 8 < 25 := by omega
      have z3 := lb_nat a k
      have z4 : IntKind.u64.wrap (8 * ((k : Int) % 8)) = 8 * ((k : Int) % 8) := by rw [IntKind.wrap_u64]; omega
      go_wp2_with (at_builtin; refine wpList_append_own _ rfl (.tmp 13) (.tmp 24) 34 rfl (w.heap.size + 1) 5 i0 (.int .u8 0) 1 1 Tryd.underlying34 HI.out HZ0.out HZ1.out HZ2.out rfl (by decide) _ k _ rfl (HW.out.alloc _) ⟨_, 0, none⟩ 1 1 [.int .u8 (lb a k)] rfl rfl ?c1 ?c2 ?c3 ?c4 ?c5 ?c6)
      case c1 =>
        intro j u hj
        match j, hj with
        | 0, hj => simp at hj; subst hj; simp [Addr.add]
        | j + 1, hj => simp at hj
      case c2 => intro u hu; simp at hu; subst hu; rfl
      case c3 => unfold maxLen; omega
      case c4 => omega
      case c5 => simp; omega
      case c6 =>
        intro v' w1 hown hgr _
        have HOW : Hid (w1.ownsRow (w.heap.size + 1) 5 1 v' (k + 1) ((List.range (k + 1)).map (bb (lb a)))) := hik (by rw [← bytes_snoc]; exact hown)
        have HGC := hik ((HG.out.alloc _).grown hgr (fun b e l => absurd (HW.out.lt b e).1 (by omega)))
        have HSC := hik ((HS.out.alloc _).of_block (hgr.block _ (by simp; omega) (fun e => absurd (HW.out.lt _ e.symm).1 (by omega))))
        clear hown hgr
        go_wp2
        go_roundw
        case rel => exact ⟨k + 1, by omega, by go_num, HOW, HSC, HGC⟩
        case measure => simp [intOf]; omega
    · obtain rfl : k = n := by omega
      obtain ⟨b, cap, rfl, hb, hbl, hv⟩ := rowV_of_owns HW.out hp
      have hcv := convB (some ⟨b, 0, none⟩) k cap (lb a) wr hv
      go_wp2
      go_ret
      exact ⟨rfl, HG.out⟩

end Go.Proofs.YtkpohajmcngjcaaDoor

namespace Go.Proofs.YtkpohajmcngjcaaDoor
open Go.ChangeShapes Go.WideShapes Go.ChangeAt Go.RowKit
set_option linter.unusedVariables false
set_option linter.unusedSimpArgs false

theorem infoR : (Tryd.prog.info? 103).map (·.size) = some 24 := by kernel_rfl
theorem infoS : (Tryd.prog.info? 105).map (·.size) = some 25 := by kernel_rfl
theorem infoC : (Tryd.prog.info? 107).map (·.size) = some 5 := by kernel_rfl
/-- The tables, as values. -/
def rv (i : Nat) : Value := .int .u64 (rcn i : Int)
def sv (i : Nat) : Value := .int .u64 (sh i : Int)
set_option maxRecDepth 10000 in
set_option maxHeartbeats 1000000 in
theorem sRounds_any (w : World) :
    Calls Tryd.prog 77 #[] w fun e w' => e = .returned (.agg (rowA 24 rv)) ∧ Chg nob w w' := by
  have HI := hik infoR
  go_enter Tryd.func77, Tryd.ntmps77
  go_wp2_with ((with_reducible refine wpList_store_all 103 (.tmp 0) (.tmp 1) rfl rfl w.heap.size 24 rv ?hx ?hy 103 lz ?hr HI.out (fun i _ => rfl) ?_); (case hx => rfl); (case hy => rfl); (case hr => exact rowIs_at _ _ rfl 24 lz _ _ rfl); intro W2 hr2 hg2; have HR2 := hik hr2; have HG2 := hik (Chg.near ((Chg.refl nob w).alloc _) hg2 (fun i e => by omega)); clear hr2 hg2)
  exact bodyPost_ret (results_all rfl _ _ w.heap.size rfl 24 _ rv _ HR2.out Tryd.underlying103 HI.out) rfl ⟨rfl, HG2.out⟩
set_option maxRecDepth 10000 in
set_option maxHeartbeats 1000000 in
theorem sShifts_any (w : World) :
    Calls Tryd.prog 78 #[] w fun e w' => e = .returned (.agg (rowA 25 sv)) ∧ Chg nob w w' := by
  have HI := hik infoS
  go_enter Tryd.func78, Tryd.ntmps78
  go_wp2_with ((with_reducible refine wpList_store_all 105 (.tmp 0) (.tmp 1) rfl rfl w.heap.size 25 sv ?hx ?hy 105 lz ?hr HI.out (fun i _ => rfl) ?_); (case hx => rfl); (case hy => rfl); (case hr => exact rowIs_at _ _ rfl 25 lz _ _ rfl); intro W2 hr2 hg2; have HR2 := hik hr2; have HG2 := hik (Chg.near ((Chg.refl nob w).alloc _) hg2 (fun i e => by omega)); clear hr2 hg2)
  exact bodyPost_ret (results_all rfl _ _ w.heap.size rfl 25 _ sv _ HR2.out Tryd.underlying105 HI.out) rfl ⟨rfl, HG2.out⟩

/-- What lies where in the model's permutation. -/
structure PI (w W : World) (b3 b4 : Nat) (f : Nat → Value) : Prop where
  a : W.rowIs w.heap.size 92 25 f
  z : W.rowIs (w.heap.size + 1) 92 25 lz
  r : W.rowIs b3 103 24 rv
  s : W.rowIs b4 105 25 sv
  g : Chg nob w W
  o3 : w.heap.size + 1 < b3
  o4 : b3 < b4
theorem PI.chg {P : Nat → Prop} {w W W' : World} {b3 b4 : Nat} {f : Nat → Value} (h : PI w W b3 b4 f) (k : Chg P W W') (hp : ∀ i, P i → b4 < i) : PI w W' b3 b4 f :=
  ⟨rowIs_chg h.a k (fun x => by have := hp _ x; have := h.o3; have := h.o4; omega), rowIs_chg h.z k (fun x => by have := hp _ x; have := h.o3; have := h.o4; omega), rowIs_chg h.r k (fun x => by have := hp _ x; have := h.o4; omega), rowIs_chg h.s k (fun x => by have := hp _ x; omega), h.g.near k (fun i x => by have := hp _ x; have := h.o3; have := h.o4; omega), h.o3, h.o4⟩
theorem PI.keep {w W W' : World} {b3 b4 : Nat} {f : Nat → Value} (h : PI w W b3 b4 f) (k : Chg nob W W') : PI w W' b3 b4 f := h.chg k (fun _ x => x.elim)
theorem PI.drew {w W : World} {b3 b4 : Nat} {f : Nat → Value} (h : PI w W b3 b4 f) : PI w W.drew b3 b4 f := h.keep ((Chg.refl _ _).drew1)
theorem PI.lt {w W : World} {b3 b4 : Nat} {f : Nat → Value} (h : PI w W b3 b4 f) : b4 < W.heap.size := h.s.lt
theorem PI.setOut {w W : World} {b3 b4 : Nat} {f : Nat → Value} (h : PI w W b3 b4 f) (c i : Nat) (hc : b4 < c) (v : Value) : PI w (W.setCell ⟨c, i, none⟩ v) b3 b4 f :=
  h.chg (P := fun b => b = c) ((Chg.refl (fun b => b = c) W).setCell (p := ⟨c, i, none⟩) (fun _ => rfl) v) (fun j e => by subst e; exact hc)
theorem PI.setA {w W : World} {b3 b4 : Nat} {f g : Nat → Value} (h : PI w W b3 b4 f) (i : Nat) (v : Value) (e : ∀ j, j < 25 → (if j = i then v else f j) = g j) : PI w (W.setCell ⟨w.heap.size, i, none⟩ v) b3 b4 g :=
  ⟨(h.a.set i v).congr e, h.z.setOther (a := ⟨w.heap.size, i, none⟩) (by simp only [ne_eq]; omega) v, h.r.setOther (a := ⟨w.heap.size, i, none⟩) (by have := h.o3; simp only [ne_eq]; omega) v, h.s.setOther (a := ⟨w.heap.size, i, none⟩) (by have := h.o3; have := h.o4; simp only [ne_eq]; omega) v, h.g.setCell (p := ⟨w.heap.size, i, none⟩) (fun l => absurd l (by simp)) v, h.o3, h.o4⟩
theorem PI.alike {w W : World} {b3 b4 : Nat} {f g : Nat → Value} (h : PI w W b3 b4 f) (e : ∀ j, j < 25 → f j = g j) : PI w W b3 b4 g := ⟨h.a.congr e, h.z, h.r, h.s, h.g, h.o3, h.o4⟩

/-- Columns below x reckoned. -/
def cX (a : Nat → Lane) (x i : Nat) : Value := if i < x then lw (col a i) else .int .u64 0
theorem cX_set (a : Nat → Lane) (x i : Nat) : (if i = x then Value.int .u64 (bits .xor .u64 (bits .xor .u64 (bits .xor .u64 (bits .xor .u64 ((a x).toNat : Int) ((a (x + 5)).toNat : Int)) ((a (x + 10)).toNat : Int)) ((a (x + 15)).toNat : Int)) ((a (x + 20)).toNat : Int)) else cX a x i) = cX a (x + 1) i := by
  rw [xor64, xor64, xor64, xor64]
  unfold cX
  by_cases e : i = x
  · subst e; rw [if_pos rfl, if_pos (by omega)]; rfl
  · rw [if_neg e]
    by_cases h : i < x
    · rw [if_pos h, if_pos (by omega)]
    · rw [if_neg h, if_neg (by omega)]
/-- Lanes below n mixed. -/
def tX (a : Nat → Lane) (n i : Nat) : Value := if i < n then lw (th a i) else lw (a i)
theorem tX_set (a : Nat → Lane) (k i : Nat) : (if i = k then Value.int .u64 (bits .xor .u64 ((a k).toNat : Int) (bits .xor .u64 ((col a ((k + 4) % 5)).toNat : Int) ((rotl (col a ((k + 1) % 5)) 1).toNat : Int))) else tX a k i) = tX a (k + 1) i := by
  rw [xor64, xor64]
  unfold tX
  by_cases e : i = k
  · subst e; rw [if_pos rfl, if_pos (by omega)]; rfl
  · rw [if_neg e]
    by_cases h : i < k
    · rw [if_pos h, if_pos (by omega)]
    · rw [if_neg h, if_neg (by omega)]
/-- What is moved with the places below (x, y) done, column by column. -/
def pY (a : Nat → Lane) (x y i : Nat) : Value := if sx i < x ∨ (sx i = x ∧ i % 5 < y) then lw (pm a i) else .int .u64 0
theorem pY_set (a : Nat → Lane) (x y i : Nat) (hi : i < 25) (hx : x < 5) (hy : y < 5) : (if i = y + 5 * ((2 * x + 3 * y) % 5) then Value.int .u64 ((rotl (a (x + 5 * y)) (sh (x + 5 * y))).toNat : Int) else pY a x y i) = pY a x (y + 1) i := by
  have h1 := (src_at ⟨x, hx⟩ ⟨y, hy⟩)
  simp only at h1
  by_cases e : i = y + 5 * ((2 * x + 3 * y) % 5)
  · rw [if_pos e]
    rw [← e] at h1
    unfold pY
    rw [if_pos (.inr ⟨h1.1, by omega⟩)]
    unfold pm src lw
    rw [h1.1, h1.2]
  · rw [if_neg e]
    have h2 : ¬ (sx i = x ∧ i % 5 = y) := fun ⟨p, q⟩ => e (src_only ⟨x, hx⟩ ⟨y, hy⟩ ⟨i, hi⟩ p q)
    unfold pY
    by_cases h : sx i < x ∨ (sx i = x ∧ i % 5 < y)
    · rw [if_pos h, if_pos (by omega)]
    · rw [if_neg h, if_neg (by omega)]
theorem not64 (x : Lane) : bits .xor .u64 18446744073709551615 (x.toNat : Int) = ((~~~ x).toNat : Int) := by
  have h : (18446744073709551615 : Int) = ((BitVec.allOnes 64).toNat : Int) := by decide
  rw [h, xor64, BitVec.allOnes_xor]
/-- Rows mixed with the places below (x, y) done, column by column. -/
def cY (b t : Nat → Lane) (x y i : Nat) : Value := if i % 5 < x ∨ (i % 5 = x ∧ i / 5 < y) then lw (ch b i) else lw (t i)
theorem cY_set (b t : Nat → Lane) (x y i : Nat) (hx : x < 5) : (if i = x + 5 * y then Value.int .u64 (bits .xor .u64 ((b (x + 5 * y)).toNat : Int) (bits .and .u64 (bits .xor .u64 18446744073709551615 ((b ((x + 1) % 5 + 5 * y)).toNat : Int)) ((b ((x + 2) % 5 + 5 * y)).toNat : Int))) else cY b t x y i) = cY b t x (y + 1) i := by
  rw [not64, and64, xor64]
  by_cases e : i = x + 5 * y
  · subst e
    rw [if_pos rfl]
    unfold cY
    rw [if_pos (by omega)]
    unfold ch lw
    have h1 : (x + 5 * y) / 5 = y := by omega
    have h2 : (x + 5 * y) % 5 = x := by omega
    rw [h1, h2, Nat.mul_comm y 5, Nat.add_comm (5 * y) ((x + 2) % 5), Nat.add_comm (5 * y) ((x + 1) % 5), BitVec.and_comm]
  · rw [if_neg e]
    unfold cY
    by_cases h : i % 5 < x ∨ (i % 5 = x ∧ i / 5 < y)
    · rw [if_pos h, if_pos (by omega)]
    · rw [if_neg h, if_neg (by omega)]

end Go.Proofs.YtkpohajmcngjcaaDoor
