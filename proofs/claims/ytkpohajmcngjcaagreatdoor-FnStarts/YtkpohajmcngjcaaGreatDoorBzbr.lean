/- Several texts in one: What turnLeft and columnsMixed answer: contracts. No condition. · What turnedAndMoved and rowsMixed answer: contracts. Condition: the table laneShifts holds the shifts. · Tables of integers as data: they read alike in every world; what reads as the tables holds them. Conditions: those of each theorem. -/
import Derived.Test.YtkpohajmcngjcaaGreatDoorRows
import Derived.Test.YtkpohajmcngjcaaGreatDoorBzax
import Derived.WalkKit
import Derived.ProofKit
import Derived.OpenShut
import Derived.Deep.QuietTactic
import Derived.BigQuiet
import Derived.Deep.RegionHeld3
import Derived.BigRegion
import Derived.Lib.LaidTab
namespace Go.Proofs.YtkpohajmcngjcaaGreatDoor
open Go.ChangeShapes Go.WideShapes Go.ChangeAt Go.RowKit
set_option linter.unusedVariables false
set_option linter.unusedSimpArgs false

theorem infoL : (Tryz.prog.info? 171).map (·.size) = some 25 := by kernel_rfl
set_option maxRecDepth 100000 in
set_option maxHeartbeats 1000000 in
theorem turnLeft_any (x : Lane) (n : Nat) (hn : (n : Int) ≤ 64) (w : World) :
    Calls Tryz.prog 152 #[.int .u64 (x.toNat : Int), .int .u64 (n : Int)] w fun e w' => e = .returned (.int .u64 ((rotl x n).toNat : Int)) ∧ w' = w := by
  have hx := lane_lt x
  go_enter Tryz.func152, Tryz.ntmps152
  go_wp2
  go_ret
  exact ⟨ret_of (congrArg (Value.int .u64) (by rw [shl64, shr64, or64]; rfl)), rfl⟩
theorem turnLeft_one (x : Lane) (w : World) :
    Calls Tryz.prog 152 #[.int .u64 (x.toNat : Int), .int .u64 1] w fun e w' => e = .returned (.int .u64 ((rotl x 1).toNat : Int)) ∧ w' = w := turnLeft_any x 1 (by decide) w

/-- Nothing in a row of lanes. -/
def lz (_ : Nat) : Value := .int .u64 0

theorem index_lanes (a : Nat → Lane) (k : Nat) (hk : k < 25) (w : World) : (Instr.index 171 (.agg (rowA 25 (lv a))) (.int .i64 (k : Int))).run Tryz.prog w = .ok (.int .u64 ((a k).toNat : Int)) w := by
  have h := rowA_at 25 (lv a) k hk
  simp [Instr.index, run_underlying Tryz.underlying171, asIntOf, part, go_sem, hk, h]
  rfl
theorem colK_set (a : Nat → Lane) (k i : Nat) : (if i = k % 5 then Value.int .u64 (bits .xor .u64 ((colK a k (k % 5)).toNat : Int) ((a k).toNat : Int)) else lv (colK a k) i) = lv (colK a (k + 1)) i := by
  rw [xor64]
  unfold lv lw
  rw [colK]
  by_cases e : i = k % 5
  · subst e; simp
  · simp [e]

/-- The lanes with the columns below x mixed in. -/
def thX (a : Nat → Lane) (x i : Nat) : Value := if i % 5 < x then lw (th a i) else lw (a i)
def thY (a : Nat → Lane) (x j i : Nat) : Value := if i % 5 < x ∨ (i % 5 = x ∧ i < x + 5 * j) then lw (th a i) else lw (a i)
/-- What a column's lanes are mixed with. -/
def mix (a : Nat → Lane) (x : Nat) : Lane := col a ((x + 4) % 5) ^^^ rotl (col a ((x + 1) % 5)) 1
theorem thY_set (a : Nat → Lane) (x j i : Nat) (hx : x < 5) : (if i = x + 5 * j then Value.int .u64 (bits .xor .u64 ((a (x + 5 * j)).toNat : Int) ((mix a x).toNat : Int)) else thY a x j i) = thY a x (j + 1) i := by
  rw [xor64]
  by_cases e : i = x + 5 * j
  · subst e
    have h1 : (x + 5 * j) % 5 = x := by omega
    have h2 : (x + 5 * j + 4) % 5 = (x + 4) % 5 := by omega
    have h3 : (x + 5 * j + 1) % 5 = (x + 1) % 5 := by omega
    rw [if_pos rfl]
    unfold thY
    rw [if_pos (.inr ⟨h1, by omega⟩)]
    unfold th mix lw
    rw [h2, h3]
  · rw [if_neg e]
    unfold thY
    by_cases h : i % 5 < x ∨ (i % 5 = x ∧ i < x + 5 * j)
    · rw [if_pos h, if_pos (by omega)]
    · rw [if_neg h, if_neg (by omega)]

set_option maxRecDepth 100000 in
set_option maxHeartbeats 1000000 in
theorem columnsMixed_any (a : Nat → Lane) (w : World) :
    Calls Tryz.prog 138 #[.agg (la a)] w fun e w' => e = .returned (.agg (la (th a))) ∧ Chg nob w w' := by
  have HI := hik infoL
  go_enter Tryz.func138, Tryz.ntmps138
  go_wp2_with ((with_reducible refine wpList_load_all 171 (.tmp 1) rfl rfl w.heap.size ?hx 25 141 (lv a) 171 ?hr Tryz.underlying171 HI.out ?_); (case hx => rfl); (case hr => exact ((rowIs_new w 25 (lv a) _).alloc _).alloc _))
  go_loopw [10] (fun i W => ∃ k : Nat, k ≤ 25 ∧ i = .int .i64 k ∧ Hid (W.rowIs (w.heap.size + 1 + 1) 169 5 (lv (colK a k))) ∧ Hid (W.rowIs w.heap.size 171 25 (lv a)) ∧ Hid (W.rowIs (w.heap.size + 1) 171 25 lz) ∧ Hid (Chg nob w W)) (fun i _ => 25 - (intOf i).toNat)
  case atStart =>
    refine ⟨0, by omega, rfl, hik ?_, hik (((rowIs_new w 25 (lv a) _).alloc _).alloc _), hik ?_, hik ((((Chg.refl _ _).alloc _).alloc _).alloc _)⟩
    · exact rowIs_at _ _ (by simp) 5 _ _ _ rfl
    · exact (rowIs_at _ _ (by simp) 25 lz _ _ rfl).alloc _
  case round =>
    obtain ⟨k, hk, rfl, HC, HS, HZ, HG⟩ := hrel
    by_cases hlt : k < 25
    · have hlt' : (k : Int) < 25 := by omega
      have hix := index_lanes a k hlt
      have hc : wr.cell? ⟨w.heap.size + 1 + 1, k % 5, none⟩ = some (.int .u64 ((colK a k (k % 5)).toNat : Int)) := HC.out.cell (by omega)
      have hf := HC.out.frozen (k % 5)
      have e1 : ((k : Int) % 5).toNat = k % 5 := by omega
      have e2 : (0 : Int) ≤ (k : Int) % 5 := by omega
      have e3 : (k : Int) % 5 < 5 := by omega
      go_wp2
      go_roundw
      case rel => exact ⟨k + 1, by omega, by go_num, hik ((HC.out.set (k % 5) _).congr (fun i _ => colK_set a k i)), hik (HS.out.setOther (by simp only [ne_eq]; omega) _), hik (HZ.out.setOther (by simp only [ne_eq]; omega) _), hik (HG.out.setCell (p := ⟨w.heap.size + 1 + 1, k % 5, none⟩) (fun l => absurd l (by simp; omega)) _)⟩
      case measure => simp [intOf]; omega
    · obtain rfl : k = 25 := by omega
      have HC1 := hik (HC.out.congr (g := lv (col a)) (fun i hi => by unfold lv; rw [colK_all a i hi]))
      clear HC
      go_wp2
      go_loopw [22] (fun i W => ∃ x : Nat, x ≤ 5 ∧ i = .int .i64 x ∧ Hid (W.rowIs (w.heap.size + 1 + 1) 169 5 (lv (col a))) ∧ Hid (W.rowIs w.heap.size 171 25 (thX a x)) ∧ Hid (W.rowIs (w.heap.size + 1) 171 25 lz) ∧ Hid (Chg nob w W)) (fun i _ => 5 - (intOf i).toNat)
      case atStart => exact ⟨0, by omega, rfl, HC1, hik (HS.out.congr (fun i _ => by unfold thX; rw [if_neg (by omega)]; rfl)), HZ, HG⟩
      case round =>
        clear HC1 HS HZ HG
        obtain ⟨x, hx, rfl, HC, HS, HZ, HG⟩ := hrel
        by_cases hlt : x < 5
        · have hlt' : (x : Int) < 5 := by omega
          have c0 : wr.cell? ⟨w.heap.size + 1 + 1, (x + 4) % 5, none⟩ = some (.int .u64 ((col a ((x + 4) % 5)).toNat : Int)) := HC.out.cell (by omega)
          have c1 : wr.cell? ⟨w.heap.size + 1 + 1, (x + 1) % 5, none⟩ = some (.int .u64 ((col a ((x + 1) % 5)).toNat : Int)) := HC.out.cell (by omega)
          have e1 : (((x : Int) + 4) % 5).toNat = (x + 4) % 5 := by omega
          have e2 : (((x : Int) + 1) % 5).toNat = (x + 1) % 5 := by omega
          have e3 : ((x : Int) + 5 - 1) = (x : Int) + 4 := by omega
          have b0 : (0 : Int) ≤ ((x : Int) + 4) % 5 := by omega
          have b1 : ((x : Int) + 4) % 5 < 5 := by omega
          have b2 : (0 : Int) ≤ ((x : Int) + 1) % 5 := by omega
          have b3 : ((x : Int) + 1) % 5 < 5 := by omega
          have hm : bits .xor .u64 ((col a ((x + 4) % 5)).toNat : Int) ((rotl (col a ((x + 1) % 5)) 1).toNat : Int) = ((mix a x).toNat : Int) := xor64 _ _
          go_wp2
          go_quiet ((go_at_call 152; exact Calls.quiet_of_same (turnLeft_one _ _)))
          have HG2 := hik (HG.out.drewN nq)
          have HC2 : Hid (_) := hik (show (wr.drewN nq).rowIs (w.heap.size + 1 + 1) 169 5 (lv (col a)) from HC.out)
          have HS2 : Hid (_) := hik (show (wr.drewN nq).rowIs w.heap.size 171 25 (thX a x) from HS.out)
          have HZ2 : Hid (_) := hik (show (wr.drewN nq).rowIs (w.heap.size + 1) 171 25 lz from HZ.out)
          clear c0 c1 HC HS HZ HG
          clear e1 e2 e3 b0 b1 b2 b3 hm
          go_wp2
          go_loopw [8] (fun p W => ∃ j : Nat, j ≤ 5 ∧ p = .int .i64 ((x : Int) + 5 * (j : Int)) ∧ Hid (W.rowIs (w.heap.size + 1 + 1) 169 5 (lv (col a))) ∧ Hid (W.rowIs w.heap.size 171 25 (thY a x j)) ∧ Hid (W.rowIs (w.heap.size + 1) 171 25 lz) ∧ Hid (Chg nob w W)) (fun p _ => 30 - (intOf p).toNat)
          case atStart => exact ⟨0, by omega, by simp, HC2, hik (HS2.out.congr (fun i _ => by
            unfold thX thY
            by_cases h : i % 5 < x
            · rw [if_pos h, if_pos (.inl h)]
            · rw [if_neg h, if_neg (by omega)])), HZ2, HG2⟩
          case round =>
            clear HC2 HS2 HZ2 HG2
            obtain ⟨j, hj, rfl, HC, HS, HZ, HG⟩ := hrel
            by_cases hjt : j < 5
            · have h1 : (x : Int) + 5 * (j : Int) < 25 := by omega
              have h2 : (0 : Int) ≤ (x : Int) + 5 * (j : Int) := by omega
              have h3 : ((x : Int) + 5 * (j : Int)).toNat = x + 5 * j := by omega
              have hc : wr.cell? ⟨w.heap.size, x + 5 * j, none⟩ = some (.int .u64 ((a (x + 5 * j)).toNat : Int)) := (HS.out.cell (by omega)).trans (by unfold thY; rw [if_neg (by omega)]; rfl)
              have hf := HS.out.frozen (x + 5 * j)
              go_wp2
              go_roundw
              case rel => exact ⟨j + 1, by omega, by go_num, hik (HC.out.setOther (by simp only [ne_eq]; omega) _), hik ((HS.out.set (x + 5 * j) _).congr (fun i _ => thY_set a x j i hlt)), hik (HZ.out.setOther (by simp only [ne_eq]; omega) _), hik (HG.out.setCell (p := ⟨w.heap.size, x + 5 * j, none⟩) (fun l => absurd l (by simp)) _)⟩
              case measure => simp [intOf]; omega
            · obtain rfl : j = 5 := by omega
              have h1 : ¬ (x : Int) + 5 * ((5 : Nat) : Int) < 25 := by omega
              go_wp2
              go_roundw
              case rel => exact ⟨x + 1, by omega, by go_num, HC, hik (HS.out.congr (fun i hi => by
                unfold thX thY
                by_cases h : i % 5 < x + 1
                · rw [if_pos h, if_pos (by omega)]
                · rw [if_neg h, if_neg (by omega)])), HZ, HG⟩
              case measure => simp [intOf]; omega
        · obtain rfl : x = 5 := by omega
          have HS2 := hik (HS.out.congr (g := lv (th a)) (fun i hi => by unfold thX lv; rw [if_pos (by omega)]))
          go_wp2_with (first | ((with_reducible refine wpList_load_all 171 (.tmp 1) rfl rfl w.heap.size ?hx 25 141 (lv (th a)) 171 HS2.out Tryz.underlying171 HI.out ?_); (case hx => rfl)) | ((with_reducible refine wpList_store_all 171 (.tmp 2) (.tmp 50) rfl rfl (w.heap.size + 1) 25 (lv (th a)) ?hx ?hy 171 lz HZ.out HI.out (fun i _ => lv_one _ i) ?_); (case hx => rfl); (case hy => rfl); intro W2 hr2 hg2; have HR2 := hik hr2; have HG2 := hik (HG.out.near hg2 (fun i e => by omega)); clear hr2 hg2))
          exact bodyPost_ret (results_all rfl _ _ (w.heap.size + 1) rfl 25 _ (lv (th a)) _ HR2.out Tryz.underlying171 HI.out) rfl ⟨rfl, HG2.out⟩

end Go.Proofs.YtkpohajmcngjcaaGreatDoor

namespace Go.Proofs.YtkpohajmcngjcaaGreatDoor
open Go.ChangeShapes Go.WideShapes Go.ChangeAt Go.RowKit
set_option linter.unusedVariables false
set_option linter.unusedSimpArgs false

/-- The tables hold the shifts and the rounds' constants. -/
structure Tabs (w : World) : Prop where
  sh : ∀ i, i < 25 → w.cell? ⟨1, i, none⟩ = some (.int .u64 (sh i : Int))
  rc : ∀ i, i < 24 → w.cell? ⟨0, i, none⟩ = some (.int .u64 (rcn i : Int))
theorem Tabs.keep {w w' : World} (h : Tabs w) (k : Chg nob w w') : Tabs w' := ⟨fun i hi => k.see (h.sh i hi), fun i hi => k.see (h.rc i hi)⟩
/-- What is moved with the places below (x, y) done. -/
def pmX (a : Nat → Lane) (y x i : Nat) : Value := if i % 5 < y ∨ (i % 5 = y ∧ sx i < x) then lw (pm a i) else .int .u64 0
theorem pmX_set (a : Nat → Lane) (y x i : Nat) (hi : i < 25) (hx : x < 5) (hy : y < 5) : (if i = y + 5 * ((2 * x + 3 * y) % 5) then Value.int .u64 ((rotl (a (x + 5 * y)) (sh (x + 5 * y))).toNat : Int) else pmX a y x i) = pmX a y (x + 1) i := by
  have h1 := (src_at ⟨x, hx⟩ ⟨y, hy⟩)
  simp only at h1
  by_cases e : i = y + 5 * ((2 * x + 3 * y) % 5)
  · rw [if_pos e]
    rw [← e] at h1
    unfold pmX
    rw [if_pos (.inr ⟨h1.2, by omega⟩)]
    unfold pm src lw
    rw [h1.1, h1.2]
  · rw [if_neg e]
    have h2 : ¬ (sx i = x ∧ i % 5 = y) := fun ⟨p, q⟩ => e (src_only ⟨x, hx⟩ ⟨y, hy⟩ ⟨i, hi⟩ p q)
    unfold pmX
    by_cases h : i % 5 < y ∨ (i % 5 = y ∧ sx i < x)
    · rw [if_pos h, if_pos (by omega)]
    · rw [if_neg h, if_neg (by omega)]

set_option maxRecDepth 100000 in
set_option maxHeartbeats 1000000 in
theorem turnedAndMoved_any (a : Nat → Lane) (w : World) (ht : Hid (Tabs w)) :
    Calls Tryz.prog 139 #[.agg (la a)] w fun e w' => e = .returned (.agg (la (pm a))) ∧ Chg nob w w' := by
  have HI := hik infoL
  have hpos : 1 < w.heap.size := World.block_lt_of_cell? w _ (ht.out.sh 0 (by omega))
  go_enter Tryz.func139, Tryz.ntmps139
  go_wp2
  go_loopw [7] (fun i W => ∃ y : Nat, y ≤ 5 ∧ i = .int .i64 y ∧ Hid (W.rowIs (w.heap.size + 1 + 1) 171 25 (pmX a y 0)) ∧ Hid (W.rowIs w.heap.size 171 25 (lv a)) ∧ Hid (W.rowIs (w.heap.size + 1) 171 25 lz) ∧ Hid (Chg nob w W)) (fun i _ => 5 - (intOf i).toNat)
  case atStart =>
    refine ⟨0, by omega, rfl, hik ?_, hik (((rowIs_new w 25 (lv a) _).alloc _).alloc _), hik ?_, hik ((((Chg.refl _ _).alloc _).alloc _).alloc _)⟩
    · exact (rowIs_at _ _ (by simp) 25 lz _ _ rfl).congr (fun i _ => by unfold pmX; rw [if_neg (by omega)]; rfl)
    · exact (rowIs_at _ _ (by simp) 25 lz _ _ rfl).alloc _
  case round =>
    obtain ⟨y, hy, rfl, HM, HS, HZ, HG⟩ := hrel
    by_cases hlt : y < 5
    · have hlt' : (y : Int) < 5 := by omega
      go_wp2
      go_loopw [10] (fun i W => ∃ x : Nat, x ≤ 5 ∧ i = .int .i64 x ∧ Hid (W.rowIs (w.heap.size + 1 + 1) 171 25 (pmX a y x)) ∧ Hid (W.rowIs w.heap.size 171 25 (lv a)) ∧ Hid (W.rowIs (w.heap.size + 1) 171 25 lz) ∧ Hid (Chg nob w W)) (fun i _ => 5 - (intOf i).toNat)
      case atStart => exact ⟨0, by omega, rfl, HM, HS, HZ, HG⟩
      case round =>
        clear HM HS HZ HG
        obtain ⟨x, hx, rfl, HM, HS, HZ, HG⟩ := hrel
        by_cases hxt : x < 5
        · have hxt' : (x : Int) < 5 := by omega
          have c0 : wr.cell? ⟨w.heap.size, x + 5 * y, none⟩ = some (.int .u64 ((a (x + 5 * y)).toNat : Int)) := HS.out.cell (by omega)
          have c1 : wr.cell? ⟨1, x + 5 * y, none⟩ = some (.int .u64 (sh (x + 5 * y) : Int)) := (ht.out.keep HG.out).sh _ (by omega)
          obtain ⟨q, hq⟩ : ∃ q, q = (2 * x + 3 * y) % 5 := ⟨_, rfl⟩
          have q5 : q < 5 := by omega
          have c2 := HM.out.cell (i := y + 5 * q) (by omega)
          have f2 := HM.out.frozen (y + 5 * q)
          have e1 : ((x : Int) + 5 * (y : Int)).toNat = x + 5 * y := by omega
          have e2 : ((y : Int) + 5 * (q : Int)).toNat = y + 5 * q := by omega
          have b0 : (0 : Int) ≤ (x : Int) + 5 * (y : Int) := by omega
          have b1 : (x : Int) + 5 * (y : Int) < 25 := by omega
          have b2 : (0 : Int) ≤ (y : Int) + 5 * (q : Int) := by omega
          have b3 : (y : Int) + 5 * (q : Int) < 25 := by omega
          have v1 : IntKind.i64.wrap (2 * (x : Int)) = 2 * (x : Int) := by rw [IntKind.wrap_i64]; omega
          have v2 : IntKind.i64.wrap (3 * (y : Int)) = 3 * (y : Int) := by rw [IntKind.wrap_i64]; omega
          have v3 : IntKind.i64.wrap (2 * (x : Int) + 3 * (y : Int)) = 2 * (x : Int) + 3 * (y : Int) := by rw [IntKind.wrap_i64]; omega
          have v4 : (2 * (x : Int) + 3 * (y : Int)).tmod 5 = (q : Int) := by rw [Int.tmod_eq_emod_of_nonneg (by omega)]; omega
          have v5 : IntKind.i64.wrap (5 * (q : Int)) = 5 * (q : Int) := by rw [IntKind.wrap_i64]; omega
          have v6 : IntKind.i64.wrap ((y : Int) + 5 * (q : Int)) = (y : Int) + 5 * (q : Int) := by rw [IntKind.wrap_i64]; omega
          have HQ := hik hq
          clear hq
          have hs := sh_le (x + 5 * y)
          have n1 : ¬ w.heap.size = 1 := by omega
          have n2 : ¬ w.heap.size = w.heap.size + 1 + 1 := by omega
          have n3 : ¬ 1 = w.heap.size + 1 + 1 := by omega
          have HM2 := hik ((HM.out.set (y + 5 * q) (.int .u64 ((rotl (a (x + 5 * y)) (sh (x + 5 * y))).toNat : Int))).congr (g := pmX a y (x + 1)) (fun i hi => by rw [HQ.out]; exact pmX_set a y x i hi hxt hlt))
          have HS2 := hik (HS.out.setOther (a := ⟨w.heap.size + 1 + 1, y + 5 * q, none⟩) (by simp only [ne_eq]; omega) (.int .u64 ((rotl (a (x + 5 * y)) (sh (x + 5 * y))).toNat : Int)))
          have HZ2 := hik (HZ.out.setOther (a := ⟨w.heap.size + 1 + 1, y + 5 * q, none⟩) (by simp only [ne_eq]; omega) (.int .u64 ((rotl (a (x + 5 * y)) (sh (x + 5 * y))).toNat : Int)))
          have HG2 := hik (HG.out.setCell (p := ⟨w.heap.size + 1 + 1, y + 5 * q, none⟩) (fun l => absurd l (by simp; omega)) (.int .u64 ((rotl (a (x + 5 * y)) (sh (x + 5 * y))).toNat : Int)))
          have HK : Hid ((wr.setCell ⟨w.heap.size + 1 + 1, y + 5 * q, none⟩ (.int .u64 ((rotl (a (x + 5 * y)) (sh (x + 5 * y))).toNat : Int))).drew.cell? ⟨w.heap.size, x + 5 * y, none⟩ = some (.int .u64 ((a (x + 5 * y)).toNat : Int)) ∧ (wr.setCell ⟨w.heap.size + 1 + 1, y + 5 * q, none⟩ (.int .u64 ((rotl (a (x + 5 * y)) (sh (x + 5 * y))).toNat : Int))).drew.cell? ⟨1, x + 5 * y, none⟩ = some (.int .u64 (sh (x + 5 * y) : Int))) := hik ⟨HS2.out.cell (by omega), (ht.out.keep HG2.out).sh _ (by omega)⟩
          go_wp2
          go_region_held3 (fun w' => w'.cell? ⟨w.heap.size, x + 5 * y, none⟩ = some (.int .u64 ((a (x + 5 * y)).toNat : Int)) ∧ w'.cell? ⟨1, x + 5 * y, none⟩ = some (.int .u64 (sh (x + 5 * y) : Int))) (first | with_reducible exact HK.out | go_keep) ((go_at_call 152; refine (turnLeft_any _ _ (by omega) _).mono ?_; rintro e w' ⟨rfl, rfl⟩))
          go_wp2
          go_roundw
          case rel => exact ⟨x + 1, by omega, by go_num, HM2, HS2, HZ2, hik HG2.out.drew1⟩
          case measure => simp [intOf]; omega
        · obtain rfl : x = 5 := by omega
          go_wp2
          go_roundw
          case rel => exact ⟨y + 1, by omega, by go_num, hik (HM.out.congr (fun i hi => by
            have := sx_lt i
            unfold pmX
            by_cases h : i % 5 < y + 1
            · rw [if_pos (by omega), if_pos (by omega)]
            · rw [if_neg (by omega), if_neg (by omega)])), HS, HZ, HG⟩
          case measure => simp [intOf]; omega
    · obtain rfl : y = 5 := by omega
      have HM2 := hik (HM.out.congr (g := lv (pm a)) (fun i hi => by unfold pmX lv; rw [if_pos (by omega)]))
      go_wp2_with (first | ((with_reducible refine wpList_load_all 171 (.tmp 3) rfl rfl (w.heap.size + 1 + 1) ?hx 25 141 (lv (pm a)) 171 HM2.out Tryz.underlying171 HI.out ?_); (case hx => rfl)) | ((with_reducible refine wpList_store_all 171 (.tmp 2) (.tmp 36) rfl rfl (w.heap.size + 1) 25 (lv (pm a)) ?hx ?hy 171 lz HZ.out HI.out (fun i _ => lv_one _ i) ?_); (case hx => rfl); (case hy => rfl); intro W2 hr2 hg2; have HR2 := hik hr2; have HG2 := hik (HG.out.near hg2 (fun i e => by omega)); clear hr2 hg2))
      exact bodyPost_ret (results_all rfl _ _ (w.heap.size + 1) rfl 25 _ (lv (pm a)) _ HR2.out Tryz.underlying171 HI.out) rfl ⟨rfl, HG2.out⟩

/-- Rows mixed below place n. -/
def chX (b : Nat → Lane) (n i : Nat) : Value := if i < n then lw (ch b i) else lw (b i)
theorem chX_set (b : Nat → Lane) (r x i : Nat) (hx : x < 5) : (if i = 5 * r + x then Value.int .u64 (bits .xor .u64 ((b (5 * r + x)).toNat : Int) (bits .andNot .u64 ((b (5 * r + (x + 2) % 5)).toNat : Int) ((b (5 * r + (x + 1) % 5)).toNat : Int))) else chX b (5 * r + x) i) = chX b (5 * r + (x + 1)) i := by
  rw [andNot64, xor64]
  by_cases e : i = 5 * r + x
  · subst e
    rw [if_pos rfl]
    unfold chX
    rw [if_pos (by omega)]
    unfold ch lw
    have h1 : (5 * r + x) / 5 = r := by omega
    have h2 : (5 * r + x) % 5 = x := by omega
    rw [h1, h2, Nat.mul_comm r 5]
  · rw [if_neg e]
    unfold chX
    by_cases h : i < 5 * r + x
    · rw [if_pos h, if_pos (by omega)]
    · rw [if_neg h, if_neg (by omega)]

set_option maxRecDepth 100000 in
set_option maxHeartbeats 1000000 in
theorem rowsMixed_any (a : Nat → Lane) (w : World) :
    Calls Tryz.prog 140 #[.agg (la a)] w fun e w' => e = .returned (.agg (la (ch a))) ∧ Chg nob w w' := by
  have HI := hik infoL
  go_enter Tryz.func140, Tryz.ntmps140
  go_wp2_with (first | ((with_reducible refine wpList_load_all 171 (.tmp 1) rfl rfl w.heap.size ?hx 25 141 (lv a) 171 ?hr Tryz.underlying171 HI.out ?_); (case hx => rfl); (case hr => exact (rowIs_new w 25 (lv a) _).alloc _)) | ((with_reducible refine wpList_store_all 171 (.tmp 3) (.tmp 6) rfl rfl (w.heap.size + 1 + 1) 25 (lv a) ?hx ?hy 171 lz ?hr HI.out (fun i _ => lv_one _ i) ?_); (case hx => rfl); (case hy => rfl); (case hr => exact rowIs_at _ _ (by simp) 25 lz _ _ rfl); intro W2 hr2 hg2; have HM := hik hr2; have HG := hik (Chg.near ((((Chg.refl nob w).alloc _).alloc _).alloc _) hg2 (fun i e => by omega)); have HS := hik (rowIs_chg ((((rowIs_new w 25 (lv a) 171).alloc _).alloc _)) hg2 (by omega)); have HZ := hik (rowIs_chg ((rowIs_at (w.alloc _) (w.heap.size + 1) (by simp) 25 lz 171 _ rfl).alloc _) hg2 (by omega)); clear hr2 hg2))
  go_loopw [4] (fun i W => ∃ r : Nat, r ≤ 5 ∧ i = .int .i64 (5 * (r : Int)) ∧ Hid (W.rowIs (w.heap.size + 1 + 1) 171 25 (chX a (5 * r))) ∧ Hid (W.rowIs w.heap.size 171 25 (lv a)) ∧ Hid (W.rowIs (w.heap.size + 1) 171 25 lz) ∧ Hid (Chg nob w W)) (fun i _ => 30 - (intOf i).toNat)
  case atStart => exact ⟨0, by omega, rfl, hik (HM.out.congr (fun i _ => by unfold chX; rw [if_neg (by omega)]; rfl)), HS, HZ, HG⟩
  case round =>
    clear HM HS HZ HG
    obtain ⟨r, hr, rfl, HM, HS, HZ, HG⟩ := hrel
    by_cases hlt : r < 5
    · have hlt' : 5 * (r : Int) < 25 := by omega
      go_wp2
      go_loopw [11] (fun i W => ∃ x : Nat, x ≤ 5 ∧ i = .int .i64 x ∧ Hid (W.rowIs (w.heap.size + 1 + 1) 171 25 (chX a (5 * r + x))) ∧ Hid (W.rowIs w.heap.size 171 25 (lv a)) ∧ Hid (W.rowIs (w.heap.size + 1) 171 25 lz) ∧ Hid (Chg nob w W)) (fun i _ => 5 - (intOf i).toNat)
      case atStart => exact ⟨0, by omega, rfl, HM, HS, HZ, HG⟩
      case round =>
        clear HM HS HZ HG
        obtain ⟨x, hx, rfl, HM, HS, HZ, HG⟩ := hrel
        by_cases hxt : x < 5
        · have hxt' : (x : Int) < 5 := by omega
          have c0 : wr.cell? ⟨w.heap.size + 1 + 1, 5 * r + x, none⟩ = some (.int .u64 ((a (5 * r + x)).toNat : Int)) := (HM.out.cell (by omega)).trans (by unfold chX; rw [if_neg (by omega)]; rfl)
          have f0 := HM.out.frozen (5 * r + x)
          obtain ⟨q2, hq2⟩ : ∃ q, q = (x + 2) % 5 := ⟨_, rfl⟩
          obtain ⟨q1, hq1⟩ : ∃ q, q = (x + 1) % 5 := ⟨_, rfl⟩
          have l1 : q1 < 5 := by omega
          have l2 : q2 < 5 := by omega
          have c1 : wr.cell? ⟨w.heap.size, 5 * r + q1, none⟩ = some (.int .u64 ((a (5 * r + q1)).toNat : Int)) := HS.out.cell (by omega)
          have c2 : wr.cell? ⟨w.heap.size, 5 * r + q2, none⟩ = some (.int .u64 ((a (5 * r + q2)).toNat : Int)) := HS.out.cell (by omega)
          have e0 : (5 * (r : Int) + (x : Int)).toNat = 5 * r + x := by omega
          have e1 : (5 * (r : Int) + (q1 : Int)).toNat = 5 * r + q1 := by omega
          have e2 : (5 * (r : Int) + (q2 : Int)).toNat = 5 * r + q2 := by omega
          have m1 : ((x : Int) + 1) % 5 = (q1 : Int) := by omega
          have m2 : ((x : Int) + 2) % 5 = (q2 : Int) := by omega
          have b0 : (0 : Int) ≤ 5 * (r : Int) + (x : Int) := by omega
          have b1 : (0 : Int) ≤ 5 * (r : Int) + (q1 : Int) := by omega
          have b2 : (0 : Int) ≤ 5 * (r : Int) + (q2 : Int) := by omega
          have d0 : 5 * (r : Int) + (x : Int) < 25 := by omega
          have d1 : 5 * (r : Int) + (q1 : Int) < 25 := by omega
          have d2 : 5 * (r : Int) + (q2 : Int) < 25 := by omega
          have HM2 := hik ((HM.out.set (5 * r + x) (.int .u64 (bits .xor .u64 ((a (5 * r + x)).toNat : Int) (bits .andNot .u64 ((a (5 * r + q2)).toNat : Int) ((a (5 * r + q1)).toNat : Int))))).congr (g := chX a (5 * r + (x + 1))) (fun i hi => by rw [hq1, hq2]; exact chX_set a r x i hxt))
          have HS2 := hik (HS.out.setOther (a := ⟨w.heap.size + 1 + 1, 5 * r + x, none⟩) (by simp only [ne_eq]; omega) (.int .u64 (bits .xor .u64 ((a (5 * r + x)).toNat : Int) (bits .andNot .u64 ((a (5 * r + q2)).toNat : Int) ((a (5 * r + q1)).toNat : Int)))))
          have HZ2 := hik (HZ.out.setOther (a := ⟨w.heap.size + 1 + 1, 5 * r + x, none⟩) (by simp only [ne_eq]; omega) (.int .u64 (bits .xor .u64 ((a (5 * r + x)).toNat : Int) (bits .andNot .u64 ((a (5 * r + q2)).toNat : Int) ((a (5 * r + q1)).toNat : Int)))))
          have HG2 := hik (HG.out.setCell (p := ⟨w.heap.size + 1 + 1, 5 * r + x, none⟩) (fun l => absurd l (by simp; omega)) (.int .u64 (bits .xor .u64 ((a (5 * r + x)).toNat : Int) (bits .andNot .u64 ((a (5 * r + q2)).toNat : Int) ((a (5 * r + q1)).toNat : Int)))))
          clear hq1 hq2
          go_wp2
          go_region
          go_wp2
          go_roundw
          case rel => exact ⟨x + 1, by omega, by go_num, HM2, HS2, HZ2, hik HG2.out.drew1⟩
          case measure => simp [intOf]; omega
        · obtain rfl : x = 5 := by omega
          go_wp2
          go_roundw
          case rel => exact ⟨r + 1, by omega, by go_num, hik (by have q := HM.out; rw [show 5 * r + 5 = 5 * (r + 1) by omega] at q; exact q), HS, HZ, HG⟩
          case measure => simp [intOf]; omega
    · obtain rfl : r = 5 := by omega
      have hlt' : ¬ 5 * ((5 : Nat) : Int) < 25 := by omega
      have HM2 := hik (HM.out.congr (g := lv (ch a)) (fun i hi => by unfold chX lv; rw [if_pos (by omega)]))
      go_wp2_with (first | ((with_reducible refine wpList_load_all 171 (.tmp 3) rfl rfl (w.heap.size + 1 + 1) ?hx 25 141 (lv (ch a)) 171 HM2.out Tryz.underlying171 HI.out ?_); (case hx => rfl)) | ((with_reducible refine wpList_store_all 171 (.tmp 2) (.tmp 37) rfl rfl (w.heap.size + 1) 25 (lv (ch a)) ?hx ?hy 171 lz HZ.out HI.out (fun i _ => lv_one _ i) ?_); (case hx => rfl); (case hy => rfl); intro W2 hr2 hg2; have HR2 := hik hr2; have HG2 := hik (HG.out.near hg2 (fun i e => by omega)); clear hr2 hg2))
      exact bodyPost_ret (results_all rfl _ _ (w.heap.size + 1) rfl 25 _ (lv (ch a)) _ HR2.out Tryz.underlying171 HI.out) rfl ⟨rfl, HG2.out⟩

end Go.Proofs.YtkpohajmcngjcaaGreatDoor

namespace Go.Proofs.YtkpohajmcngjcaaGreatDoor
open Go.RowKit

section
variable {H : Type} {enc : TypeId × Value → H} {P : Program} {w w' : World} {base : Nat} {sp sp' : Nat → Bool} {held held' : Bool} {t e : TypeId} {k : IntKind}
theorem int_indep {fuel : Nat} {cs : List Value} (he : P.underlying e = some (.int k)) : DataW.trod enc P w' base sp' held' fuel e cs = DataW.trod enc P w base sp held fuel e cs := by
  cases fuel with
  | zero => simp [DataW.trod]
  | succ m =>
    by_cases h : ∃ n, cs = [Value.int k n]
    · obtain ⟨n, rfl⟩ := h
      simp [DataW.trod, he]
    · have no : ∀ (u : World) (sp : Nat → Bool) (hd : Bool), DataW.trod enc P u base sp hd (m + 1) e cs = none := by
        intro u sp hd
        cases hx : DataW.trod enc P u base sp hd (m + 1) e cs with
        | none => rfl
        | some x =>
          obtain ⟨n, hs, _⟩ := DataW.trod_int he hx
          exact absurd ⟨n, hs⟩ h
      rw [no, no]
theorem ints_indep {fuel n : Nat} {cs : List Value} (ht : P.underlying t = some (.array n e)) (he : P.underlying e = some (.int k)) : DataW.trod enc P w' base sp' held' fuel t cs = DataW.trod enc P w base sp held fuel t cs := by
  cases fuel with
  | zero => simp [DataW.trod]
  | succ m =>
    simp only [DataW.trod, ht]
    have e1 : (fun i => DataW.trod enc P w' base sp' held' m e ((cs.drop (i * P.cellsOf e)).take (P.cellsOf e))) = fun i => DataW.trod enc P w base sp held m e ((cs.drop (i * P.cellsOf e)).take (P.cellsOf e)) := funext fun i => int_indep he
    rw [e1]
end
/-- The tables' numbers. -/
def shz : List Int := shl.map (fun n : Nat => (n : Int))
def rcz : List Int := rcl.map (fun n : Nat => (n : Int))
theorem shz_at (i : Nat) (h : i < 25) : (shz.map fun z => Value.int .u64 z)[i]? = some (.int .u64 (sh i : Int)) := by
  have : ∀ i : Fin 25, shl[i.val]? = some (sh i.val) := by decide
  unfold shz
  rw [List.map_map, List.getElem?_map, this ⟨i, h⟩]
  rfl
theorem rcz_at (i : Nat) (h : i < 24) : (rcz.map fun z => Value.int .u64 z)[i]? = some (.int .u64 (rcn i : Int)) := by
  have : ∀ i : Fin 24, rcl[i.val]? = some (rcn i.val) := by decide
  unfold rcz
  rw [List.map_map, List.getElem?_map, this ⟨i, h⟩]
  rfl
theorem cellsU : Tryz.prog.cellsOf 127 = 1 := by kernel_rfl
theorem cellsU64 : Tryz.prog.cellsOf 141 = 1 := by kernel_rfl
theorem cellsSh : Tryz.prog.cellsOf 167 = 25 := by kernel_rfl
theorem cellsRc : Tryz.prog.cellsOf 165 = 24 := by kernel_rfl

end Go.Proofs.YtkpohajmcngjcaaGreatDoor
