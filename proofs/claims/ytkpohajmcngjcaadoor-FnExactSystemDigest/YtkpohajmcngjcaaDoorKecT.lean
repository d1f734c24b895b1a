/- What turnLeft and columnsMixed answer: contracts. No condition. -/
import Derived.Test.YtkpohajmcngjcaaDoorRows
import Derived.Test.YtkpohajmcngjcaaDoorKecA
import Derived.WalkKit
import Derived.ProofKit
import Derived.OpenShut
import Derived.Deep.QuietTactic
import Derived.BigQuiet
namespace Go.Proofs.YtkpohajmcngjcaaDoor
open Go.ChangeShapes Go.WideShapes Go.ChangeAt Go.RowKit
set_option linter.unusedVariables false
set_option linter.unusedSimpArgs false

theorem infoL : (Tryd.prog.info? 96).map (·.size) = some 25 := by kernel_rfl
set_option maxRecDepth 100000 in
set_option maxHeartbeats 1000000 in
theorem turnLeft_any (x : Lane) (n : Nat) (hn : (n : Int) ≤ 64) (w : World) :
    Calls Tryd.prog 86 #[.int .u64 (x.toNat : Int), .int .u64 (n : Int)] w fun e w' => e = .returned (.int .u64 ((rotl x n).toNat : Int)) ∧ w' = w := by
  have hx := lane_lt x
  go_enter Tryd.func86, Tryd.ntmps86
  go_wp2
  go_ret
  exact ⟨ret_of (congrArg (Value.int .u64) (by rw [shl64, shr64, or64]; rfl)), rfl⟩
theorem turnLeft_one (x : Lane) (w : World) :
    Calls Tryd.prog 86 #[.int .u64 (x.toNat : Int), .int .u64 1] w fun e w' => e = .returned (.int .u64 ((rotl x 1).toNat : Int)) ∧ w' = w := turnLeft_any x 1 (by decide) w

/-- Nothing in a row of lanes. -/
def lz (_ : Nat) : Value := .int .u64 0

theorem index_lanes (a : Nat → Lane) (k : Nat) (hk : k < 25) (w : World) : (Instr.index 96 (.agg (rowA 25 (lv a))) (.int .i64 (k : Int))).run Tryd.prog w = .ok (.int .u64 ((a k).toNat : Int)) w := by
  have h := rowA_at 25 (lv a) k hk
  simp [Instr.index, run_underlying Tryd.underlying96, asIntOf, part, go_sem, hk, h]
  rfl
theorem colK_set (a : Nat → Lane) (k i : Nat) : (if i = k % 5 then Value.int .u64 (bits .xor .u64 ((colK a k (k % 5)).toNat : Int) ((a k).toNat : Int)) else lv (colK a k) i) = lv (colK a (k + 1)) i := by
  rw [xor64]
  unfold lv lw
  rw [colK]
  by_cases e : i = k % 5
  · subst e; simp
  · simp [e]

/-- The lanes with the columns below x mixed in. -/
def thX (a : Nat → Lane) (x i : Nat) : Value := if i % 5 < x then lw (th a i) else lw (a i)
def thY (a : Nat → Lane) (x j i : Nat) : Value := if i % 5 < x ∨ (i % 5 = x ∧ i < x + 5 * j) then lw (th a i) else lw (a i)
/-- What a column's lanes are mixed with. -/
def mix (a : Nat → Lane) (x : Nat) : Lane := col a ((x + 4) % 5) ^^^ rotl (col a ((x + 1) % 5)) 1
theorem thY_set (a : Nat → Lane) (x j i : Nat) (hx : x < 5) : (if i = x + 5 * j then Value.int .u64 (bits .xor .u64 ((a (x + 5 * j)).toNat : Int) ((mix a x).toNat : Int)) else thY a x j i) = thY a x (j + 1) i := by
  rw [xor64]
  by_cases e : i = x + 5 * j
  · subst e
    have h1 : (x + 5 * j) % 5 = x := by omega
    have h2 : (x + 5 * j + 4) % 5 = (x + 4) % 5 := by omega
    have h3 : (x + 5 * j + 1) % 5 = (x + 1) % 5 := by omega
    rw [if_pos rfl]
    unfold thY
    rw [if_pos (.inr ⟨h1, by omega⟩)]
    unfold th mix lw
    rw [h2, h3]
  · rw [if_neg e]
    unfold thY
    by_cases h : i % 5 < x ∨ (i % 5 = x ∧ i < x + 5 * j)
    · rw [if_pos h, if_pos (by omega)]
    · rw [if_neg h, if_neg (by omega)]

set_option maxRecDepth 100000 in
set_option maxHeartbeats 1000000 in
theorem columnsMixed_any (a : Nat → Lane) (w : World) :
    Calls Tryd.prog 80 #[.agg (la a)] w fun e w' => e = .returned (.agg (la (th a))) ∧ Chg nob w w' := by
  have HI := hik infoL
  go_enter Tryd.func80, Tryd.ntmps80
  go_wp2_with ((with_reducible refine wpList_load_all 96 (.tmp 1) rfl rfl w.heap.size ?hx 25 87 (lv a) 96 ?hr Tryd.underlying96 HI.out ?_); (case hx => rfl); (case hr => exact ((rowIs_new w 25 (lv a) _).alloc _).alloc _))
  go_loopw [10] (fun i W => ∃ k : Nat, k ≤ 25 ∧ i = .int .i64 k ∧ Hid (W.rowIs (w.heap.size + 1 + 1) 107 5 (lv (colK a k))) ∧ Hid (W.rowIs w.heap.size 96 25 (lv a)) ∧ Hid (W.rowIs (w.heap.size + 1) 96 25 lz) ∧ Hid (Chg nob w W)) (fun i _ => 25 - (intOf i).toNat)
  case atStart =>
    refine ⟨0, by omega, rfl, hik ?_, hik (((rowIs_new w 25 (lv a) _).alloc _).alloc _), hik ?_, hik ((((Chg.refl _ _).alloc _).alloc _).alloc _)⟩
    · exact rowIs_at _ _ (by simp) 5 _ _ _ rfl
    · exact (rowIs_at _ _ (by simp) 25 lz _ _ rfl).alloc _
  case round =>
    obtain ⟨k, hk, rfl, HC, HS, HZ, HG⟩ := hrel
    by_cases hlt : k < 25
    · have hlt' : (k : Int) < 25 := by omega
      have hix := index_lanes a k hlt
      have hc : wr.cell? ⟨w.heap.size + 1 + 1, k % 5, none⟩ = some (.int .u64 ((colK a k (k % 5)).toNat : Int)) := HC.out.cell (by omega)
      have hf := HC.out.frozen (k % 5)
      have e1 : ((k : Int) % 5).toNat = k % 5 := by omega
      have e2 : (0 : Int) ≤ (k : Int) % 5 := by omega
      have e3 : (k : Int) % 5 < 5 := by omega
      go_wp2
      go_roundw
      case rel => exact ⟨k + 1, by omega, by go_num, hik ((HC.out.set (k % 5) _).congr (fun i _ => colK_set a k i)), hik (HS.out.setOther (by simp only [ne_eq]; omega) _), hik (HZ.out.setOther (by simp only [ne_eq]; omega) _), hik (HG.out.setCell (p := ⟨w.heap.size + 1 + 1, k % 5, none⟩) (fun l => absurd l (by simp; omega)) _)⟩
      case measure => simp [intOf]; omega
    · obtain rfl : k = 25 := by omega
      have HC1 := hik (HC.out.congr (g := lv (col a)) (fun i hi => by unfold lv; rw [colK_all a i hi]))
      clear HC
      go_wp2
      go_loopw [22] (fun i W => ∃ x : Nat, x ≤ 5 ∧ i = .int .i64 x ∧ Hid (W.rowIs (w.heap.size + 1 + 1) 107 5 (lv (col a))) ∧ Hid (W.rowIs w.heap.size 96 25 (thX a x)) ∧ Hid (W.rowIs (w.heap.size + 1) 96 25 lz) ∧ Hid (Chg nob w W)) (fun i _ => 5 - (intOf i).toNat)
      case atStart => exact ⟨0, by omega, rfl, HC1, hik (HS.out.congr (fun i _ => by unfold thX; rw [if_neg (by omega)]; rfl)), HZ, HG⟩
      case round =>
        clear HC1 HS HZ HG
        obtain ⟨x, hx, rfl, HC, HS, HZ, HG⟩ := hrel
        by_cases hlt : x < 5
        · have hlt' : (x : Int) < 5 := by omega
          have c0 : wr.cell? ⟨w.heap.size + 1 + 1, (x + 4) % 5, none⟩ = some (.int .u64 ((col a ((x + 4) % 5)).toNat : Int)) := HC.out.cell (by omega)
          have c1 : wr.cell? ⟨w.heap.size + 1 + 1, (x + 1) % 5, none⟩ = some (.int .u64 ((col a ((x + 1) % 5)).toNat : Int)) := HC.out.cell (by omega)
          have e1 : (((x : Int) + 4) % 5).toNat = (x + 4) % 5 := by omega
          have e2 : (((x : Int) + 1) % 5).toNat = (x + 1) % 5 := by omega
          have e3 : ((x : Int) + 5 - 1) = (x : Int) + 4 := by omega
          have b0 : (0 : Int) ≤ ((x : Int) + 4) % 5 := by omega
          have b1 : ((x : Int) + 4) % 5 < 5 := by omega
          have b2 : (0 : Int) ≤ ((x : Int) + 1) % 5 := by omega
          have b3 : ((x : Int) + 1) % 5 < 5 := by omega
          have hm : bits .xor .u64 ((col a ((x + 4) % 5)).toNat : Int) ((rotl (col a ((x + 1) % 5)) 1).toNat : Int) = ((mix a x).toNat : Int) := xor64 _ _
          go_wp2
          go_quiet ((go_at_call 86; exact Calls.quiet_of_same (turnLeft_one _ _)))
          have HG2 := hik (HG.out.drewN nq)
          have HC2 : Hid (_) := hik (show (wr.drewN nq).rowIs (w.heap.size + 1 + 1) 107 5 (lv (col a)) from HC.out)
          have HS2 : Hid (_) := hik (show (wr.drewN nq).rowIs w.heap.size 96 25 (thX a x) from HS.out)
          have HZ2 : Hid (_) := hik (show (wr.drewN nq).rowIs (w.heap.size + 1) 96 25 lz from HZ.out)
          clear c0 c1 HC HS HZ HG
          clear e1 e2 e3 b0 b1 b2 b3 hm
          go_wp2
          go_loopw [8] (fun p W => ∃ j : Nat, j ≤ 5 ∧ p = .int .i64 ((x : Int) + 5 * (j : Int)) ∧ Hid (W.rowIs (w.heap.size + 1 + 1) 107 5 (lv (col a))) ∧ Hid (W.rowIs w.heap.size 96 25 (thY a x j)) ∧ Hid (W.rowIs (w.heap.size + 1) 96 25 lz) ∧ Hid (Chg nob w W)) (fun p _ => 30 - (intOf p).toNat)
          case atStart => exact ⟨0, by omega, by simp, HC2, hik (HS2.out.congr (fun i _ => by
            unfold thX thY
            by_cases h : i % 5 < x
            · rw [if_pos h, if_pos (.inl h)]
            · rw [if_neg h, if_neg (by omega)])), HZ2, HG2⟩
          case round =>
            clear HC2 HS2 HZ2 HG2
            obtain ⟨j, hj, rfl, HC, HS, HZ, HG⟩ := hrel
            by_cases hjt : j < 5
            · have h1 : (x : Int) + 5 * (j : Int) < 25 := by omega
              have h2 : (0 : Int) ≤ (x : Int) + 5 * (j : Int) := by omega
              have h3 : ((x : Int) + 5 * (j : Int)).toNat = x + 5 * j := by omega
              have hc : wr.cell? ⟨w.heap.size, x + 5 * j, none⟩ = some (.int .u64 ((a (x + 5 * j)).toNat : Int)) := (HS.out.cell (by omega)).trans (by unfold thY; rw [if_neg (by omega)]; rfl)
              have hf := HS.out.frozen (x + 5 * j)
              go_wp2
              go_roundw
              case rel => exact ⟨j + 1, by omega, by go_num, hik (HC.out.setOther (by simp only [ne_eq]; omega) _), hik ((HS.out.set (x + 5 * j) _).congr (fun i _ => thY_set a x j i hlt)), hik (HZ.out.setOther (by simp only [ne_eq]; omega) _), hik (HG.out.setCell (p := ⟨w.heap.size, x + 5 * j, none⟩) (fun l => absurd l (by simp)) _)⟩
              case measure => simp [intOf]; omega
            · obtain rfl : j = 5 := by omega
              have h1 : ¬ (x : Int) + 5 * ((5 : Nat) : Int) < 25 := by omega
              go_wp2
              go_roundw
              case rel => exact ⟨x + 1, by omega, by go_num, HC, hik (HS.out.congr (fun i hi => by
                unfold thX thY
                by_cases h : i % 5 < x + 1
                · rw [if_pos h, if_pos (by omega)]
                · rw [if_neg h, if_neg (by omega)])), HZ, HG⟩
              case measure => simp [intOf]; omega
        · obtain rfl : x = 5 := by omega
          have HS2 := hik (HS.out.congr (g := lv (th a)) (fun i hi => by unfold thX lv; rw [if_pos (by omega)]))
          go_wp2_with (first | ((with_reducible refine wpList_load_all 96 (.tmp 1) rfl rfl w.heap.size ?hx 25 87 (lv (th a)) 96 HS2.out Tryd.underlying96 HI.out ?_); (case hx => rfl)) | ((with_reducible refine wpList_store_all 96 (.tmp 2) (.tmp 50) rfl rfl (w.heap.size + 1) 25 (lv (th a)) ?hx ?hy 96 lz HZ.out HI.out (fun i _ => lv_one _ i) ?_); (case hx => rfl); (case hy => rfl); intro W2 hr2 hg2; have HR2 := hik hr2; have HG2 := hik (HG.out.near hg2 (fun i e => by omega)); clear hr2 hg2))
          exact bodyPost_ret (results_all rfl _ _ (w.heap.size + 1) rfl 25 _ (lv (th a)) _ HR2.out Tryd.underlying96 HI.out) rfl ⟨rfl, HG2.out⟩

end Go.Proofs.YtkpohajmcngjcaaDoor
