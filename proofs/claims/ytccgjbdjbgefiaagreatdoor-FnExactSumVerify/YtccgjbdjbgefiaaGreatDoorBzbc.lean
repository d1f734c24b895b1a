/- Several texts in one: What lastBlock answers: a contract. Condition: fewer than 136 bytes that can be read. · What Keccak256 answers: a contract. Conditions: bytes that can be read; the tables hold the shifts and the rounds' constants. -/
import Derived.Test.YtccgjbdjbgefiaaGreatDoorBzal
import Derived.Laws.CopyOwn
import Derived.Test.YtccgjbdjbgefiaaGreatDoorBzan
import Derived.Deep.RegionWith
import Derived.Deep.RegionHeld3
import Derived.Deep.DeepCutAuto
import Derived.Deep.CutBlock
import Derived.Deep.DrawnRows
namespace Go.Proofs.YtccgjbdjbgefiaaGreatDoor
open Go.ChangeShapes Go.WideShapes Go.ChangeAt Go.RowKit
set_option linter.unusedVariables false
set_option linter.unusedSimpArgs false

theorem setRow_row {w : World} {g : Nat} {old : Array Value} {t : TypeId} (h : w.heap[g]? = some (.cells old t (0, 0))) (c : Array Value) : (w.setRow g c).heap[g]? = some (.cells c t (0, 0)) := by
  simp [World.setRow, Array.getElem?_modify, h]
section
variable {P : Program}
/-- Bytes copied into the beginning of a row. -/
theorem wpList_copy_into {w : World} {ops : Array Oper} {rest : List Oper} {o : Oper} {a : Act} {Q : Exit → Act → World → Prop} (d s : Operand) (dT sT : TypeId) (hgd : o.guard = none)
    (ho : o.op = .call { callee := .builtin .copy, args := #[d, s], argTypes := #[dT, sT] }) (elem : TypeId) (hu : P.underlying dT = some (.slice elem)) (hsz : (P.info? elem).map (·.size) = some 1)
    (g m : Nat) (c : Option Addr) (r cap : Nat) (hd : a.eval d = .slice (some ⟨g, 0, none⟩) m m) (hs : a.eval s = .slice c r cap)
    (t : TypeId) (f0 : Nat → Value) (hr : w.rowIs g t m f0) (y : Nat → Int) (hv : RowV w c r (bb y)) (hl : r ≤ m)
    (h : ∀ w', w'.rowIs g t m (fun i => if i < r then bb y i else f0 i) → Chg (fun b => b = g) w w' → wpList P ops Q rest (a.put o.dst (goInt r)) w') : wpList P ops Q (o :: rest) a w := by
  by_cases h0 : r = 0
  · subst h0
    exact wpList_copy_nothing hgd d s dT sT ho elem hu hsz _ _ m m 0 cap hd hs (by simp) (h w (hr.congr (fun i _ => by simp)) (Chg.refl _ _))
  · obtain ⟨xb, xo, rfl, hxb, hc⟩ := hv.all (by omega)
    refine wpList_copy_own hgd d s dT sT ho elem hu hsz g 0 m m ⟨xb, xo, none⟩ r cap hd hs (rowA m f0) t (rowA_of hr) ((List.range r).map (bb y)) (by simp [Nat.min_eq_left hl]) ?_ (by rw [rowA_size]; simp; exact hl) (by intro v hv; simp at hv; obtain ⟨i, _, rfl⟩ := hv; rfl) ?_
    · intro j v hj
      by_cases hjr : j < r
      · rw [List.getElem?_map, List.getElem?_range hjr] at hj
        simp at hj
        subst hj
        rw [Go.WideShapes.add_plain]
        exact hc j hjr
      · rw [List.getElem?_eq_none (by simp; omega)] at hj
        cases hj
    · have e : (a.put o.dst (goInt ((List.range r).map (bb y)).length)) = a.put o.dst (goInt r) := by simp
      rw [e]
      refine h _ ?_ ?_
      · refine ⟨_, setRow_row (rowA_of hr) _, by simp [rowA_size]; omega, fun i hi => ?_⟩
        simp only [List.take_zero, List.nil_append, List.getElem?_toArray]
        by_cases hir : i < r
        · rw [List.getElem?_append_left (by simpa using hir), List.getElem?_map, List.getElem?_range hir]
          simp [hir]
        · rw [List.getElem?_append_right (by simpa using Nat.le_of_not_lt hir)]
          simp [rowA, hir]
          rw [show r + (i - r) = i by omega]
          exact ⟨i, List.getElem?_range hi, rfl⟩
      · refine ⟨rfl, rfl, rfl, by simp [World.setRow], fun k hk hp => ?_⟩
        simp only [World.setRow, Array.getElem?_modify]
        rw [if_neg (fun e => hp e.symm)]
end
/-- The last block's bytes. -/
def lbz (y : Nat → Int) (r i : Nat) : Int := (if i < r then y i else if i = r then 1 else 0) + (if i = 135 then 128 else 0)
theorem lbz_blk (z : Nat → Int) (n i : Nat) (hi : i < 136) : lbz (fun i => z (136 * (n / 136) + i)) (n - 136 * (n / 136)) i = blk (pd z n) (n / 136) i := by
  unfold lbz blk pd pz pn
  dsimp only
  repeat' split
  all_goals omega

/-- Nothing in a row of bytes. -/
def b0 (_ : Nat) : Value := .int .u8 0
theorem infoBl : (Tryz.prog.info? 136).map (fun i => (i.zero, i.size)) = some (some (.agg (rowA 136 b0)), 136) := by kernel_rfl
theorem infoB1 : (Tryz.prog.info? 5).map (·.size) = some 1 := by kernel_rfl

theorem lbz_set1 (y : Nat → Int) (r i : Nat) (hi : i < 136) (h : r = 135) : (if i = 135 then Value.int .u8 129 else if i = r then .int .u8 1 else if i < r then bb y i else b0 i) = bb (lbz y r) i := by
  unfold bb b0 lbz
  repeat' split
  all_goals first | omega | rfl | (congr 1; omega)
theorem lbz_set0 (y : Nat → Int) (r i : Nat) (hi : i < 136) (h : r < 135) : (if i = 135 then Value.int .u8 128 else if i = r then .int .u8 1 else if i < r then bb y i else b0 i) = bb (lbz y r) i := by
  unfold bb b0 lbz
  repeat' split
  all_goals first | omega | rfl | (congr 1; omega)

set_option maxRecDepth 100000 in
set_option maxHeartbeats 1000000 in
theorem lastBlock_any (c : Option Addr) (r cap : Nat) (y : Nat → Int) (w : World) (hv : Hid (RowV w c r (bb y))) (hr : r < 136) :
    Calls Tryz.prog 97 #[.slice c r cap] w fun e w' => e = .returned (.string (bt (lbz y r) 136)) ∧ Chg nob w w' := by
  have hz := (zero_of_info infoBl).1
  have HB1 := hik infoB1
  have hr' : (r : Int) < 136 := by omega
  have x1 : bits .xor .u8 0 1 = 1 := by decide
  have x2 : bits .xor .u8 0 128 = 128 := by decide
  have x3 : bits .xor .u8 1 128 = 129 := by decide
  by_cases h5 : r = 135
  · have H5 := hik h5
    clear h5
    go_enter Tryz.func97, Tryz.ntmps97
    go_wp2_with ((with_reducible refine wpList_copy_into (.tmp 4) (.tmp 5) 86 86 rfl rfl 5 Tryz.underlying86 HB1.out w.heap.size 136 c r cap ?hd ?hs 136 b0 (rowIs_new w 136 b0 _) y ?hv (by omega) ?_); (case hd => rfl); (case hs => rfl); (case hv => exact hv.out.keep ((Chg.refl _ _).alloc _)); intro W1 hr1 hg1; have R1 := hik hr1; have G1 := hik (Chg.near ((Chg.refl nob w).alloc _) hg1 (fun i e => by omega)); clear hr1 hg1; have f1 := R1.out.frozen r; have c1 : W1.cell? ⟨w.heap.size, r, none⟩ = some (.int .u8 0) := ((R1.out.cell (i := r) (by omega)).trans (by simp [b0])); have R2 := hik (R1.out.set r (.int .u8 1)); have f2 := R2.out.frozen 135; have c2 : (W1.setCell ⟨w.heap.size, r, none⟩ (.int .u8 1)).cell? ⟨w.heap.size, 135, none⟩ = some (.int .u8 1) := ((R2.out.cell (i := 135) (by omega)).trans (congrArg some (if_pos H5.out.symm))); have R3 := hik ((R2.out.set 135 (.int .u8 129)).congr (g := bb (lbz y r)) (fun i hi => lbz_set1 y r i (by omega) H5.out)); have hcv := convB (some ⟨w.heap.size, 0, none⟩) 136 136 (lbz y r) _ (RowV.of_row R3.out (Nat.le_refl _)))
    go_ret
    exact ⟨rfl, (G1.out.setCell (p := ⟨w.heap.size, r, none⟩) (fun l => absurd l (by simp)) _).setCell (p := ⟨w.heap.size, 135, none⟩) (fun l => absurd l (by simp)) _⟩
  · go_enter Tryz.func97, Tryz.ntmps97
    go_wp2_with ((with_reducible refine wpList_copy_into (.tmp 4) (.tmp 5) 86 86 rfl rfl 5 Tryz.underlying86 HB1.out w.heap.size 136 c r cap ?hd ?hs 136 b0 (rowIs_new w 136 b0 _) y ?hv (by omega) ?_); (case hd => rfl); (case hs => rfl); (case hv => exact hv.out.keep ((Chg.refl _ _).alloc _)); intro W1 hr1 hg1; have R1 := hik hr1; have G1 := hik (Chg.near ((Chg.refl nob w).alloc _) hg1 (fun i e => by omega)); clear hr1 hg1; have f1 := R1.out.frozen r; have c1 : W1.cell? ⟨w.heap.size, r, none⟩ = some (.int .u8 0) := ((R1.out.cell (i := r) (by omega)).trans (by simp [b0])); have R2 := hik (R1.out.set r (.int .u8 1)); have f2 := R2.out.frozen 135; have c2 : (W1.setCell ⟨w.heap.size, r, none⟩ (.int .u8 1)).cell? ⟨w.heap.size, 135, none⟩ = some (.int .u8 0) := ((R2.out.cell (i := 135) (by omega)).trans (congrArg some ((if_neg (by omega)).trans (if_neg (by omega))))); have R3 := hik ((R2.out.set 135 (.int .u8 128)).congr (g := bb (lbz y r)) (fun i hi => lbz_set0 y r i (by omega) (by omega))); have hcv := convB (some ⟨w.heap.size, 0, none⟩) 136 136 (lbz y r) _ (RowV.of_row R3.out (Nat.le_refl _)))
    go_ret
    exact ⟨rfl, (G1.out.setCell (p := ⟨w.heap.size, r, none⟩) (fun l => absurd l (by simp)) _).setCell (p := ⟨w.heap.size, 135, none⟩) (fun l => absurd l (by simp)) _⟩

end Go.Proofs.YtccgjbdjbgefiaaGreatDoor

namespace Go.Proofs.YtccgjbdjbgefiaaGreatDoor
open Go.ChangeShapes Go.WideShapes Go.ChangeAt Go.RowKit
set_option linter.unusedVariables false
set_option linter.unusedSimpArgs false

/-- The hash of a message. -/
def kh (z : Nat → Int) (n : Nat) : ByteArray := if 65536 < n then ⟨#[]⟩ else bt (lb (hst (pd z n) (n / 136 + 1))) 32
theorem run_load_all {P : Program} {w : World} {g n : Nat} {t e : TypeId} {f : Nat → Value} (hr : w.rowIs g t n f) (hu : P.underlying t = some (.array n e)) (hi : (P.info? t).map (·.size) = some n) :
    (Instr.loadAt t (.pointer (some ⟨g, 0, none⟩))).run P w = .ok (.agg (rowA n f)) w := by
  simp only [Instr.loadAt, Instr.sureAddr, Sem.run_bind, Sem.run_pure, Result.andThen]
  exact run_loadVar_row w g t t (rowA n f) (0, 0) (.array n e) (rowA_of hr) hu rfl (by rw [rowA_size]; exact hi)
theorem run_store_all {P : Program} {w : World} {g n : Nat} {t : TypeId} {f f0 : Nat → Value} (hr : w.rowIs g t n f0) (hi : (P.info? t).map (·.size) = some n) (h1 : ∀ i, i < n → (f i).oneCell' = true) :
    (Instr.storeAt t (.pointer (some ⟨g, 0, none⟩)) (.agg (rowA n f))).run P w = .ok () (w.setRow g (rowA n f)) := by
  simp only [Instr.storeAt, Instr.sureAddr, Sem.run_bind, Sem.run_pure, Result.andThen]
  refine run_storeVar_row w g t t (rowA n f0) (rowA n f) (rowA_of hr) (by rw [rowA_size]; exact hi) (by rw [rowA_size, rowA_size]) ?_
  rw [Array.all_eq_true_iff_forall_mem]
  intro v hv
  simp only [rowA, List.mem_toArray, List.mem_map, List.mem_range] at hv
  obtain ⟨i, hi, rfl⟩ := hv
  exact h1 i hi
theorem rowIs_setRow {w : World} {g n : Nat} {t : TypeId} {f f0 : Nat → Value} (hr : w.rowIs g t n f0) : (w.setRow g (rowA n f)).rowIs g t n f := rowIs_of (setRow_row (rowA_of hr) _)
theorem chg_setRow (w : World) (g : Nat) (c : Array Value) : Chg (fun b => b = g) w (w.setRow g c) :=
  ⟨rfl, rfl, rfl, by simp [World.setRow], fun k hk hp => by
    simp only [World.setRow, Array.getElem?_modify]
    rw [if_neg (fun e => hp e.symm)]⟩

/-- A whole state out of memory, into memory. -/
def loadLn (v : Value) : Sem Value := Instr.loadAt 129 v
def storeLn (v x : Value) : Sem Unit := Instr.storeAt 129 v x
theorem exec_loadLn (a : Act) (dst : Option Tmp) (x : Operand) (ty : TypeId) (pos : String) (after : Array Edge) (guard : Option (Nat × Bool)) :
    execOp a.eval { dst, op := .load 129 x, type := ty, pos, after, guard } = (do pure (.value (← loadLn (a.eval x)))) := rfl
theorem exec_storeLn (a : Act) (dst : Option Tmp) (x y : Operand) (ty : TypeId) (pos : String) (after : Array Edge) (guard : Option (Nat × Bool)) :
    execOp a.eval { dst, op := .store 129 x y, type := ty, pos, after, guard } = (do storeLn (a.eval x) (a.eval y); pure .skip) := rfl
attribute [local go_sem ↓] exec_loadLn exec_storeLn Go.wp_at_zero Go.wp_at_succ

theorem pd_mid (z : Nat → Int) (n j i : Nat) (h : 136 * j + i < n) : z (136 * j + i) = blk (pd z n) j i := by
  have := pn_gt n
  unfold blk pd pz
  rw [if_neg (by omega), if_pos h]

theorem lbz_B (z : Nat → Int) (j k i : Nat) (hz : isB z) (hk : k < 136) : 0 ≤ lbz (fun i => z (136 * j + i)) k i ∧ lbz (fun i => z (136 * j + i)) k i < 256 := by
  have h := hz (136 * j + i)
  unfold lbz
  dsimp only
  repeat' split
  all_goals omega

set_option maxRecDepth 100000 in
set_option maxHeartbeats 4000000 in
theorem keccak_any (c : Option Addr) (n cap : Nat) (z : Nat → Int) (w : World) (hv : Hid (RowV w c n (bb z))) (hz : Hid (isB z)) (ht : Hid (Tabs w)) (hn : n ≤ 1099511627776) (hcap : n ≤ cap) (hcm : (cap : Int) ≤ 9223372036854775807) :
    Calls Tryz.prog 90 #[.slice c n cap] w fun e w' => e = .returned (.string (bt (lb (hst (pd z n) (n / 136 + 1))) 32)) ∧ Chg nob w w' := by
  have HI := hik infoL
  have HP := hik (pd_B z n hz.out)
  go_enter Tryz.func90, Tryz.ntmps90
  go_wp2
  go_loopw [0] (fun v W => ∃ (j k cap' : Nat) (c' : Option Addr), n = 136 * j + k ∧ k ≤ cap' ∧ (cap' : Int) ≤ 9223372036854775807 ∧ v = .slice c' k cap' ∧ Hid (RowV w c' k (bb (fun i => z (136 * j + i)))) ∧ Hid (W.rowIs w.heap.size 129 25 (lv (hst (pd z n) j))) ∧ Hid (Chg nob w W)) (fun v _ => match v with | .slice _ k _ => k | _ => 0)
  case atStart => exact ⟨0, n, cap, c, by omega, hcap, hcm, rfl, hik (hv.out.congr (fun i _ => by unfold bb; simp)), hik (rowIs_at _ _ rfl 25 _ _ _ rfl), hik ((Chg.refl _ _).alloc _)⟩
  case round =>
    obtain ⟨j, k, cap', c', hnk, hkc, hcm', rfl, HV, HS, HG⟩ := hrel
    have HN := hik hnk
    by_cases hlt : 136 ≤ k
    · have hlt' : (136 : Int) ≤ (k : Int) := by omega
      have hkc' : (k : Int) ≤ (cap' : Int) := by omega
      have hc136 : (136 : Int) ≤ (cap' : Int) := by omega
      obtain ⟨xb, xo, rfl, hxb, hcell⟩ := HV.out.all (by omega)
      have HX := hik hcell
      clear hcell hnk
      have hld : (loadLn (.pointer (some ⟨w.heap.size, 0, none⟩))).run Tryz.prog wr.drew = .ok (.agg (rowA 25 (lv (hst (pd z n) j)))) wr.drew := run_load_all (P := Tryz.prog) (w := wr.drew) HS.out Tryz.underlying129 HI.out
      have hcv := convB (some ⟨xb, xo, none⟩) 136 cap' (fun i => z (136 * j + i)) wr.drew (RowV.keep (show RowV w (some ⟨xb, xo, none⟩) 136 _ from fun i hi => ⟨xb, xo, rfl, hxb, HX.out i (by omega)⟩) HG.out.drew1)
      go_wp2
      go_region_with (first | (go_at_call 95; refine (taking_any (hst (pd z n) j) (bt (fun i => z (136 * j + i)) 136) _ (by rw [bt_size]; omega)).mono ?_; rintro e W1 ⟨rfl, k1⟩; have G1 := hik (HG.out.drew1.trans k1); have S1 := hik (rowIs_keep HS.out.drew k1); clear k1) | (go_at_call 96; refine (permuted_any _ _ (hik (ht.out.keep G1.out))).mono ?_; rintro e W2 ⟨rfl, k2⟩; have G2 := hik (G1.out.trans k2); have S2 := hik (rowIs_keep S1.out k2); clear k2; have hst2 : (storeLn (.pointer (some ⟨w.heap.size, 0, none⟩)) (.agg (la (prm (tk (hst (pd z n) j) (zs (bt (fun i => z (136 * j + i)) 136)) (bt (fun i => z (136 * j + i)) 136).size) 24)))).run Tryz.prog W2 = .ok () (W2.setRow w.heap.size (la (prm (tk (hst (pd z n) j) (zs (bt (fun i => z (136 * j + i)) 136)) (bt (fun i => z (136 * j + i)) 136).size) 24))) := run_store_all (P := Tryz.prog) S2.out HI.out (fun i _ => lv_one _ i)))
      all_goals
        have HR := hik ((rowIs_setRow (f := lv (prm (tk (hst (pd z n) j) (zs (bt (fun i => z (136 * j + i)) 136)) (bt (fun i => z (136 * j + i)) 136).size) 24)) S2.out).congr (g := lv (hst (pd z n) (j + 1))) (fun i hi => by
          unfold lv
          rw [bt_size, hst_take (pd z n) HP.out j (zs (bt (fun i => z (136 * j + i)) 136)) (fun i hi => (bt_zs (fun i => z (136 * j + i)) 136 i hi (hz.out _).1 (hz.out _).2).trans (pd_mid z n j i (by have := HN.out; omega))) i hi]))
        have HG2 := hik (G2.out.near (chg_setRow W2 w.heap.size (la (prm (tk (hst (pd z n) j) (zs (bt (fun i => z (136 * j + i)) 136)) (bt (fun i => z (136 * j + i)) 136).size) 24))) (fun i e => by omega))
        clear hst2 S2 G2 S1 G1
        by_cases hq : cap' = 136
        · have hq' : (cap' : Int) = 136 := by omega
          have hk6 : k = 136 := by omega
          subst hk6
          subst hq
          go_wp2
          go_roundw
          case rel => exact ⟨j + 1, 0, 0, _, by have := HN.out; omega, by omega, by omega, rfl, hik (fun i hi => absurd hi (by omega)), HR, HG2⟩
          case measure => simp
        · have hq' : (136 : Int) < (cap' : Int) := by omega
          have hq2 : ¬ (cap' : Int) - 136 = 0 := by omega
          have hq3 : ¬ cap' - 136 = 0 := by omega
          go_wp2
          go_roundw
          case rel => exact ⟨j + 1, k - 136, cap' - 136, some ⟨xb, xo + 136, none⟩, by have := HN.out; omega, by omega, by omega, rfl, hik (fun i hi => ⟨xb, xo + 136, rfl, hxb, by
            have q := HX.out (136 + i) (by omega)
            rw [← Nat.add_assoc] at q
            rw [q]
            show some (Value.int .u8 (z (136 * j + (136 + i)))) = some (Value.int .u8 (z (136 * (j + 1) + i)))
            rw [show 136 * j + (136 + i) = 136 * (j + 1) + i by omega]⟩), HR, HG2⟩
          case measure => simp; omega
    · have hlt' : ¬ (136 : Int) ≤ (k : Int) := by omega
      have hj : j = n / 136 := by omega
      have hk : k = n - 136 * (n / 136) := by omega
      have HJ := hik hj
      have HKK := hik hk
      clear hnk hj hk
      have hld : (loadLn (.pointer (some ⟨w.heap.size, 0, none⟩))).run Tryz.prog wr.drew = .ok (.agg (rowA 25 (lv (hst (pd z n) j)))) wr.drew := run_load_all (P := Tryz.prog) (w := wr.drew) HS.out Tryz.underlying129 HI.out
      go_wp2
      go_region_with (first | (go_at_call 97; refine (lastBlock_any c' k cap' (fun i => z (136 * j + i)) _ (hik (HV.out.keep HG.out.drew1)) (by omega)).mono ?_; rintro e W1 ⟨rfl, k1⟩; have G1 := hik (HG.out.drew1.trans k1); have hld1 : (loadLn (.pointer (some ⟨w.heap.size, 0, none⟩))).run Tryz.prog W1 = .ok (.agg (rowA 25 (lv (hst (pd z n) j)))) W1 := run_load_all (P := Tryz.prog) (w := W1) (rowIs_keep HS.out.drew k1) Tryz.underlying129 HI.out; clear k1) | (go_at_call 95; refine (taking_any (hst (pd z n) j) (bt (lbz (fun i => z (136 * j + i)) k) 136) _ (by rw [bt_size]; omega)).mono ?_; rintro e W2 ⟨rfl, k2⟩; have G2 := hik (G1.out.trans k2); clear k2) | (go_at_call 96; refine (permuted_any _ _ (hik (ht.out.keep G2.out))).mono ?_; rintro e W3 ⟨rfl, k3⟩; have G3 := hik (G2.out.trans k3); clear k3) | (go_at_call 98; refine (firstBytes_any _ 32 _ (by omega)).mono ?_; rintro e W4 ⟨rfl, k4⟩; have G4 := hik (G3.out.trans k4); clear k4))
      all_goals
        go_wp2
        go_ret
        refine ⟨ret_of (congrArg Value.string ?_), G4.out⟩
        rw [bt_size]
        apply bt_congr
        intro i hi
        have hs := hst_take (pd z n) HP.out j (zs (bt (lbz (fun i => z (136 * j + i)) k) 136)) (fun i hi => (bt_zs (lbz (fun i => z (136 * j + i)) k) 136 i hi (lbz_B z j k i hz.out (by omega)).1 (lbz_B z j k i hz.out (by omega)).2).trans (by rw [HJ.out, HKK.out]; exact lbz_blk z n i hi))
        unfold lb by8
        rw [hs (i / 8) (by omega), HJ.out]

set_option maxHeartbeats 1000000 in
theorem keccak256_any (c : Option Addr) (n cap : Nat) (z : Nat → Int) (w : World) (hv : Hid (RowV w c n (bb z))) (hz : Hid (isB z)) (ht : Hid (Tabs w)) (hn : n ≤ 1099511627776) (hcap : n ≤ cap) (hcm : (cap : Int) ≤ 9223372036854775807) :
    Calls Tryz.prog 122 #[.slice c n cap] w fun e w' => e = .returned (.string (kh z n)) ∧ Chg nob w w' := by
  by_cases h1 : 65536 < n
  · have h1' : 65536 < (n : Int) := by omega
    have hp : kh z n = ⟨#[]⟩ := by unfold kh; rw [if_pos h1]
    rw [hp]
    go_enter Tryz.func122, Tryz.ntmps122
    go_wp2
    go_ret
    exact ⟨rfl, Chg.refl _ _⟩
  have h1' : ¬ 65536 < (n : Int) := by omega
  have hp : kh z n = bt (lb (hst (pd z n) (n / 136 + 1))) 32 := by unfold kh; rw [if_neg h1]
  rw [hp]
  clear hp h1
  go_enter Tryz.func122, Tryz.ntmps122
  go_wp2_with (go_at_call 90; refine (keccak_any c n cap z _ hv hz ht hn hcap hcm).mono ?_; rintro e W1 ⟨rfl, k1⟩)
  go_ret
  exact ⟨rfl, k1⟩

end Go.Proofs.YtccgjbdjbgefiaaGreatDoor
