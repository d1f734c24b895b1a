/- What lastBlock answers: a contract. Condition: fewer than 136 bytes that can be read. -/
import Derived.Test.YtkpohajmcngjcaaDoorKecA
import Derived.Test.YtkpohajmcngjcaaDoorKecN
import Derived.Laws.CopyOwn
namespace Go.Proofs.YtkpohajmcngjcaaDoor
open Go.ChangeShapes Go.WideShapes Go.ChangeAt Go.RowKit
set_option linter.unusedVariables false
set_option linter.unusedSimpArgs false

theorem setRow_row {w : World} {g : Nat} {old : Array Value} {t : TypeId} (h : w.heap[g]? = some (.cells old t (0, 0))) (c : Array Value) : (w.setRow g c).heap[g]? = some (.cells c t (0, 0)) := by
  simp [World.setRow, Array.getElem?_modify, h]
section
variable {P : Program}
/-- Bytes copied into the beginning of a row. -/
theorem wpList_copy_into {w : World} {ops : Array Oper} {rest : List Oper} {o : Oper} {a : Act} {Q : Exit → Act → World → Prop} (d s : Operand) (dT sT : TypeId) (hgd : o.guard = none)
    (ho : o.op = .call { callee := .builtin .copy, args := #[d, s], argTypes := #[dT, sT] }) (elem : TypeId) (hu : P.underlying dT = some (.slice elem)) (hsz : (P.info? elem).map (·.size) = some 1)
    (g m : Nat) (c : Option Addr) (r cap : Nat) (hd : a.eval d = .slice (some ⟨g, 0, none⟩) m m) (hs : a.eval s = .slice c r cap)
    (t : TypeId) (f0 : Nat → Value) (hr : w.rowIs g t m f0) (y : Nat → Int) (hv : RowV w c r (bb y)) (hl : r ≤ m)
    (h : ∀ w', w'.rowIs g t m (fun i => if i < r then bb y i else f0 i) → Chg (fun b => b = g) w w' → wpList P ops Q rest (a.put o.dst (goInt r)) w') : wpList P ops Q (o :: rest) a w := by
  by_cases h0 : r = 0
  · subst h0
    exact wpList_copy_nothing hgd d s dT sT ho elem hu hsz _ _ m m 0 cap hd hs (by simp) (h w (hr.congr (fun i _ => by simp)) (Chg.refl _ _))
  · obtain ⟨xb, xo, rfl, hxb, hc⟩ := hv.all (by omega)
    refine wpList_copy_own hgd d s dT sT ho elem hu hsz g 0 m m ⟨xb, xo, none⟩ r cap hd hs (rowA m f0) t (rowA_of hr) ((List.range r).map (bb y)) (by simp [Nat.min_eq_left hl]) ?_ (by rw [rowA_size]; simp; exact hl) (by intro v hv; simp at hv; obtain ⟨i, _, rfl⟩ := hv; rfl) ?_
    · intro j v hj
      by_cases hjr : j < r
      · rw [List.getElem?_map, List.getElem?_range hjr] at hj
        simp at hj
        subst hj
        rw [Go.WideShapes.add_plain]
        exact hc j hjr
      · rw [List.getElem?_eq_none (by simp; omega)] at hj
        cases hj
    · have e : (a.put o.dst (goInt ((List.range r).map (bb y)).length)) = a.put o.dst (goInt r) := by simp
      rw [e]
      refine h _ ?_ ?_
      · refine ⟨_, setRow_row (rowA_of hr) _, by simp [rowA_size]; omega, fun i hi => ?_⟩
        simp only [List.take_zero, List.nil_append, List.getElem?_toArray]
        by_cases hir : i < r
        · rw [List.getElem?_append_left (by simpa using hir), List.getElem?_map, List.getElem?_range hir]
          simp [hir]
        · rw [List.getElem?_append_right (by simpa using Nat.le_of_not_lt hir)]
          simp [rowA, hir]
          rw [show r + (i - r) = i by omega]
          exact ⟨i, List.getElem?_range hi, rfl⟩
      · refine ⟨rfl, rfl, rfl, by simp [World.setRow], fun k hk hp => ?_⟩
        simp only [World.setRow, Array.getElem?_modify]
        rw [if_neg (fun e => hp e.symm)]
end
/-- The last block's bytes. -/
def lbz (y : Nat → Int) (r i : Nat) : Int := (if i < r then y i else if i = r then 1 else 0) + (if i = 135 then 128 else 0)
theorem lbz_blk (z : Nat → Int) (n i : Nat) (hi : i < 136) : lbz (fun i => z (136 * (n / 136) + i)) (n - 136 * (n / 136)) i = blk (pd z n) (n / 136) i := by
  unfold lbz blk pd pz pn
  dsimp only
  repeat' split
  all_goals omega

/-- Nothing in a row of bytes. -/
def b0 (_ : Nat) : Value := .int .u8 0
theorem infoBl : (Tryd.prog.info? 109).map (fun i => (i.zero, i.size)) = some (some (.agg (rowA 136 b0)), 136) := by kernel_rfl
theorem infoB1 : (Tryd.prog.info? 5).map (·.size) = some 1 := by kernel_rfl

theorem lbz_set1 (y : Nat → Int) (r i : Nat) (hi : i < 136) (h : r = 135) : (if i = 135 then Value.int .u8 129 else if i = r then .int .u8 1 else if i < r then bb y i else b0 i) = bb (lbz y r) i := by
  unfold bb b0 lbz
  repeat' split
  all_goals first | omega | rfl | (congr 1; omega)
theorem lbz_set0 (y : Nat → Int) (r i : Nat) (hi : i < 136) (h : r < 135) : (if i = 135 then Value.int .u8 128 else if i = r then .int .u8 1 else if i < r then bb y i else b0 i) = bb (lbz y r) i := by
  unfold bb b0 lbz
  repeat' split
  all_goals first | omega | rfl | (congr 1; omega)

set_option maxRecDepth 100000 in
set_option maxHeartbeats 1000000 in
theorem lastBlock_any (c : Option Addr) (r cap : Nat) (y : Nat → Int) (w : World) (hv : Hid (RowV w c r (bb y))) (hr : r < 136) :
    Calls Tryd.prog 63 #[.slice c r cap] w fun e w' => e = .returned (.string (bt (lbz y r) 136)) ∧ Chg nob w w' := by
  have hz := (zero_of_info infoBl).1
  have HB1 := hik infoB1
  have hr' : (r : Int) < 136 := by omega
  have x1 : bits .xor .u8 0 1 = 1 := by decide
  have x2 : bits .xor .u8 0 128 = 128 := by decide
  have x3 : bits .xor .u8 1 128 = 129 := by decide
  by_cases h5 : r = 135
  · have H5 := hik h5
    clear h5
    go_enter Tryd.func63, Tryd.ntmps63
    go_wp2_with ((with_reducible refine wpList_copy_into (.tmp 4) (.tmp 5) 34 34 rfl rfl 5 Tryd.underlying34 HB1.out w.heap.size 136 c r cap ?hd ?hs 109 b0 (rowIs_new w 136 b0 _) y ?hv (by omega) ?_); (case hd => rfl); (case hs => rfl); (case hv => exact hv.out.keep ((Chg.refl _ _).alloc _)); intro W1 hr1 hg1; have R1 := hik hr1; have G1 := hik (Chg.near ((Chg.refl nob w).alloc _) hg1 (fun i e => by omega)); clear hr1 hg1; have f1 := R1.out.frozen r; have c1 : W1.cell? ⟨w.heap.size, r, none⟩ = some (.int .u8 0) := ((R1.out.cell (i := r) (by omega)).trans (by simp [b0])); have R2 := hik (R1.out.set r (.int .u8 1)); have f2 := R2.out.frozen 135; have c2 : (W1.setCell ⟨w.heap.size, r, none⟩ (.int .u8 1)).cell? ⟨w.heap.size, 135, none⟩ = some (.int .u8 1) := ((R2.out.cell (i := 135) (by omega)).trans (congrArg some (if_pos H5.out.symm))); have R3 := hik ((R2.out.set 135 (.int .u8 129)).congr (g := bb (lbz y r)) (fun i hi => lbz_set1 y r i (by omega) H5.out)); have hcv := convB (some ⟨w.heap.size, 0, none⟩) 136 136 (lbz y r) _ (RowV.of_row R3.out (Nat.le_refl _)))
    go_ret
    exact ⟨rfl, (G1.out.setCell (p := ⟨w.heap.size, r, none⟩) (fun l => absurd l (by simp)) _).setCell (p := ⟨w.heap.size, 135, none⟩) (fun l => absurd l (by simp)) _⟩
  · go_enter Tryd.func63, Tryd.ntmps63
    go_wp2_with ((with_reducible refine wpList_copy_into (.tmp 4) (.tmp 5) 34 34 rfl rfl 5 Tryd.underlying34 HB1.out w.heap.size 136 c r cap ?hd ?hs 109 b0 (rowIs_new w 136 b0 _) y ?hv (by omega) ?_); (case hd => rfl); (case hs => rfl); (case hv => exact hv.out.keep ((Chg.refl _ _).alloc _)); intro W1 hr1 hg1; have R1 := hik hr1; have G1 := hik (Chg.near ((Chg.refl nob w).alloc _) hg1 (fun i e => by omega)); clear hr1 hg1; have f1 := R1.out.frozen r; have c1 : W1.cell? ⟨w.heap.size, r, none⟩ = some (.int .u8 0) := ((R1.out.cell (i := r) (by omega)).trans (by simp [b0])); have R2 := hik (R1.out.set r (.int .u8 1)); have f2 := R2.out.frozen 135; have c2 : (W1.setCell ⟨w.heap.size, r, none⟩ (.int .u8 1)).cell? ⟨w.heap.size, 135, none⟩ = some (.int .u8 0) := ((R2.out.cell (i := 135) (by omega)).trans (congrArg some ((if_neg (by omega)).trans (if_neg (by omega))))); have R3 := hik ((R2.out.set 135 (.int .u8 128)).congr (g := bb (lbz y r)) (fun i hi => lbz_set0 y r i (by omega) (by omega))); have hcv := convB (some ⟨w.heap.size, 0, none⟩) 136 136 (lbz y r) _ (RowV.of_row R3.out (Nat.le_refl _)))
    go_ret
    exact ⟨rfl, (G1.out.setCell (p := ⟨w.heap.size, r, none⟩) (fun l => absurd l (by simp)) _).setCell (p := ⟨w.heap.size, 135, none⟩) (fun l => absurd l (by simp)) _⟩

end Go.Proofs.YtkpohajmcngjcaaDoor
