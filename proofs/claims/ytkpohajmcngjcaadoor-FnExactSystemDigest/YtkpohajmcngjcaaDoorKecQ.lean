/- What the model's tables hold, and words for the walk of the model's permutation: contracts. No condition. -/
import Derived.Test.YtkpohajmcngjcaaDoorKecS
namespace Go.Proofs.YtkpohajmcngjcaaDoor
open Go.ChangeShapes Go.WideShapes Go.ChangeAt Go.RowKit
set_option linter.unusedVariables false
set_option linter.unusedSimpArgs false

theorem infoR : (Tryd.prog.info? 103).map (·.size) = some 24 := by kernel_rfl
theorem infoS : (Tryd.prog.info? 105).map (·.size) = some 25 := by kernel_rfl
theorem infoC : (Tryd.prog.info? 107).map (·.size) = some 5 := by kernel_rfl
/-- The tables, as values. -/
def rv (i : Nat) : Value := .int .u64 (rcn i : Int)
def sv (i : Nat) : Value := .int .u64 (sh i : Int)
set_option maxRecDepth 10000 in
set_option maxHeartbeats 1000000 in
theorem sRounds_any (w : World) :
    Calls Tryd.prog 77 #[] w fun e w' => e = .returned (.agg (rowA 24 rv)) ∧ Chg nob w w' := by
  have HI := hik infoR
  go_enter Tryd.func77, Tryd.ntmps77
  go_wp2_with ((with_reducible refine wpList_store_all 103 (.tmp 0) (.tmp 1) rfl rfl w.heap.size 24 rv ?hx ?hy 103 lz ?hr HI.out (fun i _ => rfl) ?_); (case hx => rfl); (case hy => rfl); (case hr => exact rowIs_at _ _ rfl 24 lz _ _ rfl); intro W2 hr2 hg2; have HR2 := hik hr2; have HG2 := hik (Chg.near ((Chg.refl nob w).alloc _) hg2 (fun i e => by omega)); clear hr2 hg2)
  exact bodyPost_ret (results_all rfl _ _ w.heap.size rfl 24 _ rv _ HR2.out Tryd.underlying103 HI.out) rfl ⟨rfl, HG2.out⟩
set_option maxRecDepth 10000 in
set_option maxHeartbeats 1000000 in
theorem sShifts_any (w : World) :
    Calls Tryd.prog 78 #[] w fun e w' => e = .returned (.agg (rowA 25 sv)) ∧ Chg nob w w' := by
  have HI := hik infoS
  go_enter Tryd.func78, Tryd.ntmps78
  go_wp2_with ((with_reducible refine wpList_store_all 105 (.tmp 0) (.tmp 1) rfl rfl w.heap.size 25 sv ?hx ?hy 105 lz ?hr HI.out (fun i _ => rfl) ?_); (case hx => rfl); (case hy => rfl); (case hr => exact rowIs_at _ _ rfl 25 lz _ _ rfl); intro W2 hr2 hg2; have HR2 := hik hr2; have HG2 := hik (Chg.near ((Chg.refl nob w).alloc _) hg2 (fun i e => by omega)); clear hr2 hg2)
  exact bodyPost_ret (results_all rfl _ _ w.heap.size rfl 25 _ sv _ HR2.out Tryd.underlying105 HI.out) rfl ⟨rfl, HG2.out⟩

/-- What lies where in the model's permutation. -/
structure PI (w W : World) (b3 b4 : Nat) (f : Nat → Value) : Prop where
  a : W.rowIs w.heap.size 92 25 f
  z : W.rowIs (w.heap.size + 1) 92 25 lz
  r : W.rowIs b3 103 24 rv
  s : W.rowIs b4 105 25 sv
  g : Chg nob w W
  o3 : w.heap.size + 1 < b3
  o4 : b3 < b4
theorem PI.chg {P : Nat → Prop} {w W W' : World} {b3 b4 : Nat} {f : Nat → Value} (h : PI w W b3 b4 f) (k : Chg P W W') (hp : ∀ i, P i → b4 < i) : PI w W' b3 b4 f :=
  ⟨rowIs_chg h.a k (fun x => by have := hp _ x; have := h.o3; have := h.o4; omega), rowIs_chg h.z k (fun x => by have := hp _ x; have := h.o3; have := h.o4; omega), rowIs_chg h.r k (fun x => by have := hp _ x; have := h.o4; omega), rowIs_chg h.s k (fun x => by have := hp _ x; omega), h.g.near k (fun i x => by have := hp _ x; have := h.o3; have := h.o4; omega), h.o3, h.o4⟩
theorem PI.keep {w W W' : World} {b3 b4 : Nat} {f : Nat → Value} (h : PI w W b3 b4 f) (k : Chg nob W W') : PI w W' b3 b4 f := h.chg k (fun _ x => x.elim)
theorem PI.drew {w W : World} {b3 b4 : Nat} {f : Nat → Value} (h : PI w W b3 b4 f) : PI w W.drew b3 b4 f := h.keep ((Chg.refl _ _).drew1)
theorem PI.lt {w W : World} {b3 b4 : Nat} {f : Nat → Value} (h : PI w W b3 b4 f) : b4 < W.heap.size := h.s.lt
theorem PI.setOut {w W : World} {b3 b4 : Nat} {f : Nat → Value} (h : PI w W b3 b4 f) (c i : Nat) (hc : b4 < c) (v : Value) : PI w (W.setCell ⟨c, i, none⟩ v) b3 b4 f :=
  h.chg (P := fun b => b = c) ((Chg.refl (fun b => b = c) W).setCell (p := ⟨c, i, none⟩) (fun _ => rfl) v) (fun j e => by subst e; exact hc)
theorem PI.setA {w W : World} {b3 b4 : Nat} {f g : Nat → Value} (h : PI w W b3 b4 f) (i : Nat) (v : Value) (e : ∀ j, j < 25 → (if j = i then v else f j) = g j) : PI w (W.setCell ⟨w.heap.size, i, none⟩ v) b3 b4 g :=
  ⟨(h.a.set i v).congr e, h.z.setOther (a := ⟨w.heap.size, i, none⟩) (by simp only [ne_eq]; omega) v, h.r.setOther (a := ⟨w.heap.size, i, none⟩) (by have := h.o3; simp only [ne_eq]; omega) v, h.s.setOther (a := ⟨w.heap.size, i, none⟩) (by have := h.o3; have := h.o4; simp only [ne_eq]; omega) v, h.g.setCell (p := ⟨w.heap.size, i, none⟩) (fun l => absurd l (by simp)) v, h.o3, h.o4⟩
theorem PI.alike {w W : World} {b3 b4 : Nat} {f g : Nat → Value} (h : PI w W b3 b4 f) (e : ∀ j, j < 25 → f j = g j) : PI w W b3 b4 g := ⟨h.a.congr e, h.z, h.r, h.s, h.g, h.o3, h.o4⟩

/-- Columns below x reckoned. -/
def cX (a : Nat → Lane) (x i : Nat) : Value := if i < x then lw (col a i) else .int .u64 0
theorem cX_set (a : Nat → Lane) (x i : Nat) : (if i = x then Value.int .u64 (bits .xor .u64 (bits .xor .u64 (bits .xor .u64 (bits .xor .u64 ((a x).toNat : Int) ((a (x + 5)).toNat : Int)) ((a (x + 10)).toNat : Int)) ((a (x + 15)).toNat : Int)) ((a (x + 20)).toNat : Int)) else cX a x i) = cX a (x + 1) i := by
  rw [xor64, xor64, xor64, xor64]
  unfold cX
  by_cases e : i = x
  · subst e; rw [if_pos rfl, if_pos (by omega)]; rfl
  · rw [if_neg e]
    by_cases h : i < x
    · rw [if_pos h, if_pos (by omega)]
    · rw [if_neg h, if_neg (by omega)]
/-- Lanes below n mixed. -/
def tX (a : Nat → Lane) (n i : Nat) : Value := if i < n then lw (th a i) else lw (a i)
theorem tX_set (a : Nat → Lane) (k i : Nat) : (if i = k then Value.int .u64 (bits .xor .u64 ((a k).toNat : Int) (bits .xor .u64 ((col a ((k + 4) % 5)).toNat : Int) ((rotl (col a ((k + 1) % 5)) 1).toNat : Int))) else tX a k i) = tX a (k + 1) i := by
  rw [xor64, xor64]
  unfold tX
  by_cases e : i = k
  · subst e; rw [if_pos rfl, if_pos (by omega)]; rfl
  · rw [if_neg e]
    by_cases h : i < k
    · rw [if_pos h, if_pos (by omega)]
    · rw [if_neg h, if_neg (by omega)]
/-- What is moved with the places below (x, y) done, column by column. -/
def pY (a : Nat → Lane) (x y i : Nat) : Value := if sx i < x ∨ (sx i = x ∧ i % 5 < y) then lw (pm a i) else .int .u64 0
theorem pY_set (a : Nat → Lane) (x y i : Nat) (hi : i < 25) (hx : x < 5) (hy : y < 5) : (if i = y + 5 * ((2 * x + 3 * y) % 5) then Value.int .u64 ((rotl (a (x + 5 * y)) (sh (x + 5 * y))).toNat : Int) else pY a x y i) = pY a x (y + 1) i := by
  have h1 := (src_at ⟨x, hx⟩ ⟨y, hy⟩)
  simp only at h1
  by_cases e : i = y + 5 * ((2 * x + 3 * y) % 5)
  · rw [if_pos e]
    rw [← e] at h1
    unfold pY
    rw [if_pos (.inr ⟨h1.1, by omega⟩)]
    unfold pm src lw
    rw [h1.1, h1.2]
  · rw [if_neg e]
    have h2 : ¬ (sx i = x ∧ i % 5 = y) := fun ⟨p, q⟩ => e (src_only ⟨x, hx⟩ ⟨y, hy⟩ ⟨i, hi⟩ p q)
    unfold pY
    by_cases h : sx i < x ∨ (sx i = x ∧ i % 5 < y)
    · rw [if_pos h, if_pos (by omega)]
    · rw [if_neg h, if_neg (by omega)]
theorem not64 (x : Lane) : bits .xor .u64 18446744073709551615 (x.toNat : Int) = ((~~~ x).toNat : Int) := by
  have h : (18446744073709551615 : Int) = ((BitVec.allOnes 64).toNat : Int) := by decide
  rw [h, xor64, BitVec.allOnes_xor]
/-- Rows mixed with the places below (x, y) done, column by column. -/
def cY (b t : Nat → Lane) (x y i : Nat) : Value := if i % 5 < x ∨ (i % 5 = x ∧ i / 5 < y) then lw (ch b i) else lw (t i)
theorem cY_set (b t : Nat → Lane) (x y i : Nat) (hx : x < 5) : (if i = x + 5 * y then Value.int .u64 (bits .xor .u64 ((b (x + 5 * y)).toNat : Int) (bits .and .u64 (bits .xor .u64 18446744073709551615 ((b ((x + 1) % 5 + 5 * y)).toNat : Int)) ((b ((x + 2) % 5 + 5 * y)).toNat : Int))) else cY b t x y i) = cY b t x (y + 1) i := by
  rw [not64, and64, xor64]
  by_cases e : i = x + 5 * y
  · subst e
    rw [if_pos rfl]
    unfold cY
    rw [if_pos (by omega)]
    unfold ch lw
    have h1 : (x + 5 * y) / 5 = y := by omega
    have h2 : (x + 5 * y) % 5 = x := by omega
    rw [h1, h2, Nat.mul_comm y 5, Nat.add_comm (5 * y) ((x + 2) % 5), Nat.add_comm (5 * y) ((x + 1) % 5), BitVec.and_comm]
  · rw [if_neg e]
    unfold cY
    by_cases h : i % 5 < x ∨ (i % 5 = x ∧ i / 5 < y)
    · rw [if_pos h, if_pos (by omega)]
    · rw [if_neg h, if_neg (by omega)]

end Go.Proofs.YtkpohajmcngjcaaDoor
