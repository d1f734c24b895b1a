/- Several texts in one: Bytes of texts, and what is converted: words and laws. No condition. · Words on memory: whole arrays by value, out of rows and into rows. No program is named here. · Words on memory: whole arrays by value, out of rows and into rows. No program is named here. · What turnLeft and columnsMixed answer: contracts. No condition. · Rows of bytes that grow by append, out of a converted string too: words and laws. No program is named here. -/
import Derived.Test.YtgiefpipflcbgaqGreatDoorRows
import Derived.Test.YtgiefpipflcbgaqGreatDoorBzae
import Derived.WalkKit
import Derived.ProofKit
import Derived.OpenShut
import Derived.OwnWalk
import Derived.Laws.BytesArg
import Derived.Laws.Rows
import Derived.Laws.Tables
import Derived.Deep.WholeRow
import Derived.Test.YtgiefpipflcbgaqGreatDoorBzab
import Derived.Deep.QuietTactic
import Derived.BigQuiet
import Derived.ArgAppend
import Derived.Lib.ConvBytes
namespace Go.Proofs.YtgiefpipflcbgaqGreatDoor
open Go.ChangeShapes Go.WideShapes Go.ChangeAt Go.RowKit
set_option linter.unusedVariables false
set_option linter.unusedSimpArgs false

/-- Byte i of a string. -/
def zs (s : ByteArray) (i : Nat) : Int := ((s.data.toList[i]?.getD 0).toNat : Int)
theorem zs_lo (s : ByteArray) (i : Nat) : 0 ≤ zs s i := by unfold zs; omega
theorem zs_hi (s : ByteArray) (i : Nat) : zs s i < 256 := by unfold zs; have := UInt8.toNat_lt (s.data.toList[i]?.getD 0); omega
theorem zs_at (s : ByteArray) (i : Nat) (h : i < s.size) : (s[i].toNat : Int) = zs s i := by
  unfold zs
  have e : s.data.toList[i]? = some s[i] := by
    rw [List.getElem?_eq_getElem (by simpa using h)]
    rfl
  rw [e]
  rfl
/-- Bytes as values. -/
def bb (z : Nat → Int) (i : Nat) : Value := .int .u8 (z i)
/-- Numbers as a text. -/
def bt (z : Nat → Int) (n : Nat) : ByteArray := strOfNums ((List.range n).map z)
theorem bt_size (z : Nat → Int) (n : Nat) : (bt z n).size = n := by unfold bt; rw [strOfNums_size]; simp
theorem bt_zs (z : Nat → Int) (n i : Nat) (hi : i < n) (h0 : 0 ≤ z i) (h1 : z i < 256) : zs (bt z n) i = z i := by
  unfold zs bt
  rw [strOfNums_data, List.getElem?_map, List.getElem?_map, List.getElem?_range hi]
  simp
  omega
theorem bt_congr {y z : Nat → Int} {n : Nat} (h : ∀ i, i < n → y i = z i) : bt y n = bt z n := by
  unfold bt
  congr 1
  exact List.map_congr_left (fun i hi => h i (by simpa using hi))
theorem RowV.all {w : World} {c : Option Addr} {n : Nat} {f : Nat → Value} (h : RowV w c n f) (hn : 0 < n) : ∃ xb xo : Nat, c = some ⟨xb, xo, none⟩ ∧ xb < w.heap.size ∧ ∀ i, i < n → w.cell? ⟨xb, xo + i, none⟩ = some (f i) := by
  obtain ⟨xb, xo, e, l, _⟩ := h 0 hn
  refine ⟨xb, xo, e, l, fun i hi => ?_⟩
  obtain ⟨xb', xo', e', _, hc⟩ := h i hi
  rw [e] at e'
  obtain ⟨rfl, rfl⟩ : xb = xb' ∧ xo = xo' := by simpa using e'
  exact hc
theorem convB (c : Option Addr) (n cap : Nat) (z : Nat → Int) (w : World) (h : RowV w c n (bb z)) :
    (convert 106 9 (.slice c n cap)).run Tryz.prog w = .ok (.string (bt z n)) w := by
  by_cases hn : n = 0
  · subst hn
    cases c with
    | none =>
      rw [run_convert_bytes_nil w 106 5 Tryz.underlying106 Tryz.underlying5 0 cap 9 Tryz.underlying9]
      rfl
    | some a =>
      rw [run_convert_bytes_string w 106 9 5 _ 0 cap Tryz.underlying106 Tryz.underlying5 Tryz.underlying9, run_bytesToString w a 0 cap [] (by simp [loadCells, loadCellsFrom])]
      rfl
  · obtain ⟨xb, xo, rfl, hxb, hc⟩ := h.all (by omega)
    exact run_convert_bytes_arg w 106 5 Tryz.underlying106 Tryz.underlying5 xb xo n cap ((List.range n).map z) (by simp) (fun i hi => by rw [hc i hi]; simp [bb, List.getD, List.getElem?_map, List.getElem?_range hi]) 9 Tryz.underlying9

theorem infoB : (Tryz.prog.info? 5).map (fun i => (i.zero, i.size, i.bytes)) = some (some (.int .u8 0), 1, 1) := by kernel_rfl

theorem owns_new (w : World) (B : Nat) (t : TypeId) (z : Nat) (hB : B ≤ w.heap.size) : (w.alloc (.cells #[] t)).ownsRow B t z (.slice (some ⟨w.heap.size, 0, none⟩) 0 0) 0 [] :=
  ⟨by simp, .inr ⟨w.heap.size, 0, #[], rfl, hB, Array.getElem?_push_size, Nat.le_refl _, Nat.zero_le _, by simp, by simp⟩⟩
theorem bytes_snoc (z : Nat → Int) (k : Nat) : (List.range k).map (bb z) ++ [.int .u8 (z k)] = (List.range (k + 1)).map (bb z) := by
  rw [List.range_succ, List.map_append]; rfl
/-- What is owned can be read. -/
theorem rowV_of_owns {w : World} {B n : Nat} {t : TypeId} {v : Value} {h : Nat → Value} (ho : w.ownsRow B t 1 v n ((List.range n).map h)) (hn : 0 < n) : ∃ (b cap : Nat), v = .slice (some ⟨b, 0, none⟩) n cap ∧ B ≤ b ∧ b < w.heap.size ∧ RowV w (some ⟨b, 0, none⟩) n h := by
  rcases ho.2 with ⟨_, h0⟩ | ⟨g, cap, cur, rfl, hb, hcur, _⟩
  · exact absurd h0 (by omega)
  · refine ⟨g, cap, rfl, hb, (Array.getElem?_eq_some_iff.1 hcur).1, fun i hi => ⟨g, 0, rfl, (Array.getElem?_eq_some_iff.1 hcur).1, ?_⟩⟩
    have := ho.cells rfl i (h i) (by simp [List.getElem?_map, List.getElem?_range hi])
    rw [Go.WideShapes.add_plain] at this
    exact this

end Go.Proofs.YtgiefpipflcbgaqGreatDoor

namespace Go.Proofs.YtgiefpipflcbgaqGreatDoor
open Go.RowKit

/-- n values in an array. -/
def rowA (n : Nat) (f : Nat → Value) : Array Value := ((List.range n).map f).toArray
theorem rowA_size (n : Nat) (f : Nat → Value) : (rowA n f).size = n := by simp [rowA]
theorem rowA_at (n : Nat) (f : Nat → Value) (i : Nat) (h : i < n) : (rowA n f)[i]? = some (f i) := by simp [rowA, h]
theorem rowA_get (n : Nat) (f : Nat → Value) (i : Nat) (h : i < (rowA n f).size) : (rowA n f)[i] = f i := by simp [rowA]
theorem rowA_congr {n : Nat} {f g : Nat → Value} (h : ∀ i, i < n → f i = g i) : rowA n f = rowA n g := by
  unfold rowA
  congr 1
  exact List.map_congr_left (fun i hi => h i (by simpa using hi))
theorem rowA_of {w : World} {b : Nat} {t : TypeId} {n : Nat} {f : Nat → Value} (h : w.rowIs b t n f) : w.heap[b]? = some (.cells (rowA n f) t (0, 0)) := by
  obtain ⟨c, hb, hn, hc⟩ := h
  have e : c = rowA n f := by
    apply Array.ext_getElem?
    intro i
    by_cases hi : i < n
    · rw [hc i hi, rowA_at n f i hi]
    · rw [Array.getElem?_eq_none (by omega), Array.getElem?_eq_none (by rw [rowA_size]; omega)]
  rw [hb, e]
theorem rowIs_of {w : World} {b : Nat} {t : TypeId} {n : Nat} {f : Nat → Value} (h : w.heap[b]? = some (.cells (rowA n f) t (0, 0))) : w.rowIs b t n f :=
  ⟨_, h, rowA_size n f, fun i hi => rowA_at n f i hi⟩
theorem rowIs_new (w : World) (n : Nat) (f : Nat → Value) (t : TypeId) : (w.alloc (.cells (rowA n f) t)).rowIs w.heap.size t n f :=
  rowIs_of (heap_alloc_last w _)
theorem rowIs_newOf (w : World) (n : Nat) (f : Nat → Value) (t : TypeId) (c : Array Value) (h : c = rowA n f) : (w.alloc (.cells c t)).rowIs w.heap.size t n f := by
  subst h; exact rowIs_new w n f t
theorem rowIs_at (w : World) (g : Nat) (hg : g = w.heap.size) (n : Nat) (f : Nat → Value) (t : TypeId) (c : Array Value) (h : c = rowA n f) : (w.alloc (.cells c t)).rowIs g t n f := by
  subst hg; exact rowIs_newOf w n f t c h
theorem made_at (w : World) (g : Nat) (hg : g = w.heap.size) (z : Value) (n : Nat) (t : TypeId) : (w.alloc (.cells (madeCells #[z] n) t)).rowIs g t n (fun _ => z) := by
  subst hg; exact World.rowIs_made w z n t

section
variable {P : Program}
/-- A whole array out of its row. -/
theorem wpList_load_all {ops : Array Oper} {rest : List Oper} {o : Oper} {a : Act} {w : World} {Q : Exit → Act → World → Prop} (ty : TypeId) (x : Operand) (hgd : o.guard = none) (ho : o.op = .load ty x)
    (g : Nat) (hx : a.eval x = .pointer (some ⟨g, 0, none⟩)) (n : Nat) (e : TypeId) (f : Nat → Value) (t : TypeId) (hr : w.rowIs g t n f)
    (hu : P.underlying ty = some (.array n e)) (hi : (P.info? ty).map (·.size) = some n)
    (h : wpList P ops Q rest (a.put o.dst (.agg (rowA n f))) w) : wpList P ops Q (o :: rest) a w :=
  wpList_load_row hgd ty x ho g hx t (rowA n f) (0, 0) (.array n e) (rowA_of hr) hu rfl (by rw [rowA_size]; exact hi) h
/-- A whole array into a row. -/
theorem wpList_store_all {ops : Array Oper} {rest : List Oper} {o : Oper} {a : Act} {w : World} {Q : Exit → Act → World → Prop} (ty : TypeId) (x y : Operand) (hgd : o.guard = none) (ho : o.op = .store ty x y)
    (g : Nat) (n : Nat) (f : Nat → Value) (hx : a.eval x = .pointer (some ⟨g, 0, none⟩)) (hy : a.eval y = .agg (rowA n f))
    (t : TypeId) (f0 : Nat → Value) (hr : w.rowIs g t n f0) (hi : (P.info? ty).map (·.size) = some n)
    (h1 : ∀ i, i < n → (f i).oneCell' = true)
    (h : ∀ w', w'.rowIs g t n f → Chg (fun b => b = g) w w' → wpList P ops Q rest (a.put o.dst undef) w') : wpList P ops Q (o :: rest) a w := by
  refine wpList_store_row hgd ty x y ho g (rowA n f) hx hy t (rowA n f0) (rowA_of hr) (by rw [rowA_size]; exact hi) (by rw [rowA_size, rowA_size]) ?_ (h _ ?_ ?_)
  · rw [Array.all_eq_true_iff_forall_mem]
    intro v hv
    simp only [rowA, List.mem_toArray, List.mem_map, List.mem_range] at hv
    obtain ⟨i, hi, rfl⟩ := hv
    exact h1 i hi
  · apply rowIs_of
    have := rowA_of hr
    simp [World.setRow, Array.getElem?_modify, this]
  · refine ⟨rfl, rfl, rfl, by simp [World.setRow], fun k hk hp => ?_⟩
    simp only [World.setRow, Array.getElem?_modify]
    rw [if_neg (fun e => hp e.symm)]
/-- What is handed back by value. -/
theorem results_all {fn : Func} {p : Tmp} {ty : TypeId} (h : fn.results = #[.cell p ty]) (tmps : Array Value) (w : World) (g : Nat) (hp : tmps.getD p undef = .pointer (some ⟨g, 0, none⟩)) (n : Nat) (e : TypeId) (f : Nat → Value) (t : TypeId) (hr : w.rowIs g t n f)
    (hu : P.underlying ty = some (.array n e)) (hi : (P.info? ty).map (·.size) = some n) : (results fn tmps).run P w = .ok (.agg (rowA n f)) w :=
  results_cell_row h tmps w g t (rowA n f) (0, 0) (.array n e) hp (rowA_of hr) hu rfl (by rw [rowA_size]; exact hi)
end

end Go.Proofs.YtgiefpipflcbgaqGreatDoor

namespace Go.Proofs.YtgiefpipflcbgaqGreatDoor
open Go.RowKit

/-- Lanes as values. -/
def lv (a : Nat → Lane) (i : Nat) : Value := lw (a i)
theorem lv_one (a : Nat → Lane) (i : Nat) : (lv a i).oneCell' = true := rfl
/-- The lanes of a state, by value. -/
def la (a : Nat → Lane) : Array Value := rowA 25 (lv a)

end Go.Proofs.YtgiefpipflcbgaqGreatDoor

namespace Go.Proofs.YtgiefpipflcbgaqGreatDoor
open Go.ChangeShapes Go.WideShapes Go.ChangeAt Go.RowKit
set_option linter.unusedVariables false
set_option linter.unusedSimpArgs false

theorem infoL : (Tryz.prog.info? 156).map (·.size) = some 25 := by kernel_rfl
set_option maxRecDepth 100000 in
set_option maxHeartbeats 1000000 in
theorem turnLeft_any (x : Lane) (n : Nat) (hn : (n : Int) ≤ 64) (w : World) :
    Calls Tryz.prog 131 #[.int .u64 (x.toNat : Int), .int .u64 (n : Int)] w fun e w' => e = .returned (.int .u64 ((rotl x n).toNat : Int)) ∧ w' = w := by
  have hx := lane_lt x
  go_enter Tryz.func131, Tryz.ntmps131
  go_wp2
  go_ret
  exact ⟨ret_of (congrArg (Value.int .u64) (by rw [shl64, shr64, or64]; rfl)), rfl⟩
theorem turnLeft_one (x : Lane) (w : World) :
    Calls Tryz.prog 131 #[.int .u64 (x.toNat : Int), .int .u64 1] w fun e w' => e = .returned (.int .u64 ((rotl x 1).toNat : Int)) ∧ w' = w := turnLeft_any x 1 (by decide) w

/-- Nothing in a row of lanes. -/
def lz (_ : Nat) : Value := .int .u64 0

theorem index_lanes (a : Nat → Lane) (k : Nat) (hk : k < 25) (w : World) : (Instr.index 156 (.agg (rowA 25 (lv a))) (.int .i64 (k : Int))).run Tryz.prog w = .ok (.int .u64 ((a k).toNat : Int)) w := by
  have h := rowA_at 25 (lv a) k hk
  simp [Instr.index, run_underlying Tryz.underlying156, asIntOf, part, go_sem, hk, h]
  rfl
theorem colK_set (a : Nat → Lane) (k i : Nat) : (if i = k % 5 then Value.int .u64 (bits .xor .u64 ((colK a k (k % 5)).toNat : Int) ((a k).toNat : Int)) else lv (colK a k) i) = lv (colK a (k + 1)) i := by
  rw [xor64]
  unfold lv lw
  rw [colK]
  by_cases e : i = k % 5
  · subst e; simp
  · simp [e]

/-- The lanes with the columns below x mixed in. -/
def thX (a : Nat → Lane) (x i : Nat) : Value := if i % 5 < x then lw (th a i) else lw (a i)
def thY (a : Nat → Lane) (x j i : Nat) : Value := if i % 5 < x ∨ (i % 5 = x ∧ i < x + 5 * j) then lw (th a i) else lw (a i)
/-- What a column's lanes are mixed with. -/
def mix (a : Nat → Lane) (x : Nat) : Lane := col a ((x + 4) % 5) ^^^ rotl (col a ((x + 1) % 5)) 1
theorem thY_set (a : Nat → Lane) (x j i : Nat) (hx : x < 5) : (if i = x + 5 * j then Value.int .u64 (bits .xor .u64 ((a (x + 5 * j)).toNat : Int) ((mix a x).toNat : Int)) else thY a x j i) = thY a x (j + 1) i := by
  rw [xor64]
  by_cases e : i = x + 5 * j
  · subst e
    have h1 : (x + 5 * j) % 5 = x := by omega
    have h2 : (x + 5 * j + 4) % 5 = (x + 4) % 5 := by omega
    have h3 : (x + 5 * j + 1) % 5 = (x + 1) % 5 := by omega
    rw [if_pos rfl]
    unfold thY
    rw [if_pos (.inr ⟨h1, by omega⟩)]
    unfold th mix lw
    rw [h2, h3]
  · rw [if_neg e]
    unfold thY
    by_cases h : i % 5 < x ∨ (i % 5 = x ∧ i < x + 5 * j)
    · rw [if_pos h, if_pos (by omega)]
    · rw [if_neg h, if_neg (by omega)]

set_option maxRecDepth 100000 in
set_option maxHeartbeats 1000000 in
theorem columnsMixed_any (a : Nat → Lane) (w : World) :
    Calls Tryz.prog 128 #[.agg (la a)] w fun e w' => e = .returned (.agg (la (th a))) ∧ Chg nob w w' := by
  have HI := hik infoL
  go_enter Tryz.func128, Tryz.ntmps128
  go_wp2_with ((with_reducible refine wpList_load_all 156 (.tmp 1) rfl rfl w.heap.size ?hx 25 121 (lv a) 156 ?hr Tryz.underlying156 HI.out ?_); (case hx => rfl); (case hr => exact ((rowIs_new w 25 (lv a) _).alloc _).alloc _))
  go_loopw [10] (fun i W => ∃ k : Nat, k ≤ 25 ∧ i = .int .i64 k ∧ Hid (W.rowIs (w.heap.size + 1 + 1) 145 5 (lv (colK a k))) ∧ Hid (W.rowIs w.heap.size 156 25 (lv a)) ∧ Hid (W.rowIs (w.heap.size + 1) 156 25 lz) ∧ Hid (Chg nob w W)) (fun i _ => 25 - (intOf i).toNat)
  case atStart =>
    refine ⟨0, by omega, rfl, hik ?_, hik (((rowIs_new w 25 (lv a) _).alloc _).alloc _), hik ?_, hik ((((Chg.refl _ _).alloc _).alloc _).alloc _)⟩
    · exact rowIs_at _ _ (by simp) 5 _ _ _ rfl
    · exact (rowIs_at _ _ (by simp) 25 lz _ _ rfl).alloc _
  case round =>
    obtain ⟨k, hk, rfl, HC, HS, HZ, HG⟩ := hrel
    by_cases hlt : k < 25
    · have hlt' : (k : Int) < 25 := by omega
      have hix := index_lanes a k hlt
      have hc : wr.cell? ⟨w.heap.size + 1 + 1, k % 5, none⟩ = some (.int .u64 ((colK a k (k % 5)).toNat : Int)) := HC.out.cell (by omega)
      have hf := HC.out.frozen (k % 5)
      have e1 : ((k : Int) % 5).toNat = k % 5 := by omega
      have e2 : (0 : Int) ≤ (k : Int) % 5 := by omega
      have e3 : (k : Int) % 5 < 5 := by omega
      go_wp2
      go_roundw
      case rel => exact ⟨k + 1, by omega, by go_num, hik ((HC.out.set (k % 5) _).congr (fun i _ => colK_set a k i)), hik (HS.out.setOther (by simp only [ne_eq]; omega) _), hik (HZ.out.setOther (by simp only [ne_eq]; omega) _), hik (HG.out.setCell (p := ⟨w.heap.size + 1 + 1, k % 5, none⟩) (fun l => absurd l (by simp; omega)) _)⟩
      case measure => simp [intOf]; omega
    · obtain rfl : k = 25 := by omega
      have HC1 := hik (HC.out.congr (g := lv (col a)) (fun i hi => by unfold lv; rw [colK_all a i hi]))
      clear HC
      go_wp2
      go_loopw [22] (fun i W => ∃ x : Nat, x ≤ 5 ∧ i = .int .i64 x ∧ Hid (W.rowIs (w.heap.size + 1 + 1) 145 5 (lv (col a))) ∧ Hid (W.rowIs w.heap.size 156 25 (thX a x)) ∧ Hid (W.rowIs (w.heap.size + 1) 156 25 lz) ∧ Hid (Chg nob w W)) (fun i _ => 5 - (intOf i).toNat)
      case atStart => exact ⟨0, by omega, rfl, HC1, hik (HS.out.congr (fun i _ => by unfold thX; rw [if_neg (by omega)]; rfl)), HZ, HG⟩
      case round =>
        clear HC1 HS HZ HG
        obtain ⟨x, hx, rfl, HC, HS, HZ, HG⟩ := hrel
        by_cases hlt : x < 5
        · have hlt' : (x : Int) < 5 := by omega
          have c0 : wr.cell? ⟨w.heap.size + 1 + 1, (x + 4) % 5, none⟩ = some (.int .u64 ((col a ((x + 4) % 5)).toNat : Int)) := HC.out.cell (by omega)
          have c1 : wr.cell? ⟨w.heap.size + 1 + 1, (x + 1) % 5, none⟩ = some (.int .u64 ((col a ((x + 1) % 5)).toNat : Int)) := HC.out.cell (by omega)
          have e1 : (((x : Int) + 4) % 5).toNat = (x + 4) % 5 := by omega
          have e2 : (((x : Int) + 1) % 5).toNat = (x + 1) % 5 := by omega
          have e3 : ((x : Int) + 5 - 1) = (x : Int) + 4 := by omega
          have b0 : (0 : Int) ≤ ((x : Int) + 4) % 5 := by omega
          have b1 : ((x : Int) + 4) % 5 < 5 := by omega
          have b2 : (0 : Int) ≤ ((x : Int) + 1) % 5 := by omega
          have b3 : ((x : Int) + 1) % 5 < 5 := by omega
          have hm : bits .xor .u64 ((col a ((x + 4) % 5)).toNat : Int) ((rotl (col a ((x + 1) % 5)) 1).toNat : Int) = ((mix a x).toNat : Int) := xor64 _ _
          go_wp2
          go_quiet ((go_at_call 131; exact Calls.quiet_of_same (turnLeft_one _ _)))
          have HG2 := hik (HG.out.drewN nq)
          have HC2 : Hid (_) := hik (show (wr.drewN nq).rowIs (w.heap.size + 1 + 1) 145 5 (lv (col a)) from HC.out)
          have HS2 : Hid (_) := hik (show (wr.drewN nq).rowIs w.heap.size 156 25 (thX a x) from HS.out)
          have HZ2 : Hid (_) := hik (show (wr.drewN nq).rowIs (w.heap.size + 1) 156 25 lz from HZ.out)
          clear c0 c1 HC HS HZ HG
          clear e1 e2 e3 b0 b1 b2 b3 hm
          go_wp2
          go_loopw [8] (fun p W => ∃ j : Nat, j ≤ 5 ∧ p = .int .i64 ((x : Int) + 5 * (j : Int)) ∧ Hid (W.rowIs (w.heap.size + 1 + 1) 145 5 (lv (col a))) ∧ Hid (W.rowIs w.heap.size 156 25 (thY a x j)) ∧ Hid (W.rowIs (w.heap.size + 1) 156 25 lz) ∧ Hid (Chg nob w W)) (fun p _ => 30 - (intOf p).toNat)
          case atStart => exact ⟨0, by omega, by simp, HC2, hik (HS2.out.congr (fun i _ => by
            unfold thX thY
            by_cases h : i % 5 < x
            · rw [if_pos h, if_pos (.inl h)]
            · rw [if_neg h, if_neg (by omega)])), HZ2, HG2⟩
          case round =>
            clear HC2 HS2 HZ2 HG2
            obtain ⟨j, hj, rfl, HC, HS, HZ, HG⟩ := hrel
            by_cases hjt : j < 5
            · have h1 : (x : Int) + 5 * (j : Int) < 25 := by omega
              have h2 : (0 : Int) ≤ (x : Int) + 5 * (j : Int) := by omega
              have h3 : ((x : Int) + 5 * (j : Int)).toNat = x + 5 * j := by omega
              have hc : wr.cell? ⟨w.heap.size, x + 5 * j, none⟩ = some (.int .u64 ((a (x + 5 * j)).toNat : Int)) := (HS.out.cell (by omega)).trans (by unfold thY; rw [if_neg (by omega)]; rfl)
              have hf := HS.out.frozen (x + 5 * j)
              go_wp2
              go_roundw
              case rel => exact ⟨j + 1, by omega, by go_num, hik (HC.out.setOther (by simp only [ne_eq]; omega) _), hik ((HS.out.set (x + 5 * j) _).congr (fun i _ => thY_set a x j i hlt)), hik (HZ.out.setOther (by simp only [ne_eq]; omega) _), hik (HG.out.setCell (p := ⟨w.heap.size, x + 5 * j, none⟩) (fun l => absurd l (by simp)) _)⟩
              case measure => simp [intOf]; omega
            · obtain rfl : j = 5 := by omega
              have h1 : ¬ (x : Int) + 5 * ((5 : Nat) : Int) < 25 := by omega
              go_wp2
              go_roundw
              case rel => exact ⟨x + 1, by omega, by go_num, HC, hik (HS.out.congr (fun i hi => by
                unfold thX thY
                by_cases h : i % 5 < x + 1
                · rw [if_pos h, if_pos (by omega)]
                · rw [if_neg h, if_neg (by omega)])), HZ, HG⟩
              case measure => simp [intOf]; omega
        · obtain rfl : x = 5 := by omega
          have HS2 := hik (HS.out.congr (g := lv (th a)) (fun i hi => by unfold thX lv; rw [if_pos (by omega)]))
          go_wp2_with (first | ((with_reducible refine wpList_load_all 156 (.tmp 1) rfl rfl w.heap.size ?hx 25 121 (lv (th a)) 156 HS2.out Tryz.underlying156 HI.out ?_); (case hx => rfl)) | ((with_reducible refine wpList_store_all 156 (.tmp 2) (.tmp 50) rfl rfl (w.heap.size + 1) 25 (lv (th a)) ?hx ?hy 156 lz HZ.out HI.out (fun i _ => lv_one _ i) ?_); (case hx => rfl); (case hy => rfl); intro W2 hr2 hg2; have HR2 := hik hr2; have HG2 := hik (HG.out.near hg2 (fun i e => by omega)); clear hr2 hg2))
          exact bodyPost_ret (results_all rfl _ _ (w.heap.size + 1) rfl 25 _ (lv (th a)) _ HR2.out Tryz.underlying156 HI.out) rfl ⟨rfl, HG2.out⟩

end Go.Proofs.YtgiefpipflcbgaqGreatDoor

namespace Go.Proofs.YtgiefpipflcbgaqGreatDoor
open Go.RowKit
set_option linter.unusedVariables false

/-- n bytes in a block from B on, all its places to be written. -/
structure BRow (W : World) (B : Nat) (g n cap : Nat) (z : Nat → Int) : Prop where
  lo : B ≤ g
  lt : g < W.heap.size
  le : n ≤ cap
  at_ : ∀ i, i < n → W.cell? ⟨g, i, none⟩ = some (.int .u8 (z i))
  there : ∀ i, i < cap → (W.cell? ⟨g, i, none⟩).isSome = true ∧ W.frozen? ⟨g, i, none⟩ = false
theorem BRow.row {W : World} {B g n cap : Nat} {z : Nat → Int} (h : BRow W B g n cap z) : RowV W (some ⟨g, 0, none⟩) n (bb z) :=
  fun i hi => ⟨g, 0, rfl, h.lt, by rw [Nat.zero_add]; exact h.at_ i hi⟩
theorem BRow.chg {P : Nat → Prop} {W W' : World} {B g n cap : Nat} {z : Nat → Int} (h : BRow W B g n cap z) (k : Chg P W W') (hp : ¬ P g) : BRow W' B g n cap z :=
  ⟨h.lo, Nat.lt_of_lt_of_le h.lt k.size, h.le, fun i hi => by rw [k.cell (p := ⟨g, i, none⟩) h.lt hp]; exact h.at_ i hi, fun i hi => by
    rw [k.cell (p := ⟨g, i, none⟩) h.lt hp, World.frozen?_of_block (a := ⟨g, i, none⟩) (k.block g h.lt hp)]; exact h.there i hi⟩
theorem BRow.keep {W W' : World} {B g n cap : Nat} {z : Nat → Int} (h : BRow W B g n cap z) (k : Chg nob W W') : BRow W' B g n cap z := h.chg k (fun x => x)
theorem BRow.alike {W : World} {B g n cap : Nat} {z y : Nat → Int} (h : BRow W B g n cap z) (e : ∀ i, i < n → z i = y i) : BRow W B g n cap y :=
  ⟨h.lo, h.lt, h.le, fun i hi => by rw [← e i hi]; exact h.at_ i hi, h.there⟩
theorem BRow.set {W : World} {B g n cap : Nat} {z : Nat → Int} (h : BRow W B g n cap z) (i : Nat) (hi : i < n) (u : Int) : BRow (W.setCell ⟨g, i, none⟩ (.int .u8 u)) B g n cap (fun j => if j = i then u else z j) := by
  have hh := h.le
  refine ⟨h.lo, by simpa using h.lt, h.le, fun j hj => ?_, fun j hj => ?_⟩
  · by_cases e : j = i
    · subst e
      rw [World.cell?_setCell_same W _ _ (h.at_ j hj)]
      simp
    · rw [World.cell?_setCell_other _ _ _ _ (by simp)]
      simp [e, h.at_ j hj]
  · refine ⟨?_, by rw [World.frozen?_setCell]; exact (h.there j hj).2⟩
    by_cases e : j = i
    · subst e
      rw [World.cell?_setCell_same W _ _ (h.at_ j hi)]
      rfl
    · rw [World.cell?_setCell_other _ _ _ _ (by simp)]
      exact (h.there j hj).1
theorem BRow.of_owns {W : World} {B n : Nat} {t : TypeId} {v : Value} {z : Nat → Int} (ho : W.ownsRow B t 1 v n ((List.range n).map (bb z))) (hn : 0 < n) : ∃ g cap, v = .slice (some ⟨g, 0, none⟩) n cap ∧ BRow W B g n cap z := by
  rcases ho.2 with ⟨_, h0⟩ | ⟨g, cap, cur, rfl, hb, hcur, hl, _, hsz, _⟩
  · exact absurd h0 (by omega)
  · refine ⟨g, cap, rfl, hb, (Array.getElem?_eq_some_iff.1 hcur).1, hl, fun i hi => ?_, fun i hi => ?_⟩
    · have := ho.cells rfl i (bb z i) (by simp [List.getElem?_map, List.getElem?_range hi])
      rw [Go.WideShapes.add_plain, Nat.zero_add] at this
      exact this
    · simp [World.cell?, World.frozen?, hcur]
      omega
/-- Bytes of a string, converted. -/
theorem BRow.of_string (w : World) (t : TypeId) (s : ByteArray) : BRow (Go.Lib.bytesWorld w t s) w.heap.size w.heap.size s.size (grownCap w s.size 0 t) (zs s) := by
  have hge := grownCap_ge w s.size 0 t
  have hat := Go.Lib.bytesWorld_at_new w t s
  have hsz : (Go.Lib.bytesCells w t s).size = grownCap w s.size 0 t := by
    unfold Go.Lib.bytesCells
    have : s.data.size = s.size := rfl
    simp [this]
    omega
  refine ⟨Nat.le_refl _, by rw [Go.Lib.bytesWorld_size]; omega, hge, fun i hi => ?_, fun i hi => ?_⟩
  · rw [Go.Lib.bytesWorld_cell w t s i hi]
    unfold zs
    rw [List.getD_eq_getElem?_getD]
  · simp [World.cell?, World.frozen?, hat, hsz]
    omega
theorem chg_string (w : World) (t : TypeId) (s : ByteArray) : Chg nob w (Go.Lib.bytesWorld w t s) :=
  ⟨rfl, rfl, rfl, by rw [Go.Lib.bytesWorld_size]; omega, fun k hk _ => Go.Lib.bytesWorld_at_old w t s k hk⟩

section
variable {P : Program}
/-- One byte more. -/
theorem wpList_append_brow (w : World) {ops : Array Oper} {rest : List Oper} {o : Oper} {a : Act} {Q : Exit → Act → World → Prop}
    (s x : Operand) (t : TypeId) (hg : o.guard = none) (hop : o.op = Op.call { callee := Callee.builtin Builtin.append, args := #[s, x], argTypes := #[t, t] })
    (e : TypeId) (i : TypeInfo) (z0 : Value) (h1 : P.underlying t = some (.slice e)) (h2 : P.info? e = some i) (h3 : i.zero = some z0) (h4 : i.size = 1) (h5 : i.bytes = 1) (h6 : z0.cells.size = 1)
    (B g n cap : Nat) (z : Nat → Int) (hB : B ≤ w.heap.size) (hs : a.eval s = .slice (some ⟨g, 0, none⟩) n cap) (hb : BRow w B g n cap z)
    (ad : Addr) (c : Nat) (u : Int) (hx : a.eval x = .slice (some ad) 1 c) (hc : w.cell? ad = some (.int .u8 u))
    (hn : n ≤ 1099511627776)
    (hK : ∀ g' cap' w', BRow w' B g' (n + 1) cap' (fun j => if j = n then u else z j) → Chg (fun b => B ≤ b) w w' → wpList P ops Q rest (a.put o.dst (.slice (some ⟨g', 0, none⟩) (n + 1) cap')) w') :
    wpList P ops Q (o :: rest) a w := by
  refine wpList_append_arg w hg s x t hop e i z0 1 1 h1 h2 h3 h4 h5 h6 (by decide) g 0 n cap ((List.range n).map (bb z)) hs (by simp) ?olds ad 1 c [.int .u8 u] hx rfl ?news (by intro v hv; simp at hv; subst hv; rfl) ?spare (by unfold maxLen; omega) (by omega) ?room ?grow
  case olds =>
    intro j v hj
    by_cases hjn : j < n
    · rw [List.getElem?_map, List.getElem?_range hjn] at hj
      simp at hj
      subst hj
      rw [Nat.zero_add]
      exact hb.at_ j hjn
    · rw [List.getElem?_eq_none (by simp; omega)] at hj
      cases hj
  case news =>
    intro j v hj
    match j, hj with
    | 0, hj =>
      simp at hj
      subst hj
      have : ad.add 0 = ad := by unfold Addr.add; simp
      rw [this]
      exact hc
    | j + 1, hj => simp at hj
  case spare =>
    intro hr j hj
    simp at hj
    subst hj
    simpa using hb.there n (by omega)
  case room =>
    intro hr
    refine hK g cap _ ⟨hb.lo, ?_, hr, fun j hj => ?_, fun j hj => ?_⟩ ?_
    · simpa [World.setCells] using hb.lt
    · by_cases ejn : j = n
      · subst ejn
        have := World.cell?_setCells_in g [.int .u8 u] (0 + j * 1) w (by intro k hk; simp at hk; subst hk; simpa using (hb.there j (by omega)).1) 0 (by simp)
        simpa using this
      · rw [World.cell?_setCells_out g [.int .u8 u] (0 + n * 1) w _ (by intro _ _; simp; omega)]
        simp [ejn]
        exact hb.at_ j (by omega)
    · refine ⟨?_, by rw [World.frozen?_setCells]; exact (hb.there j hj).2⟩
      by_cases ejn : j = n
      · subst ejn
        have := World.cell?_setCells_in g [.int .u8 u] (0 + j * 1) w (by intro k hk; simp at hk; subst hk; simpa using (hb.there j (by omega)).1) 0 (by simp)
        simp at this
        simp [this]
      · rw [World.cell?_setCells_out g [.int .u8 u] (0 + n * 1) w _ (by intro _ _; simp; omega)]
        exact (hb.there j hj).1
    · have : w.setCells g (0 + n * 1) [.int .u8 u] = w.setCell ⟨g, 0 + n * 1, none⟩ (.int .u8 u) := rfl
      rw [this]
      exact (Chg.refl _ _).setCell (p := ⟨g, 0 + n * 1, none⟩) (fun _ => hb.lo) _
  case grow =>
    intro hr v' w' hown hgr
    have ho : w'.ownsRow w.heap.size e 1 v' (n + 1) ((List.range (n + 1)).map (bb (fun j => if j = n then u else z j))) := by
      have e1 : (List.range (n + 1)).map (bb (fun j => if j = n then u else z j)) = (List.range n).map (bb z) ++ [.int .u8 u] := by
        rw [List.range_succ, List.map_append]
        congr 1
        · apply List.map_congr_left
          intro j hj
          have : j < n := by simpa using hj
          simp [bb, show ¬ j = n by omega]
        · simp [bb]
      rw [e1]
      exact hown
    obtain ⟨g', cap', rfl, hb'⟩ := BRow.of_owns ho (by omega)
    exact hK g' cap' w' ⟨Nat.le_trans hB hb'.lo, hb'.lt, hb'.le, hb'.at_, hb'.there⟩ ((Chg.refl _ _).grown hgr (fun k e => by cases e))
end

end Go.Proofs.YtgiefpipflcbgaqGreatDoor
