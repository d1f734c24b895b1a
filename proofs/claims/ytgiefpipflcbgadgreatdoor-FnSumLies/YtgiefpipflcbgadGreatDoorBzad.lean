/- Several texts in one: Words on memory: whole arrays by value, out of rows and into rows. No program is named here. · Keccak's permutation and its bytes, as plain functions on lanes of 64 bits; numbers that the model of the language reckons, as such lanes. No program is named here. · Words on memory: whole arrays by value, out of rows and into rows. No program is named here. · What turnLeft and columnsMixed answer: contracts. No condition. · Padded messages, blocks and what the hash is: plain functions. No program is named here. -/
import Derived.Test.YtgiefpipflcbgadGreatDoorBzac
import Derived.WalkKit
import Derived.Laws.Rows
import Derived.Laws.Tables
import Derived.Deep.WholeRow
import Derived.Laws.Bits64b
import Derived.Laws.Bits64
import Derived.Test.YtgiefpipflcbgadGreatDoorRows
import Derived.ProofKit
import Derived.OpenShut
import Derived.Deep.QuietTactic
import Derived.BigQuiet
namespace Go.Proofs.YtgiefpipflcbgadGreatDoor
open Go.RowKit

/-- n values in an array. -/
def rowA (n : Nat) (f : Nat → Value) : Array Value := ((List.range n).map f).toArray
theorem rowA_size (n : Nat) (f : Nat → Value) : (rowA n f).size = n := by simp [rowA]
theorem rowA_at (n : Nat) (f : Nat → Value) (i : Nat) (h : i < n) : (rowA n f)[i]? = some (f i) := by simp [rowA, h]
theorem rowA_get (n : Nat) (f : Nat → Value) (i : Nat) (h : i < (rowA n f).size) : (rowA n f)[i] = f i := by simp [rowA]
theorem rowA_congr {n : Nat} {f g : Nat → Value} (h : ∀ i, i < n → f i = g i) : rowA n f = rowA n g := by
  unfold rowA
  congr 1
  exact List.map_congr_left (fun i hi => h i (by simpa using hi))
theorem rowA_of {w : World} {b : Nat} {t : TypeId} {n : Nat} {f : Nat → Value} (h : w.rowIs b t n f) : w.heap[b]? = some (.cells (rowA n f) t (0, 0)) := by
  obtain ⟨c, hb, hn, hc⟩ := h
  have e : c = rowA n f := by
    apply Array.ext_getElem?
    intro i
    by_cases hi : i < n
    · rw [hc i hi, rowA_at n f i hi]
    · rw [Array.getElem?_eq_none (by omega), Array.getElem?_eq_none (by rw [rowA_size]; omega)]
  rw [hb, e]
theorem rowIs_of {w : World} {b : Nat} {t : TypeId} {n : Nat} {f : Nat → Value} (h : w.heap[b]? = some (.cells (rowA n f) t (0, 0))) : w.rowIs b t n f :=
  ⟨_, h, rowA_size n f, fun i hi => rowA_at n f i hi⟩
theorem rowIs_new (w : World) (n : Nat) (f : Nat → Value) (t : TypeId) : (w.alloc (.cells (rowA n f) t)).rowIs w.heap.size t n f :=
  rowIs_of (heap_alloc_last w _)
theorem rowIs_newOf (w : World) (n : Nat) (f : Nat → Value) (t : TypeId) (c : Array Value) (h : c = rowA n f) : (w.alloc (.cells c t)).rowIs w.heap.size t n f := by
  subst h; exact rowIs_new w n f t
theorem rowIs_at (w : World) (g : Nat) (hg : g = w.heap.size) (n : Nat) (f : Nat → Value) (t : TypeId) (c : Array Value) (h : c = rowA n f) : (w.alloc (.cells c t)).rowIs g t n f := by
  subst hg; exact rowIs_newOf w n f t c h
theorem made_at (w : World) (g : Nat) (hg : g = w.heap.size) (z : Value) (n : Nat) (t : TypeId) : (w.alloc (.cells (madeCells #[z] n) t)).rowIs g t n (fun _ => z) := by
  subst hg; exact World.rowIs_made w z n t

section
variable {P : Program}
/-- A whole array out of its row. -/
theorem wpList_load_all {ops : Array Oper} {rest : List Oper} {o : Oper} {a : Act} {w : World} {Q : Exit → Act → World → Prop} (ty : TypeId) (x : Operand) (hgd : o.guard = none) (ho : o.op = .load ty x)
    (g : Nat) (hx : a.eval x = .pointer (some ⟨g, 0, none⟩)) (n : Nat) (e : TypeId) (f : Nat → Value) (t : TypeId) (hr : w.rowIs g t n f)
    (hu : P.underlying ty = some (.array n e)) (hi : (P.info? ty).map (·.size) = some n)
    (h : wpList P ops Q rest (a.put o.dst (.agg (rowA n f))) w) : wpList P ops Q (o :: rest) a w :=
  wpList_load_row hgd ty x ho g hx t (rowA n f) (0, 0) (.array n e) (rowA_of hr) hu rfl (by rw [rowA_size]; exact hi) h
/-- A whole array into a row. -/
theorem wpList_store_all {ops : Array Oper} {rest : List Oper} {o : Oper} {a : Act} {w : World} {Q : Exit → Act → World → Prop} (ty : TypeId) (x y : Operand) (hgd : o.guard = none) (ho : o.op = .store ty x y)
    (g : Nat) (n : Nat) (f : Nat → Value) (hx : a.eval x = .pointer (some ⟨g, 0, none⟩)) (hy : a.eval y = .agg (rowA n f))
    (t : TypeId) (f0 : Nat → Value) (hr : w.rowIs g t n f0) (hi : (P.info? ty).map (·.size) = some n)
    (h1 : ∀ i, i < n → (f i).oneCell' = true)
    (h : ∀ w', w'.rowIs g t n f → Chg (fun b => b = g) w w' → wpList P ops Q rest (a.put o.dst undef) w') : wpList P ops Q (o :: rest) a w := by
  refine wpList_store_row hgd ty x y ho g (rowA n f) hx hy t (rowA n f0) (rowA_of hr) (by rw [rowA_size]; exact hi) (by rw [rowA_size, rowA_size]) ?_ (h _ ?_ ?_)
  · rw [Array.all_eq_true_iff_forall_mem]
    intro v hv
    simp only [rowA, List.mem_toArray, List.mem_map, List.mem_range] at hv
    obtain ⟨i, hi, rfl⟩ := hv
    exact h1 i hi
  · apply rowIs_of
    have := rowA_of hr
    simp [World.setRow, Array.getElem?_modify, this]
  · refine ⟨rfl, rfl, rfl, by simp [World.setRow], fun k hk hp => ?_⟩
    simp only [World.setRow, Array.getElem?_modify]
    rw [if_neg (fun e => hp e.symm)]
/-- What is handed back by value. -/
theorem results_all {fn : Func} {p : Tmp} {ty : TypeId} (h : fn.results = #[.cell p ty]) (tmps : Array Value) (w : World) (g : Nat) (hp : tmps.getD p undef = .pointer (some ⟨g, 0, none⟩)) (n : Nat) (e : TypeId) (f : Nat → Value) (t : TypeId) (hr : w.rowIs g t n f)
    (hu : P.underlying ty = some (.array n e)) (hi : (P.info? ty).map (·.size) = some n) : (results fn tmps).run P w = .ok (.agg (rowA n f)) w :=
  results_cell_row h tmps w g t (rowA n f) (0, 0) (.array n e) hp (rowA_of hr) hu rfl (by rw [rowA_size]; exact hi)
end

end Go.Proofs.YtgiefpipflcbgadGreatDoor

namespace Go.Proofs.YtgiefpipflcbgadGreatDoor

abbrev Lane := BitVec 64
/-- A lane as a value. -/
def lw (x : Lane) : Value := .int .u64 (x.toNat : Int)
theorem lane_lt (x : Lane) : (x.toNat : Int) < 18446744073709551616 := by have := x.isLt; omega
theorem wrap_lane (x : Lane) : IntKind.u64.wrap (x.toNat : Int) = (x.toNat : Int) := by
  rw [IntKind.wrap_u64]; have := lane_lt x; omega
theorem bits_lane (op : BinOp) (x y : Lane) : bits op .u64 (x.toNat : Int) (y.toNat : Int) = ((match op with | .and => x &&& y | .or => x ||| y | .xor => x ^^^ y | _ => x &&& ~~~ y : Lane).toNat : Int) := by
  unfold bits
  have hx : BitVec.ofInt IntKind.u64.bits (x.toNat : Int) = x := by
    show BitVec.ofInt 64 (x.toNat : Int) = x
    rw [BitVec.ofInt_natCast, BitVec.ofNat_toNat, BitVec.setWidth_eq]
  have hy : BitVec.ofInt IntKind.u64.bits (y.toNat : Int) = y := by
    show BitVec.ofInt 64 (y.toNat : Int) = y
    rw [BitVec.ofInt_natCast, BitVec.ofNat_toNat, BitVec.setWidth_eq]
  simp only [hx, hy]
  exact wrap_lane _
theorem xor64 (x y : Lane) : bits .xor .u64 (x.toNat : Int) (y.toNat : Int) = ((x ^^^ y).toNat : Int) := bits_lane .xor x y
theorem or64 (x y : Lane) : bits .or .u64 (x.toNat : Int) (y.toNat : Int) = ((x ||| y).toNat : Int) := bits_lane .or x y
theorem and64 (x y : Lane) : bits .and .u64 (x.toNat : Int) (y.toNat : Int) = ((x &&& y).toNat : Int) := bits_lane .and x y
theorem andNot64 (x y : Lane) : bits .andNot .u64 (x.toNat : Int) (y.toNat : Int) = ((x &&& ~~~ y).toNat : Int) := bits_lane .andNot x y
theorem shl64 (x : Lane) (n : Nat) : IntKind.u64.wrap ((x.toNat : Int) * 2 ^ n) = ((x <<< n).toNat : Int) := by
  rw [IntKind.wrap_u64, BitVec.toNat_shiftLeft, Nat.shiftLeft_eq]
  have e : (x.toNat : Int) * 2 ^ n = ((x.toNat * 2 ^ n : Nat) : Int) := by simp
  rw [e]
  have : (2 : Nat) ^ 64 = 18446744073709551616 := by decide
  rw [this]; omega
theorem shr64 (x : Lane) (n : Nat) : (x.toNat : Int) / 2 ^ n = ((x >>> n).toNat : Int) := by
  rw [BitVec.toNat_ushiftRight, Nat.shiftRight_eq_div_pow]
  simp
/-- Turned left. -/
def rotl (x : Lane) (n : Nat) : Lane := x <<< n ||| x >>> (64 - n)
theorem rotl_zero (x : Lane) : rotl x 0 = x := by
  have h : x >>> 64 = 0#64 := by
    apply BitVec.eq_of_toNat_eq
    rw [BitVec.toNat_ushiftRight, Nat.shiftRight_eq_div_pow, Nat.div_eq_of_lt x.isLt]
    rfl
  unfold rotl
  simp [h]

/-- The exclusive or of a column. -/
def col (a : Nat → Lane) (x : Nat) : Lane := a x ^^^ a (x + 5) ^^^ a (x + 10) ^^^ a (x + 15) ^^^ a (x + 20)
/-- What the first k places give to a column. -/
def colK (a : Nat → Lane) : Nat → Nat → Lane
  | 0, _ => 0
  | k + 1, x => if x = k % 5 then colK a k x ^^^ a k else colK a k x
theorem colK_all (a : Nat → Lane) (x : Nat) (h : x < 5) : colK a 25 x = col a x := by
  match x, h with
  | 0, _ => simp [colK, col]
  | 1, _ => simp [colK, col]
  | 2, _ => simp [colK, col]
  | 3, _ => simp [colK, col]
  | 4, _ => simp [colK, col]
/-- The columns mixed into each lane. -/
def th (a : Nat → Lane) (i : Nat) : Lane := a i ^^^ (col a ((i + 4) % 5) ^^^ rotl (col a ((i + 1) % 5)) 1)
/-- The shifts. -/
def shl : List Nat := [0, 1, 62, 28, 27, 36, 44, 6, 55, 20, 3, 10, 43, 25, 39, 41, 45, 15, 21, 8, 18, 2, 61, 56, 14]
def sh (i : Nat) : Nat := shl.getD i 0
theorem sh_le (i : Nat) : sh i ≤ 62 := by
  unfold sh
  by_cases h : i < 25
  · have : ∀ i : Fin 25, shl.getD i.val 0 ≤ 62 := by decide
    exact this ⟨i, h⟩
  · rw [List.getD_eq_getElem?_getD, List.getElem?_eq_none (by simp [shl]; omega)]; simp
/-- Where what comes to place i stood: its x, its y. -/
def sx (i : Nat) : Nat := (3 * (i / 5) + i % 5) % 5
def src (i : Nat) : Nat := sx i + 5 * (i % 5)
/-- Turned and moved. -/
def pm (a : Nat → Lane) (i : Nat) : Lane := rotl (a (src i)) (sh (src i))
theorem src_at : ∀ x : Fin 5, ∀ y : Fin 5, sx (y.val + 5 * ((2 * x.val + 3 * y.val) % 5)) = x.val ∧ (y.val + 5 * ((2 * x.val + 3 * y.val) % 5)) % 5 = y.val := by decide
theorem src_only : ∀ x : Fin 5, ∀ y : Fin 5, ∀ i : Fin 25, sx i.val = x.val → i.val % 5 = y.val → i.val = y.val + 5 * ((2 * x.val + 3 * y.val) % 5) := by decide
theorem sx_lt (i : Nat) : sx i < 5 := by unfold sx; omega
/-- Rows mixed. -/
def ch (b : Nat → Lane) (i : Nat) : Lane := b i ^^^ (b (i / 5 * 5 + (i % 5 + 2) % 5) &&& ~~~ b (i / 5 * 5 + (i % 5 + 1) % 5))
/-- The rounds' constants. -/
def rcl : List Nat := [1, 32898, 9223372036854808714, 9223372039002292224, 32907, 2147483649, 9223372039002292353, 9223372036854808585, 138, 136, 2147516425, 2147483658, 2147516555, 9223372036854775947, 9223372036854808713, 9223372036854808579, 9223372036854808578, 9223372036854775936, 32778, 9223372039002259466, 9223372039002292353, 9223372036854808704, 2147483649, 9223372039002292232]
def rcn (r : Nat) : Nat := rcl.getD r 0
theorem rcn_lt (r : Nat) : rcn r < 2 ^ 64 := by
  unfold rcn
  by_cases h : r < 24
  · have : ∀ i : Fin 24, rcl.getD i.val 0 < 2 ^ 64 := by decide
    exact this ⟨r, h⟩
  · rw [List.getD_eq_getElem?_getD, List.getElem?_eq_none (by simp [rcl]; omega)]; simp
def rcb (r : Nat) : Lane := BitVec.ofNat 64 (rcn r)
theorem rcb_nat (r : Nat) : (rcb r).toNat = rcn r := by unfold rcb; rw [BitVec.toNat_ofNat, Nat.mod_eq_of_lt (rcn_lt r)]
/-- A round. -/
def rnd (r : Nat) (a : Nat → Lane) (i : Nat) : Lane := if i = 0 then ch (pm (th a)) 0 ^^^ rcb r else ch (pm (th a)) i
/-- k rounds. -/
def prm (a : Nat → Lane) : Nat → Nat → Lane
  | 0 => a
  | k + 1 => rnd k (prm a k)
/-- Only the first 25 lanes count. -/
def same (a b : Nat → Lane) : Prop := ∀ i, i < 25 → a i = b i
theorem col_same {a b : Nat → Lane} (h : same a b) (x : Nat) (hx : x < 5) : col a x = col b x := by
  unfold col; rw [h _ (by omega), h _ (by omega), h _ (by omega), h _ (by omega), h _ (by omega)]
theorem rnd_same {a b : Nat → Lane} (h : same a b) (r : Nat) : same (rnd r a) (rnd r b) := by
  have h1 : same (th a) (th b) := fun i hi => by unfold th; rw [h i hi, col_same h _ (by omega), col_same h _ (by omega)]
  have h2 : same (pm (th a)) (pm (th b)) := fun i hi => by
    unfold pm; rw [h1 _ (by unfold src; have := sx_lt i; omega)]
  have h3 : same (ch (pm (th a))) (ch (pm (th b))) := fun i hi => by
    unfold ch; rw [h2 _ hi, h2 _ (by omega), h2 _ (by omega)]
  intro i hi
  unfold rnd
  split
  · rw [h3 0 (by omega)]
  · exact h3 i hi
theorem prm_same {a b : Nat → Lane} (h : same a b) : ∀ k, same (prm a k) (prm b k)
  | 0 => h
  | k + 1 => rnd_same (prm_same h k) k

/-- Byte k of a text, at its place in its lane. -/
def bl (z : Nat → Int) (k : Nat) : Lane := BitVec.ofInt 64 (z k) <<< (8 * (k % 8))
/-- The first k bytes of a text exclusive-ored into lanes. -/
def tk (a : Nat → Lane) (z : Nat → Int) : Nat → Nat → Lane
  | 0, j => a j
  | k + 1, j => if j = k / 8 then tk a z k j ^^^ bl z k else tk a z k j
/-- The lanes of the first k bytes. -/
def ln (z : Nat → Int) : Nat → Nat → Lane
  | 0, _ => 0
  | k + 1, j => if j = k / 8 then ln z k j ||| bl z k else ln z k j
/-- Byte i of lanes. -/
def by8 (a : Nat → Lane) (i : Nat) : Nat := (a (i / 8) >>> (8 * (i % 8))).toNat % 256

end Go.Proofs.YtgiefpipflcbgadGreatDoor

namespace Go.Proofs.YtgiefpipflcbgadGreatDoor
open Go.RowKit

/-- Lanes as values. -/
def lv (a : Nat → Lane) (i : Nat) : Value := lw (a i)
theorem lv_one (a : Nat → Lane) (i : Nat) : (lv a i).oneCell' = true := rfl
/-- The lanes of a state, by value. -/
def la (a : Nat → Lane) : Array Value := rowA 25 (lv a)

end Go.Proofs.YtgiefpipflcbgadGreatDoor

namespace Go.Proofs.YtgiefpipflcbgadGreatDoor
open Go.ChangeShapes Go.WideShapes Go.ChangeAt Go.RowKit
set_option linter.unusedVariables false
set_option linter.unusedSimpArgs false

theorem infoL : (Tryz.prog.info? 160).map (·.size) = some 25 := by kernel_rfl
set_option maxRecDepth 100000 in
set_option maxHeartbeats 1000000 in
theorem turnLeft_any (x : Lane) (n : Nat) (hn : (n : Int) ≤ 64) (w : World) :
    Calls Tryz.prog 140 #[.int .u64 (x.toNat : Int), .int .u64 (n : Int)] w fun e w' => e = .returned (.int .u64 ((rotl x n).toNat : Int)) ∧ w' = w := by
  have hx := lane_lt x
  go_enter Tryz.func140, Tryz.ntmps140
  go_wp2
  go_ret
  exact ⟨ret_of (congrArg (Value.int .u64) (by rw [shl64, shr64, or64]; rfl)), rfl⟩
theorem turnLeft_one (x : Lane) (w : World) :
    Calls Tryz.prog 140 #[.int .u64 (x.toNat : Int), .int .u64 1] w fun e w' => e = .returned (.int .u64 ((rotl x 1).toNat : Int)) ∧ w' = w := turnLeft_any x 1 (by decide) w

/-- Nothing in a row of lanes. -/
def lz (_ : Nat) : Value := .int .u64 0

theorem index_lanes (a : Nat → Lane) (k : Nat) (hk : k < 25) (w : World) : (Instr.index 160 (.agg (rowA 25 (lv a))) (.int .i64 (k : Int))).run Tryz.prog w = .ok (.int .u64 ((a k).toNat : Int)) w := by
  have h := rowA_at 25 (lv a) k hk
  simp [Instr.index, run_underlying Tryz.underlying160, asIntOf, part, go_sem, hk, h]
  rfl
theorem colK_set (a : Nat → Lane) (k i : Nat) : (if i = k % 5 then Value.int .u64 (bits .xor .u64 ((colK a k (k % 5)).toNat : Int) ((a k).toNat : Int)) else lv (colK a k) i) = lv (colK a (k + 1)) i := by
  rw [xor64]
  unfold lv lw
  rw [colK]
  by_cases e : i = k % 5
  · subst e; simp
  · simp [e]

/-- The lanes with the columns below x mixed in. -/
def thX (a : Nat → Lane) (x i : Nat) : Value := if i % 5 < x then lw (th a i) else lw (a i)
def thY (a : Nat → Lane) (x j i : Nat) : Value := if i % 5 < x ∨ (i % 5 = x ∧ i < x + 5 * j) then lw (th a i) else lw (a i)
/-- What a column's lanes are mixed with. -/
def mix (a : Nat → Lane) (x : Nat) : Lane := col a ((x + 4) % 5) ^^^ rotl (col a ((x + 1) % 5)) 1
theorem thY_set (a : Nat → Lane) (x j i : Nat) (hx : x < 5) : (if i = x + 5 * j then Value.int .u64 (bits .xor .u64 ((a (x + 5 * j)).toNat : Int) ((mix a x).toNat : Int)) else thY a x j i) = thY a x (j + 1) i := by
  rw [xor64]
  by_cases e : i = x + 5 * j
  · subst e
    have h1 : (x + 5 * j) % 5 = x := by omega
    have h2 : (x + 5 * j + 4) % 5 = (x + 4) % 5 := by omega
    have h3 : (x + 5 * j + 1) % 5 = (x + 1) % 5 := by omega
    rw [if_pos rfl]
    unfold thY
    rw [if_pos (.inr ⟨h1, by omega⟩)]
    unfold th mix lw
    rw [h2, h3]
  · rw [if_neg e]
    unfold thY
    by_cases h : i % 5 < x ∨ (i % 5 = x ∧ i < x + 5 * j)
    · rw [if_pos h, if_pos (by omega)]
    · rw [if_neg h, if_neg (by omega)]

set_option maxRecDepth 100000 in
set_option maxHeartbeats 1000000 in
theorem columnsMixed_any (a : Nat → Lane) (w : World) :
    Calls Tryz.prog 137 #[.agg (la a)] w fun e w' => e = .returned (.agg (la (th a))) ∧ Chg nob w w' := by
  have HI := hik infoL
  go_enter Tryz.func137, Tryz.ntmps137
  go_wp2_with ((with_reducible refine wpList_load_all 160 (.tmp 1) rfl rfl w.heap.size ?hx 25 128 (lv a) 160 ?hr Tryz.underlying160 HI.out ?_); (case hx => rfl); (case hr => exact ((rowIs_new w 25 (lv a) _).alloc _).alloc _))
  go_loopw [10] (fun i W => ∃ k : Nat, k ≤ 25 ∧ i = .int .i64 k ∧ Hid (W.rowIs (w.heap.size + 1 + 1) 149 5 (lv (colK a k))) ∧ Hid (W.rowIs w.heap.size 160 25 (lv a)) ∧ Hid (W.rowIs (w.heap.size + 1) 160 25 lz) ∧ Hid (Chg nob w W)) (fun i _ => 25 - (intOf i).toNat)
  case atStart =>
    refine ⟨0, by omega, rfl, hik ?_, hik (((rowIs_new w 25 (lv a) _).alloc _).alloc _), hik ?_, hik ((((Chg.refl _ _).alloc _).alloc _).alloc _)⟩
    · exact rowIs_at _ _ (by simp) 5 _ _ _ rfl
    · exact (rowIs_at _ _ (by simp) 25 lz _ _ rfl).alloc _
  case round =>
    obtain ⟨k, hk, rfl, HC, HS, HZ, HG⟩ := hrel
    by_cases hlt : k < 25
    · have hlt' : (k : Int) < 25 := by omega
      have hix := index_lanes a k hlt
      have hc : wr.cell? ⟨w.heap.size + 1 + 1, k % 5, none⟩ = some (.int .u64 ((colK a k (k % 5)).toNat : Int)) := HC.out.cell (by omega)
      have hf := HC.out.frozen (k % 5)
      have e1 : ((k : Int) % 5).toNat = k % 5 := by omega
      have e2 : (0 : Int) ≤ (k : Int) % 5 := by omega
      have e3 : (k : Int) % 5 < 5 := by omega
      go_wp2
      go_roundw
      case rel => exact ⟨k + 1, by omega, by go_num, hik ((HC.out.set (k % 5) _).congr (fun i _ => colK_set a k i)), hik (HS.out.setOther (by simp only [ne_eq]; omega) _), hik (HZ.out.setOther (by simp only [ne_eq]; omega) _), hik (HG.out.setCell (p := ⟨w.heap.size + 1 + 1, k % 5, none⟩) (fun l => absurd l (by simp; omega)) _)⟩
      case measure => simp [intOf]; omega
    · obtain rfl : k = 25 := by omega
      have HC1 := hik (HC.out.congr (g := lv (col a)) (fun i hi => by unfold lv; rw [colK_all a i hi]))
      clear HC
      go_wp2
      go_loopw [22] (fun i W => ∃ x : Nat, x ≤ 5 ∧ i = .int .i64 x ∧ Hid (W.rowIs (w.heap.size + 1 + 1) 149 5 (lv (col a))) ∧ Hid (W.rowIs w.heap.size 160 25 (thX a x)) ∧ Hid (W.rowIs (w.heap.size + 1) 160 25 lz) ∧ Hid (Chg nob w W)) (fun i _ => 5 - (intOf i).toNat)
      case atStart => exact ⟨0, by omega, rfl, HC1, hik (HS.out.congr (fun i _ => by unfold thX; rw [if_neg (by omega)]; rfl)), HZ, HG⟩
      case round =>
        clear HC1 HS HZ HG
        obtain ⟨x, hx, rfl, HC, HS, HZ, HG⟩ := hrel
        by_cases hlt : x < 5
        · have hlt' : (x : Int) < 5 := by omega
          have c0 : wr.cell? ⟨w.heap.size + 1 + 1, (x + 4) % 5, none⟩ = some (.int .u64 ((col a ((x + 4) % 5)).toNat : Int)) := HC.out.cell (by omega)
          have c1 : wr.cell? ⟨w.heap.size + 1 + 1, (x + 1) % 5, none⟩ = some (.int .u64 ((col a ((x + 1) % 5)).toNat : Int)) := HC.out.cell (by omega)
          have e1 : (((x : Int) + 4) % 5).toNat = (x + 4) % 5 := by omega
          have e2 : (((x : Int) + 1) % 5).toNat = (x + 1) % 5 := by omega
          have e3 : ((x : Int) + 5 - 1) = (x : Int) + 4 := by omega
          have b0 : (0 : Int) ≤ ((x : Int) + 4) % 5 := by omega
          have b1 : ((x : Int) + 4) % 5 < 5 := by omega
          have b2 : (0 : Int) ≤ ((x : Int) + 1) % 5 := by omega
          have b3 : ((x : Int) + 1) % 5 < 5 := by omega
          have hm : bits .xor .u64 ((col a ((x + 4) % 5)).toNat : Int) ((rotl (col a ((x + 1) % 5)) 1).toNat : Int) = ((mix a x).toNat : Int) := xor64 _ _
          go_wp2
          go_quiet ((go_at_call 140; exact Calls.quiet_of_same (turnLeft_one _ _)))
          have HG2 := hik (HG.out.drewN nq)
          have HC2 : Hid (_) := hik (show (wr.drewN nq).rowIs (w.heap.size + 1 + 1) 149 5 (lv (col a)) from HC.out)
          have HS2 : Hid (_) := hik (show (wr.drewN nq).rowIs w.heap.size 160 25 (thX a x) from HS.out)
          have HZ2 : Hid (_) := hik (show (wr.drewN nq).rowIs (w.heap.size + 1) 160 25 lz from HZ.out)
          clear c0 c1 HC HS HZ HG
          clear e1 e2 e3 b0 b1 b2 b3 hm
          go_wp2
          go_loopw [8] (fun p W => ∃ j : Nat, j ≤ 5 ∧ p = .int .i64 ((x : Int) + 5 * (j : Int)) ∧ Hid (W.rowIs (w.heap.size + 1 + 1) 149 5 (lv (col a))) ∧ Hid (W.rowIs w.heap.size 160 25 (thY a x j)) ∧ Hid (W.rowIs (w.heap.size + 1) 160 25 lz) ∧ Hid (Chg nob w W)) (fun p _ => 30 - (intOf p).toNat)
          case atStart => exact ⟨0, by omega, by simp, HC2, hik (HS2.out.congr (fun i _ => by
            unfold thX thY
            by_cases h : i % 5 < x
            · rw [if_pos h, if_pos (.inl h)]
            · rw [if_neg h, if_neg (by omega)])), HZ2, HG2⟩
          case round =>
            clear HC2 HS2 HZ2 HG2
            obtain ⟨j, hj, rfl, HC, HS, HZ, HG⟩ := hrel
            by_cases hjt : j < 5
            · have h1 : (x : Int) + 5 * (j : Int) < 25 := by omega
              have h2 : (0 : Int) ≤ (x : Int) + 5 * (j : Int) := by omega
              have h3 : ((x : Int) + 5 * (j : Int)).toNat = x + 5 * j := by omega
              have hc : wr.cell? ⟨w.heap.size, x + 5 * j, none⟩ = some (.int .u64 ((a (x + 5 * j)).toNat : Int)) := (HS.out.cell (by omega)).trans (by unfold thY; rw [if_neg (by omega)]; rfl)
              have hf := HS.out.frozen (x + 5 * j)
              go_wp2
              go_roundw
              case rel => exact ⟨j + 1, by omega, by go_num, hik (HC.out.setOther (by simp only [ne_eq]; omega) _), hik ((HS.out.set (x + 5 * j) _).congr (fun i _ => thY_set a x j i hlt)), hik (HZ.out.setOther (by simp only [ne_eq]; omega) _), hik (HG.out.setCell (p := ⟨w.heap.size, x + 5 * j, none⟩) (fun l => absurd l (by simp)) _)⟩
              case measure => simp [intOf]; omega
            · obtain rfl : j = 5 := by omega
              have h1 : ¬ (x : Int) + 5 * ((5 : Nat) : Int) < 25 := by omega
              go_wp2
              go_roundw
              case rel => exact ⟨x + 1, by omega, by go_num, HC, hik (HS.out.congr (fun i hi => by
                unfold thX thY
                by_cases h : i % 5 < x + 1
                · rw [if_pos h, if_pos (by omega)]
                · rw [if_neg h, if_neg (by omega)])), HZ, HG⟩
              case measure => simp [intOf]; omega
        · obtain rfl : x = 5 := by omega
          have HS2 := hik (HS.out.congr (g := lv (th a)) (fun i hi => by unfold thX lv; rw [if_pos (by omega)]))
          go_wp2_with (first | ((with_reducible refine wpList_load_all 160 (.tmp 1) rfl rfl w.heap.size ?hx 25 128 (lv (th a)) 160 HS2.out Tryz.underlying160 HI.out ?_); (case hx => rfl)) | ((with_reducible refine wpList_store_all 160 (.tmp 2) (.tmp 50) rfl rfl (w.heap.size + 1) 25 (lv (th a)) ?hx ?hy 160 lz HZ.out HI.out (fun i _ => lv_one _ i) ?_); (case hx => rfl); (case hy => rfl); intro W2 hr2 hg2; have HR2 := hik hr2; have HG2 := hik (HG.out.near hg2 (fun i e => by omega)); clear hr2 hg2))
          exact bodyPost_ret (results_all rfl _ _ (w.heap.size + 1) rfl 25 _ (lv (th a)) _ HR2.out Tryz.underlying160 HI.out) rfl ⟨rfl, HG2.out⟩

end Go.Proofs.YtgiefpipflcbgadGreatDoor

namespace Go.Proofs.YtgiefpipflcbgadGreatDoor

/-- Numbers that are bytes. -/
def isB (z : Nat → Int) : Prop := ∀ i, 0 ≤ z i ∧ z i < 256
theorem bl_lt (z : Nat → Int) (hz : isB z) (k : Nat) : (bl z k).toNat < 2 ^ (8 * (k % 8) + 8) := by
  obtain ⟨n, hn⟩ := Int.eq_ofNat_of_zero_le (hz k).1
  have h1 := (hz k).2
  unfold bl
  rw [hn, BitVec.ofInt_natCast, BitVec.toNat_shiftLeft, BitVec.toNat_ofNat, Nat.shiftLeft_eq]
  have h2 : n % 2 ^ 64 ≤ n := Nat.mod_le _ _
  have h3 : n < 2 ^ 8 := by omega
  refine Nat.lt_of_le_of_lt (Nat.mod_le _ _) ?_
  rw [Nat.pow_add, Nat.mul_comm]
  exact Nat.mul_lt_mul_of_pos_left (Nat.lt_of_le_of_lt h2 h3) (Nat.two_pow_pos _)
theorem ln_lo (z : Nat → Int) (hz : isB z) : ∀ k j, (k / 8 < j → ln z k j = 0) ∧ (j = k / 8 → (ln z k j).toNat < 2 ^ (8 * (k % 8)))
  | 0, j => ⟨fun _ => rfl, fun _ => by simp [ln]⟩
  | k + 1, j => by
    obtain ⟨h1, h2⟩ := ln_lo z hz k j
    rw [ln]
    refine ⟨fun h => ?_, fun h => ?_⟩
    · rw [if_neg (by omega)]
      exact h1 (by omega)
    · by_cases h8 : (k + 1) % 8 = 0
      · rw [if_neg (by omega), h1 (by omega), h8]
        simp
      · rw [if_pos (by omega), BitVec.toNat_or]
        have e : 8 * ((k + 1) % 8) = 8 * (k % 8) + 8 := by omega
        rw [e]
        refine Nat.or_lt_two_pow (Nat.lt_of_lt_of_le (h2 (by omega)) (Nat.pow_le_pow_right (by decide) (by omega))) (bl_lt z hz k)
theorem or_xor (x y : Lane) (m : Nat) (hx : x.toNat < 2 ^ m) (hy : ∀ i, i < m → y.getLsbD i = false) : x ||| y = x ^^^ y := by
  apply BitVec.eq_of_getLsbD_eq
  intro i hi
  rw [BitVec.getLsbD_or, BitVec.getLsbD_xor]
  by_cases h : i < m
  · rw [hy i h]; simp
  · have : x.getLsbD i = false := by
      rw [← BitVec.testBit_toNat]
      exact Nat.testBit_lt_two_pow (Nat.lt_of_lt_of_le hx (Nat.pow_le_pow_right (by decide) (by omega)))
    rw [this]; simp
theorem bl_low (z : Nat → Int) (k i : Nat) (h : i < 8 * (k % 8)) : (bl z k).getLsbD i = false := by
  unfold bl
  rw [BitVec.getLsbD_shiftLeft]
  simp [h]
/-- A text is taken in lane by lane. -/
theorem tk_ln (a : Nat → Lane) (z : Nat → Int) (hz : isB z) : ∀ k j, tk a z k j = a j ^^^ ln z k j
  | 0, j => by simp [tk, ln]
  | k + 1, j => by
    rw [tk, ln]
    by_cases h : j = k / 8
    · rw [if_pos h, if_pos h, tk_ln a z hz k j, or_xor _ _ (8 * (k % 8)) ((ln_lo z hz k j).2 h) (fun i hi => bl_low z k i hi), BitVec.xor_assoc]
    · rw [if_neg h, if_neg h, tk_ln a z hz k j]
theorem ln_congr {y z : Nat → Int} : ∀ {k : Nat}, (∀ i, i < k → y i = z i) → ∀ j, ln y k j = ln z k j
  | 0, _, _ => rfl
  | k + 1, h, j => by
    have e : bl y k = bl z k := by unfold bl; rw [h k (by omega)]
    rw [ln, ln, ln_congr (fun i hi => h i (by omega)) j, e]
theorem tk_congr {y z : Nat → Int} (a : Nat → Lane) : ∀ {k : Nat}, (∀ i, i < k → y i = z i) → ∀ j, tk a y k j = tk a z k j
  | 0, _, _ => rfl
  | k + 1, h, j => by
    have e : bl y k = bl z k := by unfold bl; rw [h k (by omega)]
    rw [tk, tk, tk_congr a (fun i hi => h i (by omega)) j, e]

/-- The message with a byte 1 behind it, and noughts. -/
def pz (z : Nat → Int) (n i : Nat) : Int := if i < n then z i else if i = n then 1 else 0
/-- How many bytes that makes. -/
def pn (n : Nat) : Nat := (n / 136 + 1) * 136
/-- The same with the last byte's highest bit set. -/
def pd (z : Nat → Int) (n i : Nat) : Int := if i = pn n - 1 then pz z n i + 128 else pz z n i
theorem pn_gt (n : Nat) : n < pn n := by unfold pn; omega
theorem pn_le (n : Nat) : pn n ≤ n + 136 := by unfold pn; omega
theorem pz_B (z : Nat → Int) (n : Nat) (hz : isB z) : isB (pz z n) := fun i => by
  unfold pz
  split
  · exact hz i
  · split <;> omega
theorem pz_end (z : Nat → Int) (n i : Nat) (h : n ≤ i) : 0 ≤ pz z n i ∧ pz z n i ≤ 1 := by
  unfold pz
  rw [if_neg (by omega)]
  split <;> omega
theorem pd_B (z : Nat → Int) (n : Nat) (hz : isB z) : isB (pd z n) := fun i => by
  unfold pd
  split
  · rename_i h
    have h1 := pn_gt n
    have h2 := pz_end z n i (by omega)
    omega
  · exact pz_B z n hz i
/-- Block j of a padded message. -/
def blk (P : Nat → Int) (j i : Nat) : Int := P (136 * j + i)
theorem blk_B (P : Nat → Int) (h : isB P) (j : Nat) : isB (blk P j) := fun _ => h _
/-- The state behind j blocks. -/
def hst (P : Nat → Int) : Nat → Nat → Lane
  | 0 => fun _ => 0
  | j + 1 => prm (fun l => hst P j l ^^^ ln (blk P j) 136 l) 24
theorem hst_take (P : Nat → Int) (hP : isB P) (j : Nat) (y : Nat → Int) (hy : ∀ i, i < 136 → y i = blk P j i) : same (prm (tk (hst P j) y 136) 24) (hst P (j + 1)) := by
  show same _ (prm (fun l => hst P j l ^^^ ln (blk P j) 136 l) 24)
  apply prm_same
  intro i _
  rw [tk_congr (hst P j) hy i, tk_ln _ _ (blk_B P hP j)]

end Go.Proofs.YtgiefpipflcbgadGreatDoor
