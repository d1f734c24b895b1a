/- Several texts in one: Slices of elements: what the laws' helpers and the tests of lists on them do: contracts. Conditions: rows that can be read, lengths of at most 2 to the 40. · Bytes of elements: what is written, how, by the program and by its model: contracts. Conditions: rows that can be read, right elements. · Rows of bytes that grow by append, out of a converted string too: words and laws. No program is named here. · Bytes of a text that grow by append, out of a converted string too: words and laws. No program is named here. -/
import Derived.Test.YtkpohajmcngjcaaGreatDoorBzac
import Derived.OwnWalk
import Derived.Test.YtkpohajmcngjcaaGreatDoorBzaa
import Derived.ArgAppend
import Derived.Lib.ConvBytes
namespace Go.Proofs.YtkpohajmcngjcaaGreatDoor
open Go.ChangeShapes Go.WideShapes Go.ChangeAt Go.RowKit
set_option linter.unusedVariables false
set_option linter.unusedSimpArgs false

theorem infoExt : (Tryz.prog.info? 62).map (fun i => (i.zero, i.size, i.bytes)) = some (some (.agg #[.int .i64 0, .int .i64 0]), 2, 16) := by kernel_rfl
/-- Pairs of ints, cell by cell. -/
def pf (f g : Nat → Int) (i : Nat) : Value := .int .i64 (if i % 2 = 0 then f (i / 2) else g (i / 2))
theorem pf_even (f g : Nat → Int) (k : Nat) : pf f g (k * 2) = .int .i64 (f k) := by
  unfold pf; rw [if_pos (by omega), show k * 2 / 2 = k by omega]
theorem pf_odd (f g : Nat → Int) (k : Nat) : pf f g (k * 2 + 1) = .int .i64 (g k) := by
  unfold pf; rw [if_neg (by omega), show (k * 2 + 1) / 2 = k by omega]
/-- An own row of pairs can be read. -/
theorem PairV.of_row {w : World} {b : Nat} {t : TypeId} {n m : Nat} {f g : Nat → Int} (h : w.rowIs b t (m * 2) (pf f g)) (hm : n ≤ m) : PairV w (some ⟨b, 0, none⟩) n f g := by
  intro i hi
  refine ⟨b, 0, rfl, h.lt, ?_, ?_⟩
  · rw [Nat.zero_add, h.cell (by omega), pf_even]
  · rw [Nat.zero_add, h.cell (by omega), pf_odd]
theorem PairV.congr {w : World} {c : Option Addr} {n : Nat} {f g f' g' : Nat → Int} (h : PairV w c n f g) (e : ∀ i, i < n → f i = f' i ∧ g i = g' i) : PairV w c n f' g' := by
  intro i hi
  obtain ⟨xb, xo, e1, l, h1, h2⟩ := h i hi
  exact ⟨xb, xo, e1, l, by rw [h1, (e i hi).1], by rw [h2, (e i hi).2]⟩
/-- make([]T, n), T of two cells. -/
theorem wpList_make_pairs {P : Program} (w : World) {ops : Array Oper} {rest : List Oper} {o : Oper} {a : Act} {Q : Exit → Act → World → Prop}
    (hg : o.guard = none) (l c : Operand) (t : TypeId) (hop : o.op = Op.makeSlice t l c) (e : TypeId) (i : TypeInfo)
    (h1 : P.underlying t = some (.slice e)) (h2 : P.info? e = some i) (h3 : i.zero = some (.agg #[.int .i64 0, .int .i64 0])) (h4 : i.size = 2)
    (kl kc : IntKind) (L C : Int) (n : Nat) (hl : a.eval l = .int kl L) (hc : a.eval c = .int kc C) (hL : L = (n : Int)) (hC : C = (n : Int)) (b2 : i.bytes * n ≤ 281474976710656) (b3 : n ≤ 9223372036854775807)
    (hK : ∀ w', w'.rowIs w.heap.size e (n * 2) (pf (fun _ => 0) (fun _ => 0)) → Chg nob w w' → wpList P ops Q rest (a.put o.dst (.slice (some ⟨w.heap.size, 0, none⟩) n n)) w') :
    wpList P ops Q (o :: rest) a w := by
  refine wpList_plain hg fun K hK' => ?_
  have hb' : (i.bytes : Int) * (n : Int) ≤ 281474976710656 := by
    have h : ((i.bytes * n : Nat) : Int) ≤ 281474976710656 := by omega
    rwa [Int.natCast_mul] at h
  have hrun := run_make (P := P) w t e i _ h1 h2 h3 kl kc n n (by omega) (Int.le_refl _) hb' (by omega)
  simp only [Int.toNat_natCast, h4] at hrun
  subst hL
  subst hC
  unfold Oper.wp
  simp [execOp, hop, hl, hc, hrun, Result.andThen]
  refine hK' _ _ (hK _ ⟨_, Go.Deep.blk_alloc_new _ _, size_madeCells _ _, fun j hj => ?_⟩ ((Chg.refl _ _).alloc _))
  have h2 : j % 2 < 2 := Nat.mod_lt _ (by omega)
  rcases (by omega : j % 2 = 0 ∨ j % 2 = 1) with q | q <;> simp [madeCells, hj, Value.cells, q, pf]

set_option maxHeartbeats 400000 in
theorem szExtS_ok (c : Option Addr) (n cap : Nat) (l : Int) (w : World) (h0 : (n : Int) ≤ l) (h1 : l ≤ 1048576) :
    Calls Tryz.prog 31 #[.slice c n cap, .int .i64 l] w fun e w' => e = .returned (.int .i64 (l - n)) ∧ w' = w := by
  have h2 : ¬ l - (n : Int) < 0 := by omega
  go_enter Tryz.func31, Tryz.ntmps31
  go_wp2
  go_ret
  exact ⟨rfl, rfl⟩

set_option maxHeartbeats 400000 in
theorem szExtS_no (c : Option Addr) (n cap : Nat) (l : Int) (w : World) (h0 : l < (n : Int)) (h1 : 0 ≤ l) (hn : (n : Int) ≤ 9223372036854775807) :
    Calls Tryz.prog 31 #[.slice c n cap, .int .i64 l] w fun e w' => e = .returned (.int .i64 (-1)) ∧ w' = w := by
  have h2 : l - (n : Int) < 0 := by omega
  go_enter Tryz.func31, Tryz.ntmps31
  go_wp2
  go_ret
  exact ⟨rfl, rfl⟩

/-- A copy: a new row at the heap's end. -/
def CopiedE (w : World) (n : Nat) (f g : Nat → Int) (e : Ending) (w' : World) : Prop :=
  e = .returned (.slice (some ⟨w.heap.size, 0, none⟩) n n) ∧ w'.rowIs w.heap.size 62 (n * 2) (pf f g) ∧ Chg nob w w'
/-- A row of which the first k pairs are copied. -/
def cpy (f g : Nat → Int) (k : Nat) (j : Nat) : Value := if j < k * 2 then pf f g j else .int .i64 0
theorem cpy_set {W : World} {b n : Nat} {t : TypeId} {f g : Nat → Int} {k : Nat} (h : W.rowIs b t (n * 2) (cpy f g k)) : ((W.setCell ⟨b, k * 2, none⟩ (.int .i64 (f k))).setCell ⟨b, k * 2 + 1, none⟩ (.int .i64 (g k))).rowIs b t (n * 2) (cpy f g (k + 1)) :=
  ((h.set (k * 2) _).set (k * 2 + 1) _).congr (fun i _ => by
    by_cases e1 : i = k * 2 + 1
    · subst e1; simp [cpy, pf_odd, show k * 2 + 1 < (k + 1) * 2 by omega]
    · by_cases e2 : i = k * 2
      · subst e2; simp [cpy, pf_even, show k * 2 < (k + 1) * 2 by omega]
      · by_cases e3 : i < k * 2
        · simp [cpy, e1, e2, e3, show i < (k + 1) * 2 by omega]
        · simp [cpy, e1, e2, e3, show ¬ i < (k + 1) * 2 by omega])

set_option maxHeartbeats 2000000 in
theorem toExtS_any (c : Option Addr) (n cap : Nat) (f g : Nat → Int) (w : World) (h : Hid (PairV w c n f g)) (hn : n ≤ 1099511627776) :
    Calls Tryz.prog 36 #[.slice c n cap] w fun e w' => CopiedE w n f g e w' := by
  obtain ⟨i0, hi, hz0, hz1, hz2⟩ := info_parts infoExt
  have HI := hide hi
  have HZ0 := hide hz0
  have HZ1 := hide hz1
  have hb : i0.bytes * n ≤ 281474976710656 := by rw [hz2]; omega
  clear hi hz0 hz1 hz2
  go_enter Tryz.func36, Tryz.ntmps36
  go_wp2_with (at_make; refine wpList_make_pairs _ rfl (.tmp 6) (.tmp 6) 33 rfl 62 i0 Tryz.underlying33 HI.out HZ0.out HZ1.out .i64 .i64 _ _ n rfl rfl rfl rfl hb (by omega) ?_)
  intro w0 hr hk
  have HR0 := hide hr
  have HK0 := hide hk
  clear hb HI HZ0 HZ1 hr hk
  go_wp2
  go_loopw [4] (fun i W => ∃ k : Nat, k ≤ n ∧ i = .int .i64 k ∧ Hid (W.rowIs w.heap.size 62 (n * 2) (cpy f g k)) ∧ Hid (Chg nob w W)) (fun i _ => n - (intOf i).toNat)
  case atStart => exact ⟨0, Nat.zero_le _, rfl, hide (HR0.out.congr (fun i _ => by simp [cpy, pf])), HK0⟩
  case round =>
    obtain ⟨k, hk, rfl, HR, HC⟩ := hrel
    by_cases hlt : k < n
    · obtain ⟨xb, xo, rfl, hxb, hx0, hx1⟩ := (h.out.keep HC.out) k hlt
      have hy0 := hx0
      go_wp2_with fail
      refine (toExt_any _ _ _).mono ?_
      rintro e w1 ⟨rfl, k1⟩
      have HR1 := hide (rowIs_keep HR.out k1)
      have HC1 := hide (HC.out.trans k1)
      have g0 := HR1.out.cell (i := k * 2) (by omega)
      have g1 := HR1.out.cell (i := k * 2 + 1) (by omega)
      have f0 := HR1.out.frozen (k * 2)
      have f1 := HR1.out.frozen (k * 2 + 1)
      clear k1 hx0 hx1 hy0
      go_wp2
      go_roundw
      case rel => exact ⟨k + 1, by omega, by go_num, hide (cpy_set HR1.out), hide ((HC1.out.setCell (p := ⟨w.heap.size, k * 2, none⟩) (fun l => absurd l (by simp)) _).setCell (p := ⟨w.heap.size, k * 2 + 1, none⟩) (fun l => absurd l (by simp)) _)⟩
      case measure => simp [intOf]; omega
    · go_wp2
      go_ret
      exact ⟨rfl, HR.out.congr (fun i hi => by simp [cpy, show i < k * 2 by omega]), HC.out⟩

set_option maxHeartbeats 2000000 in
theorem eqExtS_any (c d : Option Addr) (n m cap cap' : Nat) (f g f' g' : Nat → Int) (w : World) (h : Hid (PairV w c n f g)) (h' : Hid (PairV w d m f' g')) (hm : n = m) (he : ∀ i, i < n → f i = f' i ∧ g i = g' i) (hn : n ≤ 1099511627776) :
    Calls Tryz.prog 39 #[.slice c n cap, .slice d m cap'] w fun e w' => e = .returned (.bool true) ∧ Chg nob w w' := by
  subst hm
  have HE := hide he
  clear he
  go_enter Tryz.func39, Tryz.ntmps39
  go_wp2
  go_loopw [5] (fun i W => ∃ k : Nat, k ≤ n ∧ i = .int .i64 k ∧ Hid (Chg nob w W)) (fun i _ => n - (intOf i).toNat)
  case atStart => exact ⟨0, Nat.zero_le _, rfl, hide (Chg.refl _ _)⟩
  case round =>
    obtain ⟨k, hk, rfl, HC⟩ := hrel
    by_cases hlt : k < n
    · have hk0 : (0 : Int) ≤ (k : Int) := by omega
      have hk1 : (k : Int) < (n : Int) := by omega
      obtain ⟨xb, xo, rfl, hxb, hx0, hx1⟩ := (h.out.keep HC.out) k hlt
      obtain ⟨yb, yo, rfl, hyb, hy0, hy1⟩ := (h'.out.keep HC.out) k hlt
      rw [← (HE.out k hlt).1] at hy0
      rw [← (HE.out k hlt).2] at hy1
      go_wp2
      go_region_held3 (fun w' => w'.cell? ⟨xb, xo + k * 2, none⟩ = some (.int .i64 (f k)) ∧ w'.cell? ⟨xb, xo + k * 2 + 1, none⟩ = some (.int .i64 (g k)) ∧ w'.cell? ⟨yb, yo + k * 2, none⟩ = some (.int .i64 (f k)) ∧ w'.cell? ⟨yb, yo + k * 2 + 1, none⟩ = some (.int .i64 (g k))) (first | (refine ⟨?_, ?_, ?_, ?_⟩ <;> assumption) | (exact ⟨k1.look hx0, k1.look hx1, k1.look hy0, k1.look hy1⟩) | go_keep) (first | (go_at_call 79; refine (eqExt_any _ _ _).mono ?_; rintro e w1 ⟨rfl, k1⟩))
      have HC1 := hide (HC.out.trans (((Chg.refl _ _).drew).trans k1))
      clear k1
      go_wp2
      go_roundw
      case rel => exact ⟨k + 1, by omega, by go_num, HC1⟩
      case measure => simp [intOf]; omega
    · go_wp2
      go_ret
      exact ⟨rfl, HC.out⟩

/-- All of the first n elements are right ones. -/
def okP (f g : Nat → Int) : Nat → Bool
  | 0 => true
  | n + 1 => okP f g n && eok (f n) (g n)
theorem okP_no (f g : Nat → Int) (k : Nat) (h : eok (f k) (g k) = false) : ∀ n, k < n → okP f g n = false := by
  intro n
  induction n with
  | zero => intro h; omega
  | succ n ih =>
    intro hn
    by_cases e : k = n
    · subst e; simp [okP, h]
    · simp [okP, ih (by omega)]
theorem okP_all (f g : Nat → Int) (n : Nat) (h : okP f g n = true) (i : Nat) (hi : i < n) : eok (f i) (g i) = true := by
  cases e : eok (f i) (g i)
  · rw [okP_no f g i e n hi] at h; cases h
  · rfl

set_option maxHeartbeats 1000000 in
theorem extsOK_any (c : Option Addr) (n cap : Nat) (f g : Nat → Int) (w : World) (h : Hid (PairV w c n f g)) (hn : n ≤ 1099511627776) :
    Calls Tryz.prog 51 #[.slice c n cap] w fun e w' => e = .returned (.bool (okP f g n)) ∧ Chg nob w w' := by
  go_enter Tryz.func51, Tryz.ntmps51
  go_wp2
  go_loopw [7] (fun i W => ∃ k : Nat, k ≤ n ∧ i = .int .i64 k ∧ Hid (okP f g k = true) ∧ Hid (Chg nob w W)) (fun i _ => n - (intOf i).toNat)
  case atStart => exact ⟨0, Nat.zero_le _, rfl, hide rfl, hide (Chg.refl _ _)⟩
  case round =>
    obtain ⟨k, hk, rfl, HO, HC⟩ := hrel
    by_cases hlt : k < n
    · obtain ⟨xb, xo, rfl, hxb, hx0, hx1⟩ := (h.out.keep HC.out) k hlt
      cases hfk : eok (f k) (g k)
      · have HB := hide (okP_no f g k hfk n hlt)
        go_wp2_with (go_at_call 93; refine (extOK_any _ _ _).mono ?_; rintro e w1 ⟨rfl, k1⟩)
        go_ret
        exact ⟨ret_bool HB.out.symm, HC.out.trans (by repeat (first | with_reducible exact Chg.refl _ _ | with_reducible refine Chg.alloc ?_ _ | with_reducible refine Chg.trans ?_ (by assumption)))⟩
      · have HO2 := hide (show okP f g (k + 1) = true by simp [okP, HO.out, hfk])
        go_wp2_with (go_at_call 93; refine (extOK_any _ _ _).mono ?_; rintro e w1 ⟨rfl, k1⟩)
        go_roundw
        case rel => exact ⟨k + 1, by omega, by go_num, HO2, hide (HC.out.trans (by repeat (first | with_reducible exact Chg.refl _ _ | with_reducible refine Chg.alloc ?_ _ | with_reducible refine Chg.trans ?_ (by assumption))))⟩
        case measure => simp [intOf]; omega
    · obtain rfl : k = n := by omega
      go_wp2
      go_ret
      exact ⟨ret_bool HO.out.symm, HC.out⟩

set_option maxHeartbeats 1000000 in
theorem l02List_any (c : Option Addr) (n cap : Nat) (f g : Nat → Int) (w : World) (h : Hid (PairV w c n f g)) (hn : n ≤ 1099511627776) :
    Calls Tryz.prog 102 #[.slice c n cap] w fun e w' => e = .returned (.bool (okP f g n)) ∧ Chg nob w w' := by
  go_enter Tryz.func102, Tryz.ntmps102
  go_wp2
  go_loopw [3] (fun i W => ∃ k : Nat, k ≤ n ∧ i = .int .i64 k ∧ Hid (okP f g k = true) ∧ Hid (Chg nob w W)) (fun i _ => n - (intOf i).toNat)
  case atStart => exact ⟨0, Nat.zero_le _, rfl, hide rfl, hide (Chg.refl _ _)⟩
  case round =>
    obtain ⟨k, hk, rfl, HO, HC⟩ := hrel
    by_cases hlt : k < n
    · obtain ⟨xb, xo, rfl, hxb, hx0, hx1⟩ := (h.out.keep HC.out) k hlt
      cases hfk : eok (f k) (g k)
      · have HB := hide (okP_no f g k hfk n hlt)
        go_wp2_with (go_at_call 115; refine (sExtOK_any _ _ _).mono ?_; rintro e w1 ⟨rfl, k1⟩)
        go_ret
        exact ⟨ret_bool HB.out.symm, HC.out.trans (by repeat (first | with_reducible exact Chg.refl _ _ | with_reducible refine Chg.alloc ?_ _ | with_reducible refine Chg.trans ?_ (by assumption)))⟩
      · have HO2 := hide (show okP f g (k + 1) = true by simp [okP, HO.out, hfk])
        go_wp2_with (go_at_call 115; refine (sExtOK_any _ _ _).mono ?_; rintro e w1 ⟨rfl, k1⟩)
        go_roundw
        case rel => exact ⟨k + 1, by omega, by go_num, HO2, hide (HC.out.trans (by repeat (first | with_reducible exact Chg.refl _ _ | with_reducible refine Chg.alloc ?_ _ | with_reducible refine Chg.trans ?_ (by assumption))))⟩
        case measure => simp [intOf]; omega
    · obtain rfl : k = n := by omega
      go_wp2
      go_ret
      exact ⟨ret_bool HO.out.symm, HC.out⟩


end Go.Proofs.YtkpohajmcngjcaaGreatDoor

namespace Go.Proofs.YtkpohajmcngjcaaGreatDoor
open Go.ChangeShapes Go.WideShapes Go.ChangeAt Go.RowKit
set_option linter.unusedVariables false
set_option linter.unusedSimpArgs false

theorem infoU8 : (Tryz.prog.info? 5).map (fun i => (i.zero, i.size, i.bytes)) = some (some (.int .u8 0), 1, 1) := by kernel_rfl
/-- The four bytes of a number, the higher ones first. -/
def wb (a : Int) : Nat → Int
  | 0 => a / 16777216 % 256
  | 1 => a / 65536 % 256
  | 2 => a / 256 % 256
  | _ => a % 256
/-- The bytes of elements. -/
def byt (f g : Nat → Int) (i : Nat) : Int := if i % 8 < 4 then wb (f (i / 8)) (i % 8) else wb (g (i / 8)) (i % 8 - 4)
def bvl (f g : Nat → Int) (i : Nat) : Value := .int .u8 (byt f g i)
theorem wb_lo (a : Int) (j : Nat) : 0 ≤ wb a j := by unfold wb; split <;> omega
theorem wb_hi (a : Int) (j : Nat) : wb a j < 256 := by unfold wb; split <;> omega
/-- The values of a number's bytes. -/
def wv (a : Int) : List Value := [.int .u8 (wb a 0), .int .u8 (wb a 1), .int .u8 (wb a 2), .int .u8 (wb a 3)]

/-- The code of a list. -/
def bc (f g : Nat → Int) (n : Nat) : Int := if 4096 < n then 2 else if okP f g n then 0 else 1
/-- No bytes, and a code. -/
def NoBytes (w : World) (code : Int) (e : Ending) (w' : World) : Prop := e = .returned (.tuple #[.slice none 0 0, .int .i64 code]) ∧ Chg nob w w'
/-- A new row of the bytes. -/
def NewBytes (w : World) (n : Nat) (f g : Nat → Int) (e : Ending) (w' : World) : Prop :=
  ∃ b : Nat, w.heap.size ≤ b ∧ e = .returned (.tuple #[.slice (some ⟨b, 0, none⟩) (n * 8) (n * 8), .int .i64 0]) ∧ w'.rowIs b 5 (n * 8) (bvl f g) ∧ Chg nob w w'
/-- Either, by the code. -/
def EAns (w : World) (n : Nat) (f g : Nat → Int) (e : Ending) (w' : World) : Prop := (bc f g n ≠ 0 ∧ NoBytes w (bc f g n) e w') ∨ (bc f g n = 0 ∧ NewBytes w n f g e w')
theorem EAns.no {w w' : World} {n : Nat} {f g : Nat → Int} {e : Ending} {code : Int} (hb : bc f g n = code) (hc : code ≠ 0) (h : e = .returned (.tuple #[.slice none 0 0, .int .i64 code])) (k : Chg nob w w') : EAns w n f g e w' :=
  .inl ⟨by rw [hb]; exact hc, by rw [hb]; exact ⟨h, k⟩⟩


end Go.Proofs.YtkpohajmcngjcaaGreatDoor

namespace Go.Proofs.YtkpohajmcngjcaaGreatDoor
open Go.RowKit
set_option linter.unusedVariables false

/-- n bytes in a block from B on, all its places to be written. -/
structure BRow (W : World) (B : Nat) (g n cap : Nat) (z : Nat → Int) : Prop where
  lo : B ≤ g
  lt : g < W.heap.size
  le : n ≤ cap
  at_ : ∀ i, i < n → W.cell? ⟨g, i, none⟩ = some (.int .u8 (z i))
  there : ∀ i, i < cap → (W.cell? ⟨g, i, none⟩).isSome = true ∧ W.frozen? ⟨g, i, none⟩ = false
theorem BRow.row {W : World} {B g n cap : Nat} {z : Nat → Int} (h : BRow W B g n cap z) : RowV W (some ⟨g, 0, none⟩) n (bb z) :=
  fun i hi => ⟨g, 0, rfl, h.lt, by rw [Nat.zero_add]; exact h.at_ i hi⟩
theorem BRow.chg {P : Nat → Prop} {W W' : World} {B g n cap : Nat} {z : Nat → Int} (h : BRow W B g n cap z) (k : Chg P W W') (hp : ¬ P g) : BRow W' B g n cap z :=
  ⟨h.lo, Nat.lt_of_lt_of_le h.lt k.size, h.le, fun i hi => by rw [k.cell (p := ⟨g, i, none⟩) h.lt hp]; exact h.at_ i hi, fun i hi => by
    rw [k.cell (p := ⟨g, i, none⟩) h.lt hp, World.frozen?_of_block (a := ⟨g, i, none⟩) (k.block g h.lt hp)]; exact h.there i hi⟩
theorem BRow.keep {W W' : World} {B g n cap : Nat} {z : Nat → Int} (h : BRow W B g n cap z) (k : Chg nob W W') : BRow W' B g n cap z := h.chg k (fun x => x)
theorem BRow.alike {W : World} {B g n cap : Nat} {z y : Nat → Int} (h : BRow W B g n cap z) (e : ∀ i, i < n → z i = y i) : BRow W B g n cap y :=
  ⟨h.lo, h.lt, h.le, fun i hi => by rw [← e i hi]; exact h.at_ i hi, h.there⟩
theorem BRow.set {W : World} {B g n cap : Nat} {z : Nat → Int} (h : BRow W B g n cap z) (i : Nat) (hi : i < n) (u : Int) : BRow (W.setCell ⟨g, i, none⟩ (.int .u8 u)) B g n cap (fun j => if j = i then u else z j) := by
  have hh := h.le
  refine ⟨h.lo, by simpa using h.lt, h.le, fun j hj => ?_, fun j hj => ?_⟩
  · by_cases e : j = i
    · subst e
      rw [World.cell?_setCell_same W _ _ (h.at_ j hj)]
      simp
    · rw [World.cell?_setCell_other _ _ _ _ (by simp)]
      simp [e, h.at_ j hj]
  · refine ⟨?_, by rw [World.frozen?_setCell]; exact (h.there j hj).2⟩
    by_cases e : j = i
    · subst e
      rw [World.cell?_setCell_same W _ _ (h.at_ j hi)]
      rfl
    · rw [World.cell?_setCell_other _ _ _ _ (by simp)]
      exact (h.there j hj).1
theorem BRow.of_owns {W : World} {B n : Nat} {t : TypeId} {v : Value} {z : Nat → Int} (ho : W.ownsRow B t 1 v n ((List.range n).map (bb z))) (hn : 0 < n) : ∃ g cap, v = .slice (some ⟨g, 0, none⟩) n cap ∧ BRow W B g n cap z := by
  rcases ho.2 with ⟨_, h0⟩ | ⟨g, cap, cur, rfl, hb, hcur, hl, _, hsz, _⟩
  · exact absurd h0 (by omega)
  · refine ⟨g, cap, rfl, hb, (Array.getElem?_eq_some_iff.1 hcur).1, hl, fun i hi => ?_, fun i hi => ?_⟩
    · have := ho.cells rfl i (bb z i) (by simp [List.getElem?_map, List.getElem?_range hi])
      rw [Go.WideShapes.add_plain, Nat.zero_add] at this
      exact this
    · simp [World.cell?, World.frozen?, hcur]
      omega
/-- Bytes of a string, converted. -/
theorem BRow.of_string (w : World) (t : TypeId) (s : ByteArray) : BRow (Go.Lib.bytesWorld w t s) w.heap.size w.heap.size s.size (grownCap w s.size 0 t) (zs s) := by
  have hge := grownCap_ge w s.size 0 t
  have hat := Go.Lib.bytesWorld_at_new w t s
  have hsz : (Go.Lib.bytesCells w t s).size = grownCap w s.size 0 t := by
    unfold Go.Lib.bytesCells
    have : s.data.size = s.size := rfl
    simp [this]
    omega
  refine ⟨Nat.le_refl _, by rw [Go.Lib.bytesWorld_size]; omega, hge, fun i hi => ?_, fun i hi => ?_⟩
  · rw [Go.Lib.bytesWorld_cell w t s i hi]
    unfold zs
    rw [List.getD_eq_getElem?_getD]
  · simp [World.cell?, World.frozen?, hat, hsz]
    omega
theorem chg_string (w : World) (t : TypeId) (s : ByteArray) : Chg nob w (Go.Lib.bytesWorld w t s) :=
  ⟨rfl, rfl, rfl, by rw [Go.Lib.bytesWorld_size]; omega, fun k hk _ => Go.Lib.bytesWorld_at_old w t s k hk⟩

section
variable {P : Program}
/-- One byte more. -/
theorem wpList_append_brow (w : World) {ops : Array Oper} {rest : List Oper} {o : Oper} {a : Act} {Q : Exit → Act → World → Prop}
    (s x : Operand) (t : TypeId) (hg : o.guard = none) (hop : o.op = Op.call { callee := Callee.builtin Builtin.append, args := #[s, x], argTypes := #[t, t] })
    (e : TypeId) (i : TypeInfo) (z0 : Value) (h1 : P.underlying t = some (.slice e)) (h2 : P.info? e = some i) (h3 : i.zero = some z0) (h4 : i.size = 1) (h5 : i.bytes = 1) (h6 : z0.cells.size = 1)
    (B g n cap : Nat) (z : Nat → Int) (hB : B ≤ w.heap.size) (hs : a.eval s = .slice (some ⟨g, 0, none⟩) n cap) (hb : BRow w B g n cap z)
    (ad : Addr) (c : Nat) (u : Int) (hx : a.eval x = .slice (some ad) 1 c) (hc : w.cell? ad = some (.int .u8 u))
    (hn : n ≤ 1099511627776)
    (hK : ∀ g' cap' w', BRow w' B g' (n + 1) cap' (fun j => if j = n then u else z j) → Chg (fun b => B ≤ b) w w' → wpList P ops Q rest (a.put o.dst (.slice (some ⟨g', 0, none⟩) (n + 1) cap')) w') :
    wpList P ops Q (o :: rest) a w := by
  refine wpList_append_arg w hg s x t hop e i z0 1 1 h1 h2 h3 h4 h5 h6 (by decide) g 0 n cap ((List.range n).map (bb z)) hs (by simp) ?olds ad 1 c [.int .u8 u] hx rfl ?news (by intro v hv; simp at hv; subst hv; rfl) ?spare (by unfold maxLen; omega) (by omega) ?room ?grow
  case olds =>
    intro j v hj
    by_cases hjn : j < n
    · rw [List.getElem?_map, List.getElem?_range hjn] at hj
      simp at hj
      subst hj
      rw [Nat.zero_add]
      exact hb.at_ j hjn
    · rw [List.getElem?_eq_none (by simp; omega)] at hj
      cases hj
  case news =>
    intro j v hj
    match j, hj with
    | 0, hj =>
      simp at hj
      subst hj
      have : ad.add 0 = ad := by unfold Addr.add; simp
      rw [this]
      exact hc
    | j + 1, hj => simp at hj
  case spare =>
    intro hr j hj
    simp at hj
    subst hj
    simpa using hb.there n (by omega)
  case room =>
    intro hr
    refine hK g cap _ ⟨hb.lo, ?_, hr, fun j hj => ?_, fun j hj => ?_⟩ ?_
    · simpa [World.setCells] using hb.lt
    · by_cases ejn : j = n
      · subst ejn
        have := World.cell?_setCells_in g [.int .u8 u] (0 + j * 1) w (by intro k hk; simp at hk; subst hk; simpa using (hb.there j (by omega)).1) 0 (by simp)
        simpa using this
      · rw [World.cell?_setCells_out g [.int .u8 u] (0 + n * 1) w _ (by intro _ _; simp; omega)]
        simp [ejn]
        exact hb.at_ j (by omega)
    · refine ⟨?_, by rw [World.frozen?_setCells]; exact (hb.there j hj).2⟩
      by_cases ejn : j = n
      · subst ejn
        have := World.cell?_setCells_in g [.int .u8 u] (0 + j * 1) w (by intro k hk; simp at hk; subst hk; simpa using (hb.there j (by omega)).1) 0 (by simp)
        simp at this
        simp [this]
      · rw [World.cell?_setCells_out g [.int .u8 u] (0 + n * 1) w _ (by intro _ _; simp; omega)]
        exact (hb.there j hj).1
    · have : w.setCells g (0 + n * 1) [.int .u8 u] = w.setCell ⟨g, 0 + n * 1, none⟩ (.int .u8 u) := rfl
      rw [this]
      exact (Chg.refl _ _).setCell (p := ⟨g, 0 + n * 1, none⟩) (fun _ => hb.lo) _
  case grow =>
    intro hr v' w' hown hgr
    have ho : w'.ownsRow w.heap.size e 1 v' (n + 1) ((List.range (n + 1)).map (bb (fun j => if j = n then u else z j))) := by
      have e1 : (List.range (n + 1)).map (bb (fun j => if j = n then u else z j)) = (List.range n).map (bb z) ++ [.int .u8 u] := by
        rw [List.range_succ, List.map_append]
        congr 1
        · apply List.map_congr_left
          intro j hj
          have : j < n := by simpa using hj
          simp [bb, show ¬ j = n by omega]
        · simp [bb]
      rw [e1]
      exact hown
    obtain ⟨g', cap', rfl, hb'⟩ := BRow.of_owns ho (by omega)
    exact hK g' cap' w' ⟨Nat.le_trans hB hb'.lo, hb'.lt, hb'.le, hb'.at_, hb'.there⟩ ((Chg.refl _ _).grown hgr (fun k e => by cases e))
end

end Go.Proofs.YtkpohajmcngjcaaGreatDoor

namespace Go.Proofs.YtkpohajmcngjcaaGreatDoor
open Go.RowKit
set_option linter.unusedVariables false

theorem zs_app (T U : ByteArray) (i : Nat) : zs (T ++ U) i = if i < T.size then zs T i else zs U (i - T.size) := by
  unfold zs
  have e : (T ++ U).data.toList = T.data.toList ++ U.data.toList := by simp
  have hs : T.data.toList.length = T.size := by simp
  rw [e, List.getElem?_append, hs]
  split <;> rfl
theorem ba_assoc (a b c : ByteArray) : a ++ b ++ c = a ++ (b ++ c) := by
  apply ByteArray.ext
  simp [Array.append_assoc]
/-- n bytes, a text, in a block from B on, all its places to be written. -/
structure BT (W : World) (B g n cap : Nat) (T : ByteArray) : Prop where
  e : n = T.size
  r : BRow W B g n cap (zs T)
  m : cap ≤ maxLen
theorem BT.chg {P : Nat → Prop} {W W' : World} {B g n cap : Nat} {T : ByteArray} (h : BT W B g n cap T) (k : Chg P W W') (hp : ¬ P g) : BT W' B g n cap T := ⟨h.e, h.r.chg k hp, h.m⟩
theorem BT.keep {W W' : World} {B g n cap : Nat} {T : ByteArray} (h : BT W B g n cap T) (k : Chg nob W W') : BT W' B g n cap T := h.chg k (fun x => x)
theorem BT.low {W : World} {B B' g n cap : Nat} {T : ByteArray} (h : BT W B g n cap T) (l : B' ≤ B) : BT W B' g n cap T := ⟨h.e, ⟨Nat.le_trans l h.r.lo, h.r.lt, h.r.le, h.r.at_, h.r.there⟩, h.m⟩
/-- A text's bytes as values. -/
def bvs (T : ByteArray) : List Value := (List.range T.size).map (bb (zs T))
theorem bvs_len (T : ByteArray) : (bvs T).length = T.size := by simp [bvs]
theorem bvs_get (T : ByteArray) {j : Nat} {u : Value} (h : (bvs T)[j]? = some u) : j < T.size ∧ u = bb (zs T) j := by
  by_cases hj : j < T.size
  · unfold bvs at h
    rw [List.getElem?_map, List.getElem?_range hj] at h
    simp at h
    exact ⟨hj, h.symm⟩
  · rw [List.getElem?_eq_none (by rw [bvs_len]; omega)] at h
    cases h
theorem bvs_app (T U : ByteArray) : bvs T ++ bvs U = (List.range (T.size + U.size)).map (bb (zs (T ++ U))) := by
  apply List.ext_getElem
  · simp [bvs]
  · intro i h1 h2
    rw [List.getElem_append]
    split
    · rename_i h
      rw [bvs_len] at h
      simp [bvs, bb, zs_app, h]
    · rename_i h
      rw [bvs_len] at h
      simp [bvs, bb, zs_app, h]
theorem chg_setCells {P : Nat → Prop} {w : World} {g : Nat} (hp : P g) : ∀ (xs : List Value) (off : Nat) (W : World), Chg P w W → Chg P w (W.setCells g off xs)
  | [], _, _, k => k
  | x :: xs, off, W, k => chg_setCells hp xs (off + 1) (W.setCell ⟨g, off, none⟩ x) (k.setCell (p := ⟨g, off, none⟩) (fun _ => hp) x)
section
variable {P : Program}
theorem run_append_bt (w : World) (t ty e : TypeId) (i : TypeInfo) (z0 : Value) (h1 : P.underlying t = some (.slice e)) (h2 : P.info? e = some i) (h3 : i.zero = some z0) (h4 : i.size = 1) (h5 : i.bytes = 1) (h6 : z0.cells.size = 1)
    (B g n cap : Nat) (T : ByteArray) (hB : B ≤ w.heap.size) (hb : BT w B g n cap T) (ad : Addr) (m c : Nat) (U : ByteArray) (hm : m = U.size) (hc : ∀ j, j < U.size → w.cell? (ad.add j) = some (bb (zs U) j)) (hU : 0 < m) (hn : n + m ≤ 1000000) :
    ∃ g' cap' w', (Builtin.append_ #[t, t] ty #[.slice (some ⟨g, 0, none⟩) n cap, .slice (some ad) m c]).run P w = .ok (.slice (some ⟨g', 0, none⟩) (n + m) cap') w' ∧ BT w' B g' (n + m) cap' (T ++ U) ∧ Chg (fun b => b = g) w w' ∧ (g' = g ∨ w.heap.size ≤ g') := by
  obtain ⟨eN, r, hm'⟩ := hb
  subst hm
  subst eN
  have hnews : ∀ j u, (bvs U)[j]? = some u → w.cell? (ad.add j) = some u := fun j u h => by
    obtain ⟨a, rfl⟩ := bvs_get U h
    exact hc j a
  have holds : ∀ j u, (bvs T)[j]? = some u → w.cell? ((⟨g, 0, none⟩ : Addr).add j) = some u := fun j u h => by
    obtain ⟨a, rfl⟩ := bvs_get T h
    rw [Go.WideShapes.add_plain, Nat.zero_add]
    exact r.at_ j a
  have h1c : ∀ u ∈ bvs U, u.oneCell' = true := fun u hu => by
    obtain ⟨j, _, rfl⟩ := List.mem_map.1 hu
    rfl
  have hl1 : (bvs U).length = U.size * i.size := by rw [bvs_len, h4]; omega
  have hcell : ∀ j, j < T.size + U.size → (bvs T ++ bvs U)[j]? = some (bb (zs (T ++ U)) j) := fun j hj => by
    rw [bvs_app, List.getElem?_map, List.getElem?_range hj]
    rfl
  by_cases hr : T.size + U.size ≤ cap
  · have hsp : ∀ j, j < (bvs U).length → (w.cell? ⟨g, 0 + T.size * i.size + j, none⟩).isSome = true ∧ w.frozen? ⟨g, 0 + T.size * i.size + j, none⟩ = false := fun j hj => by
      rw [bvs_len] at hj
      rw [h4, Nat.mul_one, Nat.zero_add]
      exact r.there _ (by omega)
    have hrun := run_append_room_cells (P := P) w t ty e i h1 h2 g 0 T.size cap ad U.size c (bvs U) hl1 hnews h1c hr (fun j hj => (hsp j hj).1) (fun j hj => (hsp j hj).2)
    have hin : ∀ k, k < (bvs U).length → (w.cell? ⟨g, T.size + k, none⟩).isSome = true := fun k hk => by
      have := (hsp k hk).1
      rwa [h4, Nat.mul_one, Nat.zero_add] at this
    rw [h4, Nat.mul_one, Nat.zero_add] at hrun
    have kk : Chg (fun b => b = g) w (w.setCells g T.size (bvs U)) := chg_setCells (P := fun b => b = g) rfl _ _ _ (Chg.refl _ w)
    refine ⟨g, cap, _, hrun, ⟨ByteArray.size_append.symm, ⟨r.lo, Nat.lt_of_lt_of_le r.lt kk.size, hr, fun j hj => ?_, fun j hj => ?_⟩, hm'⟩, kk, .inl rfl⟩
    · by_cases ej : j < T.size
      · rw [World.cell?_setCells_out g (bvs U) T.size w _ (by intro _ _; simp; omega), r.at_ j ej, zs_app, if_pos ej]
      · have q := World.cell?_setCells_in g (bvs U) T.size w (by intro k hk; exact hin k hk) (j - T.size) (by rw [bvs_len]; omega)
        rw [show T.size + (j - T.size) = j by omega] at q
        rw [q, zs_app, if_neg ej]
        simp [bvs, bb]
    · refine ⟨?_, by rw [World.frozen?_setCells]; exact (r.there j hj).2⟩
      by_cases ej : j < T.size ∨ T.size + U.size ≤ j
      · rw [World.cell?_setCells_out g (bvs U) T.size w _ (by intro _ q; rw [bvs_len] at *; omega)]
        exact (r.there j hj).1
      · have q := World.cell?_setCells_in g (bvs U) T.size w (by intro k hk; exact hin k hk) (j - T.size) (by rw [bvs_len]; omega)
        rw [show T.size + (j - T.size) = j by omega] at q
        rw [q]
        rfl
  · obtain ⟨v', w', hrun, ho, hg⟩ := run_append_arg_grows (P := P) w t ty e i z0 1 1 h1 h2 h3 h4 h5 h6 (by omega) ⟨g, 0, none⟩ T.size cap (bvs T) (by rw [bvs_len]; omega) holds ad U.size c (bvs U) (by rw [bvs_len]; omega) hnews (by omega) (by unfold maxLen; omega) (by omega)
    rw [bvs_app] at ho
    rcases ho.2 with ⟨_, h0⟩ | ⟨g', cap', cur, rfl, hb, hcur, hl, hcm, hsz, _⟩
    · exact absurd h0 (by omega)
    · refine ⟨g', cap', w', hrun, ⟨ByteArray.size_append.symm, ⟨Nat.le_trans hB hb, (Array.getElem?_eq_some_iff.1 hcur).1, hl, fun j hj => ?_, fun j hj => ?_⟩, hcm⟩, (Chg.refl _ w).grown hg (fun k e => by cases e), .inr hb⟩
      · have := ho.cells rfl j (bb (zs (T ++ U)) j) (by simp [List.getElem?_map, List.getElem?_range hj])
        rw [Go.WideShapes.add_plain, Nat.zero_add] at this
        exact this
      · simp [World.cell?, World.frozen?, hcur]
        omega
variable (w : World) {ops : Array Oper} {rest : List Oper} {o : Oper} {a : Act} {Q : Exit → Act → World → Prop}
theorem wpList_append_bt (hgd : o.guard = none) (s x : Operand) (t : TypeId) (hop : o.op = Op.call { callee := Callee.builtin Builtin.append, args := #[s, x], argTypes := #[t, t] })
    (e : TypeId) (i : TypeInfo) (z0 : Value) (h1 : P.underlying t = some (.slice e)) (h2 : P.info? e = some i) (h3 : i.zero = some z0) (h4 : i.size = 1) (h5 : i.bytes = 1) (h6 : z0.cells.size = 1)
    (B g n cap : Nat) (T : ByteArray) (hs : a.eval s = .slice (some ⟨g, 0, none⟩) n cap) (hB : B ≤ w.heap.size) (hb : BT w B g n cap T) (ad : Addr) (m c : Nat) (U : ByteArray) (hx : a.eval x = .slice (some ad) m c) (hm : m = U.size) (hc : ∀ j, j < U.size → w.cell? (ad.add j) = some (bb (zs U) j)) (hU : 0 < m) (hn : n + m ≤ 1000000)
    (hK : ∀ g' cap' w', BT w' B g' (n + m) cap' (T ++ U) → Chg (fun b => b = g) w w' → (g' = g ∨ w.heap.size ≤ g') → wpList P ops Q rest (a.put o.dst (.slice (some ⟨g', 0, none⟩) (n + m) cap')) w') : wpList P ops Q (o :: rest) a w := by
  refine wpList_plain hgd fun K hK' => ?_
  obtain ⟨g', cap', w', hrun, r1, r2, r3⟩ := run_append_bt (P := P) w t o.type e i z0 h1 h2 h3 h4 h5 h6 B g n cap T hB hb ad m c U hm hc hU hn
  unfold Oper.wp execOp
  simp only [hop, resolve, invoke, builtin, Sem.run_bind, Sem.run_pure, Result.andThen_ok, List.map_toArray, List.map_cons, List.map_nil, hs, hx, hrun]
  exact hK' _ _ (hK g' cap' w' r1 r2 r3)
theorem stepL_append_bt {K : Act → World → Prop} {E : Prop} (s x : Operand) (t : TypeId) (hop : o.op = Op.call { callee := Callee.builtin Builtin.append, args := #[s, x], argTypes := #[t, t] }) (hw : Region.wanted o (yielded ops a.tmps) = true)
    (e : TypeId) (i : TypeInfo) (z0 : Value) (h1 : P.underlying t = some (.slice e)) (h2 : P.info? e = some i) (h3 : i.zero = some z0) (h4 : i.size = 1) (h5 : i.bytes = 1) (h6 : z0.cells.size = 1)
    (B g n cap : Nat) (T : ByteArray) (hs : a.eval s = .slice (some ⟨g, 0, none⟩) n cap) (hB : B ≤ w.heap.size) (hb : BT w B g n cap T) (ad : Addr) (m c : Nat) (U : ByteArray) (hx : a.eval x = .slice (some ad) m c) (hm : m = U.size) (hc : ∀ j, j < U.size → w.cell? (ad.add j) = some (bb (zs U) j)) (hU : 0 < m) (hn : n + m ≤ 1000000)
    (hK : ∀ g' cap' w', BT w' B g' (n + m) cap' (T ++ U) → Chg (fun b => b = g) w w' → (g' = g ∨ w.heap.size ≤ g') → K (a.put o.dst (.slice (some ⟨g', 0, none⟩) (n + m) cap')) w') : if Region.wanted o (yielded ops a.tmps) = true then Oper.wp P o a w K Q else E := by
  rw [if_pos hw]
  obtain ⟨g', cap', w', hrun, r1, r2, r3⟩ := run_append_bt (P := P) w t o.type e i z0 h1 h2 h3 h4 h5 h6 B g n cap T hB hb ad m c U hm hc hU hn
  unfold Oper.wp execOp
  simp only [hop, resolve, invoke, builtin, Sem.run_bind, Sem.run_pure, Result.andThen_ok, List.map_toArray, List.map_cons, List.map_nil, hs, hx, hrun]
  exact hK g' cap' w' r1 r2 r3
end

end Go.Proofs.YtkpohajmcngjcaaGreatDoor
