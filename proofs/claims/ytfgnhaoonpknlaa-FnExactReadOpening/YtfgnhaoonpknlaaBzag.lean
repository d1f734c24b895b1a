/- Several texts in one: Slices of elements: what the laws' helpers and the tests of lists on them do: contracts. Conditions: rows that can be read, lengths of at most 2 to the 40. · Bytes of elements: what is written, how, by the program and by its model: contracts. Conditions: rows that can be read, right elements. -/
import Derived.Test.YtfgnhaoonpknlaaBzaf
import Derived.OwnWalk
namespace Go.Proofs.Ytfgnhaoonpknlaa
open Go.ChangeShapes Go.WideShapes Go.ChangeAt Go.RowKit
set_option linter.unusedVariables false
set_option linter.unusedSimpArgs false

theorem infoExt : (Try.prog.info? 28).map (fun i => (i.zero, i.size, i.bytes)) = some (some (.agg #[.int .i64 0, .int .i64 0]), 2, 16) := by kernel_rfl
/-- Pairs of ints, cell by cell. -/
def pf (f g : Nat → Int) (i : Nat) : Value := .int .i64 (if i % 2 = 0 then f (i / 2) else g (i / 2))
theorem pf_even (f g : Nat → Int) (k : Nat) : pf f g (k * 2) = .int .i64 (f k) := by
  unfold pf; rw [if_pos (by omega), show k * 2 / 2 = k by omega]
theorem pf_odd (f g : Nat → Int) (k : Nat) : pf f g (k * 2 + 1) = .int .i64 (g k) := by
  unfold pf; rw [if_neg (by omega), show (k * 2 + 1) / 2 = k by omega]
/-- An own row of pairs can be read. -/
theorem PairV.of_row {w : World} {b : Nat} {t : TypeId} {n m : Nat} {f g : Nat → Int} (h : w.rowIs b t (m * 2) (pf f g)) (hm : n ≤ m) : PairV w (some ⟨b, 0, none⟩) n f g := by
  intro i hi
  refine ⟨b, 0, rfl, h.lt, ?_, ?_⟩
  · rw [Nat.zero_add, h.cell (by omega), pf_even]
  · rw [Nat.zero_add, h.cell (by omega), pf_odd]
theorem PairV.congr {w : World} {c : Option Addr} {n : Nat} {f g f' g' : Nat → Int} (h : PairV w c n f g) (e : ∀ i, i < n → f i = f' i ∧ g i = g' i) : PairV w c n f' g' := by
  intro i hi
  obtain ⟨xb, xo, e1, l, h1, h2⟩ := h i hi
  exact ⟨xb, xo, e1, l, by rw [h1, (e i hi).1], by rw [h2, (e i hi).2]⟩
/-- make([]T, n), T of two cells. -/
theorem wpList_make_pairs {P : Program} (w : World) {ops : Array Oper} {rest : List Oper} {o : Oper} {a : Act} {Q : Exit → Act → World → Prop}
    (hg : o.guard = none) (l c : Operand) (t : TypeId) (hop : o.op = Op.makeSlice t l c) (e : TypeId) (i : TypeInfo)
    (h1 : P.underlying t = some (.slice e)) (h2 : P.info? e = some i) (h3 : i.zero = some (.agg #[.int .i64 0, .int .i64 0])) (h4 : i.size = 2)
    (kl kc : IntKind) (L C : Int) (n : Nat) (hl : a.eval l = .int kl L) (hc : a.eval c = .int kc C) (hL : L = (n : Int)) (hC : C = (n : Int)) (b2 : i.bytes * n ≤ 281474976710656) (b3 : n ≤ 9223372036854775807)
    (hK : ∀ w', w'.rowIs w.heap.size e (n * 2) (pf (fun _ => 0) (fun _ => 0)) → Chg nob w w' → wpList P ops Q rest (a.put o.dst (.slice (some ⟨w.heap.size, 0, none⟩) n n)) w') :
    wpList P ops Q (o :: rest) a w := by
  refine wpList_plain hg fun K hK' => ?_
  have hb' : (i.bytes : Int) * (n : Int) ≤ 281474976710656 := by
    have h : ((i.bytes * n : Nat) : Int) ≤ 281474976710656 := by omega
    rwa [Int.natCast_mul] at h
  have hrun := run_make (P := P) w t e i _ h1 h2 h3 kl kc n n (by omega) (Int.le_refl _) hb' (by omega)
  simp only [Int.toNat_natCast, h4] at hrun
  subst hL
  subst hC
  unfold Oper.wp
  simp [execOp, hop, hl, hc, hrun, Result.andThen]
  refine hK' _ _ (hK _ ⟨_, Go.Deep.blk_alloc_new _ _, size_madeCells _ _, fun j hj => ?_⟩ ((Chg.refl _ _).alloc _))
  have h2 : j % 2 < 2 := Nat.mod_lt _ (by omega)
  rcases (by omega : j % 2 = 0 ∨ j % 2 = 1) with q | q <;> simp [madeCells, hj, Value.cells, q, pf]

/-- A row of which the first k pairs are copied. -/
def cpy (f g : Nat → Int) (k : Nat) (j : Nat) : Value := if j < k * 2 then pf f g j else .int .i64 0
theorem cpy_set {W : World} {b n : Nat} {t : TypeId} {f g : Nat → Int} {k : Nat} (h : W.rowIs b t (n * 2) (cpy f g k)) : ((W.setCell ⟨b, k * 2, none⟩ (.int .i64 (f k))).setCell ⟨b, k * 2 + 1, none⟩ (.int .i64 (g k))).rowIs b t (n * 2) (cpy f g (k + 1)) :=
  ((h.set (k * 2) _).set (k * 2 + 1) _).congr (fun i _ => by
    by_cases e1 : i = k * 2 + 1
    · subst e1; simp [cpy, pf_odd, show k * 2 + 1 < (k + 1) * 2 by omega]
    · by_cases e2 : i = k * 2
      · subst e2; simp [cpy, pf_even, show k * 2 < (k + 1) * 2 by omega]
      · by_cases e3 : i < k * 2
        · simp [cpy, e1, e2, e3, show i < (k + 1) * 2 by omega]
        · simp [cpy, e1, e2, e3, show ¬ i < (k + 1) * 2 by omega])

set_option maxHeartbeats 2000000 in
theorem eqExtS_any (c d : Option Addr) (n m cap cap' : Nat) (f g f' g' : Nat → Int) (w : World) (h : Hid (PairV w c n f g)) (h' : Hid (PairV w d m f' g')) (hm : n = m) (he : ∀ i, i < n → f i = f' i ∧ g i = g' i) (hn : n ≤ 1099511627776) :
    Calls Try.prog 49 #[.slice c n cap, .slice d m cap'] w fun e w' => e = .returned (.bool true) ∧ Chg nob w w' := by
  subst hm
  have HE := hide he
  clear he
  go_enter Try.func49, Try.ntmps49
  go_wp2
  go_loopw [5] (fun i W => ∃ k : Nat, k ≤ n ∧ i = .int .i64 k ∧ Hid (Chg nob w W)) (fun i _ => n - (intOf i).toNat)
  case atStart => exact ⟨0, Nat.zero_le _, rfl, hide (Chg.refl _ _)⟩
  case round =>
    obtain ⟨k, hk, rfl, HC⟩ := hrel
    by_cases hlt : k < n
    · have hk0 : (0 : Int) ≤ (k : Int) := by omega
      have hk1 : (k : Int) < (n : Int) := by omega
      obtain ⟨xb, xo, rfl, hxb, hx0, hx1⟩ := (h.out.keep HC.out) k hlt
      obtain ⟨yb, yo, rfl, hyb, hy0, hy1⟩ := (h'.out.keep HC.out) k hlt
      rw [← (HE.out k hlt).1] at hy0
      rw [← (HE.out k hlt).2] at hy1
      go_wp2
      go_region_held3 (fun w' => w'.cell? ⟨xb, xo + k * 2, none⟩ = some (.int .i64 (f k)) ∧ w'.cell? ⟨xb, xo + k * 2 + 1, none⟩ = some (.int .i64 (g k)) ∧ w'.cell? ⟨yb, yo + k * 2, none⟩ = some (.int .i64 (f k)) ∧ w'.cell? ⟨yb, yo + k * 2 + 1, none⟩ = some (.int .i64 (g k))) (first | (refine ⟨?_, ?_, ?_, ?_⟩ <;> assumption) | (exact ⟨k1.look hx0, k1.look hx1, k1.look hy0, k1.look hy1⟩) | go_keep) (first | (go_at_call 22; refine (eqExt_any _ _ _).mono ?_; rintro e w1 ⟨rfl, k1⟩))
      have HC1 := hide (HC.out.trans (((Chg.refl _ _).drew).trans k1))
      clear k1
      go_wp2
      go_roundw
      case rel => exact ⟨k + 1, by omega, by go_num, HC1⟩
      case measure => simp [intOf]; omega
    · go_wp2
      go_ret
      exact ⟨rfl, HC.out⟩

/-- All of the first n elements are right ones. -/
def okP (f g : Nat → Int) : Nat → Bool
  | 0 => true
  | n + 1 => okP f g n && eok (f n) (g n)
theorem okP_no (f g : Nat → Int) (k : Nat) (h : eok (f k) (g k) = false) : ∀ n, k < n → okP f g n = false := by
  intro n
  induction n with
  | zero => intro h; omega
  | succ n ih =>
    intro hn
    by_cases e : k = n
    · subst e; simp [okP, h]
    · simp [okP, ih (by omega)]
theorem okP_all (f g : Nat → Int) (n : Nat) (h : okP f g n = true) (i : Nat) (hi : i < n) : eok (f i) (g i) = true := by
  cases e : eok (f i) (g i)
  · rw [okP_no f g i e n hi] at h; cases h
  · rfl
theorem okP_of (f g : Nat → Int) (n : Nat) (h : ∀ i, i < n → eok (f i) (g i) = true) : okP f g n = true := by
  induction n with
  | zero => rfl
  | succ n ih => simp [okP, ih (fun i hi => h i (by omega)), h n (by omega)]

set_option maxHeartbeats 1000000 in
theorem extsOK_any (c : Option Addr) (n cap : Nat) (f g : Nat → Int) (w : World) (h : Hid (PairV w c n f g)) (hn : n ≤ 1099511627776) :
    Calls Try.prog 61 #[.slice c n cap] w fun e w' => e = .returned (.bool (okP f g n)) ∧ Chg nob w w' := by
  go_enter Try.func61, Try.ntmps61
  go_wp2
  go_loopw [7] (fun i W => ∃ k : Nat, k ≤ n ∧ i = .int .i64 k ∧ Hid (okP f g k = true) ∧ Hid (Chg nob w W)) (fun i _ => n - (intOf i).toNat)
  case atStart => exact ⟨0, Nat.zero_le _, rfl, hide rfl, hide (Chg.refl _ _)⟩
  case round =>
    obtain ⟨k, hk, rfl, HO, HC⟩ := hrel
    by_cases hlt : k < n
    · obtain ⟨xb, xo, rfl, hxb, hx0, hx1⟩ := (h.out.keep HC.out) k hlt
      cases hfk : eok (f k) (g k)
      · have HB := hide (okP_no f g k hfk n hlt)
        go_wp2_with (go_at_call 47; refine (extOK_any _ _ _).mono ?_; rintro e w1 ⟨rfl, k1⟩)
        go_ret
        exact ⟨ret_bool HB.out.symm, HC.out.trans (by repeat (first | with_reducible exact Chg.refl _ _ | with_reducible refine Chg.alloc ?_ _ | with_reducible refine Chg.trans ?_ (by assumption)))⟩
      · have HO2 := hide (show okP f g (k + 1) = true by simp [okP, HO.out, hfk])
        go_wp2_with (go_at_call 47; refine (extOK_any _ _ _).mono ?_; rintro e w1 ⟨rfl, k1⟩)
        go_roundw
        case rel => exact ⟨k + 1, by omega, by go_num, HO2, hide (HC.out.trans (by repeat (first | with_reducible exact Chg.refl _ _ | with_reducible refine Chg.alloc ?_ _ | with_reducible refine Chg.trans ?_ (by assumption))))⟩
        case measure => simp [intOf]; omega
    · obtain rfl : k = n := by omega
      go_wp2
      go_ret
      exact ⟨ret_bool HO.out.symm, HC.out⟩

set_option maxHeartbeats 1000000 in
theorem l02List_any (c : Option Addr) (n cap : Nat) (f g : Nat → Int) (w : World) (h : Hid (PairV w c n f g)) (hn : n ≤ 1099511627776) :
    Calls Try.prog 35 #[.slice c n cap] w fun e w' => e = .returned (.bool (okP f g n)) ∧ Chg nob w w' := by
  go_enter Try.func35, Try.ntmps35
  go_wp2
  go_loopw [3] (fun i W => ∃ k : Nat, k ≤ n ∧ i = .int .i64 k ∧ Hid (okP f g k = true) ∧ Hid (Chg nob w W)) (fun i _ => n - (intOf i).toNat)
  case atStart => exact ⟨0, Nat.zero_le _, rfl, hide rfl, hide (Chg.refl _ _)⟩
  case round =>
    obtain ⟨k, hk, rfl, HO, HC⟩ := hrel
    by_cases hlt : k < n
    · obtain ⟨xb, xo, rfl, hxb, hx0, hx1⟩ := (h.out.keep HC.out) k hlt
      cases hfk : eok (f k) (g k)
      · have HB := hide (okP_no f g k hfk n hlt)
        go_wp2_with (go_at_call 34; refine (sExtOK_any _ _ _).mono ?_; rintro e w1 ⟨rfl, k1⟩)
        go_ret
        exact ⟨ret_bool HB.out.symm, HC.out.trans (by repeat (first | with_reducible exact Chg.refl _ _ | with_reducible refine Chg.alloc ?_ _ | with_reducible refine Chg.trans ?_ (by assumption)))⟩
      · have HO2 := hide (show okP f g (k + 1) = true by simp [okP, HO.out, hfk])
        go_wp2_with (go_at_call 34; refine (sExtOK_any _ _ _).mono ?_; rintro e w1 ⟨rfl, k1⟩)
        go_roundw
        case rel => exact ⟨k + 1, by omega, by go_num, HO2, hide (HC.out.trans (by repeat (first | with_reducible exact Chg.refl _ _ | with_reducible refine Chg.alloc ?_ _ | with_reducible refine Chg.trans ?_ (by assumption))))⟩
        case measure => simp [intOf]; omega
    · obtain rfl : k = n := by omega
      go_wp2
      go_ret
      exact ⟨ret_bool HO.out.symm, HC.out⟩


end Go.Proofs.Ytfgnhaoonpknlaa

namespace Go.Proofs.Ytfgnhaoonpknlaa
open Go.ChangeShapes Go.WideShapes Go.ChangeAt Go.RowKit
set_option linter.unusedVariables false
set_option linter.unusedSimpArgs false

theorem infoU8 : (Try.prog.info? 5).map (fun i => (i.zero, i.size, i.bytes)) = some (some (.int .u8 0), 1, 1) := by kernel_rfl
/-- The four bytes of a number, the higher ones first. -/
def wb (a : Int) : Nat → Int
  | 0 => a / 16777216 % 256
  | 1 => a / 65536 % 256
  | 2 => a / 256 % 256
  | _ => a % 256
/-- The bytes of elements. -/
def byt (f g : Nat → Int) (i : Nat) : Int := if i % 8 < 4 then wb (f (i / 8)) (i % 8) else wb (g (i / 8)) (i % 8 - 4)
def bvl (f g : Nat → Int) (i : Nat) : Value := .int .u8 (byt f g i)

/-- The code of a list. -/
def bc (f g : Nat → Int) (n : Nat) : Int := if 4096 < n then 2 else if okP f g n then 0 else 1
/-- No bytes, and a code. -/
def NoBytes (w : World) (code : Int) (e : Ending) (w' : World) : Prop := e = .returned (.tuple #[.slice none 0 0, .int .i64 code]) ∧ Chg nob w w'
/-- A new row of the bytes. -/
def NewBytes (w : World) (n : Nat) (f g : Nat → Int) (e : Ending) (w' : World) : Prop :=
  ∃ b : Nat, w.heap.size ≤ b ∧ e = .returned (.tuple #[.slice (some ⟨b, 0, none⟩) (n * 8) (n * 8), .int .i64 0]) ∧ w'.rowIs b 5 (n * 8) (bvl f g) ∧ Chg nob w w'
/-- Either, by the code. -/
def EAns (w : World) (n : Nat) (f g : Nat → Int) (e : Ending) (w' : World) : Prop := (bc f g n ≠ 0 ∧ NoBytes w (bc f g n) e w') ∨ (bc f g n = 0 ∧ NewBytes w n f g e w')
theorem EAns.no {w w' : World} {n : Nat} {f g : Nat → Int} {e : Ending} {code : Int} (hb : bc f g n = code) (hc : code ≠ 0) (h : e = .returned (.tuple #[.slice none 0 0, .int .i64 code])) (k : Chg nob w w') : EAns w n f g e w' :=
  .inl ⟨by rw [hb]; exact hc, by rw [hb]; exact ⟨h, k⟩⟩


end Go.Proofs.Ytfgnhaoonpknlaa
