/- Several texts in one: Blocks of four cells: laws. No program is named here. · Slices of elements: what the laws' helpers and the tests of lists on them do: contracts. Conditions: rows that can be read, lengths of at most 2 to the 40. · Slices of elements that a call made: words; what is appended to an empty slice; what the laws' marks do. Conditions: rows that can be read, lengths of at most 2 to the 40. · Bytes of elements: what is written, how, by the program and by its model: contracts. Conditions: rows that can be read, right elements. -/
import Derived.Test.YtfbjlohnbpienaaGreatBzaa
import Derived.Test.YtfbjlohnbpienaaGreatBzad
import Derived.ArgAppend
import Derived.Deep.AppendSrc
import Derived.OwnWalk
namespace Go.Proofs.YtfbjlohnbpienaaGreat
open Go.RowKit
set_option linter.unusedVariables false

section
variable {W : World} {g : Nat} {ty : TypeId} {f : Nat → Value}
end

theorem rowIs_kind {W : World} {b : Nat} {t u : TypeId} {n m : Nat} {f g : Nat → Value} (h : W.rowIs b t n f) (k : W.rowIs b u m g) : t = u := by
  obtain ⟨c, h1, _⟩ := h
  obtain ⟨d, k1, _⟩ := k
  rw [h1] at k1
  cases k1
  rfl

end Go.Proofs.YtfbjlohnbpienaaGreat

namespace Go.Proofs.YtfbjlohnbpienaaGreat
open Go.ChangeShapes Go.WideShapes Go.ChangeAt Go.RowKit
set_option linter.unusedVariables false
set_option linter.unusedSimpArgs false

theorem infoExt : (Tryz.prog.info? 42).map (fun i => (i.zero, i.size, i.bytes)) = some (some (.agg #[.int .i64 0, .int .i64 0]), 2, 16) := by kernel_rfl
/-- Pairs of ints, cell by cell. -/
def pf (f g : Nat → Int) (i : Nat) : Value := .int .i64 (if i % 2 = 0 then f (i / 2) else g (i / 2))
theorem pf_even (f g : Nat → Int) (k : Nat) : pf f g (k * 2) = .int .i64 (f k) := by
  unfold pf; rw [if_pos (by omega), show k * 2 / 2 = k by omega]
theorem pf_odd (f g : Nat → Int) (k : Nat) : pf f g (k * 2 + 1) = .int .i64 (g k) := by
  unfold pf; rw [if_neg (by omega), show (k * 2 + 1) / 2 = k by omega]
/-- An own row of pairs can be read. -/
theorem PairV.of_row {w : World} {b : Nat} {t : TypeId} {n m : Nat} {f g : Nat → Int} (h : w.rowIs b t (m * 2) (pf f g)) (hm : n ≤ m) : PairV w (some ⟨b, 0, none⟩) n f g := by
  intro i hi
  refine ⟨b, 0, rfl, h.lt, ?_, ?_⟩
  · rw [Nat.zero_add, h.cell (by omega), pf_even]
  · rw [Nat.zero_add, h.cell (by omega), pf_odd]
theorem PairV.congr {w : World} {c : Option Addr} {n : Nat} {f g f' g' : Nat → Int} (h : PairV w c n f g) (e : ∀ i, i < n → f i = f' i ∧ g i = g' i) : PairV w c n f' g' := by
  intro i hi
  obtain ⟨xb, xo, e1, l, h1, h2⟩ := h i hi
  exact ⟨xb, xo, e1, l, by rw [h1, (e i hi).1], by rw [h2, (e i hi).2]⟩
/-- make([]T, n), T of two cells. -/
theorem wpList_make_pairs {P : Program} (w : World) {ops : Array Oper} {rest : List Oper} {o : Oper} {a : Act} {Q : Exit → Act → World → Prop}
    (hg : o.guard = none) (l c : Operand) (t : TypeId) (hop : o.op = Op.makeSlice t l c) (e : TypeId) (i : TypeInfo)
    (h1 : P.underlying t = some (.slice e)) (h2 : P.info? e = some i) (h3 : i.zero = some (.agg #[.int .i64 0, .int .i64 0])) (h4 : i.size = 2)
    (kl kc : IntKind) (L C : Int) (n : Nat) (hl : a.eval l = .int kl L) (hc : a.eval c = .int kc C) (hL : L = (n : Int)) (hC : C = (n : Int)) (b2 : i.bytes * n ≤ 281474976710656) (b3 : n ≤ 9223372036854775807)
    (hK : ∀ w', w'.rowIs w.heap.size e (n * 2) (pf (fun _ => 0) (fun _ => 0)) → Chg nob w w' → wpList P ops Q rest (a.put o.dst (.slice (some ⟨w.heap.size, 0, none⟩) n n)) w') :
    wpList P ops Q (o :: rest) a w := by
  refine wpList_plain hg fun K hK' => ?_
  have hb' : (i.bytes : Int) * (n : Int) ≤ 281474976710656 := by
    have h : ((i.bytes * n : Nat) : Int) ≤ 281474976710656 := by omega
    rwa [Int.natCast_mul] at h
  have hrun := run_make (P := P) w t e i _ h1 h2 h3 kl kc n n (by omega) (Int.le_refl _) hb' (by omega)
  simp only [Int.toNat_natCast, h4] at hrun
  subst hL
  subst hC
  unfold Oper.wp
  simp [execOp, hop, hl, hc, hrun, Result.andThen]
  refine hK' _ _ (hK _ ⟨_, Go.Deep.blk_alloc_new _ _, size_madeCells _ _, fun j hj => ?_⟩ ((Chg.refl _ _).alloc _))
  have h2 : j % 2 < 2 := Nat.mod_lt _ (by omega)
  rcases (by omega : j % 2 = 0 ∨ j % 2 = 1) with q | q <;> simp [madeCells, hj, Value.cells, q, pf]

set_option maxHeartbeats 400000 in
theorem szExtS_ok (c : Option Addr) (n cap : Nat) (l : Int) (w : World) (h0 : (n : Int) ≤ l) (h1 : l ≤ 1048576) :
    Calls Tryz.prog 38 #[.slice c n cap, .int .i64 l] w fun e w' => e = .returned (.int .i64 (l - n)) ∧ w' = w := by
  have h2 : ¬ l - (n : Int) < 0 := by omega
  go_enter Tryz.func38, Tryz.ntmps38
  go_wp2
  go_ret
  exact ⟨rfl, rfl⟩

set_option maxHeartbeats 400000 in
theorem szExtS_no (c : Option Addr) (n cap : Nat) (l : Int) (w : World) (h0 : l < (n : Int)) (h1 : 0 ≤ l) (hn : (n : Int) ≤ 9223372036854775807) :
    Calls Tryz.prog 38 #[.slice c n cap, .int .i64 l] w fun e w' => e = .returned (.int .i64 (-1)) ∧ w' = w := by
  have h2 : l - (n : Int) < 0 := by omega
  go_enter Tryz.func38, Tryz.ntmps38
  go_wp2
  go_ret
  exact ⟨rfl, rfl⟩

/-- A copy: a new row at the heap's end. -/
def CopiedE (w : World) (n : Nat) (f g : Nat → Int) (e : Ending) (w' : World) : Prop :=
  e = .returned (.slice (some ⟨w.heap.size, 0, none⟩) n n) ∧ w'.rowIs w.heap.size 42 (n * 2) (pf f g) ∧ Chg nob w w'
/-- A row of which the first k pairs are copied. -/
def cpy (f g : Nat → Int) (k : Nat) (j : Nat) : Value := if j < k * 2 then pf f g j else .int .i64 0
theorem cpy_set {W : World} {b n : Nat} {t : TypeId} {f g : Nat → Int} {k : Nat} (h : W.rowIs b t (n * 2) (cpy f g k)) : ((W.setCell ⟨b, k * 2, none⟩ (.int .i64 (f k))).setCell ⟨b, k * 2 + 1, none⟩ (.int .i64 (g k))).rowIs b t (n * 2) (cpy f g (k + 1)) :=
  ((h.set (k * 2) _).set (k * 2 + 1) _).congr (fun i _ => by
    by_cases e1 : i = k * 2 + 1
    · subst e1; simp [cpy, pf_odd, show k * 2 + 1 < (k + 1) * 2 by omega]
    · by_cases e2 : i = k * 2
      · subst e2; simp [cpy, pf_even, show k * 2 < (k + 1) * 2 by omega]
      · by_cases e3 : i < k * 2
        · simp [cpy, e1, e2, e3, show i < (k + 1) * 2 by omega]
        · simp [cpy, e1, e2, e3, show ¬ i < (k + 1) * 2 by omega])

set_option maxHeartbeats 2000000 in
theorem toExtS_any (c : Option Addr) (n cap : Nat) (f g : Nat → Int) (w : World) (h : Hid (PairV w c n f g)) (hn : n ≤ 1099511627776) :
    Calls Tryz.prog 47 #[.slice c n cap] w fun e w' => CopiedE w n f g e w' := by
  obtain ⟨i0, hi, hz0, hz1, hz2⟩ := info_parts infoExt
  have HI := hide hi
  have HZ0 := hide hz0
  have HZ1 := hide hz1
  have hb : i0.bytes * n ≤ 281474976710656 := by rw [hz2]; omega
  clear hi hz0 hz1 hz2
  go_enter Tryz.func47, Tryz.ntmps47
  go_wp2_with (at_make; refine wpList_make_pairs _ rfl (.tmp 6) (.tmp 6) 73 rfl 42 i0 Tryz.underlying73 HI.out HZ0.out HZ1.out .i64 .i64 _ _ n rfl rfl rfl rfl hb (by omega) ?_)
  intro w0 hr hk
  have HR0 := hide hr
  have HK0 := hide hk
  clear hb HI HZ0 HZ1 hr hk
  go_wp2
  go_loopw [4] (fun i W => ∃ k : Nat, k ≤ n ∧ i = .int .i64 k ∧ Hid (W.rowIs w.heap.size 42 (n * 2) (cpy f g k)) ∧ Hid (Chg nob w W)) (fun i _ => n - (intOf i).toNat)
  case atStart => exact ⟨0, Nat.zero_le _, rfl, hide (HR0.out.congr (fun i _ => by simp [cpy, pf])), HK0⟩
  case round =>
    obtain ⟨k, hk, rfl, HR, HC⟩ := hrel
    by_cases hlt : k < n
    · obtain ⟨xb, xo, rfl, hxb, hx0, hx1⟩ := (h.out.keep HC.out) k hlt
      have hy0 := hx0
      go_wp2_with fail
      refine (toExt_any _ _ _).mono ?_
      rintro e w1 ⟨rfl, k1⟩
      have HR1 := hide (rowIs_keep HR.out k1)
      have HC1 := hide (HC.out.trans k1)
      have g0 := HR1.out.cell (i := k * 2) (by omega)
      have g1 := HR1.out.cell (i := k * 2 + 1) (by omega)
      have f0 := HR1.out.frozen (k * 2)
      have f1 := HR1.out.frozen (k * 2 + 1)
      clear k1 hx0 hx1 hy0
      go_wp2
      go_roundw
      case rel => exact ⟨k + 1, by omega, by go_num, hide (cpy_set HR1.out), hide ((HC1.out.setCell (p := ⟨w.heap.size, k * 2, none⟩) (fun l => absurd l (by simp)) _).setCell (p := ⟨w.heap.size, k * 2 + 1, none⟩) (fun l => absurd l (by simp)) _)⟩
      case measure => simp [intOf]; omega
    · go_wp2
      go_ret
      exact ⟨rfl, HR.out.congr (fun i hi => by simp [cpy, show i < k * 2 by omega]), HC.out⟩

set_option maxHeartbeats 2000000 in
theorem eqExtS_any (c d : Option Addr) (n m cap cap' : Nat) (f g f' g' : Nat → Int) (w : World) (h : Hid (PairV w c n f g)) (h' : Hid (PairV w d m f' g')) (hm : n = m) (he : ∀ i, i < n → f i = f' i ∧ g i = g' i) (hn : n ≤ 1099511627776) :
    Calls Tryz.prog 59 #[.slice c n cap, .slice d m cap'] w fun e w' => e = .returned (.bool true) ∧ Chg nob w w' := by
  subst hm
  have HE := hide he
  clear he
  go_enter Tryz.func59, Tryz.ntmps59
  go_wp2
  go_loopw [5] (fun i W => ∃ k : Nat, k ≤ n ∧ i = .int .i64 k ∧ Hid (Chg nob w W)) (fun i _ => n - (intOf i).toNat)
  case atStart => exact ⟨0, Nat.zero_le _, rfl, hide (Chg.refl _ _)⟩
  case round =>
    obtain ⟨k, hk, rfl, HC⟩ := hrel
    by_cases hlt : k < n
    · have hk0 : (0 : Int) ≤ (k : Int) := by omega
      have hk1 : (k : Int) < (n : Int) := by omega
      obtain ⟨xb, xo, rfl, hxb, hx0, hx1⟩ := (h.out.keep HC.out) k hlt
      obtain ⟨yb, yo, rfl, hyb, hy0, hy1⟩ := (h'.out.keep HC.out) k hlt
      rw [← (HE.out k hlt).1] at hy0
      rw [← (HE.out k hlt).2] at hy1
      go_wp2
      go_region_held3 (fun w' => w'.cell? ⟨xb, xo + k * 2, none⟩ = some (.int .i64 (f k)) ∧ w'.cell? ⟨xb, xo + k * 2 + 1, none⟩ = some (.int .i64 (g k)) ∧ w'.cell? ⟨yb, yo + k * 2, none⟩ = some (.int .i64 (f k)) ∧ w'.cell? ⟨yb, yo + k * 2 + 1, none⟩ = some (.int .i64 (g k))) (first | (refine ⟨?_, ?_, ?_, ?_⟩ <;> assumption) | (exact ⟨k1.look hx0, k1.look hx1, k1.look hy0, k1.look hy1⟩) | go_keep) (first | (go_at_call 32; refine (eqExt_any _ _ _).mono ?_; rintro e w1 ⟨rfl, k1⟩))
      have HC1 := hide (HC.out.trans (((Chg.refl _ _).drew).trans k1))
      clear k1
      go_wp2
      go_roundw
      case rel => exact ⟨k + 1, by omega, by go_num, HC1⟩
      case measure => simp [intOf]; omega
    · go_wp2
      go_ret
      exact ⟨rfl, HC.out⟩

/-- All of the first n elements are right ones. -/
def okP (f g : Nat → Int) : Nat → Bool
  | 0 => true
  | n + 1 => okP f g n && eok (f n) (g n)
theorem okP_no (f g : Nat → Int) (k : Nat) (h : eok (f k) (g k) = false) : ∀ n, k < n → okP f g n = false := by
  intro n
  induction n with
  | zero => intro h; omega
  | succ n ih =>
    intro hn
    by_cases e : k = n
    · subst e; simp [okP, h]
    · simp [okP, ih (by omega)]
theorem okP_all (f g : Nat → Int) (n : Nat) (h : okP f g n = true) (i : Nat) (hi : i < n) : eok (f i) (g i) = true := by
  cases e : eok (f i) (g i)
  · rw [okP_no f g i e n hi] at h; cases h
  · rfl

set_option maxHeartbeats 1000000 in
theorem extsOK_any (c : Option Addr) (n cap : Nat) (f g : Nat → Int) (w : World) (h : Hid (PairV w c n f g)) (hn : n ≤ 1099511627776) :
    Calls Tryz.prog 53 #[.slice c n cap] w fun e w' => e = .returned (.bool (okP f g n)) ∧ Chg nob w w' := by
  go_enter Tryz.func53, Tryz.ntmps53
  go_wp2
  go_loopw [7] (fun i W => ∃ k : Nat, k ≤ n ∧ i = .int .i64 k ∧ Hid (okP f g k = true) ∧ Hid (Chg nob w W)) (fun i _ => n - (intOf i).toNat)
  case atStart => exact ⟨0, Nat.zero_le _, rfl, hide rfl, hide (Chg.refl _ _)⟩
  case round =>
    obtain ⟨k, hk, rfl, HO, HC⟩ := hrel
    by_cases hlt : k < n
    · obtain ⟨xb, xo, rfl, hxb, hx0, hx1⟩ := (h.out.keep HC.out) k hlt
      cases hfk : eok (f k) (g k)
      · have HB := hide (okP_no f g k hfk n hlt)
        go_wp2_with (go_at_call 54; refine (extOK_any _ _ _).mono ?_; rintro e w1 ⟨rfl, k1⟩)
        go_ret
        exact ⟨ret_bool HB.out.symm, HC.out.trans (by repeat (first | with_reducible exact Chg.refl _ _ | with_reducible refine Chg.alloc ?_ _ | with_reducible refine Chg.trans ?_ (by assumption)))⟩
      · have HO2 := hide (show okP f g (k + 1) = true by simp [okP, HO.out, hfk])
        go_wp2_with (go_at_call 54; refine (extOK_any _ _ _).mono ?_; rintro e w1 ⟨rfl, k1⟩)
        go_roundw
        case rel => exact ⟨k + 1, by omega, by go_num, HO2, hide (HC.out.trans (by repeat (first | with_reducible exact Chg.refl _ _ | with_reducible refine Chg.alloc ?_ _ | with_reducible refine Chg.trans ?_ (by assumption))))⟩
        case measure => simp [intOf]; omega
    · obtain rfl : k = n := by omega
      go_wp2
      go_ret
      exact ⟨ret_bool HO.out.symm, HC.out⟩

set_option maxHeartbeats 1000000 in
theorem l02List_any (c : Option Addr) (n cap : Nat) (f g : Nat → Int) (w : World) (h : Hid (PairV w c n f g)) (hn : n ≤ 1099511627776) :
    Calls Tryz.prog 43 #[.slice c n cap] w fun e w' => e = .returned (.bool (okP f g n)) ∧ Chg nob w w' := by
  go_enter Tryz.func43, Tryz.ntmps43
  go_wp2
  go_loopw [3] (fun i W => ∃ k : Nat, k ≤ n ∧ i = .int .i64 k ∧ Hid (okP f g k = true) ∧ Hid (Chg nob w W)) (fun i _ => n - (intOf i).toNat)
  case atStart => exact ⟨0, Nat.zero_le _, rfl, hide rfl, hide (Chg.refl _ _)⟩
  case round =>
    obtain ⟨k, hk, rfl, HO, HC⟩ := hrel
    by_cases hlt : k < n
    · obtain ⟨xb, xo, rfl, hxb, hx0, hx1⟩ := (h.out.keep HC.out) k hlt
      cases hfk : eok (f k) (g k)
      · have HB := hide (okP_no f g k hfk n hlt)
        go_wp2_with (go_at_call 69; refine (sExtOK_any _ _ _).mono ?_; rintro e w1 ⟨rfl, k1⟩)
        go_ret
        exact ⟨ret_bool HB.out.symm, HC.out.trans (by repeat (first | with_reducible exact Chg.refl _ _ | with_reducible refine Chg.alloc ?_ _ | with_reducible refine Chg.trans ?_ (by assumption)))⟩
      · have HO2 := hide (show okP f g (k + 1) = true by simp [okP, HO.out, hfk])
        go_wp2_with (go_at_call 69; refine (sExtOK_any _ _ _).mono ?_; rintro e w1 ⟨rfl, k1⟩)
        go_roundw
        case rel => exact ⟨k + 1, by omega, by go_num, HO2, hide (HC.out.trans (by repeat (first | with_reducible exact Chg.refl _ _ | with_reducible refine Chg.alloc ?_ _ | with_reducible refine Chg.trans ?_ (by assumption))))⟩
        case measure => simp [intOf]; omega
    · obtain rfl : k = n := by omega
      go_wp2
      go_ret
      exact ⟨ret_bool HO.out.symm, HC.out⟩


end Go.Proofs.YtfbjlohnbpienaaGreat

namespace Go.Proofs.YtfbjlohnbpienaaGreat
open Go.ChangeShapes Go.WideShapes Go.ChangeAt Go.RowKit
set_option linter.unusedVariables false
set_option maxRecDepth 100000
set_option linter.unusedSimpArgs false

/-- n elements behind c in a block of the call's own (not below B), or none. -/
def OwnE (w : World) (B : Nat) (c : Option Addr) (n : Nat) (f g : Nat → Int) : Prop :=
  n = 0 ∨ ∃ (b N : Nat) (h : Nat → Value), c = some ⟨b, 0, none⟩ ∧ B ≤ b ∧ w.rowIs b 42 N h ∧ n * 2 ≤ N ∧ ∀ i, i < n * 2 → h i = pf f g i
theorem OwnE.zero {w : World} {B : Nat} {c : Option Addr} {f g : Nat → Int} : OwnE w B c 0 f g := .inl rfl
theorem OwnE.of_row {w : World} {B b n : Nat} {f g : Nat → Int} (h : w.rowIs b 42 (n * 2) (pf f g)) (hB : B ≤ b) : OwnE w B (some ⟨b, 0, none⟩) n f g := .inr ⟨b, n * 2, pf f g, rfl, hB, h, Nat.le_refl _, fun _ _ => rfl⟩
theorem OwnE.pairs {w : World} {B : Nat} {c : Option Addr} {n : Nat} {f g : Nat → Int} (h : OwnE w B c n f g) : PairV w c n f g := by
  rcases h with rfl | ⟨b, N, h, rfl, hB, hr, hN, he⟩
  · intro i hi; omega
  · intro i hi
    refine ⟨b, 0, rfl, hr.lt, ?_, ?_⟩
    · rw [Nat.zero_add, hr.cell (by omega), he _ (by omega), pf_even]
    · rw [Nat.zero_add, hr.cell (by omega), he _ (by omega), pf_odd]
theorem OwnE.low {w : World} {B B' : Nat} {c : Option Addr} {n : Nat} {f g : Nat → Int} (h : OwnE w B c n f g) (hB : B' ≤ B) : OwnE w B' c n f g := by
  rcases h with rfl | ⟨b, N, h, e, hb, r⟩
  · exact .inl rfl
  · exact .inr ⟨b, N, h, e, by omega, r⟩
theorem OwnE.congr {w : World} {B : Nat} {c : Option Addr} {n : Nat} {f g f' g' : Nat → Int} (h : OwnE w B c n f g) (e : ∀ i, i < n → f i = f' i ∧ g i = g' i) : OwnE w B c n f' g' := by
  rcases h with rfl | ⟨b, N, h, ec, hb, hr, hN, he⟩
  · exact .inl rfl
  · refine .inr ⟨b, N, h, ec, hb, hr, hN, fun i hi => ?_⟩
    rw [he i hi]
    unfold pf
    rw [(e (i / 2) (by omega)).1, (e (i / 2) (by omega)).2]
theorem OwnE.chg {P : Nat → Prop} {w w' : World} {B : Nat} {c : Option Addr} {n : Nat} {f g : Nat → Int} (h : OwnE w B c n f g) (k : Chg P w w') (hp : ∀ b, B ≤ b → c = some ⟨b, 0, none⟩ → ¬ P b) : OwnE w' B c n f g := by
  rcases h with rfl | ⟨b, N, h, e, hb, hr, r⟩
  · exact .inl rfl
  · exact .inr ⟨b, N, h, e, hb, rowIs_chg hr k (hp b hb e), r⟩
theorem OwnE.keep {w w' : World} {B : Nat} {c : Option Addr} {n : Nat} {f g : Nat → Int} (h : OwnE w B c n f g) (k : Chg nob w w') : OwnE w' B c n f g := h.chg k (fun _ _ _ x => x)
theorem OwnE.of_owns {w : World} {B n : Nat} {v : Value} {f g : Nat → Int} (ho : w.ownsRow B 42 2 v n ((List.range (n * 2)).map (pf f g))) : ∃ c cap, v = .slice c n cap ∧ n ≤ cap ∧ OwnE w B c n f g := by
  rcases ho.2 with ⟨rfl, rfl⟩ | ⟨b, cap, cur, rfl, hb, hcur, hl, _, hsz, ht⟩
  · exact ⟨none, 0, rfl, Nat.le_refl _, .inl rfl⟩
  · have hN : n * 2 ≤ cap * 2 := by omega
    refine ⟨_, cap, rfl, hl, .inr ⟨b, cap * 2, fun i => cur.toList[i]?.getD (.int .i64 0), rfl, hb, ⟨cur, hcur, hsz, fun i hi => ?_⟩, hN, fun i hi => ?_⟩⟩
    · have hi2 : i < cur.size := by omega
      simp [hi2]
    · have h1 : (cur.toList.take (n * 2))[i]? = some (pf f g i) := by rw [ht]; simp [List.getElem?_map, List.getElem?_range hi]
      rw [List.getElem?_take_of_lt hi] at h1
      show cur.toList[i]?.getD (.int .i64 0) = _
      rw [h1]; rfl

section
variable {P : Program}
end

/-- The block of elements behind c. -/
def Mkb (w : World) (B : Nat) (c : Option Addr) (b : Nat) : Prop := B ≤ b ∧ c = some ⟨b, 0, none⟩ ∧ ∃ N h, w.rowIs b 42 N h
theorem Mkb.not {w : World} {B : Nat} {c : Option Addr} {b : Nat} {t : TypeId} {n : Nat} {f : Nat → Value} (h : w.rowIs b t n f) (ht : t ≠ 42) : ¬ Mkb w B c b := fun ⟨_, _, _, _, k⟩ => ht (rowIs_kind h k)
theorem Mkb.back {w : World} {B : Nat} {c : Option Addr} {i : Nat} {v : Array Value} {t : TypeId} (ht : t ≠ 42) (m : Mkb (w.alloc (.cells v t)) B c i) : Mkb w B c i := by
  obtain ⟨hb, hc, N, h, r⟩ := m
  by_cases e : i < w.heap.size
  · exact ⟨hb, hc, N, h, r.of_block (Go.Deep.blk_alloc_lt w _ i e).symm⟩
  · obtain ⟨d, r1, _⟩ := r
    have hl : i < (w.alloc (.cells v t)).heap.size := (Array.getElem?_eq_some_iff.1 r1).1
    simp at hl
    obtain rfl : i = w.heap.size := by omega
    rw [Go.Deep.blk_alloc_new] at r1
    cases r1
    exact absurd rfl ht
/-- The marks of a row, from k on. -/
def mka (k : Int) (i : Nat) : Int := k + 2 * (i : Int)
def mkd (k : Int) (i : Nat) : Int := k + 2 * (i : Int) + 1

set_option maxHeartbeats 1000000 in
theorem markExtS_own (B : Nat) (c : Option Addr) (n cap : Nat) (f g : Nat → Int) (q : Int) (w : World) (ho : Hid (OwnE w B c n f g)) (hn : n ≤ 1099511627776) (q0 : 0 ≤ q) (q1 : q ≤ 1099511627776) :
    Calls Tryz.prog 63 #[.slice c n cap, .int .i64 q] w fun e w' => e = .returned (.int .i64 (q + 2 * n)) ∧ OwnE w' B c n (mka q) (mkd q) ∧ Chg (Mkb w B c) w w' := by
  rcases ho.out with rfl | ⟨b, N, h, rfl, hB, hr, hN, he⟩
  · clear ho
    go_enter Tryz.func63, Tryz.ntmps63
    go_wp2
    go_loopw [1, 5] (fun v i W => i = .int .i64 0 ∧ v = .int .i64 q ∧ Hid (Chg nob w W)) (fun _ _ _ => 0)
    case atStart => exact ⟨rfl, rfl, hik (Chg.refl _ _)⟩
    case round =>
      obtain ⟨rfl, rfl, HC⟩ := hrel
      go_wp2
      go_ret
      exact ⟨by simp, .inl rfl, HC.out.wide⟩
  · have HR0 := hik hr
    have HB := hik hB
    have HNN := hik hN
    have HQ0 := hik q0
    clear ho he hr hB hN
    go_enter Tryz.func63, Tryz.ntmps63
    go_wp2
    go_loopw [1, 5] (fun v i W => ∃ k : Nat, k ≤ n ∧ i = .int .i64 k ∧ v = .int .i64 (q + 2 * k) ∧ Hid (W.rowIs b 42 N (fun j => if j < k * 2 then .int .i64 (q + j) else h j)) ∧ Hid (Chg (fun x => x = b) w W)) (fun _ i _ => n - (intOf i).toNat)
    case atStart => exact ⟨0, Nat.zero_le _, rfl, by simp, hik (HR0.out.congr (fun i _ => by simp)), hik (Chg.refl _ _)⟩
    case round =>
      obtain ⟨k, hk, rfl, rfl, HR, HC⟩ := hrel
      by_cases hlt : k < n
      · have hg0 := HR.out.cell (i := k * 2) (by have := HNN.out; omega)
        have hg1 := HR.out.cell (i := k * 2 + 1) (by have := HNN.out; omega)
        have hf0 := HR.out.frozen (k * 2)
        have hf1 := HR.out.frozen (k * 2 + 1)
        simp only [Nat.lt_irrefl, if_false] at hg0
        simp only [show ¬ k * 2 + 1 < k * 2 by omega, if_false] at hg1
        have HR2 := hik (show _ from ((HR.out.set (k * 2) (.int .i64 (q + 2 * (k : Int)))).set (k * 2 + 1) (.int .i64 (q + 2 * (k : Int) + 1))).congr (g := fun j => if j < (k + 1) * 2 then .int .i64 (q + j) else h j) (fun i _ => by
          by_cases e : i = k * 2 + 1
          · subst e; simp [show k * 2 + 1 < (k + 1) * 2 by omega]; omega
          · by_cases e1 : i = k * 2
            · subst e1; simp [show k * 2 < (k + 1) * 2 by omega]; omega
            · by_cases e2 : i < k * 2
              · simp [e, e1, e2, show i < (k + 1) * 2 by omega]
              · simp [e, e1, e2, show ¬ i < (k + 1) * 2 by omega]))
        have HC2 := hik ((HC.out.setCell (p := ⟨b, k * 2, none⟩) (fun _ => rfl) (.int .i64 (q + 2 * (k : Int)))).setCell (p := ⟨b, k * 2 + 1, none⟩) (fun _ => rfl) (.int .i64 (q + 2 * (k : Int) + 1)))
        go_wp2
        go_roundw
        case rel => exact ⟨k + 1, by omega, by go_num, by go_num, HR2, HC2⟩
        case measure => simp [intOf]; omega
      · obtain rfl : k = n := by omega
        go_wp2
        go_ret
        exact ⟨rfl, .inr ⟨b, N, _, rfl, HB.out, HR.out, HNN.out, fun i hi => by
          simp only [hi, if_true]
          unfold pf mka mkd
          rcases (show i % 2 = 0 ∨ i % 2 = 1 by omega) with e | e
          · rw [if_pos e, show q + (i : Int) = q + 2 * ((i / 2 : Nat) : Int) by omega]
          · rw [if_neg (by omega), show q + (i : Int) = q + 2 * ((i / 2 : Nat) : Int) + 1 by omega]⟩, HC.out.mono (fun i _ e => by subst e; exact ⟨HB.out, rfl, _, _, HR0.out⟩)⟩


end Go.Proofs.YtfbjlohnbpienaaGreat

namespace Go.Proofs.YtfbjlohnbpienaaGreat
open Go.ChangeShapes Go.WideShapes Go.ChangeAt Go.RowKit
set_option linter.unusedVariables false
set_option linter.unusedSimpArgs false

theorem infoU8 : (Tryz.prog.info? 5).map (fun i => (i.zero, i.size, i.bytes)) = some (some (.int .u8 0), 1, 1) := by kernel_rfl
/-- The four bytes of a number, the higher ones first. -/
def wb (a : Int) : Nat → Int
  | 0 => a / 16777216 % 256
  | 1 => a / 65536 % 256
  | 2 => a / 256 % 256
  | _ => a % 256
/-- The bytes of elements. -/
def byt (f g : Nat → Int) (i : Nat) : Int := if i % 8 < 4 then wb (f (i / 8)) (i % 8) else wb (g (i / 8)) (i % 8 - 4)
def bvl (f g : Nat → Int) (i : Nat) : Value := .int .u8 (byt f g i)
theorem bvl_a (f g : Nat → Int) (k j : Nat) (h : j < 4) : bvl f g (k * 8 + j) = .int .u8 (wb (f k) j) := by
  unfold bvl byt
  rw [if_pos (by omega), show (k * 8 + j) / 8 = k by omega, show (k * 8 + j) % 8 = j by omega]
theorem bvl_b (f g : Nat → Int) (k j : Nat) (h : j < 4) : bvl f g (k * 8 + 4 + j) = .int .u8 (wb (g k) j) := by
  unfold bvl byt
  rw [if_neg (by omega), show (k * 8 + 4 + j) / 8 = k by omega, show (k * 8 + 4 + j) % 8 - 4 = j by omega]
/-- The values of a number's bytes. -/
def wv (a : Int) : List Value := [.int .u8 (wb a 0), .int .u8 (wb a 1), .int .u8 (wb a 2), .int .u8 (wb a 3)]
theorem range_four (h : Nat → Value) (m : Nat) : (List.range m).map h ++ [h m, h (m + 1), h (m + 2), h (m + 3)] = (List.range (m + 4)).map h := by
  rw [show m + 4 = m + 1 + 1 + 1 + 1 by omega, List.range_succ, List.range_succ, List.range_succ, List.range_succ]
  simp
theorem bytes_a (f g : Nat → Int) (k : Nat) : (List.range (k * 8)).map (bvl f g) ++ wv (f k) = (List.range (k * 8 + 4)).map (bvl f g) := by
  rw [← range_four]
  have h0 := bvl_a f g k 0 (by omega)
  rw [Nat.add_zero] at h0
  rw [h0, bvl_a f g k 1 (by omega), bvl_a f g k 2 (by omega), bvl_a f g k 3 (by omega)]
  rfl
theorem bytes_b (f g : Nat → Int) (k : Nat) : (List.range (k * 8 + 4)).map (bvl f g) ++ wv (g k) = (List.range ((k + 1) * 8)).map (bvl f g) := by
  rw [show (k + 1) * 8 = k * 8 + 4 + 4 by omega, ← range_four (bvl f g) (k * 8 + 4)]
  have h0 := bvl_b f g k 0 (by omega)
  rw [Nat.add_zero] at h0
  rw [h0, bvl_b f g k 1 (by omega), bvl_b f g k 2 (by omega), bvl_b f g k 3 (by omega)]
  rfl

set_option maxHeartbeats 1000000 in
theorem appendWord_any (B g k cap : Nat) (xs : List Value) (a : Int) (w : World) (hown : Hid (w.ownsRow B 5 1 (.slice (some ⟨g, 0, none⟩) k cap) k xs)) (hB : B ≤ w.heap.size) (hk : k + 4 ≤ cap) (a0 : 0 ≤ a) (a1 : a < 2130706433) :
    Calls Tryz.prog 58 #[.slice (some ⟨g, 0, none⟩) k cap, .int .i64 a] w fun e w' => e = .returned (.slice (some ⟨g, 0, none⟩) (k + 4) cap) ∧ w'.ownsRow B 5 1 (.slice (some ⟨g, 0, none⟩) (k + 4) cap) (k + 4) (xs ++ wv a) ∧ Chg (fun b => b = g) w w' := by
  obtain ⟨i0, hi, hz0, hz1, hz2⟩ := info_parts infoU8
  have HI := hide hi
  have HZ1 := hide hz1
  clear hi hz0 hz1 hz2
  go_enter Tryz.func58, Tryz.ntmps58
  go_wp2_with (at_builtin; refine wpList_append_fits _ rfl (.tmp 5) (.tmp 17) 38 rfl B 5 i0 1 Tryz.underlying38 HI.out HZ1.out g k cap xs rfl (hown.out.alloc _) ⟨_, 0, none⟩ 4 4 (wv a) rfl rfl ?c1 ?c2 hk ?c3)
  case c1 =>
    intro j u hj
    match j, hj with
    | 0, hj => simp [wv, wb] at hj; subst hj; simp [Addr.add]; omega
    | 1, hj => simp [wv, wb] at hj; subst hj; simp [Addr.add]
    | 2, hj => simp [wv, wb] at hj; subst hj; simp [Addr.add]
    | 3, hj => simp [wv, wb] at hj; subst hj; simp [Addr.add]
    | j + 4, hj => simp [wv] at hj
  case c2 => intro u hu; simp [wv] at hu; rcases hu with rfl | rfl | rfl | rfl <;> rfl
  case c3 =>
    intro w1 ho hgr
    have HO := hide ho
    have HG := hide (((Chg.refl (fun b => b = g) w).alloc _).grown hgr (fun b e _ => by simpa using e.symm))
    clear ho hgr
    go_wp2
    go_ret
    exact ⟨rfl, HO.out, HG.out⟩

theorem Chg.lookP {P : Nat → Prop} {w w' : World} (h : Chg P w w') {b o : Nat} (hn : ¬ P b) {v : Value} (c : w.cell? ⟨b, o, none⟩ = some v) : w'.cell? ⟨b, o, none⟩ = some v :=
  (h.cell (p := ⟨b, o, none⟩) (World.block_lt_of_cell? w _ c) hn).trans c
/-- The code of a list. -/
def bc (f g : Nat → Int) (n : Nat) : Int := if 4096 < n then 2 else if okP f g n then 0 else 1
/-- No bytes, and a code. -/
def NoBytes (w : World) (code : Int) (e : Ending) (w' : World) : Prop := e = .returned (.tuple #[.slice none 0 0, .int .i64 code]) ∧ Chg nob w w'
/-- A new row of the bytes. -/
def NewBytes (w : World) (n : Nat) (f g : Nat → Int) (e : Ending) (w' : World) : Prop :=
  ∃ b : Nat, w.heap.size ≤ b ∧ e = .returned (.tuple #[.slice (some ⟨b, 0, none⟩) (n * 8) (n * 8), .int .i64 0]) ∧ w'.rowIs b 5 (n * 8) (bvl f g) ∧ Chg nob w w'
/-- Either, by the code. -/
def EAns (w : World) (n : Nat) (f g : Nat → Int) (e : Ending) (w' : World) : Prop := (bc f g n ≠ 0 ∧ NoBytes w (bc f g n) e w') ∨ (bc f g n = 0 ∧ NewBytes w n f g e w')
theorem EAns.no {w w' : World} {n : Nat} {f g : Nat → Int} {e : Ending} {code : Int} (hb : bc f g n = code) (hc : code ≠ 0) (h : e = .returned (.tuple #[.slice none 0 0, .int .i64 code])) (k : Chg nob w w') : EAns w n f g e w' :=
  .inl ⟨by rw [hb]; exact hc, by rw [hb]; exact ⟨h, k⟩⟩
/-- An owned row, all of it in use, is a row. -/
theorem rowIs_of_owns {w : World} {B b n : Nat} {t : TypeId} {h : Nat → Value} (ho : w.ownsRow B t 1 (.slice (some ⟨b, 0, none⟩) n n) n ((List.range n).map h)) : w.rowIs b t n h := by
  rcases ho.2 with ⟨hv, _⟩ | ⟨g', cap, cur, hv, _, hcur, _, _, hsz, htk⟩
  · cases hv
  · simp at hv
    obtain ⟨rfl, rfl⟩ := hv
    refine ⟨cur, hcur, by omega, fun i hi => ?_⟩
    have e : cur.toList = (List.range n).map h := by
      rw [← htk]
      exact (List.take_of_length_le (by simp; omega)).symm
    rw [← Array.getElem?_toList, e, List.getElem?_map, List.getElem?_range hi]
    rfl


end Go.Proofs.YtfbjlohnbpienaaGreat
