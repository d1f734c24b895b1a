/- What the law on powers leans on: powers add, and the list of a, 1, -1, a has its inverses. Plain facts and one on memory. Conditions: numbers of the field. -/
import Derived.Test.YtbmeikbiibfpmaaOkW
import Derived.Test.YtbmeikbiibfpmaaSBatch
namespace Go.Proofs.Ytbmeikbiibfpmaa
open Go.ChangeShapes Go.WideShapes Go.ChangeAt Go.RowKit

theorem pow_adds (a m n : Int) (hm : 0 ≤ m) (hn : 0 ≤ n) : Fld.pw a (m + n) % 2130706433 = Fld.pw a m % 2130706433 * (Fld.pw a n % 2130706433) % 2130706433 := by
  rw [Fld.pw_add a m n hm hn, Int.mul_emod]
theorem pow_zero0 (a : Int) (h : a = 0) : Fld.pw a 2130706432 % 2130706433 = 0 := by
  subst h
  rw [Fld.pw_zero _ (by omega)]
  rfl
/-- The law's list. -/
def lst (a : Int) : Nat → Int
  | 0 => a
  | 1 => 1
  | 2 => 2130706432
  | _ => a
theorem lst_code (a : Int) (h0 : 0 < a) (h1 : a < 2130706433) : bcode 4 (lst a) = 0 := by
  refine bcode_ok (by omega) ?_ ?_
  · simp only [okTo, lst, Bool.true_and, Bool.and_eq_true]
    exact ⟨⟨⟨fok_mk (by omega) h1, fok_mk (by omega) (by omega)⟩, fok_mk (by omega) (by omega)⟩, fok_mk (by omega) h1⟩
  · simp only [zTo, lst, Bool.false_or, Bool.or_eq_false_iff, beq_eq_false_iff_ne]
    omega
theorem invN_one : invN 1 = 1 := Fld.inv_uniq 1 _ _ (by unfold invN; omega) (by unfold invN; omega) (by omega) (by omega) (Fld.inv_mul 1 (by omega) (by omega)) (by decide)
theorem invN_neg : invN 2130706432 = 2130706432 := Fld.inv_uniq 2130706432 _ _ (by unfold invN; omega) (by unfold invN; omega) (by omega) (by omega) (Fld.inv_mul 2130706432 (by omega) (by omega)) (by decide)
theorem lst_row (a : Int) (w : World) (T : TypeId) : RowV (w.alloc (.cells #[.int .i64 a, .int .i64 1, .int .i64 2130706432, .int .i64 a] T)) (some ⟨w.heap.size, 0, none⟩) 4 (iv (lst a)) := by
  intro i hi
  refine ⟨w.heap.size, 0, rfl, by simp, ?_⟩
  rw [Nat.zero_add, World.cell?_alloc_at _ _ _ _ rfl]
  match i, hi with
  | 0, _ => rfl
  | 1, _ => rfl
  | 2, _ => rfl
  | 3, _ => rfl
end Go.Proofs.Ytbmeikbiibfpmaa
