/- Several texts in one: Words on memory: whole arrays by value, out of rows and into rows. No program is named here. · The library's pieces of a text, cut at blanks: a contract. Conditions: the library's bound is an int. -/
import Derived.Test.YtpndbkgjdnkmcaaDoorBzac
import Derived.WalkKit
import Derived.Laws.Rows
import Derived.Laws.Tables
import Derived.Deep.WholeRow
import Derived.Test.YtpndbkgjdnkmcaaDoorBzaj
import Derived.Test.YtpndbkgjdnkmcaaDoorBzae
import Derived.Test.YtpndbkgjdnkmcaaDoorBzad
import Derived.Test.YtpndbkgjdnkmcaaDoorSplL
namespace Go.Proofs.YtpndbkgjdnkmcaaDoor
open Go.RowKit

/-- n values in an array. -/
def rowA (n : Nat) (f : Nat → Value) : Array Value := ((List.range n).map f).toArray
theorem rowA_size (n : Nat) (f : Nat → Value) : (rowA n f).size = n := by simp [rowA]
theorem rowA_at (n : Nat) (f : Nat → Value) (i : Nat) (h : i < n) : (rowA n f)[i]? = some (f i) := by simp [rowA, h]
theorem rowA_of {w : World} {b : Nat} {t : TypeId} {n : Nat} {f : Nat → Value} (h : w.rowIs b t n f) : w.heap[b]? = some (.cells (rowA n f) t (0, 0)) := by
  obtain ⟨c, hb, hn, hc⟩ := h
  have e : c = rowA n f := by
    apply Array.ext_getElem?
    intro i
    by_cases hi : i < n
    · rw [hc i hi, rowA_at n f i hi]
    · rw [Array.getElem?_eq_none (by omega), Array.getElem?_eq_none (by rw [rowA_size]; omega)]
  rw [hb, e]
theorem rowIs_of {w : World} {b : Nat} {t : TypeId} {n : Nat} {f : Nat → Value} (h : w.heap[b]? = some (.cells (rowA n f) t (0, 0))) : w.rowIs b t n f :=
  ⟨_, h, rowA_size n f, fun i hi => rowA_at n f i hi⟩

section
variable {P : Program}
end

end Go.Proofs.YtpndbkgjdnkmcaaDoor

namespace Go.Proofs.YtpndbkgjdnkmcaaDoor
open Go.ChangeShapes Go.WideShapes Go.ChangeAt Go.RowKit
set_option linter.unusedVariables false
set_option maxRecDepth 100000
set_option linter.unusedSimpArgs false

/-- The library's bound holds an int. -/
def Mxl (w : World) : Prop := ∃ m : Int, w.cell? ⟨1, 0, none⟩ = some (.int .i64 m)
theorem Mxl.keep {w w' : World} (h : Mxl w) (k : Chg nob w w') : Mxl w' := by
  obtain ⟨m, c⟩ := h
  exact ⟨m, k.see c⟩
theorem split_any (s : ByteArray) (hs : s.size ≤ 1000000) (w : World) (h : Hid (Mxl w)) : Calls Tryd.prog 30 #[.string s, .string ⟨#[32]⟩] w fun e w' => ∃ (b : Nat) (ps : List (List UInt8)), e = .returned (.slice (some ⟨b, 0, none⟩) ps.length ps.length) ∧ RowV w' (some ⟨b, 0, none⟩) ps.length (tvs ps) ∧ ps.length ≤ s.size + 1 ∧ ps.filter (fun x => !x.isEmpty) = wds s.data.toList ∧ Chg nob w w' := by
  obtain ⟨m, hm⟩ := h.out
  refine (Any.strings_Split splE (by kernel_rfl) s ⟨#[32]⟩ m w (by omega) hm (by decide)).mono ?_
  rintro e w' ⟨rfl, rfl⟩
  have hle := Go.Lib.countB_le (⟨#[32]⟩ : ByteArray) (by decide) s.size s (Nat.le_refl _)
  have hlen := Go.Lib.splitB_all (⟨#[32]⟩ : ByteArray) (by decide) 0 _ s rfl
  have hdat := Go.Lib.splitB_data (⟨#[32]⟩ : ByteArray) 0 (Go.Lib.countB s ⟨#[32]⟩) s
  have hl2 : ((Go.Lib.splitB ⟨#[32]⟩ 0 (Go.Lib.countB s ⟨#[32]⟩) s).map (·.data.toList)).length = Go.Lib.countB s ⟨#[32]⟩ + 1 := by rw [List.length_map, hlen]
  have hv : (Go.Lib.splitB ⟨#[32]⟩ 0 (Go.Lib.countB s ⟨#[32]⟩) s).map Value.string = ((Go.Lib.splitB ⟨#[32]⟩ 0 (Go.Lib.countB s ⟨#[32]⟩) s).map (·.data.toList)).map tv := by
    rw [List.map_map]
    refine List.map_congr_left (fun x _ => ?_)
    show Value.string x = Value.string ⟨x.data.toList.toArray⟩
    congr 1
  have hc : Go.Lib.count s.data.toList [32] = Go.Lib.countB s ⟨#[32]⟩ := rfl
  have hf := split_wds _ s.data.toList hc
  rw [show Go.Lib.splitK [32] 0 (Go.Lib.countB s ⟨#[32]⟩) s.data.toList = (Go.Lib.splitB ⟨#[32]⟩ 0 (Go.Lib.countB s ⟨#[32]⟩) s).map (·.data.toList) from hdat.symm] at hf
  rw [hv]
  clear hdat hlen hv hc
  generalize (Go.Lib.splitB ⟨#[32]⟩ 0 (Go.Lib.countB s ⟨#[32]⟩) s).map (·.data.toList) = ps at hl2 hf ⊢
  rw [← hl2]
  have e : (ps.map tv).toArray = rowA ps.length (tvs ps) := by
    unfold rowA
    rw [← tvs_map]
  exact ⟨w.heap.size, ps, rfl, RowV.of_row (rowIs_of (t := 9) (by rw [e]; exact Go.Deep.blk_alloc_new _ _)) (Nat.le_refl _), by omega, hf, (Chg.refl nob w).alloc _⟩

end Go.Proofs.YtpndbkgjdnkmcaaDoor
