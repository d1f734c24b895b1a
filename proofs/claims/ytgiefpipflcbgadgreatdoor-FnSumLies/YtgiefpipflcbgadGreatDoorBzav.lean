/- Several texts in one: What the model's own copies of sources are, and its new sources: contracts. Conditions: rows that can be read. · What the model's sources are behind what they take in: contracts. Conditions: rows that can be read. · Whether a nonce does, by the model: a contract. Conditions: a state of 32 bytes, bits from 0 to 12, a nonce from 0 to 65535. · The least nonce that does, by the model: contracts. Conditions: rows that can be read. · The least nonce that does, and whether one does, by the model, with their codes: contracts. Conditions: rows that can be read. -/
import Derived.Test.YtgiefpipflcbgadGreatDoorBzaq
import Derived.Test.YtgiefpipflcbgadGreatDoorSpsB
import Derived.Deep.QuietTactic
import Derived.BigQuiet
namespace Go.Proofs.YtgiefpipflcbgadGreatDoor
open Go.ChangeShapes Go.WideShapes Go.ChangeAt Go.RowKit
set_option linter.unusedVariables false
set_option maxRecDepth 100000
set_option linter.unusedSimpArgs false

def scn (code : Int) (len : Nat) : Nat := if code = 0 then len else 0
def scS (code : Int) (st : ByteArray) : ByteArray := if code = 0 then st else ⟨#[]⟩

set_option maxRecDepth 100000 in
set_option maxHeartbeats 1000000 in
theorem sOwn_any (c : Option Addr) (n cap : Nat) (f g : Nat → Int) (at' : Int) (st : ByteArray) (ct : Int) (w : World) (h : Hid (PairV w c n f g)) (hn : n ≤ 1099511627776) :
    Calls Tryz.prog 38 #[.agg #[.slice c n cap, .int .i64 at', .string st, .int .i64 ct]] w fun e w' => SrAns w n f g at' st ct e w' := by
  obtain ⟨i0, hi, hz0, hz1, hz2⟩ := info_parts infoExt
  have HI := hik hi
  have HZ0 := hik hz0
  have HZ1 := hik hz1
  have HZ2 := hik hz2
  clear hi hz0 hz1 hz2
  go_enter Tryz.func38, Tryz.ntmps38
  go_wp2_with (at_builtin; refine wpList_append_pairs _ (.tmp 3) (.tmp 5) 26 rfl rfl i0 Tryz.underlying26 HI.out HZ0.out HZ1.out HZ2.out (w.heap.size + 1 + 1) (by simp) rfl c n cap f g rfl (h.out.keep ((((Chg.refl nob w).alloc _).alloc _).alloc _)) hn ?_)
  intro c1 cap1 W1 ho hle hm k1
  have R0 := hik (rowIs_keep (World.rowIs.alloc (World.rowIs.alloc (row4_new w (.slice c n cap) (.int .i64 at') (.string st) (.int .i64 ct) 28) (.cells #[.slice none 0 0, .int .i64 0, .string ⟨#[]⟩, .int .i64 0] 28)) (.cells #[] 31)) k1)
  have R1 := hik (rowIs_keep (World.rowIs.alloc (row4_new (w.alloc (.cells #[.slice c n cap, .int .i64 at', .string st, .int .i64 ct] 28)) (.slice none 0 0) (.int .i64 0) (.string ⟨#[]⟩) (.int .i64 0) 28) (.cells #[] 31)) k1)
  have G1 := hik (((((Chg.refl nob w).alloc (.cells #[.slice c n cap, .int .i64 at', .string st, .int .i64 ct] 28)).alloc (.cells #[.slice none 0 0, .int .i64 0, .string ⟨#[]⟩, .int .i64 0] 28)).alloc (.cells #[] 31)).trans k1)
  have HO := hik ho
  have y0 : W1.cell? ⟨w.heap.size, 0, none⟩ = some (.slice c n cap) := R0.out.cell (by omega)
  obtain ⟨hc1, hf1, hz1⟩ := kcell k1 (w.heap.size + 2) (by simp)
  clear k1 ho hle hm HI HZ0 HZ1 HZ2
  go_wp2
  have R2 : Hid ((W1.setCell ⟨w.heap.size, 0, none⟩ (.slice c1 n cap1)).rowIs (w.heap.size + 1) 28 4 (pv4 (.slice none 0 0) (.int .i64 0) (.string ⟨#[]⟩) (.int .i64 0))) := hik (World.rowIs.setOther (by simpa using R1.out) (by simp) _)
  exact bodyPost_ret (v := .agg #[.slice c1 n cap1, .int .i64 at', .string st, .int .i64 ct]) (by simp [results, Tryz.results38, go_sem, row4_s0 R2.out (.slice c1 n cap1), row4_s1 R2.out (.slice c1 n cap1) (.int .i64 at'), row4_s2 R2.out (.slice c1 n cap1) (.int .i64 at') (.string st), row4_s3 R2.out (.slice c1 n cap1) (.int .i64 at') (.string st) (.int .i64 ct)]) rfl ⟨_, _, rfl, ((HO.out.chg (P := fun b => b < w.heap.size + 2) (chg4_set ((Chg.refl _ W1).setCell (p := ⟨w.heap.size, 0, none⟩) (fun _ => (by show w.heap.size < w.heap.size + 2; omega)) _) _ (fun _ => (by show w.heap.size + 1 < w.heap.size + 2; omega)) _ _ _ _) (fun b hb _ hp => (by first | omega | (simp at hb; omega)))).low (B' := w.heap.size) (by first | omega | (simp; omega))), chg4_set (G1.out.setCell (p := ⟨w.heap.size, 0, none⟩) (fun l => absurd l (by simp)) _) _ (fun l => absurd l (by simp)) _ _ _ _⟩

end Go.Proofs.YtgiefpipflcbgadGreatDoor

namespace Go.Proofs.YtgiefpipflcbgadGreatDoor
open Go.ChangeShapes Go.WideShapes Go.ChangeAt Go.RowKit
set_option linter.unusedVariables false
set_option maxRecDepth 100000
set_option linter.unusedSimpArgs false

/-- The code of a text that is taken in. -/
def atc (m : Nat) (ok : Bool) : Int := if 65536 < m then 2 else if ok then 0 else 1
def scI (code : Int) (a : Int) : Int := if code = 0 then a else 0
theorem atc_long {m : Nat} {ok : Bool} (h : 65536 < m) : atc m ok = 2 := if_pos h
theorem atc_bad {m : Nat} (h : ¬ 65536 < m) : atc m false = 1 := by unfold atc; rw [if_neg h]; rfl
theorem atc_ok {m : Nat} (h : ¬ 65536 < m) : atc m true = 0 := by unfold atc; rw [if_neg h]; rfl
theorem sokb_parts {f g : Nat → Int} {len : Nat} {at' : Int} {st : ByteArray} {ct : Int} (h : sokb f g len at' st ct = true) : len ≤ 64 ∧ okP f g len = true ∧ (0 ≤ at' ∧ at' ≤ 1000000) ∧ st.size = 32 ∧ (0 ≤ ct ∧ ct ≤ 1000000) := by
  unfold sokb inW at h
  simp only [Bool.and_eq_true, decide_eq_true_eq] at h
  exact ⟨h.1.1.1.1, h.1.1.1.2, h.1.1.2, h.1.2, h.2⟩

end Go.Proofs.YtgiefpipflcbgadGreatDoor

namespace Go.Proofs.YtgiefpipflcbgadGreatDoor
open Go.ChangeShapes Go.WideShapes Go.ChangeAt Go.RowKit
set_option linter.unusedVariables false
set_option maxRecDepth 100000
set_option linter.unusedSimpArgs false

end Go.Proofs.YtgiefpipflcbgadGreatDoor

namespace Go.Proofs.YtgiefpipflcbgadGreatDoor
open Go.ChangeShapes Go.WideShapes Go.ChangeAt Go.RowKit
set_option linter.unusedVariables false
set_option maxRecDepth 100000
set_option linter.unusedSimpArgs false

end Go.Proofs.YtgiefpipflcbgadGreatDoor

namespace Go.Proofs.YtgiefpipflcbgadGreatDoor
open Go.ChangeShapes Go.WideShapes Go.ChangeAt Go.RowKit
set_option linter.unusedVariables false
set_option maxRecDepth 100000
set_option linter.unusedSimpArgs false

end Go.Proofs.YtgiefpipflcbgadGreatDoor
