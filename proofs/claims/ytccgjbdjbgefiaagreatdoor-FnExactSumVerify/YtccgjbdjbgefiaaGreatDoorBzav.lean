/- Several texts in one: What ReadExts answers: a contract. Condition: bytes that can be read. · What the program's hash of a text is: a contract. Conditions: a text of at most 65536 bytes; the tables hold the shifts and the rounds' constants. -/
import Derived.Test.YtccgjbdjbgefiaaGreatDoorBzat
import Derived.Test.YtccgjbdjbgefiaaGreatDoorBzap
import Derived.Test.YtccgjbdjbgefiaaGreatDoorBzbc
import Derived.Test.YtccgjbdjbgefiaaGreatDoorBzag
namespace Go.Proofs.YtccgjbdjbgefiaaGreatDoor
open Go.ChangeShapes Go.WideShapes Go.ChangeAt Go.RowKit
set_option linter.unusedVariables false
set_option linter.unusedSimpArgs false

theorem RowV.whole {w : World} {c : Option Addr} {n : Nat} {f : Nat → Value} (h : RowV w c n f) (hn : 0 < n) : ∃ xb xo : Nat, c = some ⟨xb, xo, none⟩ ∧ xb < w.heap.size ∧ ∀ i, i < n → w.cell? ⟨xb, xo + i, none⟩ = some (f i) := by
  obtain ⟨xb, xo, e, l, _⟩ := h 0 hn
  refine ⟨xb, xo, e, l, fun i hi => ?_⟩
  obtain ⟨xb', xo', e', _, hc⟩ := h i hi
  rw [e] at e'
  obtain ⟨rfl, rfl⟩ : xb = xb' ∧ xo = xo' := by simpa using e'
  exact hc
/-- What the bytes say. -/
def rf (z : Nat → Int) (i : Nat) : Int := w4 z (i * 8)
def rg (z : Nat → Int) (i : Nat) : Int := w4 z (i * 8 + 4)
/-- The code of bytes. -/
def rc (z : Nat → Int) (n : Nat) : Int := if 65536 < n then 2 else if n % 8 = 0 then (if okP (rf z) (rg z) (n / 8) then (if 4096 < n / 8 then 6 else 0) else 3) else 3
def NoList (w : World) (code : Int) (e : Ending) (w' : World) : Prop := e = .returned (.tuple #[.slice none 0 0, .int .i64 code]) ∧ Chg nob w w'
def NewList (w : World) (n : Nat) (z : Nat → Int) (e : Ending) (w' : World) : Prop :=
  ∃ b : Nat, w.heap.size ≤ b ∧ e = .returned (.tuple #[.slice (some ⟨b, 0, none⟩) (n / 8) (n / 8), .int .i64 0]) ∧ w'.rowIs b 31 (n / 8 * 2) (pf (rf z) (rg z)) ∧ Chg nob w w'
def RAns (w : World) (n : Nat) (z : Nat → Int) (e : Ending) (w' : World) : Prop := (rc z n ≠ 0 ∧ NoList w (rc z n) e w') ∨ (rc z n = 0 ∧ NewList w n z e w')
theorem RAns.no {w w' : World} {n : Nat} {z : Nat → Int} {e : Ending} {code : Int} (hb : rc z n = code) (hc : code ≠ 0) (h : e = .returned (.tuple #[.slice none 0 0, .int .i64 code])) (k : Chg nob w w') : RAns w n z e w' :=
  .inl ⟨by rw [hb]; exact hc, by rw [hb]; exact ⟨h, k⟩⟩


end Go.Proofs.YtccgjbdjbgefiaaGreatDoor

namespace Go.Proofs.YtccgjbdjbgefiaaGreatDoor
open Go.ChangeShapes Go.WideShapes Go.ChangeAt Go.RowKit
set_option linter.unusedVariables false
set_option maxRecDepth 100000
set_option linter.unusedSimpArgs false

theorem kh_text (s : ByteArray) (h : s.size ≤ 65536) : kh (zs s) s.size = hsh s := by unfold kh hsh; rw [if_neg (by omega)]

set_option maxHeartbeats 1000000 in
theorem hashOf_any (s : ByteArray) (w : World) (ht : Hid (Tabs w)) (hs : s.size ≤ 65536) :
    Calls Tryz.prog 120 #[.string s] w fun e w' => e = .returned (.string (hsh s)) ∧ Chg nob w w' := by
  obtain ⟨W0, cap0, hcv, HB0, HG0, hc0⟩ : ∃ W0 cap0, (convert 9 86 (.string s)).run Tryz.prog w = .ok (.slice (some ⟨w.heap.size, 0, none⟩) s.size cap0) W0 ∧ Hid (BRow W0 w.heap.size w.heap.size s.size cap0 (zs s)) ∧ Hid (Chg nob w W0) ∧ cap0 ≤ maxLen :=
    ⟨_, _, Go.Lib.run_convert_string_bytes w 9 86 5 s Tryz.underlying9 Tryz.underlying86 Tryz.underlying5, hik (BRow.of_string w 5 s), hik (chg_string w 5 s), grownCap_le_maxLen w s.size 0 5 (by unfold maxLen; omega)⟩
  have hc1 : (cap0 : Int) ≤ 9223372036854775807 := by unfold maxLen at hc0; omega
  have HE := hik (kh_text s hs)
  have HC1 := hik hc1
  have HS := hik hs
  clear hc0 hc1 hs
  go_enter Tryz.func120, Tryz.ntmps120
  go_wp2_with (go_at_call 122; refine (keccak256_any (some ⟨w.heap.size, 0, none⟩) s.size cap0 (zs s) _ (hik HB0.out.row) (hik (zs_B s)) (hik (ht.out.keep HG0.out)) (by have := HS.out; omega) HB0.out.le HC1.out).mono ?_; rintro e W1 ⟨rfl, k1⟩; have G1 := hik (HG0.out.trans k1); clear k1)
  go_ret
  exact ⟨by rw [HE.out]; rfl, G1.out⟩


end Go.Proofs.YtccgjbdjbgefiaaGreatDoor
