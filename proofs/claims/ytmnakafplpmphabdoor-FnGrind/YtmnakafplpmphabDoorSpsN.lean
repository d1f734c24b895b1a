/- The least nonce that does, by the model: contracts. Conditions: rows that can be read. -/
import Derived.Test.YtmnakafplpmphabDoorSpsG
namespace Go.Proofs.YtmnakafplpmphabDoor
open Go.ChangeShapes Go.WideShapes Go.ChangeAt Go.RowKit
set_option linter.unusedVariables false
set_option maxRecDepth 100000
set_option linter.unusedSimpArgs false

/-- The first one below n. -/
def fstB (p : Nat → Bool) : Nat → Option Nat
  | 0 => none
  | n + 1 => match fstB p n with
    | some k => some k
    | none => if p n then some n else none
theorem fstB_up {p : Nat → Bool} {k n m : Nat} (h : fstB p n = some k) (hm : n ≤ m) : fstB p m = some k := by
  induction m with
  | zero => obtain rfl : n = 0 := by omega
            exact h
  | succ m ih =>
    by_cases e : n = m + 1
    · subst e; exact h
    · have q := ih (by omega)
      simp only [fstB, q]
theorem fstB_none {p : Nat → Bool} {n : Nat} (h : fstB p n = none) (hp : p n = false) : fstB p (n + 1) = none := by
  simp only [fstB, h, hp]; rfl
theorem fstB_some {p : Nat → Bool} {n : Nat} (h : fstB p n = none) (hp : p n = true) : fstB p (n + 1) = some n := by
  simp only [fstB, h, hp]; rfl
/-- What is found, as values. -/
def gnN (o : Option Nat) : Int := match o with | some k => k | none => 0
def gnB (o : Option Nat) : Bool := match o with | some _ => true | none => false

set_option maxHeartbeats 2000000 in
theorem sGrind_any (c : Option Addr) (len cap : Nat) (at' : Int) (st : ByteArray) (ct : Int) (b : Nat) (w : World) (hst : st.size = 32) (hb : b ≤ 12) :
    Calls Tryd.prog 96 #[.agg #[.slice c len cap, .int .i64 at', .string st, .int .i64 ct], .int .i64 b] w fun e w' => e = .returned (.tuple #[.int .i64 (gnN (fstB (ftb st b) 65536)), .bool (gnB (fstB (ftb st b) 65536))]) ∧ Chg nob w w' := by
  go_enter Tryd.func96, Tryd.ntmps96
  go_wp2
  go_loopw [6] (fun v W => ∃ k : Nat, k ≤ 65536 ∧ v = .int .i64 k ∧ Hid (fstB (ftb st b) k = none) ∧ Hid (W.rowIs w.heap.size 47 4 (pv4 (.slice c len cap) (.int .i64 at') (.string st) (.int .i64 ct))) ∧ Hid (Chg nob w W)) (fun v _ => 65536 - (intOf v).toNat)
  case atStart => exact ⟨0, by omega, rfl, hik rfl, hik (row4_new w _ _ _ _ _), hik ((Chg.refl _ _).alloc _)⟩
  case round =>
    obtain ⟨k, hk, rfl, HF, HR, HG⟩ := hrel
    by_cases hlt : k < 65536
    · have hlt' : (k : Int) < 65536 := by omega
      have x0 : wr.cell? ⟨w.heap.size, 0, none⟩ = some (.slice c len cap) := HR.out.cell (by omega)
      have x1 : wr.cell? ⟨w.heap.size, 1, none⟩ = some (.int .i64 at') := HR.out.cell (by omega)
      have x2 : wr.cell? ⟨w.heap.size, 2, none⟩ = some (.string st) := HR.out.cell (by omega)
      have x3 : wr.cell? ⟨w.heap.size, 3, none⟩ = some (.int .i64 ct) := HR.out.cell (by omega)
      cases hf : ftb st b k
      · have HN := hik (fstB_none HF.out hf)
        go_wp2_with (go_at_call 125; refine (sFits_any c len cap at' st ct b k _ hst hb (by omega)).mono ?_; rintro e W1 ⟨he, k1⟩; rw [hf] at he; subst he; have R1 := hik (rowIs_keep HR.out k1); have G1 := hik (HG.out.trans k1); clear k1)
        clear x0 x1 x2 x3
        go_roundw
        case rel => exact ⟨k + 1, by omega, by go_num, HN, R1, G1⟩
        case measure => simp [intOf]; omega
      · have HN := hik (fstB_up (fstB_some HF.out hf) (show k + 1 ≤ 65536 by omega))
        go_wp2_with (go_at_call 125; refine (sFits_any c len cap at' st ct b k _ hst hb (by omega)).mono ?_; rintro e W1 ⟨he, k1⟩; rw [hf] at he; subst he; have G1 := hik (HG.out.trans k1); clear k1)
        go_ret2
        exact ⟨by rw [HN.out]; rfl, G1.out⟩
    · obtain rfl : k = 65536 := by omega
      go_wp2
      go_ret2
      exact ⟨by rw [HF.out]; rfl, HG.out⟩
end Go.Proofs.YtmnakafplpmphabDoor
