/- What the laws' helpers on slices of strings do: contracts. Conditions: rows that can be read, lengths of at most 2 to the 40. -/
import Derived.Test.YtfbjlohnbpienaaKecZ
import Derived.Deep.QuietTactic
import Derived.BigQuiet
namespace Go.Proofs.Ytfbjlohnbpienaa
open Go.ChangeShapes Go.WideShapes Go.ChangeAt Go.RowKit
set_option linter.unusedVariables false
set_option maxRecDepth 100000
set_option linter.unusedSimpArgs false

/-- Texts as values. -/
def sb (L : Nat → ByteArray) (i : Nat) : Value := .string (L i)
/-- The empty text. -/
def es : Value := .string ⟨#[]⟩
theorem infoSt : (Try.prog.info? 9).map (fun i => (i.zero, i.size, i.bytes)) = some (some (.string ⟨#[]⟩), 1, 16) := by kernel_rfl

set_option maxHeartbeats 1000000 in
theorem toStringB_any (c : Option Addr) (n cap : Nat) (L : Nat → ByteArray) (w : World) (h : Hid (RowV w c n (sb L))) (hn : n ≤ 1099511627776) :
    Calls Try.prog 26 #[.slice c n cap] w fun e w' => e = .returned (.slice (some ⟨w.heap.size, 0, none⟩) n n) ∧ w'.rowIs w.heap.size 9 n (sb L) ∧ Chg nob w w' := by
  obtain ⟨i0, hi, hz0, hz1, hz2⟩ := info_parts infoSt
  have HI := hik hi
  have HZ0 := hik hz0
  have HZ1 := hik hz1
  have hb : i0.bytes * n ≤ 281474976710656 := by rw [hz2]; omega
  clear hi hz0 hz1 hz2
  go_enter Try.func26, Try.ntmps26
  go_wp2_with (at_make; refine wpList_make_row _ rfl (.tmp 6) (.tmp 6) 23 rfl 9 i0 (.string ⟨#[]⟩) Try.underlying23 HI.out HZ0.out HZ1.out rfl .i64 .i64 n rfl rfl hb (by omega) ?_)
  clear hb HI HZ0 HZ1
  go_loopw [4] (fun i W => ∃ k : Nat, k ≤ n ∧ i = .int .i64 k ∧ Hid (W.rowIs w.heap.size 9 n (fun j => if j < k then sb L j else es)) ∧ Hid (Chg nob w W)) (fun i _ => n - (intOf i).toNat)
  case atStart => exact ⟨0, Nat.zero_le _, rfl, hik ((World.rowIs_made w (.string ⟨#[]⟩) n 9).congr (fun i _ => by rw [if_neg (by omega)]; rfl)), hik ((Chg.refl _ _).alloc _)⟩
  case round =>
    obtain ⟨k, hk, rfl, HR, HC⟩ := hrel
    by_cases hlt : k < n
    · obtain ⟨xb, xo, rfl, hxb, hcell⟩ := (h.out.keep HC.out) k hlt
      have hx : _ = some (Value.string (L k)) := hcell
      have hg := HR.out.cell hlt
      have hf := HR.out.frozen k
      simp only [Nat.lt_irrefl, if_false] at hg
      have HR2 := hik (show _ from (HR.out.set k (.string (L k))).congr (g := fun j => if j < k + 1 then sb L j else es) (fun i _ => by
        by_cases e : i = k
        · subst e; rw [if_pos rfl, if_pos (by omega)]; rfl
        · rw [if_neg e]
          by_cases e2 : i < k
          · rw [if_pos e2, if_pos (by omega)]
          · rw [if_neg e2, if_neg (by omega)]))
      have HC2 := hik (HC.out.setCell (p := ⟨w.heap.size, k, none⟩) (fun l => absurd l (by simp)) (.string (L k)))
      clear hcell
      go_wp2
      go_roundw
      case rel => exact ⟨k + 1, by omega, by go_num, HR2, HC2⟩
      case measure => simp [intOf]; omega
    · obtain rfl : k = n := by omega
      go_wp2
      go_ret
      exact ⟨rfl, HR.out.congr (fun i hi => by rw [if_pos hi]), HC.out⟩

set_option maxHeartbeats 1000000 in
theorem eqStringB_any (c d : Option Addr) (n m cap cap' : Nat) (L M : Nat → ByteArray) (w : World) (h : Hid (RowV w c n (sb L))) (h' : Hid (RowV w d m (sb M))) (hm : n = m) (he : ∀ i, i < n → L i = M i) (hn : n ≤ 1099511627776) :
    Calls Try.prog 35 #[.slice c n cap, .slice d m cap'] w fun e w' => e = .returned (.bool true) ∧ Chg nob w w' := by
  subst hm
  have HE := hik he
  clear he
  go_enter Try.func35, Try.ntmps35
  go_wp2
  go_loopw [5] (fun i W => ∃ k : Nat, k ≤ n ∧ i = .int .i64 k ∧ Hid (Chg nob w W)) (fun i _ => n - (intOf i).toNat)
  case atStart => exact ⟨0, Nat.zero_le _, rfl, hik (Chg.refl _ _)⟩
  case round =>
    obtain ⟨k, hk, rfl, HC⟩ := hrel
    by_cases hlt : k < n
    · obtain ⟨xb, xo, rfl, hxb, hcell⟩ := (h.out.keep HC.out) k hlt
      have hx : _ = some (Value.string (L k)) := hcell
      obtain ⟨yb, yo, rfl, hyb, hcell'⟩ := (h'.out.keep HC.out) k hlt
      have hy : _ = some (Value.string (M k)) := hcell'
      rw [← HE.out k hlt] at hy
      clear hcell hcell'
      go_wp2
      go_quiet (fail)
      go_wp2
      go_roundw
      case rel => exact ⟨k + 1, by omega, by go_num, hik (HC.out.drewN _)⟩
      case measure => simp [intOf]; omega
    · go_wp2
      go_ret
      exact ⟨rfl, HC.out⟩

/-- What szStringS answers: if it is not below 0, then nothing is long. -/
def SzAns (n : Nat) (L : Nat → ByteArray) (left : Int) (w : World) (e : Ending) (w' : World) : Prop := w' = w ∧ ∃ r : Int, e = .returned (.int .i64 r) ∧ -1 ≤ r ∧ r ≤ left ∧ (0 ≤ r → (n : Int) ≤ left ∧ ∀ i, i < n → ((L i).size : Int) ≤ left)

set_option maxHeartbeats 1000000 in
theorem szStringB_any (c : Option Addr) (n cap : Nat) (L : Nat → ByteArray) (left : Int) (w : World) (h : Hid (RowV w c n (sb L))) (hz : Hid (∀ i, i < n → (L i).size ≤ 9223372036854775807)) (h0 : 0 ≤ left) (h1 : left ≤ 1048576) (hn : (n : Int) ≤ 9223372036854775807) :
    Calls Try.prog 21 #[.slice c n cap, .int .i64 left] w fun e w' => SzAns n L left w e w' := by
  by_cases hl : left - (n : Int) < 0
  · go_enter Try.func21, Try.ntmps21
    go_wp2
    go_ret
    exact ⟨rfl, -1, rfl, by omega, by omega, fun q => by omega⟩
  · have hl' : 0 ≤ left - (n : Int) := by omega
    go_enter Try.func21, Try.ntmps21
    go_wp2
    go_loop [1, 5] (fun v i => ∃ (k : Nat) (r : Int), k ≤ n ∧ i = .int .i64 k ∧ v = .int .i64 r ∧ 0 ≤ r ∧ r ≤ left - n ∧ Hid (∀ j, j < k → ((L j).size : Int) ≤ left)) (fun _ i => n - (intOf i).toNat)
    case atStart => exact ⟨0, _, Nat.zero_le _, rfl, rfl, hl', by omega, hik (fun j hj => absurd hj (by omega))⟩
    case round =>
      obtain ⟨k, r, hk, rfl, rfl, r0, r1, HL⟩ := hrel
      by_cases hlt : k < n
      · obtain ⟨xb, xo, rfl, hxb, hcell⟩ := h.out k hlt
        have hx : _ = some (Value.string (L k)) := hcell
        have hzk := hz.out k hlt
        clear hcell
        by_cases hs : r - ((L k).size : Int) < 0
        · go_wp2
          go_ret
          exact ⟨rfl, -1, rfl, by omega, by omega, fun q => by omega⟩
        · have hs' : 0 ≤ r - ((L k).size : Int) := by omega
          go_wp2
          go_round
          case rel => exact ⟨k + 1, _, by omega, by go_num, rfl, hs', by omega, hik (fun j hj => by
            by_cases e : j = k
            · subst e; omega
            · exact HL.out j (by omega))⟩
          case measure => simp [intOf]; omega
      · obtain rfl : k = n := by omega
        go_wp2
        go_ret
        exact ⟨rfl, r, rfl, by omega, by omega, fun _ => ⟨by omega, HL.out⟩⟩
end Go.Proofs.Ytfbjlohnbpienaa
