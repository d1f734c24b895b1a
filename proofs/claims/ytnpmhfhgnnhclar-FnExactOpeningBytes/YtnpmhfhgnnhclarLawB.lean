/- What the laws' helpers on slices of bytes, and on own rows of elements, do: contracts. Conditions: rows that can be read, lengths of at most 2 to the 40. -/
import Derived.Test.YtnpmhfhgnnhclarByt
import Derived.Deep.QuietTactic
import Derived.BigQuiet
namespace Go.Proofs.Ytnpmhfhgnnhclar
open Go.ChangeShapes Go.WideShapes Go.ChangeAt Go.RowKit
set_option linter.unusedVariables false
set_option maxRecDepth 100000
set_option linter.unusedSimpArgs false

/-- Bytes as values. -/
def bw (f : Nat → Int) (i : Nat) : Value := .int .u8 (f i)
theorem hid {p : Prop} (h : p) : Hid p := h

set_option maxHeartbeats 1000000 in
theorem eqByteS_any (c d : Option Addr) (n m cap cap' : Nat) (f g : Nat → Int) (w : World) (h : Hid (RowV w c n (bw f))) (h' : Hid (RowV w d m (bw g))) (hm : n = m) (he : ∀ i, i < n → f i = g i) (hn : n ≤ 1099511627776) :
    Calls Try.prog 16 #[.slice c n cap, .slice d m cap'] w fun e w' => e = .returned (.bool true) ∧ Chg nob w w' := by
  subst hm
  have HE := hid he
  clear he
  go_enter Try.func16, Try.ntmps16
  go_wp2
  go_loopw [5] (fun i W => ∃ k : Nat, k ≤ n ∧ i = .int .i64 k ∧ Hid (Chg nob w W)) (fun i _ => n - (intOf i).toNat)
  case atStart => exact ⟨0, Nat.zero_le _, rfl, hid (Chg.refl _ _)⟩
  case round =>
    obtain ⟨k, hk, rfl, HC⟩ := hrel
    by_cases hlt : k < n
    · obtain ⟨xb, xo, rfl, hxb, hcell⟩ := (h.out.keep HC.out) k hlt
      have hx : _ = some (Value.int .u8 (f k)) := hcell
      obtain ⟨yb, yo, rfl, hyb, hcell'⟩ := (h'.out.keep HC.out) k hlt
      have hy : _ = some (Value.int .u8 (g k)) := hcell'
      rw [← HE.out k hlt] at hy
      clear hcell hcell'
      go_wp2
      go_quiet (fail)
      go_wp2
      go_roundw
      case rel => exact ⟨k + 1, by omega, by go_num, hid (HC.out.drewN _)⟩
      case measure => simp [intOf]; omega
    · go_wp2
      go_ret
      exact ⟨rfl, HC.out⟩

/-- The numbers that markByteS writes. -/
def mkb (i : Nat) : Int := (1 + (i : Int)) % 256

set_option maxHeartbeats 1000000 in
theorem markByteS_any (g n cap : Nat) (h : Nat → Value) (w : World) (hr : Hid (w.rowIs g 5 n h)) (hn : n ≤ 1099511627776) :
    Calls Try.prog 18 #[.slice (some ⟨g, 0, none⟩) n cap, .int .i64 1] w fun e w' => e = .returned (.int .i64 (1 + n)) ∧ w'.rowIs g 5 n (bw mkb) ∧ Chg (fun b => b = g) w w' := by
  go_enter Try.func18, Try.ntmps18
  go_wp2
  go_loopw [1, 5] (fun v i W => ∃ k : Nat, k ≤ n ∧ i = .int .i64 k ∧ v = .int .i64 (1 + k) ∧ Hid (W.rowIs g 5 n (fun j => if j < k then bw mkb j else h j)) ∧ Hid (Chg (fun b => b = g) w W)) (fun _ i _ => n - (intOf i).toNat)
  case atStart => exact ⟨0, Nat.zero_le _, rfl, rfl, hid (hr.out.congr (fun i _ => by simp)), hid (Chg.refl _ _)⟩
  case round =>
    obtain ⟨k, hk, rfl, rfl, HR, HC⟩ := hrel
    by_cases hlt : k < n
    · have hg := HR.out.cell hlt
      have hf := HR.out.frozen k
      simp only [Nat.lt_irrefl, if_false] at hg
      have HR2 := hid (show _ from (HR.out.set k (.int .u8 ((1 + (k : Int)) % 256))).congr (g := fun j => if j < k + 1 then bw mkb j else h j) (fun i _ => by
        by_cases e : i = k
        · subst e; simp [bw, mkb]
        · by_cases e2 : i < k
          · simp [e, e2, show i < k + 1 by omega]
          · simp [e, e2, show ¬ i < k + 1 by omega]))
      have HC2 := hid (HC.out.setCell (p := ⟨g, k, none⟩) (fun _ => rfl) (.int .u8 ((1 + (k : Int)) % 256)))
      go_wp2
      go_roundw
      case rel => exact ⟨k + 1, by omega, by go_num, by go_num, HR2, HC2⟩
      case measure => simp [intOf]; omega
    · obtain rfl : k = n := by omega
      go_wp2
      go_ret
      exact ⟨rfl, HR.out.congr (fun i hi => by simp [hi]), HC.out⟩

set_option maxHeartbeats 1000000 in
theorem markByteS_none (c : Option Addr) (cap : Nat) (w : World) :
    Calls Try.prog 18 #[.slice c 0 cap, .int .i64 1] w fun e w' => e = .returned (.int .i64 1) ∧ Chg nob w w' := by
  go_enter Try.func18, Try.ntmps18
  go_wp2
  go_loopw [1, 5] (fun v i W => i = .int .i64 0 ∧ v = .int .i64 1 ∧ Hid (Chg nob w W)) (fun _ _ _ => 0)
  case atStart => exact ⟨rfl, rfl, hid (Chg.refl _ _)⟩
  case round =>
    obtain ⟨rfl, rfl, HC⟩ := hrel
    go_wp2
    go_ret
    exact ⟨rfl, HC.out⟩

set_option maxHeartbeats 1000000 in
theorem heldByteS_any (c : Option Addr) (n cap : Nat) (w : World) (h : Hid (RowV w c n (bw mkb))) (hn : n ≤ 1099511627776) :
    Calls Try.prog 19 #[.slice c n cap, .int .i64 1] w fun e w' => e = .returned (.int .i64 (1 + n)) ∧ Chg nob w w' := by
  go_enter Try.func19, Try.ntmps19
  go_wp2
  go_loopw [1, 5] (fun v i W => ∃ k : Nat, k ≤ n ∧ i = .int .i64 k ∧ v = .int .i64 (1 + k) ∧ Hid (Chg nob w W)) (fun _ i _ => n - (intOf i).toNat)
  case atStart => exact ⟨0, Nat.zero_le _, rfl, rfl, hid (Chg.refl _ _)⟩
  case round =>
    obtain ⟨k, hk, rfl, rfl, HC⟩ := hrel
    by_cases hlt : k < n
    · obtain ⟨xb, xo, rfl, hxb, hcell⟩ := (h.out.keep HC.out) k hlt
      have hx : _ = some (Value.int .u8 ((1 + (k : Int)) % 256)) := hcell
      clear hcell
      go_wp2
      go_roundw
      case rel => exact ⟨k + 1, by omega, by go_num, by go_num, HC⟩
      case measure => simp [intOf]; omega
    · obtain rfl : k = n := by omega
      go_wp2
      go_ret
      exact ⟨rfl, HC.out⟩

/-- The numbers that markExtS writes, cell by cell. -/
def mkc (i : Nat) : Value := .int .i64 (1 + (i : Int))

set_option maxHeartbeats 1000000 in
theorem markExtS_any (g n cap : Nat) (h : Nat → Value) (w : World) (hr : Hid (w.rowIs g 38 (n * 2) h)) (hn : n ≤ 1099511627776) :
    Calls Try.prog 60 #[.slice (some ⟨g, 0, none⟩) n cap, .int .i64 1] w fun e w' => e = .returned (.int .i64 (1 + 2 * n)) ∧ w'.rowIs g 38 (n * 2) mkc ∧ Chg (fun b => b = g) w w' := by
  go_enter Try.func60, Try.ntmps60
  go_wp2
  go_loopw [1, 5] (fun v i W => ∃ k : Nat, k ≤ n ∧ i = .int .i64 k ∧ v = .int .i64 (1 + 2 * k) ∧ Hid (W.rowIs g 38 (n * 2) (fun j => if j < k * 2 then mkc j else h j)) ∧ Hid (Chg (fun b => b = g) w W)) (fun _ i _ => n - (intOf i).toNat)
  case atStart => exact ⟨0, Nat.zero_le _, rfl, rfl, hid (hr.out.congr (fun i _ => by simp)), hid (Chg.refl _ _)⟩
  case round =>
    obtain ⟨k, hk, rfl, rfl, HR, HC⟩ := hrel
    by_cases hlt : k < n
    · have hg0 := HR.out.cell (i := k * 2) (by omega)
      have hg1 := HR.out.cell (i := k * 2 + 1) (by omega)
      have hf0 := HR.out.frozen (k * 2)
      have hf1 := HR.out.frozen (k * 2 + 1)
      simp only [Nat.lt_irrefl, if_false] at hg0
      simp only [show ¬ k * 2 + 1 < k * 2 by omega, if_false] at hg1
      have HR2 := hid (show _ from ((HR.out.set (k * 2) (.int .i64 (1 + 2 * (k : Int)))).set (k * 2 + 1) (.int .i64 (1 + 2 * (k : Int) + 1))).congr (g := fun j => if j < (k + 1) * 2 then mkc j else h j) (fun i _ => by
        by_cases e : i = k * 2 + 1
        · subst e; simp [mkc, show k * 2 + 1 < (k + 1) * 2 by omega]; omega
        · by_cases e1 : i = k * 2
          · subst e1; simp [mkc, show k * 2 < (k + 1) * 2 by omega]; omega
          · by_cases e2 : i < k * 2
            · simp [e, e1, e2, show i < (k + 1) * 2 by omega]
            · simp [e, e1, e2, show ¬ i < (k + 1) * 2 by omega]))
      have HC2 := hid ((HC.out.setCell (p := ⟨g, k * 2, none⟩) (fun _ => rfl) (.int .i64 (1 + 2 * (k : Int)))).setCell (p := ⟨g, k * 2 + 1, none⟩) (fun _ => rfl) (.int .i64 (1 + 2 * (k : Int) + 1)))
      go_wp2
      go_roundw
      case rel => exact ⟨k + 1, by omega, by go_num, by go_num, HR2, HC2⟩
      case measure => simp [intOf]; omega
    · obtain rfl : k = n := by omega
      go_wp2
      go_ret
      exact ⟨rfl, HR.out.congr (fun i hi => by simp [hi]), HC.out⟩

theorem extBytes_no (c : Option Addr) (n cap : Nat) (f g : Nat → Int) (w : World) (h : Calls Try.prog 59 #[.slice c n cap] w fun e w' => EAns w n f g e w') (hb : bc f g n ≠ 0) :
    Calls Try.prog 59 #[.slice c n cap] w fun e w' => NoBytes w (bc f g n) e w' := by
  refine h.mono ?_
  rintro e w' (⟨_, h⟩ | ⟨h0, _⟩)
  · exact h
  · exact absurd h0 hb
theorem extBytes_yes (c : Option Addr) (n cap : Nat) (f g : Nat → Int) (w : World) (h : Calls Try.prog 59 #[.slice c n cap] w fun e w' => EAns w n f g e w') (hb : bc f g n = 0) :
    Calls Try.prog 59 #[.slice c n cap] w fun e w' => NewBytes w n f g e w' := by
  refine h.mono ?_
  rintro e w' (⟨h0, _⟩ | ⟨_, h⟩)
  · exact absurd hb h0
  · exact h

end Go.Proofs.Ytnpmhfhgnnhclar
