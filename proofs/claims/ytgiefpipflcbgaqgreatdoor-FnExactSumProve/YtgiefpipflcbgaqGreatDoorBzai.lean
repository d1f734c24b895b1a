/- Several texts in one: Lists of lists of elements that a call made: what marks leave, what is held. No condition but those that each theorem states. · Bits of places, plain: what the language's 'and' and 'xor' of a place and a power of two come to; a table on the way to its coefficients. No program is named here. · What the looks at tables and at points answer, of the program and of the model: contracts. Conditions: rows that can be read, lengths of at most 2 to the 40. · The answers of the calls on tables, plain: codes, lengths, values. No condition but those that each theorem states. · What the model's bound tables answer: contracts. Conditions: rows that can be read, lengths of at most 2 to the 40. -/
import Derived.Test.YtgiefpipflcbgaqGreatDoorBzag
import Derived.Test.YtgiefpipflcbgaqGreatDoorBzab
import Derived.Test.YtgiefpipflcbgaqGreatDoorBzaf
import Derived.Deep.AppendLies
namespace Go.Proofs.YtgiefpipflcbgaqGreatDoor
open Go.ChangeShapes Go.WideShapes Go.ChangeAt Go.RowKit
set_option linter.unusedVariables false
set_option maxRecDepth 100000
set_option linter.unusedSimpArgs false

/-- n lists of m elements each, list i in block H i, all blocks other ones, none below B. -/
structure OwnSS (w : World) (B : Nat) (c : Option Addr) (n m : Nat) (H C : Nat → Nat) (f g : Nat → Nat → Int) : Prop where
  top : ∀ i, i < n → ∃ xb xo : Nat, c = some ⟨xb, xo, none⟩ ∧ B ≤ xb ∧ xb < w.heap.size ∧ w.cell? ⟨xb, xo + i, none⟩ = some (.slice (some ⟨H i, 0, none⟩) m (C i)) ∧ ∀ j, j < n → xb ≠ H j
  inn : ∀ i, i < n → OwnE w B (some ⟨H i, 0, none⟩) m (f i) (g i)
  dis : ∀ i j, i < n → j < n → i ≠ j → H i ≠ H j
namespace OwnSS
variable {w w' : World} {B : Nat} {c : Option Addr} {n m : Nat} {H C : Nat → Nat} {f g : Nat → Nat → Int}
theorem chg {P : Nat → Prop} (h : OwnSS w B c n m H C f g) (k : Chg P w w') (ht : ∀ xb xo, c = some ⟨xb, xo, none⟩ → 0 < n → B ≤ xb → xb < w.heap.size → ¬ P xb) (hi : ∀ i, i < n → ¬ P (H i)) : OwnSS w' B c n m H C f g := by
  refine ⟨fun i hn => ?_, fun i hn => (h.inn i hn).chg k (fun b _ e => by cases e; exact hi i hn), h.dis⟩
  obtain ⟨xb, xo, e, hb, hl, hc, ha⟩ := h.top i hn
  exact ⟨xb, xo, e, hb, Nat.lt_of_lt_of_le hl k.size, by rw [k.cell (p := ⟨xb, xo + i, none⟩) hl (ht xb xo e (by omega) hb hl)]; exact hc, ha⟩
theorem keep (h : OwnSS w B c n m H C f g) (k : Chg nob w w') : OwnSS w' B c n m H C f g := h.chg k (fun _ _ _ _ _ _ x => x) (fun _ _ x => x)
theorem low {B' : Nat} (h : OwnSS w B c n m H C f g) (hB : B' ≤ B) : OwnSS w B' c n m H C f g := by
  refine ⟨fun i hn => ?_, fun i hn => (h.inn i hn).low hB, h.dis⟩
  obtain ⟨xb, xo, e, hb, r⟩ := h.top i hn
  exact ⟨xb, xo, e, Nat.le_trans hB hb, r⟩
theorem rows (h : OwnSS w B c n m H C f g) : RowsV w c n (fun i => some ⟨H i, 0, none⟩) (fun _ => m) C f g := by
  intro i hn
  obtain ⟨xb, xo, e, hb, hl, hc, ha⟩ := h.top i hn
  exact ⟨xb, xo, e, hl, hc, (h.inn i hn).pairs⟩
theorem nil (w : World) (B : Nat) (c : Option Addr) (m : Nat) (H C : Nat → Nat) (f g : Nat → Nat → Int) : OwnSS w B c 0 m H C f g :=
  ⟨fun i hi => absurd hi (by omega), fun i hi => absurd hi (by omega), fun i j hi => absurd hi (by omega)⟩
theorem congr {f' g' : Nat → Nat → Int} (h : OwnSS w B c n m H C f g) (e : ∀ i, i < n → f i = f' i ∧ g i = g' i) : OwnSS w B c n m H C f' g' :=
  ⟨h.top, fun i hi => by rw [← (e i hi).1, ← (e i hi).2]; exact h.inn i hi, h.dis⟩
/-- A list's block lies above B. -/
theorem above (h : OwnSS w B c n m H C f g) (hm : 1 ≤ m) (i : Nat) (hi : i < n) : B ≤ H i ∧ H i < w.heap.size := by
  rcases h.inn i hi with h0 | ⟨b, N, h', e, hB, hr, _⟩
  · omega
  · cases e
    exact ⟨hB, hr.lt⟩
end OwnSS
/-- Marks of list i. -/
def mkA (q : Int) (m i : Nat) : Nat → Int := mka (q + 2 * ((i * m : Nat) : Int))
def mkD (q : Int) (m i : Nat) : Nat → Int := mkd (q + 2 * ((i * m : Nat) : Int))

set_option maxHeartbeats 2000000 in
theorem markOS_own (B : Nat) (c : Option Addr) (n cap m : Nat) (H C : Nat → Nat) (f g : Nat → Nat → Int) (q : Int) (w : World) (h : Hid (OwnSS w B c n m H C f g)) (hn : n ≤ 4096) (hm : m ≤ 4096) (q0 : 0 ≤ q) (q1 : q ≤ 1073741824) :
    Calls Tryz.prog 14 #[.slice c n cap, .int .i64 q] w fun e w' => e = .returned (.int .i64 (q + 2 * ((n * m : Nat) : Int))) ∧ OwnSS w' B c n m H C (mkA q m) (mkD q m) ∧ Chg (Mks H n) w w' := by
  go_enter Tryz.func14, Tryz.ntmps14
  go_wp2
  go_loopw [1, 5] (fun v i W => ∃ (k : Nat), k ≤ n ∧ i = .int .i64 (k : Int) ∧ v = .int .i64 (q + 2 * ((k * m : Nat) : Int)) ∧ Hid (OwnSS W B c n m H C (fun i => if i < k then mkA q m i else f i) (fun i => if i < k then mkD q m i else g i)) ∧ Hid (Chg (Mks H n) w W)) (fun _ i _ => n - (intOf i).toNat)
  case atStart => exact ⟨0, Nat.zero_le _, rfl, by simp, hik (h.out.congr (fun i _ => ⟨by simp, by simp⟩)), hik (Chg.refl _ _)⟩
  case round =>
    obtain ⟨k, hk, rfl, rfl, HO, HG⟩ := hrel
    rename World => wi
    by_cases hlt : k < n
    · have hk1 : (k : Int) < (n : Int) := by omega
      have hk0 : (0 : Int) ≤ (k : Int) := by omega
      have hkm : k * m ≤ 4096 * 4096 := Nat.mul_le_mul (by omega) hm
      obtain ⟨p, hp⟩ : ∃ p, p = k * m := ⟨_, rfl⟩
      have HP := hik hp
      rw [← hp] at hkm ⊢
      clear hp
      have hst := hik (show q + 2 * (p : Int) + 2 * (m : Int) = q + 2 * (((k + 1) * m : Nat) : Int) by rw [Nat.succ_mul, ← HP.out]; omega)
      have hq2 : 0 ≤ q + 2 * (p : Int) := by omega
      have hq3 : q + 2 * (p : Int) ≤ 1099511627776 := by omega
      obtain ⟨xb, xo, ec, hB, hxb, hc, hap⟩ := HO.out.top k hlt
      subst ec
      have hr := hik (HO.out.inn k hlt)
      have HAP := hik hap
      clear hap
      go_wp2_with fail
      refine (markExtS_own B (some ⟨H k, 0, none⟩) m (C k) _ _ (q + 2 * (p : Int)) _ hr (by omega) hq2 hq3).mono ?_
      rintro e W1 ⟨rfl, o1, k1⟩
      have kG : Chg (fun x => x = H k) wi W1 := k1.mono (fun i _ m => by have e2 := m.2.1; cases e2; rfl)
      have HO1 : Hid (OwnSS W1 B (some ⟨xb, xo, none⟩) n m H C (fun i => if i < k + 1 then mkA q m i else f i) (fun i => if i < k + 1 then mkD q m i else g i)) := hik (by
        refine ⟨fun i hi => ?_, fun i hi => ?_, HO.out.dis⟩
        · obtain ⟨xb', xo', e, hb, hl, hcc, ha⟩ := HO.out.top i hi
          cases e
          exact ⟨xb, xo, rfl, hb, Nat.lt_of_lt_of_le hl kG.size, by rw [kG.cell (p := ⟨xb, xo + i, none⟩) hl (HAP.out k hlt)]; exact hcc, ha⟩
        · by_cases e : i = k
          · subst e
            simp only [show i < i + 1 by omega, if_true]
            unfold mkA mkD
            rw [← HP.out]
            exact o1
          · have q2 := (HO.out.inn i hi).chg kG (fun b' _ ec => by
              cases ec
              exact HO.out.dis i k hi hlt e)
            by_cases e2 : i < k
            · simp only [show i < k + 1 by omega, if_true]
              simp only [e2, if_true] at q2
              exact q2
            · simp only [show ¬ i < k + 1 by omega, if_false]
              simp only [e2, if_false] at q2
              exact q2)
      have HG1 := hik (HG.out.trans (kG.mono (fun i _ e => ⟨k, hlt, e⟩)))
      clear o1 k1 kG HO HG hc hr HAP
      rw [hst.out]
      go_wp2
      go_roundw
      case rel => exact ⟨k + 1, by omega, by go_num, rfl, HO1, HG1⟩
      case measure => simp [intOf]; omega
    · obtain rfl : k = n := by omega
      go_wp2
      go_ret
      exact ⟨rfl, HO.out.congr (fun i hi => ⟨by simp [hi], by simp [hi]⟩), HG.out⟩

set_option maxHeartbeats 2000000 in
theorem heldOS_own (c : Option Addr) (n cap m : Nat) (A : Nat → Option Addr) (C : Nat → Nat) (q : Int) (w : World) (h : Hid (RowsV w c n A (fun _ => m) C (mkA q m) (mkD q m))) (hn : n ≤ 4096) (hm : m ≤ 4096) (q0 : 0 ≤ q) (q1 : q ≤ 1073741824) :
    Calls Tryz.prog 17 #[.slice c n cap, .int .i64 q] w fun e w' => e = .returned (.int .i64 (q + 2 * ((n * m : Nat) : Int))) ∧ Chg nob w w' := by
  go_enter Tryz.func17, Tryz.ntmps17
  go_wp2
  go_loopw [1, 5] (fun v i W => ∃ (k : Nat), k ≤ n ∧ i = .int .i64 (k : Int) ∧ v = .int .i64 (q + 2 * ((k * m : Nat) : Int)) ∧ Hid (Chg nob w W)) (fun _ i _ => n - (intOf i).toNat)
  case atStart => exact ⟨0, Nat.zero_le _, rfl, by simp, hik (Chg.refl _ _)⟩
  case round =>
    obtain ⟨k, hk, rfl, rfl, HG⟩ := hrel
    rename World => wi
    by_cases hlt : k < n
    · have hk1 : (k : Int) < (n : Int) := by omega
      have hk0 : (0 : Int) ≤ (k : Int) := by omega
      have hkm : k * m ≤ 4096 * 4096 := Nat.mul_le_mul (by omega) hm
      obtain ⟨xb, xo, ec, hxb, hc, hp⟩ := (RowsV.keep h.out HG.out) k hlt
      subst ec
      have HPV := hik (show PairV wi (A k) m (mka (q + 2 * ((k * m : Nat) : Int))) (mkd (q + 2 * ((k * m : Nat) : Int))) from hp)
      clear hp
      obtain ⟨p, hpp⟩ : ∃ p, p = k * m := ⟨_, rfl⟩
      have HP := hik hpp
      rw [← hpp] at hkm HPV ⊢
      clear hpp
      have hst := hik (show q + 2 * (p : Int) + 2 * (m : Int) = q + 2 * (((k + 1) * m : Nat) : Int) by rw [Nat.succ_mul, ← HP.out]; omega)
      have hq2 : 0 ≤ q + 2 * (p : Int) := by omega
      have hq3 : q + 2 * (p : Int) ≤ 1099511627776 := by omega
      have hq4 : ¬ q + 2 * (p : Int) + 2 * (m : Int) < 0 := by omega
      go_wp2_with fail
      refine (heldExtS_own (A k) m (C k) (q + 2 * (p : Int)) _ HPV (by omega) hq2 hq3).mono ?_
      rintro e W1 ⟨rfl, k1⟩
      have HG1 := hik (HG.out.trans k1)
      clear k1 HG hc
      go_wp2
      go_roundw
      case rel => exact ⟨k + 1, by omega, by go_num, by rw [hst.out], HG1⟩
      case measure => simp [intOf]; omega
    · obtain rfl : k = n := by omega
      go_wp2
      go_ret
      exact ⟨rfl, HG.out⟩

end Go.Proofs.YtgiefpipflcbgaqGreatDoor

namespace Go.Proofs.YtgiefpipflcbgaqGreatDoor
set_option linter.unusedVariables false
set_option linter.unusedSimpArgs false

theorem pow_le6 {n : Nat} (h : n ≤ 6) : 2 ^ n ≤ 64 := Nat.le_trans (Nat.pow_le_pow_right (by omega) h) (by decide)
def andOK (i j : Nat) : Bool := bits .and .i64 (i : Int) ((2 ^ j : Nat) : Int) == (if i.testBit j then ((2 ^ j : Nat) : Int) else 0)
def xorOK (i j : Nat) : Bool := bits .xor .i64 (i : Int) ((2 ^ j : Nat) : Int) == ((i ^^^ 2 ^ j : Nat) : Int)
theorem andOK_all : ((List.range 64).all fun i => (List.range 6).all fun j => andOK i j) = true := by kernel_rfl
theorem xorOK_all : ((List.range 64).all fun i => (List.range 6).all fun j => xorOK i j) = true := by kernel_rfl
theorem andOK_at {i j : Nat} (hi : i < 64) (hj : j < 6) : andOK i j = true := by
  have h := List.all_eq_true.1 andOK_all i (List.mem_range.2 hi)
  exact List.all_eq_true.1 h j (List.mem_range.2 hj)
theorem xorOK_at {i j : Nat} (hi : i < 64) (hj : j < 6) : xorOK i j = true := by
  have h := List.all_eq_true.1 xorOK_all i (List.mem_range.2 hi)
  exact List.all_eq_true.1 h j (List.mem_range.2 hj)
theorem and_bit0 {i j : Nat} (hi : i < 64) (hj : j < 6) (h : i.testBit j = false) : bits .and .i64 (i : Int) ((2 ^ j : Nat) : Int) = 0 := by
  have e := andOK_at hi hj
  unfold andOK at e
  rw [h] at e
  simpa using e
theorem and_bit1 {i j : Nat} (hi : i < 64) (hj : j < 6) (h : i.testBit j = true) : bits .and .i64 (i : Int) ((2 ^ j : Nat) : Int) = ((2 ^ j : Nat) : Int) := by
  have e := andOK_at hi hj
  unfold andOK at e
  rw [h] at e
  exact eq_of_beq e
theorem xor_bit {i j : Nat} (hi : i < 64) (hj : j < 6) : bits .xor .i64 (i : Int) ((2 ^ j : Nat) : Int) = ((i ^^^ 2 ^ j : Nat) : Int) := eq_of_beq (xorOK_at hi hj)
theorem shl_pow {m : Nat} (h : m ≤ 6) : IntKind.i64.wrap (2 ^ m) = ((2 ^ m : Nat) : Int) := by
  have := pow_le6 h
  rw [IntKind.wrap_i64]
  have e : ((2 : Int) ^ m) = ((2 ^ m : Nat) : Int) := by simp
  rw [e]
  generalize 2 ^ m = q at this ⊢
  omega
def shrOK (k j : Nat) : Bool := bits .and .i64 ((k : Int) / 2 ^ j) 1 == (El.bitE k j).v.1
theorem shrOK_all : ((List.range 64).all fun i => (List.range 6).all fun j => shrOK i j) = true := by kernel_rfl
theorem shr_bit {k j : Nat} (hk : k < 64) (hj : j < 6) : bits .and .i64 ((k : Int) / 2 ^ j) 1 = (El.bitE k j).v.1 :=
  eq_of_beq (List.all_eq_true.1 (List.all_eq_true.1 shrOK_all k (List.mem_range.2 hk)) j (List.mem_range.2 hj))
theorem bitE_b (k j : Nat) : (El.bitE k j).v.2 = 0 := by unfold El.bitE; cases k.testBit j <;> rfl
theorem bit_le {k j : Nat} (h : k.testBit j = true) : 2 ^ j ≤ k := Nat.ge_two_pow_of_testBit h
def subOK (i j : Nat) : Bool := !i.testBit j || (i ^^^ 2 ^ j == i - 2 ^ j)
theorem subOK_all : ((List.range 64).all fun i => (List.range 6).all fun j => subOK i j) = true := by kernel_rfl
theorem flip_sub {k j : Nat} (hk : k < 64) (hj : j < 6) (h : k.testBit j = true) : k ^^^ 2 ^ j = k - 2 ^ j := by
  have e := List.all_eq_true.1 (List.all_eq_true.1 subOK_all k (List.mem_range.2 hk)) j (List.mem_range.2 hj)
  unfold subOK at e
  rw [h] at e
  simpa using e
/-- A pass half done: the first k places. -/
def stK (back : Bool) (j : Nat) (t : Nat → El) (k i : Nat) : El := if i < k then El.stp back j t i else t i
theorem stp_flip (back : Bool) (t : Nat → El) {k j : Nat} (h : k.testBit j = true) : El.stp back j t (k ^^^ 2 ^ j) = t (k ^^^ 2 ^ j) := by
  unfold El.stp
  rw [El.flip_at, h]
  rfl
theorem stK_skip (back : Bool) {t : Nat → El} {k j : Nat} (h : k.testBit j = false) (i : Nat) : stK back j t k i = stK back j t (k + 1) i := by
  unfold stK
  by_cases e : i = k
  · subst e
    rw [if_neg (by omega), if_pos (by omega), El.stp, h]
    rfl
  · by_cases h2 : i < k
    · rw [if_pos h2, if_pos (by omega)]
    · rw [if_neg h2, if_neg (by omega)]
theorem stK_step (back : Bool) (t : Nat → El) {k j : Nat} (h : k.testBit j = true) (i : Nat) : upE (stK back j t k) k (if back then El.ad (t k) (t (k ^^^ 2 ^ j)) else El.sb (t k) (t (k ^^^ 2 ^ j))) i = stK back j t (k + 1) i := by
  unfold upE stK
  by_cases e : i = k
  · subst e
    rw [if_pos rfl, if_pos (Nat.lt_succ_self i), El.stp, h]
    rfl
  · rw [if_neg e]
    by_cases h2 : i < k
    · rw [if_pos h2, if_pos (by omega)]
    · rw [if_neg h2, if_neg (by omega)]
theorem stK_all (back : Bool) {t T : Nat → El} {n j N i : Nat} (hT : ∀ i, i < 2 ^ n → T i = El.cfs back t j i) (hj : j < n) (hi : i < 2 ^ n) (hN : 2 ^ n = N) : stK back j T N i = El.cfs back t (j + 1) i := by
  unfold stK
  rw [if_pos (by omega), El.cfs, El.stp, El.stp, hT i hi, hT _ (El.flip_lt hi hj)]

end Go.Proofs.YtgiefpipflcbgaqGreatDoor

namespace Go.Proofs.YtgiefpipflcbgaqGreatDoor
open Go.ChangeShapes Go.WideShapes Go.ChangeAt Go.RowKit
set_option linter.unusedVariables false
set_option maxRecDepth 100000
set_option linter.unusedSimpArgs false

/-- 1, 2, 4 to 64. -/
def p6 (n : Nat) : Bool := (List.range 7).any fun j => decide (n = 2 ^ j)
theorem p6_yes {n j : Nat} (hj : j ≤ 6) (h : n = 2 ^ j) : p6 n = true := by
  unfold p6
  rw [List.any_eq_true]
  exact ⟨j, by simp; omega, by simpa using h⟩
theorem p6_no {n : Nat} (h : ∀ j, j < 7 → ¬ n = 2 ^ j) : p6 n = false := by
  unfold p6
  rw [List.any_eq_false]
  intro j hj
  simp at hj
  simpa using h j hj
theorem p6_ex {n : Nat} (h : p6 n = true) : ∃ j, j ≤ 6 ∧ n = 2 ^ j := by
  unfold p6 at h
  rw [List.any_eq_true] at h
  obtain ⟨j, hj, hn⟩ := h
  simp at hj
  exact ⟨j, by omega, by simpa using hn⟩
theorem p6_high {n : Nat} (h : 64 < n) : p6 n = false := by
  cases hp : p6 n
  · rfl
  · obtain ⟨j, hj, hn⟩ := p6_ex hp
    have := pow_le6 hj
    omega
theorem p6_zero : p6 0 = false := by decide
theorem p6_bits : ∀ m : Nat, m < 65 → 1 ≤ m → (bits .and .i64 (m : Int) ((m : Int) - 1) == 0) = p6 m := by decide +kernel
/-- What the program's look at powers of two answers. -/
def q2 (n : Nat) : Bool := decide (1 ≤ n) && (bits .and .i64 (n : Int) ((n : Int) - 1) == 0)
theorem q2_p6 {n : Nat} (h : n ≤ 64) : q2 n = p6 n := by
  unfold q2
  by_cases h0 : 1 ≤ n
  · rw [p6_bits n (by omega) h0, decide_eq_true h0]; rfl
  · obtain rfl : n = 0 := by omega
    rfl
/-- A right table. -/
def tok (f g : Nat → Int) (n : Nat) : Bool := p6 n && okP f g n
/-- A right point. -/
def pok (f g : Nat → Int) (n : Nat) : Bool := decide (n ≤ 6) && okP f g n
theorem tok_p6 {f g : Nat → Int} {n : Nat} (h : tok f g n = true) : p6 n = true ∧ okP f g n = true := by unfold tok at h; simpa using h
theorem pok_le {f g : Nat → Int} {n : Nat} (h : pok f g n = true) : n ≤ 6 ∧ okP f g n = true := by unfold pok at h; simpa using h

set_option maxHeartbeats 1000000 in
theorem isPow_any (n : Nat) (w : World) (hn : n ≤ 1099511627776) : Calls Tryz.prog 83 #[.int .i64 (n : Int)] w fun e w' => e = .returned (.bool (q2 n)) ∧ w' = w := by
  by_cases h0 : 1 ≤ n
  · have h1 : 1 ≤ (n : Int) := by omega
    obtain ⟨b, hb⟩ : ∃ b, b = (bits .and .i64 (n : Int) ((n : Int) - 1) == 0) := ⟨_, rfl⟩
    have HQ := hik (show q2 n = b by unfold q2; rw [decide_eq_true h0, ← hb]; rfl)
    have v1 : IntKind.i64.wrap ((n : Int) - 1) = (n : Int) - 1 := by rw [IntKind.wrap_i64]; omega
    have hb' := hb.symm
    clear hb
    rw [HQ.out]
    cases b
    · go_enter Tryz.func83, Tryz.ntmps83
      go_wp2
      go_ret
      exact ⟨rfl, rfl⟩
    · go_enter Tryz.func83, Tryz.ntmps83
      go_wp2
      go_ret
      exact ⟨rfl, rfl⟩
  · obtain rfl : n = 0 := by omega
    go_enter Tryz.func83, Tryz.ntmps83
    go_wp2
    go_ret
    exact ⟨rfl, rfl⟩

set_option maxHeartbeats 1000000 in
theorem tableOK_any (c : Option Addr) (n cap : Nat) (f g : Nat → Int) (w : World) (h : Hid (PairV w c n f g)) (hn : n ≤ 1099511627776) :
    Calls Tryz.prog 54 #[.slice c n cap] w fun e w' => e = .returned (.bool (tok f g n)) ∧ Chg nob w w' := by
  by_cases h64 : n ≤ 64
  · have e64 : (n : Int) ≤ 64 := by omega
    have hq := q2_p6 h64
    cases hp : p6 n
    · have HT := hik (show tok f g n = false by unfold tok; rw [hp]; rfl)
      rw [hp] at hq
      go_enter Tryz.func54, Tryz.ntmps54
      go_wp2_with (go_at_call 83; refine (isPow_any n _ hn).mono ?_; rintro e W1 ⟨he, rfl⟩; rw [hq] at he; subst he)
      go_ret
      exact ⟨by rw [HT.out]; rfl, Chg.refl _ _⟩
    · have HT := hik (show tok f g n = okP f g n by unfold tok; rw [hp]; rfl)
      rw [hp] at hq
      go_enter Tryz.func54, Tryz.ntmps54
      go_wp2_with (first | (go_at_call 83; refine (isPow_any n _ hn).mono ?_; rintro e W1 ⟨he, rfl⟩; rw [hq] at he; subst he) | (go_at_call 56; refine (extsOK_any c n cap f g _ h hn).mono ?_; rintro e W2 ⟨rfl, k2⟩; have K2 := hik k2; clear k2))
      go_ret
      exact ⟨by rw [HT.out]; rfl, K2.out⟩
  · have HT := hik (show tok f g n = false by unfold tok; rw [p6_high (by omega)]; rfl)
    have e64 : ¬ (n : Int) ≤ 64 := by omega
    cases hq : q2 n
    · go_enter Tryz.func54, Tryz.ntmps54
      go_wp2_with (go_at_call 83; refine (isPow_any n _ hn).mono ?_; rintro e W1 ⟨he, rfl⟩; rw [hq] at he; subst he)
      go_ret
      exact ⟨by rw [HT.out]; rfl, Chg.refl _ _⟩
    · go_enter Tryz.func54, Tryz.ntmps54
      go_wp2_with (go_at_call 83; refine (isPow_any n _ hn).mono ?_; rintro e W1 ⟨he, rfl⟩; rw [hq] at he; subst he)
      go_ret
      exact ⟨by rw [HT.out]; rfl, Chg.refl _ _⟩

set_option maxHeartbeats 1000000 in
theorem sPow6_any (n : Nat) (w : World) : Calls Tryz.prog 103 #[.int .i64 (n : Int), .int .i64 64] w fun e w' => e = .returned (.bool (p6 n)) ∧ w' = w := by
  go_enter Tryz.func103, Tryz.ntmps103
  go_wp2
  go_loop [5] (fun v => ∃ j q : Nat, j ≤ 7 ∧ v = .int .i64 (q : Int) ∧ Hid (q = 2 ^ j) ∧ Hid (∀ i, i < j → ¬ n = 2 ^ i)) (fun v => 600 - (intOf v).toNat)
  case atStart => exact ⟨0, 1, by omega, rfl, hik rfl, hik (fun i hi => absurd hi (by omega))⟩
  case round =>
    obtain ⟨j, q, hj, rfl, HQ, HN⟩ := hrel
    by_cases hjt : j ≤ 6
    · have q1 : q ≤ 64 := by have := pow_le6 hjt; have := HQ.out; omega
      have q0 : 1 ≤ q := by rw [HQ.out]; exact Nat.one_le_two_pow
      have q1' : (q : Int) ≤ 64 := by omega
      by_cases hn : n = q
      · have HP := hik (p6_yes (n := n) hjt (by rw [hn, HQ.out]))
        have hb : ((n : Int) == (q : Int)) = true := by rw [hn]; simp
        have HNN := hik hn
        clear hn
        go_wp2
        go_ret
        exact ⟨ret_of (congrArg Value.bool HP.out.symm), rfl⟩
      · have hb : ((n : Int) == (q : Int)) = false := by
          have : ¬ (n : Int) = (q : Int) := by omega
          simpa using this
        go_wp2
        go_round
        case rel => exact ⟨j + 1, q * 2, by omega, by go_num, hik (by rw [Nat.pow_succ, HQ.out]), hik (fun i hi => by
          by_cases e : i = j
          · subst e; rw [← HQ.out]; exact hn
          · exact HN.out i (by omega))⟩
        case measure => simp [intOf]; omega
    · obtain rfl : j = 7 := by omega
      have hq : q = 128 := HQ.out
      subst hq
      have HP := hik (p6_no (n := n) HN.out)
      go_wp2
      go_ret
      exact ⟨ret_of (congrArg Value.bool HP.out.symm), rfl⟩

set_option maxHeartbeats 1000000 in
theorem sTab_any (n : Nat) (w : World) : Calls Tryz.prog 74 #[.int .i64 (n : Int)] w fun e w' => e = .returned (.bool (p6 n)) ∧ w' = w := by
  go_enter Tryz.func74, Tryz.ntmps74
  go_wp2_with fail
  refine (sPow6_any n _).mono ?_
  rintro e W1 ⟨rfl, rfl⟩
  go_wp2
  go_ret
  exact ⟨rfl, rfl⟩

set_option maxHeartbeats 1000000 in
theorem sTableOK_any (c : Option Addr) (n cap : Nat) (f g : Nat → Int) (w : World) (h : Hid (PairV w c n f g)) (hn : n ≤ 1099511627776) :
    Calls Tryz.prog 48 #[.slice c n cap] w fun e w' => e = .returned (.bool (tok f g n)) ∧ Chg nob w w' := by
  by_cases hl : 4096 < n
  · have hl' : 4096 < (n : Int) := by omega
    have HT := hik (show tok f g n = false by unfold tok; rw [p6_high (by omega)]; rfl)
    go_enter Tryz.func48, Tryz.ntmps48
    go_wp2
    go_ret
    exact ⟨by rw [HT.out]; rfl, Chg.refl _ _⟩
  · have hl' : ¬ 4096 < (n : Int) := by omega
    cases hp : p6 n
    · have HT := hik (show tok f g n = false by unfold tok; rw [hp]; rfl)
      go_enter Tryz.func48, Tryz.ntmps48
      go_wp2_with (go_at_call 74; refine (sTab_any n _).mono ?_; rintro e W1 ⟨he, rfl⟩; rw [hp] at he; subst he)
      go_ret
      exact ⟨by rw [HT.out]; rfl, Chg.refl _ _⟩
    · have HT := hik (show tok f g n = okP f g n by unfold tok; rw [hp]; rfl)
      go_enter Tryz.func48, Tryz.ntmps48
      go_wp2_with (first | (go_at_call 74; refine (sTab_any n _).mono ?_; rintro e W1 ⟨he, rfl⟩; rw [hp] at he; subst he) | (go_at_call 49; refine (l02List_any c n cap f g _ h hn).mono ?_; rintro e W2 ⟨rfl, k2⟩; have K2 := hik k2; clear k2))
      go_ret
      exact ⟨by rw [HT.out]; rfl, K2.out⟩

end Go.Proofs.YtgiefpipflcbgaqGreatDoor

namespace Go.Proofs.YtgiefpipflcbgaqGreatDoor
open Go.ChangeShapes Go.WideShapes Go.ChangeAt Go.RowKit
set_option linter.unusedVariables false
set_option linter.unusedSimpArgs false

/-- A slice of elements of a call's own, or none, and a code. -/
def TbC (w : World) (code : Int) (m : Nat) (t : Nat → El) (e : Ending) (w' : World) : Prop :=
  ∃ (c : Option Addr) (cap : Nat), e = .returned (.tuple #[.slice c m cap, .int .i64 code]) ∧ m ≤ cap ∧ (cap : Int) ≤ 9223372036854775807 ∧ OwnE w' w.heap.size c m (cA t) (cB t) ∧ Chg nob w w'
theorem TbC.none {w w' : World} {code k : Int} {m : Nat} {t : Nat → El} (hc : code = k) (hm : m = 0) (kk : Chg nob w w') : TbC w code m t (.returned (.tuple #[.slice .none 0 0, .int .i64 k])) w' := by
  subst hc; subst hm
  exact ⟨.none, 0, rfl, Nat.le_refl _, by omega, OwnE.zero, kk⟩
theorem TbC.some {w w' : World} {code : Int} {m n cap : Nat} {c : Option Addr} {t : Nat → El} (hc : code = 0) (hm : m = n) (h1 : n ≤ cap) (h2 : (cap : Int) ≤ 9223372036854775807) (ho : OwnE w' w.heap.size c n (cA t) (cB t)) (kk : Chg nob w w') : TbC w code m t (.returned (.tuple #[.slice c n cap, .int .i64 0])) w' := by
  subst hc; subst hm
  exact ⟨c, cap, rfl, h1, h2, ho, kk⟩
/-- An empty slice that lies somewhere. -/
theorem TbC.empty {w w' : World} {code k : Int} {m : Nat} {c : Option Addr} {cap : Nat} {t : Nat → El} (hc : code = k) (hm : m = 0) (h2 : (cap : Int) ≤ 9223372036854775807) (kk : Chg nob w w') : TbC w code m t (.returned (.tuple #[.slice c 0 cap, .int .i64 k])) w' := by
  subst hc; subst hm
  exact ⟨c, cap, rfl, Nat.zero_le _, h2, OwnE.zero, kk⟩
/-- EqTable's. -/
def eqc (f g : Nat → Int) (n : Nat) : Int := if 4096 < n then 2 else if pok f g n then 0 else 1
def eqm (f g : Nat → Int) (n : Nat) : Nat := if eqc f g n = 0 then 2 ^ n else 0
def eqt (f g : Nat → Int) (n : Nat) : Nat → El := El.eqp (elF f g) n
/-- CoefsOf's and TableOf's. -/
def l2 (n : Nat) : Nat := ((List.range 7).find? fun j => decide (n = 2 ^ j)).getD 0
theorem l2_all : ((List.range 7).all fun j => decide (l2 (2 ^ j) = j)) = true := by decide +kernel
theorem l2_pow {j : Nat} (h : j ≤ 6) : l2 (2 ^ j) = j := by simpa using List.all_eq_true.1 l2_all j (by simp; omega)
def tbc (f g : Nat → Int) (n : Nat) : Int := if 4096 < n then 2 else if tok f g n then 0 else 1
def tbm (f g : Nat → Int) (n : Nat) : Nat := if tbc f g n = 0 then n else 0
def cft (back : Bool) (f g : Nat → Int) (n : Nat) : Nat → El := El.cfs back (elF f g) (l2 n)
/-- FoldTable's. -/
def flc (f g : Nat → Int) (n : Nat) (a b : Int) : Int := if 4096 < n then 2 else if tok f g n && eok a b then (if n = 1 then 8 else 0) else 1
def flm (f g : Nat → Int) (n : Nat) (a b : Int) : Nat := if flc f g n a b = 0 then n / 2 else 0
def flt (f g : Nat → Int) (a b : Int) : Nat → El := El.fldE (elF f g) (elP a b)
/-- EqAt's. -/
def eac (f g : Nat → Int) (n : Nat) (f' g' : Nat → Int) (m : Nat) : Int := if 4096 < n ∨ 4096 < m then 2 else if pok f g n && pok f' g' m then (if n = m then 0 else 8) else 1
def eav (f g : Nat → Int) (n : Nat) (f' g' : Nat → Int) (m : Nat) : El := if eac f g n f' g' m = 0 then El.eqa (elF f g) (elF f' g') n else El.zr
/-- TableAt's. -/
def tac (f g : Nat → Int) (n : Nat) (f' g' : Nat → Int) (m : Nat) : Int := if 4096 < n ∨ 4096 < m then 2 else if tok f g n && pok f' g' m then (if n = 2 ^ m then 0 else 8) else 1
def tav (f g : Nat → Int) (n : Nat) (f' g' : Nat → Int) (m : Nat) : El := if tac f g n f' g' m = 0 then El.tat (elF f g) (elF f' g') m else El.zr
/-- Coefficients hang on the table alone. -/
theorem cfs_congr (back : Bool) {t u : Nat → El} {n : Nat} (h : ∀ i, i < 2 ^ n → t i = u i) : ∀ m, m ≤ n → ∀ i, i < 2 ^ n → El.cfs back t m i = El.cfs back u m i := by
  intro m
  induction m with
  | zero => intro _ i hi; exact h i hi
  | succ m ih =>
    intro hm i hi
    rw [El.cfs, El.cfs, El.stp, El.stp, ih (by omega) i hi, ih (by omega) _ (El.flip_lt hi (by omega))]

end Go.Proofs.YtgiefpipflcbgaqGreatDoor

namespace Go.Proofs.YtgiefpipflcbgaqGreatDoor
open Go.ChangeShapes Go.WideShapes Go.ChangeAt Go.RowKit
set_option linter.unusedVariables false
set_option maxRecDepth 100000
set_option linter.unusedSimpArgs false

theorem flKeep {w w' : World} {B : Nat} {t : TypeId} {z : Nat} {v : Value} {n : Nat} {xs : List Value} (h : w.ownsRow B t z v n xs) (k : Chg nob w w') : w'.ownsRow B t z v n xs :=
  h.kept (row := none) ⟨k.os, k.tape, k.output, k.size, fun i hi _ => k.block i hi (fun x => x)⟩ (by cases e : v.ownBlock <;> simp)
theorem flNone (w : World) (B : Nat) (t : TypeId) (z : Nat) (hB : B ≤ w.heap.size) : (w.alloc (.cells #[] t)).ownsRow B t z (.slice (some ⟨w.heap.size, 0, none⟩) 0 0) 0 [] :=
  ⟨by simp, .inr ⟨w.heap.size, 0, #[], rfl, hB, Array.getElem?_push_size, Nat.le_refl _, Nat.zero_le _, by simp, by simp⟩⟩
theorem flNews (W : World) (a b : Int) (T : TypeId) : ∀ j u, ([.int .i64 a, .int .i64 b] : List Value)[j]? = some u → (W.alloc (.cells #[.int .i64 a, .int .i64 b] T)).cell? ((⟨W.heap.size, 0, none⟩ : Addr).add j) = some u := by
  intro j u hj
  match j, hj with
  | 0, hj => simp at hj; subst hj; simp [Addr.add]
  | 1, hj => simp at hj; subst hj; simp [Addr.add]
  | j + 2, hj => simp at hj
theorem flOne (a b : Int) : ∀ u ∈ ([.int .i64 a, .int .i64 b] : List Value), u.oneCell' = true := by
  intro u hu
  simp at hu
  rcases hu with rfl | rfl <;> rfl
theorem flPair (f g : Nat → Int) (k : Nat) : (List.range (k * 2)).map (pf f g) ++ [.int .i64 (f k), .int .i64 (g k)] = (List.range ((k + 1) * 2)).map (pf f g) := by
  rw [show (k + 1) * 2 = k * 2 + 1 + 1 by omega, List.range_succ, List.range_succ]
  simp [pf_even, pf_odd]
/-- A row of a call's own as a slice. -/
theorem SlAns.of_owns {w w' : World} {B n : Nat} {v : Value} {t : Nat → El} (ho : w'.ownsRow B 45 2 v n ((List.range (n * 2)).map (pf (cA t) (cB t)))) (hB : w.heap.size ≤ B) (k : Chg nob w w') : SlAns w n t (.returned v) w' := by
  rcases ho.2 with ⟨rfl, rfl⟩ | ⟨b, cp, cur, ev, _, _, hl, hm, _⟩
  · exact ⟨none, 0, rfl, Nat.le_refl _, by omega, .inl rfl, k⟩
  · obtain ⟨c', cap', e', hle, h⟩ := OwnE.of_owns ho
    rw [e'] at ev
    simp at ev
    obtain ⟨rfl, rfl⟩ := ev
    exact ⟨_, _, by rw [e'], hle, by unfold maxLen at hm; omega, OwnE.low h hB, k⟩

set_option maxHeartbeats 4000000 in
theorem sFold_any (c : Option Addr) (N cap m : Nat) (hN : N = 2 * m) (hm : m ≤ 32) (t : Nat → El) (r : El) (w : World) (h : Hid (PairE w c N t)) : Calls Tryz.prog 82 #[.slice c N cap, .agg #[.int .i64 r.v.1, .int .i64 r.v.2]] w fun e w' => SlAns w m (El.fldE t r) e w' := by
  obtain ⟨i0, hi, hz0, hz1, hz2⟩ := info_parts infoExt
  have HI := hik hi
  have HZ0 := hik hz0
  have HZ1 := hik hz1
  have HZ2 := hik hz2
  clear hi hz0 hz1 hz2
  have HN := hik hN
  have hN64 : N ≤ 64 := by omega
  clear hN
  go_enter Tryz.func82, Tryz.ntmps82
  go_wp2
  go_loopw [5, 6] (fun v i W => ∃ k : Nat, k ≤ m ∧ i = .int .i64 ((2 * k : Nat) : Int) ∧ Hid (W.ownsRow (w.heap.size + 1) 45 2 v k ((List.range (k * 2)).map (pf (cA (El.fldE t r)) (cB (El.fldE t r))))) ∧ Hid (Chg nob (w.alloc (.cells #[.int .i64 r.v.1, .int .i64 r.v.2] 45)) W)) (fun _ i _ => N - (intOf i).toNat)
  case atStart => exact ⟨0, Nat.zero_le _, rfl, hik (by simpa using flNone (w.alloc (.cells #[.int .i64 r.v.1, .int .i64 r.v.2] 45)) (w.heap.size + 1) 45 2 (by simp)), hik ((Chg.refl _ _).alloc _)⟩
  case round =>
    obtain ⟨k, hk, rfl, HW, HG⟩ := hrel
    rename World => wi
    by_cases hlt : k < m
    · obtain ⟨q, hq⟩ : ∃ q, q = 2 * k := ⟨_, rfl⟩
      obtain ⟨p, hp⟩ : ∃ p, p = q + 1 := ⟨_, rfl⟩
      rw [← hq]
      have HQ := hik hq
      have HP := hik hp
      have hqN : q < N := by have := HN.out; omega
      have hpN : p < N := by have := HN.out; omega
      have hq1 : (q : Int) < (N : Int) := by omega
      have hq0 : (0 : Int) ≤ (q : Int) := by omega
      have hp1 : (p : Int) < (N : Int) := by omega
      have hp0 : (0 : Int) ≤ (p : Int) := by omega
      have hwp : IntKind.i64.wrap ((q : Int) + 1) = (p : Int) := by rw [IntKind.wrap_i64]; omega
      obtain ⟨xb, xo, ec, hxb, _, _⟩ := PairE.at_ h.out hqN
      subst ec
      have U := hik (PairE.keep h.out ((Chg.refl nob w).alloc (.cells #[.int .i64 r.v.1, .int .i64 r.v.2] 45)))
      have x0 := PairE.c0 U.out hqN
      have x1 := PairE.c1 U.out hqN
      have y0 := PairE.c0 U.out hpN
      have y1 := PairE.c1 U.out hpN
      have r0 := (ElB.new w r).c0
      have r1 := (ElB.new w r).c1
      have hsz := HG.out.size
      have hsz' : w.heap.size + 1 ≤ wi.heap.size := by simpa using hsz
      clear hq hp hsz
      go_wp2
      have KD := hik ((Chg.refl nob wi).drew1)
      have KW := hik (HG.out.drew1)
      have SA := hik (fun (WW : World) (kW : Chg nob (w.alloc (.cells #[.int .i64 r.v.1, .int .i64 r.v.2] 45)) WW) => (show (WW.cell? ⟨xb, xo + q * 2, none⟩ = some (.int .i64 (t q).v.1) ∧ WW.cell? ⟨xb, xo + q * 2 + 1, none⟩ = some (.int .i64 (t q).v.2) ∧ WW.cell? ⟨xb, xo + p * 2, none⟩ = some (.int .i64 (t p).v.1) ∧ WW.cell? ⟨xb, xo + p * 2 + 1, none⟩ = some (.int .i64 (t p).v.2) ∧ WW.cell? ⟨w.heap.size, 0, none⟩ = some (.int .i64 r.v.1) ∧ WW.cell? ⟨w.heap.size, 1, none⟩ = some (.int .i64 r.v.2)) from ⟨kW.see x0, kW.see x1, kW.see y0, kW.see y1, kW.see r0, kW.see r1⟩))
      refine wp_region_held_drew (S := fun w' => w'.cell? ⟨xb, xo + q * 2, none⟩ = some (.int .i64 (t q).v.1) ∧ w'.cell? ⟨xb, xo + q * 2 + 1, none⟩ = some (.int .i64 (t q).v.2) ∧ w'.cell? ⟨xb, xo + p * 2, none⟩ = some (.int .i64 (t p).v.1) ∧ w'.cell? ⟨xb, xo + p * 2 + 1, none⟩ = some (.int .i64 (t p).v.2) ∧ w'.cell? ⟨w.heap.size, 0, none⟩ = some (.int .i64 r.v.1) ∧ w'.cell? ⟨w.heap.size, 1, none⟩ = some (.int .i64 r.v.2)) (by kernel_rfl) (SA.out _ KW.out) (fun hHeld => ?_)
      refine wpAnyH_take (i := 0) (v := ?_) rfl (by kernel_rfl) (by kernel_rfl) (by kernel_rfl) (fun _ _ _ h => h) (Or.inl ⟨by rfl, ?_⟩) (by assumption) ?_
      rotate_left 1
      · (intro w' hSw; (try dsimp only at hSw); go_simp; try with_reducible rfl)
      try simp only [Act.put, List.setIfInBounds_toArray, List.set_cons_zero, List.set_cons_succ, List.getElem_toArray, List.getElem_cons_zero, List.getElem_cons_succ]
      refine wpAnyH_take (i := 1) (v := ?_) rfl (by kernel_rfl) (by kernel_rfl) (by kernel_rfl) (fun _ _ _ h => h) (Or.inl ⟨by rfl, ?_⟩) (by assumption) ?_
      rotate_left 1
      · (intro w' hSw; (try dsimp only at hSw); go_simp; try with_reducible rfl)
      try simp only [Act.put, List.setIfInBounds_toArray, List.set_cons_zero, List.set_cons_succ, List.getElem_toArray, List.getElem_cons_zero, List.getElem_cons_succ]
      refine wpAnyH_take (i := 2) (v := ?_) rfl (by kernel_rfl) (by kernel_rfl) (by kernel_rfl) (fun _ _ _ h => h) (Or.inl ⟨by rfl, ?_⟩) (by assumption) ?_
      rotate_left 1
      · (intro w' hSw; (try dsimp only at hSw); go_simp; try with_reducible rfl)
      try simp only [Act.put, List.setIfInBounds_toArray, List.set_cons_zero, List.set_cons_succ, List.getElem_toArray, List.getElem_cons_zero, List.getElem_cons_succ]
      refine wpAnyH_take (i := 3) (v := ?_) rfl (by kernel_rfl) (by kernel_rfl) (by kernel_rfl) (fun _ _ _ h => h) (Or.inl ⟨by rfl, ?_⟩) (by assumption) ?_
      rotate_left 1
      · (intro w' hSw; (try dsimp only at hSw); go_simp; try with_reducible rfl)
      try simp only [Act.put, List.setIfInBounds_toArray, List.set_cons_zero, List.set_cons_succ, List.getElem_toArray, List.getElem_cons_zero, List.getElem_cons_succ]
      refine wpAnyH_take (i := 4) (v := ?_) rfl (by kernel_rfl) (by kernel_rfl) (by kernel_rfl) (fun _ _ _ h => h) (Or.inl ⟨by rfl, ?_⟩) (by assumption) ?_
      rotate_left 1
      · (intro w' hSw; (try dsimp only at hSw); go_simp; try with_reducible rfl)
      try simp only [Act.put, List.setIfInBounds_toArray, List.set_cons_zero, List.set_cons_succ, List.getElem_toArray, List.getElem_cons_zero, List.getElem_cons_succ]
      refine wpAnyH_take (i := 5) (v := ?_) rfl (by kernel_rfl) (by kernel_rfl) (by kernel_rfl) (fun _ _ _ h => h) (Or.inl ⟨by rfl, ?_⟩) (by assumption) ?_
      rotate_left 1
      · (intro w' hSw; (try dsimp only at hSw); go_simp; try with_reducible rfl)
      try simp only [Act.put, List.setIfInBounds_toArray, List.set_cons_zero, List.set_cons_succ, List.getElem_toArray, List.getElem_cons_zero, List.getElem_cons_succ]
      refine wpAnyH_take (i := 6) (v := ?_) rfl (by kernel_rfl) (by kernel_rfl) (by kernel_rfl) (fun _ _ _ h => h) (Or.inl ⟨by rfl, ?_⟩) (by assumption) ?_
      rotate_left 1
      · (intro w' hSw; (try dsimp only at hSw); go_simp; try with_reducible rfl)
      try simp only [Act.put, List.setIfInBounds_toArray, List.set_cons_zero, List.set_cons_succ, List.getElem_toArray, List.getElem_cons_zero, List.getElem_cons_succ]
      refine wpAnyH_take (i := 7) (v := ?_) rfl (by kernel_rfl) (by kernel_rfl) (by kernel_rfl) (fun _ _ _ h => h) (Or.inl ⟨by rfl, ?_⟩) (by assumption) ?_
      rotate_left 1
      · (intro w' hSw; (try dsimp only at hSw); go_simp; try with_reducible rfl)
      try simp only [Act.put, List.setIfInBounds_toArray, List.set_cons_zero, List.set_cons_succ, List.getElem_toArray, List.getElem_cons_zero, List.getElem_cons_succ]
      refine wpAnyH_take (i := 8) (v := .int .i64 (p : Int)) rfl (by kernel_rfl) (by kernel_rfl) (by kernel_rfl) (fun _ _ _ h => h) (Or.inl ⟨by rfl, ?_⟩) (by assumption) ?_
      · (intro w' hSw; (try dsimp only at hSw); go_simp; first | done | exact hwp)
      try simp only [Act.put, List.setIfInBounds_toArray, List.set_cons_zero, List.set_cons_succ, List.getElem_toArray, List.getElem_cons_zero, List.getElem_cons_succ]
      refine wpAnyH_take (i := 9) (v := ?_) rfl (by kernel_rfl) (by kernel_rfl) (by kernel_rfl) (fun _ _ _ h => h) (Or.inl ⟨by rfl, ?_⟩) (by assumption) ?_
      rotate_left 1
      · (intro w' hSw; (try dsimp only at hSw); go_simp; try with_reducible rfl)
      try simp only [Act.put, List.setIfInBounds_toArray, List.set_cons_zero, List.set_cons_succ, List.getElem_toArray, List.getElem_cons_zero, List.getElem_cons_succ]
      refine wpAnyH_take (i := 10) (v := ?_) rfl (by kernel_rfl) (by kernel_rfl) (by kernel_rfl) (fun _ _ _ h => h) (Or.inl ⟨by rfl, ?_⟩) (by assumption) ?_
      rotate_left 1
      · (intro w' hSw; (try dsimp only at hSw); go_simp; try with_reducible rfl)
      try simp only [Act.put, List.setIfInBounds_toArray, List.set_cons_zero, List.set_cons_succ, List.getElem_toArray, List.getElem_cons_zero, List.getElem_cons_succ]
      refine wpAnyH_take (i := 11) (v := ?_) rfl (by kernel_rfl) (by kernel_rfl) (by kernel_rfl) (fun _ _ _ h => h) (Or.inl ⟨by rfl, ?_⟩) (by assumption) ?_
      rotate_left 1
      · (intro w' hSw; (try dsimp only at hSw); go_simp; try with_reducible rfl)
      try simp only [Act.put, List.setIfInBounds_toArray, List.set_cons_zero, List.set_cons_succ, List.getElem_toArray, List.getElem_cons_zero, List.getElem_cons_succ]
      refine wpAnyH_take (i := 12) (v := ?_) rfl (by kernel_rfl) (by kernel_rfl) (by kernel_rfl) (fun _ _ _ h => h) (Or.inl ⟨by rfl, ?_⟩) (by assumption) ?_
      rotate_left 1
      · (intro w' hSw; (try dsimp only at hSw); go_simp; try with_reducible rfl)
      try simp only [Act.put, List.setIfInBounds_toArray, List.set_cons_zero, List.set_cons_succ, List.getElem_toArray, List.getElem_cons_zero, List.getElem_cons_succ]
      refine wpAnyH_take (i := 13) (v := ?_) rfl (by kernel_rfl) (by kernel_rfl) (by kernel_rfl) (fun _ _ _ h => h) (Or.inl ⟨by rfl, ?_⟩) (by assumption) ?_
      rotate_left 1
      · (intro w' hSw; (try dsimp only at hSw); go_simp; try with_reducible rfl)
      try simp only [Act.put, List.setIfInBounds_toArray, List.set_cons_zero, List.set_cons_succ, List.getElem_toArray, List.getElem_cons_zero, List.getElem_cons_succ]
      refine wpAnyH_take (i := 14) (v := ?_) rfl (by kernel_rfl) (by kernel_rfl) (by kernel_rfl) (fun _ _ _ h => h) (Or.inl ⟨by rfl, ?_⟩) (by assumption) ?_
      rotate_left 1
      · (intro w' hSw; (try dsimp only at hSw); go_simp; try with_reducible rfl)
      try simp only [Act.put, List.setIfInBounds_toArray, List.set_cons_zero, List.set_cons_succ, List.getElem_toArray, List.getElem_cons_zero, List.getElem_cons_succ]
      refine wpAnyH_ready (rs := [15]) (by kernel_rfl) (by simp) ?_
      refine AllReadyH.cons rfl (fun K hK => ?_) AllReadyH.nil
      refine stepL_callN 93 #[.tmp 24, .tmp 28] #[45, 45] (by rfl) (by rfl) #[.agg #[.int .i64 (t p).v.1, .int .i64 (t p).v.2], .agg #[.int .i64 (t q).v.1, .int .i64 (t q).v.2]] (by simp only [List.map_toArray, List.map_cons, List.map_nil] <;> rfl) (run_go Tryz.func93 (by kernel_rfl) (by kernel_rfl) _ _) (sSb_el (t p) (t q) _) ?_
      rintro e U1 ⟨he, kk⟩
      replace HW := hik (flKeep HW.out (KD.out.trans kk))
      replace KD := hik (Chg.refl nob U1)
      refine ⟨_, he, ?_⟩
      replace KW := hik (KW.out.trans kk)
      refine hK.out _ _ (SA.out _ KW.out) (fun hHeld => ?_)
      clear hK K
      try simp only [Act.put, List.setIfInBounds_toArray, List.set_cons_zero, List.set_cons_succ, List.getElem_toArray, List.getElem_cons_zero, List.getElem_cons_succ]
      clear he kk
      refine wpAnyH_ready (rs := [16]) (by kernel_rfl) (by simp) ?_
      refine AllReadyH.cons rfl (fun K hK => ?_) AllReadyH.nil
      refine stepL_callN 92 #[.tmp 19, .tmp 29] #[45, 45] (by rfl) (by rfl) #[.agg #[.int .i64 r.v.1, .int .i64 r.v.2], .agg #[.int .i64 (El.sb (t p) (t q)).v.1, .int .i64 (El.sb (t p) (t q)).v.2]] (by simp only [List.map_toArray, List.map_cons, List.map_nil] <;> rfl) (run_go Tryz.func92 (by kernel_rfl) (by kernel_rfl) _ _) (sMl_el r (El.sb (t p) (t q)) _) ?_
      rintro e U2 ⟨he, kk⟩
      replace HW := hik (flKeep HW.out (KD.out.trans kk))
      replace KD := hik (Chg.refl nob U2)
      refine ⟨_, he, ?_⟩
      replace KW := hik (KW.out.trans kk)
      refine hK.out _ _ (SA.out _ KW.out) (fun hHeld => ?_)
      clear hK K
      try simp only [Act.put, List.setIfInBounds_toArray, List.set_cons_zero, List.set_cons_succ, List.getElem_toArray, List.getElem_cons_zero, List.getElem_cons_succ]
      clear he kk
      refine wpAnyH_ready (rs := [17]) (by kernel_rfl) (by simp) ?_
      refine AllReadyH.cons rfl (fun K hK => ?_) AllReadyH.nil
      refine stepL_callN 64 #[.tmp 18, .tmp 30] #[45, 45] (by rfl) (by rfl) #[.agg #[.int .i64 (t q).v.1, .int .i64 (t q).v.2], .agg #[.int .i64 (El.ml r (El.sb (t p) (t q))).v.1, .int .i64 (El.ml r (El.sb (t p) (t q))).v.2]] (by simp only [List.map_toArray, List.map_cons, List.map_nil] <;> rfl) (run_go Tryz.func64 (by kernel_rfl) (by kernel_rfl) _ _) (sAd_el (t q) (El.ml r (El.sb (t p) (t q))) _) ?_
      rintro e U3 ⟨he, kk⟩
      replace HW := hik (flKeep HW.out (KD.out.trans kk))
      replace KD := hik (Chg.refl nob U3)
      refine ⟨_, he, ?_⟩
      replace KW := hik (KW.out.trans kk)
      refine hK.out _ _ (SA.out _ KW.out) (fun hHeld => ?_)
      clear hK K
      try simp only [Act.put, List.setIfInBounds_toArray, List.set_cons_zero, List.set_cons_succ, List.getElem_toArray, List.getElem_cons_zero, List.getElem_cons_succ]
      clear he kk
      refine wpAnyH_ready (rs := [18]) (by kernel_rfl) (by simp) ?_
      refine AllReadyH.cons rfl (fun K hK => ?_) AllReadyH.nil
      simp only [List.getElem_toArray, List.getElem_cons_zero, List.getElem_cons_succ]
      go_simp
      replace KW := hik (KW.out.alloc (.cells #[.int .i64 (El.ad (t q) (El.ml r (El.sb (t p) (t q)))).v.1, .int .i64 (El.ad (t q) (El.ml r (El.sb (t p) (t q)))).v.2] 45))
      refine hK.out _ _ (SA.out _ KW.out) (fun hHeld => ?_)
      clear hK K
      try simp only [Act.put, List.setIfInBounds_toArray, List.set_cons_zero, List.set_cons_succ, List.getElem_toArray, List.getElem_cons_zero, List.getElem_cons_succ]
      refine wpAnyH_ready (rs := [19]) (by kernel_rfl) (by simp) ?_
      refine AllReadyH.cons rfl (fun K hK => ?_) AllReadyH.nil
      refine step_append_lies _ (by rfl) (.tmp 14) (.tmp 32) 29 (by rfl) (w.heap.size + 1) 45 i0 (.agg #[.int .i64 0, .int .i64 0]) 2 16 Tryz.underlying29 HI.out HZ0.out HZ1.out HZ2.out rfl (by decide) _ k _ (by rfl) (HW.out.alloc _) ⟨_, 0, none⟩ 1 1 [.int .i64 (El.ad (t q) (El.ml r (El.sb (t p) (t q)))).v.1, .int .i64 (El.ad (t q) (El.ml r (El.sb (t p) (t q)))).v.2] (by rfl) rfl (flNews _ _ _ _) (flOne _ _) (by decide) (by unfold maxLen; omega) (by omega) (by have := KW.out.size; simp at this ⊢; omega) _ rfl ?_
      intro g6 cp6 w6 o6 hg6 hat6 hlt6
      replace KW : Hid (Chg nob (w.alloc (.cells #[.int .i64 r.v.1, .int .i64 r.v.2] 45)) w6) := hik (KW.out.grown hg6 (fun b e l => absurd (HW.out.lt b e).1 (by simp at l; omega)))
      have HO := hik o6
      clear o6 hg6 hat6 hlt6
      refine hK.out _ _ (SA.out _ KW.out) (fun hHeld => ?_)
      clear hK K
      try simp only [Act.put, List.setIfInBounds_toArray, List.set_cons_zero, List.set_cons_succ, List.getElem_toArray, List.getElem_cons_zero, List.getElem_cons_succ]
      refine wpAnyH_take (i := 20) (v := ?_) rfl (by kernel_rfl) (by kernel_rfl) (by kernel_rfl) (fun _ _ _ h => h) (Or.inl ⟨by rfl, ?_⟩) (by assumption) ?_
      rotate_left 1
      · (intro w' hSw; (try dsimp only at hSw); go_simp; try with_reducible rfl)
      try simp only [Act.put, List.setIfInBounds_toArray, List.set_cons_zero, List.set_cons_succ, List.getElem_toArray, List.getElem_cons_zero, List.getElem_cons_succ]
      refine wpAnyH_done (by kernel_rfl) ?_ _
      have HO2 : Hid (w6.ownsRow (w.heap.size + 1) 45 2 (.slice (some ⟨g6, 0, none⟩) (k + 1) cp6) (k + 1) ((List.range ((k + 1) * 2)).map (pf (cA (El.fldE t r)) (cB (El.fldE t r))))) := hik (by
        rw [← flPair]
        have eX : El.fldE t r k = (El.ad (t q) (El.ml r (El.sb (t p) (t q)))) := by rw [HP.out, HQ.out]; rfl
        have e1 : cA (El.fldE t r) k = (El.ad (t q) (El.ml r (El.sb (t p) (t q)))).v.1 := by unfold cA; rw [eX]
        have e2 : cB (El.fldE t r) k = (El.ad (t q) (El.ml r (El.sb (t p) (t q)))).v.2 := by unfold cB; rw [eX]
        rw [e1, e2]
        exact HO.out)
      clear HO HW SA hHeld x0 x1 y0 y1 r0 r1
      have KF := hik KW.out
      clear KW HG
      have hw2 : IntKind.i64.wrap ((q : Int) + 2) = ((2 * (k + 1) : Nat) : Int) := by rw [IntKind.wrap_i64]; have := HQ.out; omega
      have hlast : N - (2 * (k + 1)) < N - q := by have := HQ.out; omega
      go_wp2
      go_roundw
      case rel => exact ⟨k + 1, by omega, by first | rfl | (have := HQ.out; congr 1; omega) | go_num, HO2, KF⟩
      case measure => simp [intOf]; (try have := HQ.out); omega
    · obtain rfl : m = k := by omega
      have hNk : ¬ ((2 * m : Nat) : Int) < (N : Int) := by have := HN.out; omega
      go_wp2
      go_ret
      exact SlAns.of_owns HW.out (by omega) (((Chg.refl nob w).alloc _).trans HG.out)

end Go.Proofs.YtgiefpipflcbgaqGreatDoor
