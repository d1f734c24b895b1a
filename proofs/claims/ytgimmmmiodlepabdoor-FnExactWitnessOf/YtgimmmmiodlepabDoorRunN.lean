/- Gates' rows and their values: plain. -/
import Derived.Test.YtgimmmmiodlepabDoorRunM
import Derived.Test.YtgimmmmiodlepabDoorFermat
namespace Go.Proofs.YtgimmmmiodlepabDoor

theorem sq_bit {v : Int} (h0 : 0 ≤ v) (h1 : v < 2130706433) (h : v * v % 2130706433 = v) : v ≤ 1 := by
  obtain ⟨x, rfl⟩ : ∃ x : Nat, v = (x : Int) := ⟨v.toNat, by omega⟩
  have hn : x * x % 2130706433 = x := by
    have e : ((x * x % 2130706433 : Nat) : Int) = x := by rw [Int.natCast_emod, Int.natCast_mul]; exact h
    omega
  rcases Nat.lt_or_ge x 2 with q | q
  · omega
  exfalso
  have hc := Fld.coprime_of x (fun d => by have := Nat.le_of_dvd (by omega) d; omega)
  have hd : 2130706433 ∣ x * (x - 1) := by
    have e : x * (x - 1) = x * x - x := by rw [Nat.mul_sub, Nat.mul_one]
    rw [e]
    exact (Nat.dvd_iff_mod_eq_zero ..).2 (by
      have hx : x ≤ x * x := Nat.le_mul_of_pos_left x (by omega)
      have := Nat.div_add_mod (x * x) 2130706433
      rw [hn] at this
      have : x * x - x = 2130706433 * (x * x / 2130706433) := by omega
      rw [this]
      exact Nat.mul_mod_right _ _)
  have := hc.dvd_of_dvd_mul_left hd
  have := Nat.le_of_dvd (by omega) this
  omega
theorem md_lt {x : Int} (h : fnb x) : x % 2130706433 = x := Int.emod_eq_of_lt h.1 h.2
theorem tsm1 (V : Nat → Int) (x : Tm) : tsm V 1 (tl1 x) = (x.2 * V x.1.toNat) % 2130706433 := by
  show (0 + x.2 * V x.1.toNat) % 2130706433 = _
  rw [Int.zero_add]
theorem tsm_one (V : Nat → Int) : tsm (slt V) 1 one9 = 1 := by
  unfold one9
  rw [tsm1]
  rfl
theorem tsm_at (V : Nat → Int) {a : Int} (h0 : 0 ≤ a) (hf : fnb (V a.toNat)) : tsm (slt V) 1 (tl1 (a + 1, 1)) = V a.toNat := by
  rw [tsm1]
  show (1 * slt V (a + 1).toNat) % 2130706433 = _
  rw [slt_at V h0, Int.one_mul, md_lt hf]
theorem tsm2 (V : Nat → Int) {a b t : Int} (h0 : 0 ≤ a) (h1 : 0 ≤ b) (hf : fnb (V a.toNat)) : tsm (slt V) 2 (tl2 (a + 1, 1) (b + 1, t)) = (V a.toNat + t * V b.toNat) % 2130706433 := by
  show ((0 + 1 * slt V (a + 1).toNat) % 2130706433 + t * slt V (b + 1).toNat) % 2130706433 = _
  rw [slt_at V h0, slt_at V h1, Int.one_mul, Int.zero_add, md_lt hf]
/-- What gate k's values lean on is there. -/
structure Gk (G : Nat → Gt) (V : Nat → Int) (k : Nat) : Prop where
  g : gtb k (G k) = true
  v : ∀ j, j < k → fnb (V j)
theorem Gk.a {G : Nat → Gt} {V : Nat → Int} {k : Nat} (h : Gk G V k) (u : 4 ≤ (G k).1) : 0 ≤ (G k).2.1 ∧ fnb (V (G k).2.1.toNat) := by
  have := gtb_A h.g u
  exact ⟨this.1, h.v _ (by omega)⟩
theorem Gk.b {G : Nat → Gt} {V : Nat → Int} {k : Nat} (h : Gk G V k) (u : 4 ≤ (G k).1 ∧ (G k).1 ≤ 7) : 0 ≤ (G k).2.2.1 ∧ fnb (V (G k).2.2.1.toNat) := by
  have := gtb_B h.g u
  exact ⟨this.1, h.v _ (by omega)⟩
theorem mod_pl (x y : Int) : (x + 2130706432 * y) % 2130706433 = (x + 2130706433 - y) % 2130706433 := by
  have e : x + 2130706432 * y = x + 2130706433 - y + 2130706433 * (y - 1) := by omega
  rw [e, Int.add_mul_emod_self_left]
/-- The first row's value. -/
theorem rw_0 {G : Nat → Gt} {V : Nat → Int} {k : Nat} (h : Gk G V k) (P I : Nat → Int) (h3 : 3 ≤ (G k).1) (ft : ftk G V k = true) : rwv (slt V) (rwG (G k) 0) = rvk G P I k V := by
  have ho := gtb_op h.g
  unfold rvk rwG rwv
  rw [if_neg (show ¬ (G k).1 = 1 by omega), if_neg (show ¬ (G k).1 = 2 by omega)]
  by_cases e3 : (G k).1 = 3
  · rw [if_pos e3, if_pos e3]
    simp only
    rw [tsm_one, tsm1]
    show ((G k).2.2.2 * slt V 0) % 2130706433 * 1 % 2130706433 = _
    rw [show slt V 0 = 1 from rfl, Int.mul_one, Int.mul_one, md_lt (gtb_K h.g e3), md_lt (gtb_K h.g e3)]
  rw [if_neg e3, if_neg e3]
  have ha := h.a (by omega)
  by_cases e4 : (G k).1 = 4
  · have hb := h.b (by omega)
    rw [if_pos e4, if_pos e4]
    simp only
    rw [tsm_one, tsm2 V ha.1 hb.1 ha.2, Int.mul_one, Int.one_mul, Int.emod_emod]
  rw [if_neg e4, if_neg e4]
  by_cases e5 : (G k).1 = 5
  · have hb := h.b (by omega)
    rw [if_pos e5, if_pos e5]
    simp only
    rw [tsm_one, tsm2 V ha.1 hb.1 ha.2, Int.mul_one, Int.emod_emod, mod_pl]
  rw [if_neg e5, if_neg e5]
  by_cases e6 : (G k).1 = 6
  · have hb := h.b (by omega)
    rw [if_pos e6, if_pos e6]
    simp only
    rw [tsm_at V ha.1 ha.2, tsm_at V hb.1 hb.2]
  rw [if_neg e6, if_neg e6]
  by_cases e7 : (G k).1 = 7
  · have hb := h.b (by omega)
    rw [if_pos e7, if_pos rfl]
    simp only
    rw [tsm_one, tsm_at V hb.1 hb.2, Int.mul_one, md_lt hb.2]
    unfold ftk at ft
    rw [if_pos e7] at ft
    exact (of_decide_eq_true ft).symm
  · have e8 : (G k).1 = 8 := by omega
    rw [if_neg e7, if_pos rfl]
    simp only
    rw [tsm_at V ha.1 ha.2]
    unfold ftk at ft
    rw [if_neg e7, if_pos e8] at ft
    have l1 := of_decide_eq_true ft
    have := ha.2
    unfold fnb at this
    rcases (show V (G k).2.1.toNat = 0 ∨ V (G k).2.1.toNat = 1 by omega) with q | q <;> rw [q] <;> rfl
/-- The further rows have the first one's value just if what must be is. -/
theorem rw_1 {G : Nat → Gt} {V : Nat → Int} {k : Nat} (h : Gk G V k) (h7 : 7 ≤ (G k).1) : (rwv (slt V) (rwG (G k) 1) = rwv (slt V) (rwG (G k) 0)) ↔ ftk G V k = true := by
  have ho := gtb_op h.g
  have ha := h.a (by omega)
  unfold ftk rwG rwv
  simp only [if_neg (show ¬ (G k).1 = 3 by omega), if_neg (show ¬ (G k).1 = 4 by omega), if_neg (show ¬ (G k).1 = 5 by omega), if_neg (show ¬ (G k).1 = 6 by omega)]
  by_cases e7 : (G k).1 = 7
  · have hb := h.b (by omega)
    simp only [if_pos e7]
    rw [if_neg (show ¬ (1 : Nat) = 0 by omega), if_pos True.intro]
    simp only
    rw [tsm_one, tsm_at V hb.1 hb.2, tsm_at V ha.1 ha.2, Int.mul_one, Int.mul_one, md_lt ha.2, md_lt hb.2]
    simp
  · have e8 : (G k).1 = 8 := by omega
    simp only [if_neg e7, if_pos e8]
    rw [if_neg (show ¬ (1 : Nat) = 0 by omega), if_pos True.intro]
    simp only
    rw [tsm_one, tsm_at V ha.1 ha.2, Int.mul_one, md_lt ha.2]
    have hf := ha.2
    constructor
    · intro q; exact decide_eq_true (sq_bit hf.1 hf.2 q.symm)
    · intro q
      have l1 := of_decide_eq_true q
      unfold fnb at hf
      rcases (show V (G k).2.1.toNat = 0 ∨ V (G k).2.1.toNat = 1 by omega) with q | q <;> rw [q] <;> rfl
theorem ftk_low {G : Nat → Gt} {V : Nat → Int} {k : Nat} (h : ¬ 7 ≤ (G k).1) : ftk G V k = true := by
  unfold ftk
  rw [if_neg (by omega), if_neg (by omega)]
end Go.Proofs.YtgimmmmiodlepabDoor
