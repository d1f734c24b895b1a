/- What a drawn number of the field, and a number drawn by place, come to: in range, and nothing that was there has turned. Conditions: a code that can be read. -/
import Derived.Test.YtbjhppamolmpeaaSrc
namespace Go.Proofs.Ytbjhppamolmpeaa
open Go.ChangeShapes Go.WideShapes Go.ChangeAt Go.RowKit

/-- A slice of bytes that can be read. -/
def Bytes (w : World) (c : Option Addr) (len : Nat) : Prop :=
  ∀ i, i < len → ∃ (xb xo : Nat) (z : Int), c = some ⟨xb, xo, none⟩ ∧ xb < w.heap.size ∧ w.cell? ⟨xb, xo + i, none⟩ = some (.int .u8 z) ∧ 0 ≤ z ∧ z ≤ 255
theorem bytes_of_row {w : World} {a : Option Addr} {len cap : Nat} {zs : List Int}
    (h : (a = none ∧ len = 0 ∧ cap = 0 ∧ zs = []) ∨ ∃ x, a = some x ∧ len ≤ cap ∧ cap ≤ maxLen ∧ zs.length = cap ∧ (∀ i, i < zs.length → w.cell? (x.add i) = some (.int .u8 (zs.getD i 0))) ∧ ∀ n ∈ zs, (Lit.int .u8 n).wf = true) :
    Bytes w a len ∧ (len : Int) ≤ 9223372036854775807 := by
  rcases h with ⟨rfl, rfl, rfl, rfl⟩ | ⟨x, rfl, hl, hm, hz, hc, hw⟩
  · exact ⟨fun i hi => by omega, by omega⟩
  · unfold maxLen at hm
    refine ⟨fun i hi => ?_, by omega⟩
    obtain ⟨b, o, rfl, hc'⟩ := ints_at hc (by omega)
    have hcell := hc' i (by omega)
    have hb := range_u8 hw i
    exact ⟨b, o, _, rfl, block_lt_of_cell hcell, hcell, hb.1, hb.2⟩
theorem Bytes.below {w w' : World} {a : Option Addr} {len : Nat} (h : Bytes w a len) (hb : Below w.heap.size w w') : Bytes w' a len := by
  intro i hi
  obtain ⟨xb, xo, z, e, l, cz, z0, z1⟩ := h i hi
  exact ⟨xb, xo, z, e, Nat.lt_of_lt_of_le l hb.size, by rw [hb.cell l, cz], z0, z1⟩
/-- A number of lo to hi; nothing that was there has turned. -/
def Num (lo hi : Int) (w : World) (e : Ending) (w' : World) : Prop := ∃ r : Int, e = .returned (.int .i64 r) ∧ lo ≤ r ∧ r ≤ hi ∧ Below w.heap.size w w'
/-- A new source. -/
def NewSrc (w : World) (e : Ending) (w' : World) : Prop := e = .returned (.pointer (some ⟨w.heap.size, 0, none⟩)) ∧ Src 0 w' w.heap.size ∧ Below w.heap.size w w'

theorem src_new (c : Option Addr) (len cap : Nat) (seed : Int) (T : TypeId) (w : World) (h : Bytes w c len) (hl : (len : Int) ≤ 9223372036854775807) (s0 : 0 ≤ seed) (s1 : seed < 2147483648) :
    Src 0 (w.alloc (.cells #[.slice c len cap, .int .i64 0, .int .i64 seed] T)) w.heap.size := by
  refine ⟨c, len, cap, 0, seed, by go_simp, by go_simp, by go_simp, by go_simp, by go_simp, by simp, Nat.le_refl _, s0, s1, hl, ?_⟩
  intro i hi
  obtain ⟨xb, xo, z, e, l, cz, z0, z1⟩ := h i hi
  refine ⟨xb, xo, z, e, l, ?_, z0, z1⟩
  rw [← cz]
  exact ((Below.refl w.heap.size w).alloc (Nat.le_refl _) _).cell l

set_option maxHeartbeats 1000000 in
theorem l00Source_any (c : Option Addr) (len cap : Nat) (w : World) (h : Bytes w c len) (hl : (len : Int) ≤ 9223372036854775807) :
    Calls Try.prog 43 #[.slice c len cap] w fun e w' => NewSrc w e w' := by
  have H := hide h
  clear h
  go_enter Try.func43, Try.ntmps43
  go_wp2
  go_ret
  exact ⟨rfl, src_new c len cap _ _ w H.out hl (by omega) (by omega), (Below.refl _ _).alloc (Nat.le_refl _) _⟩

set_option maxHeartbeats 1000000 in
theorem at_any (c : Option Addr) (len cap : Nat) (i n : Int) (w : World) (h : Bytes w c len) (hl : (len : Int) ≤ 9223372036854775807) (i0 : 0 ≤ i) (i1 : i ≤ 1000000) (n1 : 1 < n) (n2 : n ≤ 1000000000) :
    Calls Try.prog 17 #[.slice c len cap, .int .i64 i, .int .i64 n] w fun e w' => Num 0 (n - 1) w e w' := by
  have n3 : ¬ n ≤ 1 := by omega
  by_cases hz : len = 0
  · have hz' : ((len : Int) == 0) = true := by simp [hz]
    have hm := emod_bd (i * 7) n n1
    clear h
    go_enter Try.func17, Try.ntmps17
    go_wp2
    go_ret
    exact ⟨_, rfl, hm.1, hm.2, Below.refl _ _⟩
  · have hz' : ((len : Int) == 0) = false := by simp [hz]
    have hp : 0 < (len : Int) := by omega
    have hm1 : 0 ≤ i % (len : Int) := Int.emod_nonneg _ (by omega)
    have hm2 : i % (len : Int) < len := Int.emod_lt_of_pos _ hp
    have hm3 : 0 ≤ (i + 1) % (len : Int) := Int.emod_nonneg _ (by omega)
    have hm4 : (i + 1) % (len : Int) < len := Int.emod_lt_of_pos _ hp
    obtain ⟨xb, xo, z, rfl, l, cz, z0, z1⟩ := h (i % (len : Int)).toNat (by omega)
    obtain ⟨xb', xo', z', e, l', cz', z0', z1'⟩ := h ((i + 1) % (len : Int)).toNat (by omega)
    obtain ⟨rfl, rfl⟩ : xb = xb' ∧ xo = xo' := by simpa using e
    clear h e
    have hd0 : 0 ≤ i / (len : Int) := Int.ediv_nonneg i0 (by omega)
    have hd1 : i / (len : Int) ≤ 1000000 := by
      have := Int.ediv_le_self (len : Int) i0
      omega
    go_enter Try.func17, Try.ntmps17
    go_wp2
    go_quiet (fail)
    go_wp2
    go_ret
    have hm := emod_bd (z * 31 + z' + i / (len : Int)) n n1
    exact ⟨_, rfl, hm.1, hm.2, below_drewN (Below.refl _ _) _⟩
end Go.Proofs.Ytbjhppamolmpeaa
