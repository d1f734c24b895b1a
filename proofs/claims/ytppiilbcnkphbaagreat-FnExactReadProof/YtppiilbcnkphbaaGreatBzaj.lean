/- Several texts in one: Bytes of texts, and what is converted: words and laws. No condition. · What the laws' helpers on slices of strings do: contracts. Conditions: rows that can be read, lengths of at most 2 to the 40. · What the laws' marks on slices of strings do: contracts. Conditions: rows that can be read (markStringS: and written), lengths of at most 2 to the 39. · Slices of texts that a call made, none or some: what they are, and the laws' mark on them: a contract. -/
import Derived.Test.YtppiilbcnkphbaaGreatRows
import Derived.Test.YtppiilbcnkphbaaGreatBzab
import Derived.WalkKit
import Derived.ProofKit
import Derived.OpenShut
import Derived.OwnWalk
import Derived.Laws.BytesArg
import Derived.Deep.QuietTactic
import Derived.BigQuiet
import Derived.Deep.RegionHeld3
namespace Go.Proofs.YtppiilbcnkphbaaGreat
open Go.ChangeShapes Go.WideShapes Go.ChangeAt Go.RowKit
set_option linter.unusedVariables false
set_option linter.unusedSimpArgs false

/-- Byte i of a string. -/
def zs (s : ByteArray) (i : Nat) : Int := ((s.data.toList[i]?.getD 0).toNat : Int)
/-- Bytes as values. -/
def bb (z : Nat → Int) (i : Nat) : Value := .int .u8 (z i)
/-- Numbers as a text. -/
def bt (z : Nat → Int) (n : Nat) : ByteArray := strOfNums ((List.range n).map z)
theorem bt_size (z : Nat → Int) (n : Nat) : (bt z n).size = n := by unfold bt; rw [strOfNums_size]; simp
theorem RowV.all {w : World} {c : Option Addr} {n : Nat} {f : Nat → Value} (h : RowV w c n f) (hn : 0 < n) : ∃ xb xo : Nat, c = some ⟨xb, xo, none⟩ ∧ xb < w.heap.size ∧ ∀ i, i < n → w.cell? ⟨xb, xo + i, none⟩ = some (f i) := by
  obtain ⟨xb, xo, e, l, _⟩ := h 0 hn
  refine ⟨xb, xo, e, l, fun i hi => ?_⟩
  obtain ⟨xb', xo', e', _, hc⟩ := h i hi
  rw [e] at e'
  obtain ⟨rfl, rfl⟩ : xb = xb' ∧ xo = xo' := by simpa using e'
  exact hc
theorem convB (c : Option Addr) (n cap : Nat) (z : Nat → Int) (w : World) (h : RowV w c n (bb z)) :
    (convert 22 9 (.slice c n cap)).run Tryz.prog w = .ok (.string (bt z n)) w := by
  by_cases hn : n = 0
  · subst hn
    cases c with
    | none =>
      rw [run_convert_bytes_nil w 22 5 Tryz.underlying22 Tryz.underlying5 0 cap 9 Tryz.underlying9]
      rfl
    | some a =>
      rw [run_convert_bytes_string w 22 9 5 _ 0 cap Tryz.underlying22 Tryz.underlying5 Tryz.underlying9, run_bytesToString w a 0 cap [] (by simp [loadCells, loadCellsFrom])]
      rfl
  · obtain ⟨xb, xo, rfl, hxb, hc⟩ := h.all (by omega)
    exact run_convert_bytes_arg w 22 5 Tryz.underlying22 Tryz.underlying5 xb xo n cap ((List.range n).map z) (by simp) (fun i hi => by rw [hc i hi]; simp [bb, List.getD, List.getElem?_map, List.getElem?_range hi]) 9 Tryz.underlying9


end Go.Proofs.YtppiilbcnkphbaaGreat

namespace Go.Proofs.YtppiilbcnkphbaaGreat
open Go.ChangeShapes Go.WideShapes Go.ChangeAt Go.RowKit
set_option linter.unusedVariables false
set_option maxRecDepth 100000
set_option linter.unusedSimpArgs false

/-- Texts as values. -/
def sb (L : Nat → ByteArray) (i : Nat) : Value := .string (L i)
/-- The empty text. -/
def es : Value := .string ⟨#[]⟩

set_option maxHeartbeats 1000000 in
theorem eqStringB_any (c d : Option Addr) (n m cap cap' : Nat) (L M : Nat → ByteArray) (w : World) (h : Hid (RowV w c n (sb L))) (h' : Hid (RowV w d m (sb M))) (hm : n = m) (he : ∀ i, i < n → L i = M i) (hn : n ≤ 1099511627776) :
    Calls Tryz.prog 52 #[.slice c n cap, .slice d m cap'] w fun e w' => e = .returned (.bool true) ∧ Chg nob w w' := by
  subst hm
  have HE := hik he
  clear he
  go_enter Tryz.func52, Tryz.ntmps52
  go_wp2
  go_loopw [5] (fun i W => ∃ k : Nat, k ≤ n ∧ i = .int .i64 k ∧ Hid (Chg nob w W)) (fun i _ => n - (intOf i).toNat)
  case atStart => exact ⟨0, Nat.zero_le _, rfl, hik (Chg.refl _ _)⟩
  case round =>
    obtain ⟨k, hk, rfl, HC⟩ := hrel
    by_cases hlt : k < n
    · obtain ⟨xb, xo, rfl, hxb, hcell⟩ := (h.out.keep HC.out) k hlt
      have hx : _ = some (Value.string (L k)) := hcell
      obtain ⟨yb, yo, rfl, hyb, hcell'⟩ := (h'.out.keep HC.out) k hlt
      have hy : _ = some (Value.string (M k)) := hcell'
      rw [← HE.out k hlt] at hy
      clear hcell hcell'
      go_wp2
      go_quiet (fail)
      go_wp2
      go_roundw
      case rel => exact ⟨k + 1, by omega, by go_num, hik (HC.out.drewN _)⟩
      case measure => simp [intOf]; omega
    · go_wp2
      go_ret
      exact ⟨rfl, HC.out⟩


end Go.Proofs.YtppiilbcnkphbaaGreat

namespace Go.Proofs.YtppiilbcnkphbaaGreat
open Go.ChangeShapes Go.WideShapes Go.ChangeAt Go.RowKit
set_option linter.unusedVariables false
set_option maxRecDepth 100000
set_option linter.unusedSimpArgs false

/-- The digits of a number ahead of a text. -/
def dgf : Nat → Nat → ByteArray → ByteArray
  | 0, _, s => s
  | f + 1, z, s => if z = 0 then s else dgf f (z / 10) (bt (fun _ => 48 + ((z % 10 : Nat) : Int)) 1 ++ s)
def dg (z : Nat) (s : ByteArray) : ByteArray := dgf z z s
theorem dgf_more : ∀ (f g z : Nat) (s : ByteArray), z ≤ f → z ≤ g → dgf f z s = dgf g z s
  | 0, 0, _, _, _, _ => rfl
  | 0, g + 1, z, s, hf, _ => by
    obtain rfl : z = 0 := by omega
    rfl
  | f + 1, 0, z, s, _, hg => by
    obtain rfl : z = 0 := by omega
    rfl
  | f + 1, g + 1, z, s, hf, hg => by
    unfold dgf
    by_cases h : z = 0
    · rw [if_pos h, if_pos h]
    · rw [if_neg h, if_neg h]
      exact dgf_more f g _ _ (by omega) (by omega)
theorem dg_zero (s : ByteArray) : dg 0 s = s := rfl
theorem dg_step (z : Nat) (s : ByteArray) (h : ¬ z = 0) : dg z s = dg (z / 10) (bt (fun _ => 48 + ((z % 10 : Nat) : Int)) 1 ++ s) := by
  obtain ⟨f, rfl⟩ : ∃ f, z = f + 1 := ⟨z - 1, by omega⟩
  unfold dg
  show (if f + 1 = 0 then s else dgf f ((f + 1) / 10) (bt (fun _ => 48 + (((f + 1) % 10 : Nat) : Int)) 1 ++ s)) = _
  rw [if_neg h]
  exact dgf_more f _ _ _ (by omega) (by omega)
/-- The mark of a number. -/
def mt (k : Nat) : ByteArray := ⟨#[109]⟩ ++ dg k ⟨#[]⟩

set_option maxHeartbeats 1000000 in
theorem markText_any (k : Nat) (w : World) (h0 : 1 ≤ k) (h1 : k ≤ 1099511627776) :
    Calls Tryz.prog 83 #[.int .i64 k] w fun e w' => e = .returned (.string (mt k)) ∧ Chg nob w w' := by
  go_enter Tryz.func83, Tryz.ntmps83
  go_wp2
  go_loopw [0, 3] (fun v u W => ∃ (z : Nat) (s : ByteArray), v = .int .i64 z ∧ u = .string s ∧ Hid (dg z s = dg k ⟨#[]⟩) ∧ Hid (z * 2 ^ s.size ≤ 2 ^ 40) ∧ Hid (s.size ≤ 41) ∧ Hid (Chg nob w W)) (fun v _ _ => (intOf v).toNat)
  case atStart => exact ⟨k, ⟨#[]⟩, rfl, rfl, hik rfl, hik (show k * 2 ^ 0 ≤ 2 ^ 40 by omega), hik (show 0 ≤ 41 by omega), hik (Chg.refl _ _)⟩
  case round =>
    obtain ⟨z, s, rfl, rfl, HD, HZ, HS, HC⟩ := hrel
    have hs : (s.size : Int) ≤ 41 := by have := HS.out; omega
    by_cases hz : z = 0
    · subst hz
      have E := hik (show mt k = ⟨#[109]⟩ ++ s by unfold mt; rw [← HD.out, dg_zero])
      go_wp2
      go_ret
      exact ⟨by rw [E.out]; rfl, HC.out⟩
    · have hz1 : 0 < (z : Int) := by omega
      have hzl : z ≤ 1099511627776 := by
        have := HZ.out
        have p := Nat.two_pow_pos s.size
        have : z * 1 ≤ z * 2 ^ s.size := Nat.mul_le_mul_left _ p
        omega
      have hs40 : s.size ≤ 40 := by
        have q := HZ.out
        have p : 1 * 2 ^ s.size ≤ z * 2 ^ s.size := Nat.mul_le_mul_right _ (by omega)
        exact (Nat.pow_le_pow_iff_right (show 1 < 2 by omega)).1 (by omega)
      have v1 : (z : Int).tmod 10 = ((z % 10 : Nat) : Int) := by rw [Int.tmod_eq_emod_of_nonneg (by omega)]; omega
      have v2 : (z : Int).tdiv 10 = ((z / 10 : Nat) : Int) := by rw [Int.tdiv_eq_ediv_of_nonneg (by omega)]; omega
      obtain ⟨d, hd⟩ : ∃ d, d = z % 10 := ⟨_, rfl⟩
      have hd10 : d < 10 := by omega
      have HD2 := hik (show dg (z / 10) (bt (fun _ => 48 + (d : Int)) 1 ++ s) = dg k ⟨#[]⟩ by rw [← HD.out, dg_step z s hz, hd])
      have HZ2 := hik (show z / 10 * 2 ^ (bt (fun _ => 48 + (d : Int)) 1 ++ s).size ≤ 2 ^ 40 by
        rw [ByteArray.size_append, bt_size, Nat.add_comm, Nat.pow_succ]
        have q : z / 10 * 2 * 2 ^ s.size ≤ z * 2 ^ s.size := Nat.mul_le_mul_right _ (by omega)
        have e : z / 10 * (2 ^ s.size * 2) = z / 10 * 2 * 2 ^ s.size := by rw [Nat.mul_comm (2 ^ s.size) 2, Nat.mul_assoc]
        rw [e]; exact Nat.le_trans q HZ.out)
      have HS2 := hik (show (bt (fun _ => 48 + (d : Int)) 1 ++ s).size ≤ 41 by rw [ByteArray.size_append, bt_size]; omega)
      have hsz : ((bt (fun _ => 48 + (d : Int)) 1).size : Int) = 1 := by rw [bt_size]; rfl
      rw [← hd] at v1
      have hcv := convB (some ⟨wr.heap.size, 0, none⟩) 1 1 (fun _ => 48 + (d : Int)) (wr.alloc (.cells #[.int .u8 (48 + (d : Int))] 5)) (fun i hi => ⟨wr.heap.size, 0, rfl, by simp, by
        obtain rfl : i = 0 := by omega
        simp [bb]⟩)
      clear hd
      go_wp2
      go_roundw
      case rel => exact ⟨z / 10, _, by go_num, rfl, HD2, HZ2, HS2, hik (HC.out.alloc _)⟩
      case measure => simp [intOf]; omega
/-- A row that can be read and written. -/
structure WRow (W : World) (g n : Nat) (f : Nat → Value) : Prop where
  lt : g < W.heap.size
  cell : ∀ i, i < n → W.cell? ⟨g, i, none⟩ = some (f i)
  fro : ∀ i, i < n → W.frozen? ⟨g, i, none⟩ = false
theorem WRow.keep {W W' : World} {g n : Nat} {f : Nat → Value} (h : WRow W g n f) (k : Chg nob W W') : WRow W' g n f :=
  ⟨Nat.lt_of_lt_of_le h.lt k.size, fun i hi => k.see (h.cell i hi), fun i hi => (World.frozen?_of_block (a := ⟨g, i, none⟩) (k.block g h.lt (fun x => x))).trans (h.fro i hi)⟩
theorem WRow.row {W : World} {g n : Nat} {f : Nat → Value} (h : WRow W g n f) : RowV W (some ⟨g, 0, none⟩) n f :=
  fun i hi => ⟨g, 0, rfl, h.lt, by rw [Nat.zero_add]; exact h.cell i hi⟩
theorem WRow.of {W : World} {g n : Nat} {t : TypeId} {f : Nat → Value} (h : W.rowIs g t n f) : WRow W g n f :=
  ⟨h.lt, fun i hi => h.cell hi, fun i _ => h.frozen i⟩
theorem WRow.owned {w : World} {B n : Nat} {t : TypeId} {v : Value} {h : Nat → Value} (ho : w.ownsRow B t 1 v n ((List.range n).map h)) (hn : 0 < n) : ∃ (b cap : Nat), v = .slice (some ⟨b, 0, none⟩) n cap ∧ B ≤ b ∧ WRow w b n h := by
  rcases ho.2 with ⟨_, h0⟩ | ⟨g, cap, cur, rfl, hb, hcur, r⟩
  · exact absurd h0 (by omega)
  · refine ⟨g, cap, rfl, hb, (Array.getElem?_eq_some_iff.1 hcur).1, fun i hi => ?_, fun i hi => ?_⟩
    · have := ho.cells rfl i (h i) (by simp [List.getElem?_map, List.getElem?_range hi])
      rw [Go.WideShapes.add_plain, Nat.zero_add] at this
      exact this
    · simp [World.frozen?, hcur]
theorem WRow.set {W : World} {g n : Nat} {f : Nat → Value} (h : WRow W g n f) (k : Nat) (hk : k < n) (v : Value) : WRow (W.setCell ⟨g, k, none⟩ v) g n (fun i => if i = k then v else f i) := by
  refine ⟨by simpa using h.lt, fun i hi => ?_, fun i hi => by rw [World.frozen?_setCell]; exact h.fro i hi⟩
  by_cases e : i = k
  · subst e; rw [if_pos rfl]; exact World.cell?_setCell_same (w := W) (a := ⟨g, i, none⟩) (v := v) (h.cell i hi)
  · rw [if_neg e, World.cell?_setCell_other (w := W) (a := ⟨g, k, none⟩) (v := v) (b := ⟨g, i, none⟩) (by intro q; exact e (by injection q with _ q2 _; exact q2.symm))]; exact h.cell i hi
theorem WRow.congr {W : World} {g n : Nat} {f f' : Nat → Value} (h : WRow W g n f) (e : ∀ i, i < n → f i = f' i) : WRow W g n f' :=
  ⟨h.lt, fun i hi => by rw [← e i hi]; exact h.cell i hi, h.fro⟩


end Go.Proofs.YtppiilbcnkphbaaGreat

namespace Go.Proofs.YtppiilbcnkphbaaGreat
open Go.ChangeShapes Go.WideShapes Go.ChangeAt Go.RowKit
set_option linter.unusedVariables false
set_option maxRecDepth 100000
set_option linter.unusedSimpArgs false

theorem WRow.chg {P : Nat → Prop} {W W' : World} {g n : Nat} {f : Nat → Value} (h : WRow W g n f) (k : Chg P W W') (hp : ¬ P g) : WRow W' g n f :=
  ⟨Nat.lt_of_lt_of_le h.lt k.size, fun i hi => by rw [k.cell (p := ⟨g, i, none⟩) h.lt hp]; exact h.cell i hi, fun i hi => (World.frozen?_of_block (a := ⟨g, i, none⟩) (k.block g h.lt hp)).trans (h.fro i hi)⟩
/-- n values in a block from B to T, to be written, or none. -/
def Mine (w : World) (B T : Nat) (c : Option Addr) (n : Nat) (f : Nat → Value) : Prop := n = 0 ∨ ∃ b, c = some ⟨b, 0, none⟩ ∧ B ≤ b ∧ b < T ∧ WRow w b n f
theorem Mine.row {w : World} {B T : Nat} {c : Option Addr} {n : Nat} {f : Nat → Value} (h : Mine w B T c n f) : RowV w c n f := by
  rcases h with rfl | ⟨b, rfl, _, _, hw⟩
  · intro i hi; omega
  · exact hw.row
theorem Mine.chg {P : Nat → Prop} {w w' : World} {B T : Nat} {c : Option Addr} {n : Nat} {f : Nat → Value} (h : Mine w B T c n f) (k : Chg P w w') (hp : ∀ b, B ≤ b → b < T → ¬ P b) : Mine w' B T c n f := by
  rcases h with h | ⟨b, e, l, l', hw⟩
  · exact .inl h
  · exact .inr ⟨b, e, l, l', hw.chg k (hp b l l')⟩
theorem Mine.keep {w w' : World} {B T : Nat} {c : Option Addr} {n : Nat} {f : Nat → Value} (h : Mine w B T c n f) (k : Chg nob w w') : Mine w' B T c n f := h.chg k (fun _ _ _ x => x)
theorem own_slice {w : World} {B n : Nat} {t : TypeId} {v : Value} {h : Nat → Value} (ho : w.ownsRow B t 1 v n ((List.range n).map h)) : ∃ (c : Option Addr) (cap : Nat), v = .slice c n cap ∧ Mine w B w.heap.size c n h := by
  by_cases hn : 0 < n
  · obtain ⟨b, cap, rfl, hb, hw⟩ := WRow.owned ho hn
    exact ⟨_, _, rfl, .inr ⟨b, rfl, hb, hw.lt, hw⟩⟩
  · obtain rfl : n = 0 := by omega
    rcases ho.2 with ⟨e, _⟩ | ⟨g, cap, cur, e, _⟩
    · exact ⟨none, 0, e, .inl rfl⟩
    · exact ⟨_, _, e, .inl rfl⟩

end Go.Proofs.YtppiilbcnkphbaaGreat
