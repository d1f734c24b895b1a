/- What the model's proof of a sum answers: a contract. Conditions: right tables of one length that can be read, a right source with draws left. -/
import Derived.Test.YtgiefpipflcbgadGreatDoorBzan
namespace Go.Proofs.YtgiefpipflcbgadGreatDoor
open Go.ChangeShapes Go.WideShapes Go.ChangeAt Go.RowKit
set_option linter.unusedVariables false
set_option maxRecDepth 100000
set_option linter.unusedSimpArgs false

/-- Rounds, a point, values and a source, told. -/
def PvAns (w : World) (k n v : Nat) (cs : Option Addr) (len caps : Nat) (G : Nat → Nat → El) (R V : Nat → El) (a : Int) (s : ByteArray) (c : Int) (e : Ending) (w' : World) : Prop :=
  ∃ (cR : Option Addr) (capR : Nat) (cP : Option Addr) (capP : Nat) (cV : Option Addr) (capV : Nat), e = .returned (.tuple #[.slice cR v capR, .slice cP v capP, .slice cV n capV, .agg #[.slice cs len caps, .int .i64 a, .string s, .int .i64 c]]) ∧ RowsQ (fun b => w.heap.size ≤ b) w' cR v (k + 2) G ∧ OwnE w' w.heap.size cP v (cA R) (cB R) ∧ OwnE w' w.heap.size cV n (cA V) (cB V) ∧ Chg nob w w'

set_option maxHeartbeats 4000000 in
theorem sProveT_any {k : Nat} (hk : k = 1 ∨ k = 2) (c : Option Addr) (n v cap : Nat) (hn : n = 2 * k) (hv : v ≤ 6) (Tt : Nat → Nat → Nat → El) (G : Nat → Nat → El) (R : Nat → El) (Qa : Nat → Int) (Qs : Nat → ByteArray) (Qc : Nat → Int) (cs : Option Addr) (len caps : Nat) (f g : Nat → Int) (w : World) (h : Hid (RowsE w c n (2 ^ v) (Tt 0))) (hs : Hid (PairV w cs len f g)) (hl : len ≤ 64)
    (hT : Hid (∀ i, Tt (i + 1) = bdT (Tt i) (R i))) (hG : Hid (∀ i, G i = rdE k (Tt i) (2 ^ (v - 1 - i)))) (hS : Hid (∀ i, Qs (i + 1) = abS (Qs i) (etx (cA (G i)) (cB (G i)) (k + 2)))) (hA : Hid (∀ i, Qa (i + 1) = dnA len (Qa i) 1)) (hC : Hid (∀ i, Qc (i + 1) = dnC len 0 1))
    (hD : Hid (∀ i, drE f len (Qa i) (Qs (i + 1)) 0 0 = (R i).v.1 ∧ drF g len (Qa i) (Qs (i + 1)) 0 0 = (R i).v.2)) (hZ : Hid (∀ i, (Qs i).size = 32)) (hB : Hid (∀ i, i ≤ 6 → 0 ≤ Qa i ∧ Qa i ≤ 1000000)) :
    Calls Tryz.prog 37 #[.int .i64 (k : Int), .slice c n cap, .agg #[.slice cs len caps, .int .i64 (Qa 0), .string (Qs 0), .int .i64 (Qc 0)]] w fun e w' => PvAns w k n v cs len caps G R (fun j => Tt v j 0) (Qa v) (Qs v) (Qc v) e w' := by
  obtain ⟨i0, hi, hz0, hz1, hz2⟩ := info_parts infoExt
  have HI := hik hi
  have HZ0 := hik hz0
  have HZ1 := hik hz1
  have HZ2 := hik hz2
  clear hi hz0 hz1 hz2
  obtain ⟨i1, hi, hz0, hz1, hz2⟩ := info_parts infoRow
  have HJ := hik hi
  have HJ0 := hik hz0
  have HJ1 := hik hz1
  have HJ2 := hik hz2
  clear hi hz0 hz1 hz2
  have HK := hik hk
  have HN := hik hn
  have hk2 : k ≤ 2 := by rcases hk with rfl | rfl <;> omega
  have hn4 : n ≤ 4 := by omega
  have hn0 : 0 < n := by rcases hk with rfl | rfl <;> omega
  clear hk hn
  go_enter Tryz.func37, Tryz.ntmps37
  go_wp2
  go_loopw [1, 10, 11] (fun tb rr pp W => ∃ (i : Nat) (c1 : Option Addr) (cap1 gR cR gP cP : Nat) (A : Nat → Option Addr) (C : Nat → Nat), i ≤ v ∧ tb = .slice c1 n cap1 ∧ rr = .slice (some ⟨gR, 0, none⟩) i cR ∧ pp = .slice (some ⟨gP, 0, none⟩) i cP ∧ Hid (PvI (w.heap.size + 2) W (k + 2) i i gR cR gP cP A C G R) ∧ Hid (RowsQ (fun b => b < w.heap.size ∨ (w.heap.size + 4 ≤ b ∧ b ≠ gR ∧ b ≠ gP)) W c1 n (2 ^ (v - i)) (Tt i)) ∧ Hid (W.rowIs w.heap.size 28 4 (pv4 (.slice cs len caps) (.int .i64 (Qa i)) (.string (Qs i)) (.int .i64 (Qc i)))) ∧ Hid (W.rowIs (w.heap.size + 1) 28 4 (pv4 (.slice none 0 0) (.int .i64 0) (.string ⟨#[]⟩) (.int .i64 0))) ∧ Hid (Chg nob w W)) (fun _ rr _ _ => v - lnOf rr)
  case atStart =>
    refine ⟨0, c, cap, w.heap.size + 1 + 1, 0, w.heap.size + 1 + 1 + 1, 0, fun _ => none, fun _ => 0, Nat.zero_le _, rfl, rfl, rfl, ?_, ?_, ?_, ?_, ?_⟩
    · have q := (flNone ((w.alloc (.cells #[.slice cs len caps, .int .i64 (Qa 0), .string (Qs 0), .int .i64 (Qc 0)] 28)).alloc (.cells #[.slice none 0 0, .int .i64 0, .string ⟨#[]⟩, .int .i64 0] 28)) (w.heap.size + 2) 26 1 (by simp)).alloc (.cells #[] 31)
      have q2 := flNone (((w.alloc (.cells #[.slice cs len caps, .int .i64 (Qa 0), .string (Qs 0), .int .i64 (Qc 0)] 28)).alloc (.cells #[.slice none 0 0, .int .i64 0, .string ⟨#[]⟩, .int .i64 0] 28)).alloc (.cells #[] 26)) (w.heap.size + 2) 31 2 (by simp)
      exact hik ⟨by simpa using q, by simpa using q2, fun i hi => absurd hi (by omega), fun i hi => absurd hi (by omega), by omega⟩
    · exact hik (((h.out.toQ (Nat.two_pow_pos v)).keep (((((Chg.refl nob w).alloc _).alloc _).alloc _).alloc _)).mono (fun b hb => .inl hb))
    · exact hik (World.rowIs.alloc (World.rowIs.alloc (World.rowIs.alloc (row4_new w _ _ _ _ _) _) _) _)
    · exact hik (by simpa using World.rowIs.alloc (World.rowIs.alloc (row4_new (w.alloc (.cells #[.slice cs len caps, .int .i64 (Qa 0), .string (Qs 0), .int .i64 (Qc 0)] 28)) (.slice none 0 0) (.int .i64 0) (.string ⟨#[]⟩) (.int .i64 0) 28) (.cells #[] 26)) (.cells #[] 31))
    · exact hik (((((Chg.refl nob w).alloc _).alloc _).alloc _).alloc _)
  case round =>
    obtain ⟨i, c1, cap1, gR, cR, gP, cP, A, C, hi, rfl, rfl, rfl, HP, HR, HS, HZ, HG⟩ := hrel
    rename World => wi
    obtain ⟨xb, xo, A0, C0, ec, hxb, hc, _, _, _⟩ := HR.out 0 hn0
    subst ec
    have hcc : wi.cell? ⟨xb, xo, none⟩ = some (.slice A0 (2 ^ (v - i)) C0) := hc
    clear hc
    by_cases hlt : i < v
    · obtain ⟨H, hH⟩ : ∃ H, H = 2 ^ (v - 1 - i) := ⟨_, rfl⟩
      obtain ⟨N, hN⟩ : ∃ N, N = 2 ^ (v - i) := ⟨_, rfl⟩
      have hNH : N = 2 * H := by rw [hH, hN, show v - i = v - 1 - i + 1 by omega, Nat.pow_succ]; omega
      have hH1 : 1 ≤ H := by rw [hH]; exact Nat.one_le_two_pow
      have hH32 : H ≤ 32 := by rw [hH]; exact Nat.le_trans (Nat.pow_le_pow_right (by omega) (show v - 1 - i ≤ 5 by omega)) (by decide)
      have EG := hik (hG.out i)
      rw [← hH] at EG
      rw [← hN] at hcc HR
      have hgt : (1 : Int) < (N : Int) := by omega
      have HNH := hik hNH
      have HHE := hik hH
      have HLT := hik hlt
      clear hNH hH hN hlt
      go_wp2_with fail
      refine (sRound8_any HK.out (some ⟨xb, xo, none⟩) n N H cap1 HN.out (Tt i) _ (hik HR.out.toE) HNH.out hH1 hH32).mono ?_
      rintro e W1 ⟨d1, capd, rfl, hle, hle2, ho1, k1⟩
      rw [← EG.out] at ho1
      obtain ⟨b1, M1, h1, e1, hb1, r1⟩ := own_row ho1 (by omega)
      subst e1
      have P1 := hik (show PairE W1 (some ⟨b1, 0, none⟩) (k + 2) (G i) from OwnE.pairs ho1)
      have hbl1 := hik (show wi.heap.size ≤ b1 ∧ b1 < W1.heap.size from ⟨hb1, r1.lt⟩)
      have hbR := hik (show b1 ≠ gR ∧ b1 ≠ gP from ⟨by have := HP.out.ltR; omega, by have := HP.out.ltP; omega⟩)
      have hgp := hik (show gR < wi.heap.size ∧ gP < wi.heap.size from ⟨HP.out.ltR.2, HP.out.ltP.2⟩)
      have hw2 := hik (show w.heap.size + 2 ≤ b1 ∧ w.heap.size + 4 ≤ wi.heap.size by have := HZ.out.lt; have := hbl1.out; have := HP.out.ltR; have := HP.out.ltP; have := HP.out.ne; omega)
      replace HP := hik (HP.out.keep k1)
      replace HR := hik (HR.out.keep k1)
      replace HS := hik (rowIs_keep HS.out k1)
      replace HZ := hik (rowIs_keep HZ.out k1)
      replace HG := hik (HG.out.trans k1)
      clear ho1 r1 hb1 k1 hle hle2 hcc hxb
      have zS : w.heap.size < W1.heap.size := HS.out.lt
      have x0 : (W1).cell? ⟨w.heap.size, 0, none⟩ = some (.slice cs len caps) := HS.out.cell (by omega)
      have x1 : (W1).cell? ⟨w.heap.size, 1, none⟩ = some (.int .i64 (Qa i)) := HS.out.cell (by omega)
      have x2 : (W1).cell? ⟨w.heap.size, 2, none⟩ = some (.string (Qs i)) := HS.out.cell (by omega)
      have x3 : (W1).cell? ⟨w.heap.size, 3, none⟩ = some (.int .i64 (Qc i)) := HS.out.cell (by omega)
      go_wp2_with fail
      refine (sExts_any cs len caps (Qa i) (Qs i) (Qc i) (some ⟨b1, 0, none⟩) (k + 2) capd (cA (G i)) (cB (G i)) _ P1 (by omega) (hik (okP_el _ _)) (hZ.out i)).mono ?_
      rintro e W2 ⟨he, k2⟩
      rw [← hS.out i] at he
      subst he
      replace HP := hik (HP.out.keep k2)
      replace HR := hik (HR.out.keep k2)
      replace HS := hik (rowIs_keep HS.out k2)
      replace HZ := hik (rowIs_keep HZ.out k2)
      replace HG := hik (HG.out.trans k2)
      replace P1 := hik (PairE.keep P1.out k2)
      replace hbl1 := hik (show wi.heap.size ≤ b1 ∧ b1 < W2.heap.size from ⟨hbl1.out.1, Nat.lt_of_lt_of_le hbl1.out.2 k2.size⟩)
      clear k2 x0 x1 x2 x3 zS
      have zS : w.heap.size < W2.heap.size := HS.out.lt
      have x0 : (W2).cell? ⟨w.heap.size, 0, none⟩ = some (.slice cs len caps) := HS.out.cell (by omega)
      have x1 : (W2).cell? ⟨w.heap.size, 1, none⟩ = some (.int .i64 (Qa i)) := HS.out.cell (by omega)
      have x2 : (W2).cell? ⟨w.heap.size, 2, none⟩ = some (.string (Qs i)) := HS.out.cell (by omega)
      have x3 : (W2).cell? ⟨w.heap.size, 3, none⟩ = some (.int .i64 (Qc i)) := HS.out.cell (by omega)
      have v0 := HS.out.frozen 0
      have v1 := HS.out.frozen 1
      have v2 := HS.out.frozen 2
      have v3 := HS.out.frozen 3
      go_upto_region 6 with fail
      have C3 := hik (chg4_set (Chg.refl (fun b => b = w.heap.size) W2) w.heap.size (fun _ => rfl) (.slice cs len caps) (.int .i64 (Qa i)) (.string (Qs (i + 1))) (.int .i64 0))
      have S3 := hik (row4_set HS.out (.slice cs len caps) (.int .i64 (Qa i)) (.string (Qs (i + 1))) (.int .i64 0))
      have Z3 := hik (row4_other HZ.out (show w.heap.size + 1 ≠ w.heap.size by omega) (.slice cs len caps) (.int .i64 (Qa i)) (.string (Qs (i + 1))) (.int .i64 0))
      have G3 := hik (chg4_set HG.out w.heap.size (fun l => absurd l (by omega)) (.slice cs len caps) (.int .i64 (Qa i)) (.string (Qs (i + 1))) (.int .i64 0))
      clear x0 x1 x2 x3 v0 v1 v2 v3 zS HS HZ HG
      generalize hE : (((W2.setCell ⟨w.heap.size, 0, none⟩ (.slice cs len caps)).setCell ⟨w.heap.size, 1, none⟩ (.int .i64 (Qa i))).setCell ⟨w.heap.size, 2, none⟩ (.string (Qs (i + 1)))).setCell ⟨w.heap.size, 3, none⟩ (.int .i64 0) = W3 at C3 S3 Z3 G3 ⊢
      clear hE
      replace HP := hik (HP.out.chg C3.out (fun b hb e => by omega))
      replace HR := hik (HR.out.chg C3.out (fun b hb e => by omega))
      replace P1 := hik (show PairE W3 (some ⟨b1, 0, none⟩) (k + 2) (G i) from PairV.chg P1.out C3.out (fun xb xo e _ e2 => by cases e; have := hw2.out.1; omega))
      replace hbl1 := hik (show wi.heap.size ≤ b1 ∧ b1 < W3.heap.size from ⟨hbl1.out.1, Nat.lt_of_lt_of_le hbl1.out.2 C3.out.size⟩)
      clear C3
      have zS : w.heap.size < W3.heap.size := S3.out.lt
      have x0 : (W3).cell? ⟨w.heap.size, 0, none⟩ = some (.slice cs len caps) := S3.out.cell (by omega)
      have x1 : (W3).cell? ⟨w.heap.size, 1, none⟩ = some (.int .i64 (Qa i)) := S3.out.cell (by omega)
      have x2 : (W3).cell? ⟨w.heap.size, 2, none⟩ = some (.string (Qs (i + 1))) := S3.out.cell (by omega)
      have x3 : (W3).cell? ⟨w.heap.size, 3, none⟩ = some (.int .i64 0) := S3.out.cell (by omega)
      go_wp2_with fail
      refine (sDraw_any cs len caps (Qa i) (Qs (i + 1)) 0 f g _ (hik (hs.out.keep G3.out)) hl (hZ.out (i + 1)) (hB.out i (by omega)).1 (hB.out i (by omega)).2 (by omega) (by omega)).mono ?_
      rintro e W4 ⟨he, k4⟩
      rw [← hA.out i, ← hC.out i, (hD.out i).1, (hD.out i).2] at he
      subst he
      replace HP := hik (HP.out.keep k4)
      replace HR := hik (HR.out.keep k4)
      replace S3 := hik (rowIs_keep S3.out k4)
      replace Z3 := hik (rowIs_keep Z3.out k4)
      replace G3 := hik (G3.out.trans k4)
      replace P1 := hik (PairE.keep P1.out k4)
      replace hbl1 := hik (show wi.heap.size ≤ b1 ∧ b1 < W4.heap.size from ⟨hbl1.out.1, Nat.lt_of_lt_of_le hbl1.out.2 k4.size⟩)
      clear k4 x0 x1 x2 x3 zS
      have zS : w.heap.size < W4.heap.size := S3.out.lt
      have x0 : (W4).cell? ⟨w.heap.size, 0, none⟩ = some (.slice cs len caps) := S3.out.cell (by omega)
      have x1 : (W4).cell? ⟨w.heap.size, 1, none⟩ = some (.int .i64 (Qa i)) := S3.out.cell (by omega)
      have x2 : (W4).cell? ⟨w.heap.size, 2, none⟩ = some (.string (Qs (i + 1))) := S3.out.cell (by omega)
      have x3 : (W4).cell? ⟨w.heap.size, 3, none⟩ = some (.int .i64 0) := S3.out.cell (by omega)
      have v0 := S3.out.frozen 0
      have v1 := S3.out.frozen 1
      have v2 := S3.out.frozen 2
      have v3 := S3.out.frozen 3
      go_upto_region 8 with fail
      have C5 := hik (((chg4_set (Chg.refl (fun b => b = w.heap.size) W4) w.heap.size (fun _ => rfl) (.slice cs len caps) (.int .i64 (Qa (i + 1))) (.string (Qs (i + 1))) (.int .i64 (Qc (i + 1)))).alloc (.cells #[.slice cs len caps, .int .i64 (Qa (i + 1)), .string (Qs (i + 1)), .int .i64 (Qc (i + 1))] 28)).alloc (.cells #[.int .i64 (R i).v.1, .int .i64 (R i).v.2] 31))
      have S5 := hik (World.rowIs.alloc (World.rowIs.alloc (row4_set S3.out (.slice cs len caps) (.int .i64 (Qa (i + 1))) (.string (Qs (i + 1))) (.int .i64 (Qc (i + 1)))) (.cells #[.slice cs len caps, .int .i64 (Qa (i + 1)), .string (Qs (i + 1)), .int .i64 (Qc (i + 1))] 28)) (.cells #[.int .i64 (R i).v.1, .int .i64 (R i).v.2] 31))
      have Z5 := hik (World.rowIs.alloc (World.rowIs.alloc (row4_other Z3.out (show w.heap.size + 1 ≠ w.heap.size by omega) (.slice cs len caps) (.int .i64 (Qa (i + 1))) (.string (Qs (i + 1))) (.int .i64 (Qc (i + 1)))) (.cells #[.slice cs len caps, .int .i64 (Qa (i + 1)), .string (Qs (i + 1)), .int .i64 (Qc (i + 1))] 28)) (.cells #[.int .i64 (R i).v.1, .int .i64 (R i).v.2] 31))
      have G5 := hik (((chg4_set G3.out w.heap.size (fun l => absurd l (by omega)) (.slice cs len caps) (.int .i64 (Qa (i + 1))) (.string (Qs (i + 1))) (.int .i64 (Qc (i + 1)))).alloc (.cells #[.slice cs len caps, .int .i64 (Qa (i + 1)), .string (Qs (i + 1)), .int .i64 (Qc (i + 1))] 28)).alloc (.cells #[.int .i64 (R i).v.1, .int .i64 (R i).v.2] 31))
      have X5 : Hid (ElB ((((((W4.setCell ⟨w.heap.size, 0, none⟩ (.slice cs len caps)).setCell ⟨w.heap.size, 1, none⟩ (.int .i64 (Qa (i + 1)))).setCell ⟨w.heap.size, 2, none⟩ (.string (Qs (i + 1)))).setCell ⟨w.heap.size, 3, none⟩ (.int .i64 (Qc (i + 1)))).alloc (.cells #[.slice cs len caps, .int .i64 (Qa (i + 1)), .string (Qs (i + 1)), .int .i64 (Qc (i + 1))] 28)).alloc (.cells #[.int .i64 (R i).v.1, .int .i64 (R i).v.2] 31)) (W4.heap.size + 1) (R i)) := hik (by simpa using ElB.new (((((W4.setCell ⟨w.heap.size, 0, none⟩ (.slice cs len caps)).setCell ⟨w.heap.size, 1, none⟩ (.int .i64 (Qa (i + 1)))).setCell ⟨w.heap.size, 2, none⟩ (.string (Qs (i + 1)))).setCell ⟨w.heap.size, 3, none⟩ (.int .i64 (Qc (i + 1)))).alloc (.cells #[.slice cs len caps, .int .i64 (Qa (i + 1)), .string (Qs (i + 1)), .int .i64 (Qc (i + 1))] 28)) (R i))
      clear x0 x1 x2 x3 v0 v1 v2 v3 zS S3 Z3 G3
      generalize hE : (((((W4.setCell ⟨w.heap.size, 0, none⟩ (.slice cs len caps)).setCell ⟨w.heap.size, 1, none⟩ (.int .i64 (Qa (i + 1)))).setCell ⟨w.heap.size, 2, none⟩ (.string (Qs (i + 1)))).setCell ⟨w.heap.size, 3, none⟩ (.int .i64 (Qc (i + 1)))).alloc (.cells #[.slice cs len caps, .int .i64 (Qa (i + 1)), .string (Qs (i + 1)), .int .i64 (Qc (i + 1))] 28)).alloc (.cells #[.int .i64 (R i).v.1, .int .i64 (R i).v.2] 31) = W5 at C5 S5 Z5 G5 X5 ⊢
      clear hE
      replace HP := hik (HP.out.chg C5.out (fun b hb e => by omega))
      replace HR := hik (HR.out.chg C5.out (fun b hb e => by omega))
      replace P1 := hik (show PairE W5 (some ⟨b1, 0, none⟩) (k + 2) (G i) from PairV.chg P1.out C5.out (fun xb xo e _ e2 => by cases e; have := hw2.out.1; omega))
      have hX := hik (show wi.heap.size ≤ W4.heap.size + 1 ∧ gR < W4.heap.size + 1 ∧ gP < W4.heap.size + 1 ∧ W4.heap.size + 1 < W5.heap.size ∧ w.heap.size + 4 ≤ W5.heap.size ∧ gR < W5.heap.size ∧ gP < W5.heap.size ∧ b1 < W5.heap.size from by
        have q1 := hbl1.out
        have q2 := C5.out.size
        have q3 := X5.out.lt
        have q4 := hgp.out
        have q5 := hw2.out
        omega)
      clear C5
      generalize hEx : W4.heap.size + 1 = rb at X5 hX ⊢
      clear hEx hbl1
      have y0 := X5.out.c0
      have y1 := X5.out.c1
      have zX : rb < W5.heap.size := X5.out.lt
      go_wp2_with fail
      refine (sBind8_any (some ⟨xb, xo, none⟩) n N H cap1 (Tt i) (R i) _ (hik HR.out.toE) HNH.out hH1 hH32 hn4).mono ?_
      rintro e W6 ⟨c6, cap6, rfl, hr6, k6⟩
      rw [← hT.out i] at hr6
      have R6 := hik hr6
      replace HP := hik (HP.out.keep k6)
      replace S5 := hik (rowIs_keep S5.out k6)
      replace Z5 := hik (rowIs_keep Z5.out k6)
      replace X5 := hik (X5.out.keep k6)
      replace G5 := hik (G5.out.trans k6)
      replace P1 := hik (PairE.keep P1.out k6)
      have hs6 := hik k6.size
      clear k6 hr6 y0 y1 zX HR
      go_wp2_with (at_builtin; refine wpList_append_lies _ ?g0 (.tmp 39) (.tmp 41) 24 ?g1 (w.heap.size + 2) 26 i1 (.slice none 0 0) 1 24 Tryz.underlying24 HJ.out HJ0.out HJ1.out HJ2.out rfl (by decide) (.slice (some ⟨gR, 0, none⟩) i cR) i _ ?b1 (HP.out.oR.alloc _) ⟨_, 0, none⟩ 1 1 [.slice (some ⟨b1, 0, none⟩) (k + 2) capd] ?b3 ?b4 (rwNews _ _ _) (rwOne _ _ _) (by decide) ?b7 ?b8 ?b9 _ rfl ?b10)
      case g0 => rfl
      case g1 => rfl
      case b1 => rfl
      case b3 => rfl
      case b4 => rfl
      case b7 => unfold maxLen; omega
      case b8 => omega
      case b9 => have := hX.out; have := hs6.out; simp; omega
      case b10 =>
        intro g7 cp7 w7 o7 hg7 hat7 hlt7
        have hat7' := hik (show gR = g7 ∨ g7 = (W6.alloc (.cells #[.slice (some ⟨b1, 0, none⟩) (k + 2) capd] 26)).heap.size from by
          rcases hat7 with q | q
          · exact .inl (by simpa [Value.ownBlock] using q)
          · exact .inr (by simpa using q))
        have C7 := hik (((Chg.refl (fun b => b = gR) W6).alloc (.cells #[.slice (some ⟨b1, 0, none⟩) (k + 2) capd] 26)).trans ((Chg.refl (fun b => b = gR) (W6.alloc (.cells #[.slice (some ⟨b1, 0, none⟩) (k + 2) capd] 26))).grown hg7 (fun b e _ => by have q : some gR = some b := e; cases q; rfl)))
        have LR := hik HP.out.ltR
        have LP := hik HP.out.ltP
        replace HP := hik ((HP.out.keep ((Chg.refl nob W6).alloc (.cells #[.slice (some ⟨b1, 0, none⟩) (k + 2) capd] 26))).round hw2.out.1 (by have := hX.out; have := hs6.out; simp; omega) hbR.out.1 hbR.out.2 (PairE.keep P1.out ((Chg.refl nob W6).alloc (.cells #[.slice (some ⟨b1, 0, none⟩) (k + 2) capd] 26))) hg7 hat7'.out o7)
        replace R6 := hik (R6.out.chg C7.out (fun b hb e => by have := hX.out; omega))
        replace S5 := hik (rowIs_chg S5.out C7.out (by have := LR.out.1; omega))
        replace Z5 := hik (rowIs_chg Z5.out C7.out (by have := LR.out.1; omega))
        replace X5 := hik (X5.out.chg C7.out (by have := hX.out; omega))
        replace G5 := hik (G5.out.near C7.out (fun b e => by have := LR.out.1; omega))
        have hs7 := hik C7.out.size
        have H7 := hik (show g7 = gR ∨ g7 = W6.heap.size + 1 from by
          rcases hat7'.out with q | q
          · exact .inl q.symm
          · exact .inr (by simpa using q))
        clear o7 hg7 hat7 hat7' hlt7 C7 P1
        have y0 := X5.out.c0
        have y1 := X5.out.c1
        have zX : rb < w7.heap.size := X5.out.lt
        go_wp2_with (at_builtin; refine wpList_append_lies _ ?g0 (.tmp 43) (.tmp 45) 26 ?g1 (w.heap.size + 2) 31 i0 (.agg #[.int .i64 0, .int .i64 0]) 2 16 Tryz.underlying26 HI.out HZ0.out HZ1.out HZ2.out rfl (by decide) (.slice (some ⟨gP, 0, none⟩) i cP) i _ ?b1 (HP.out.oP.alloc _) ⟨_, 0, none⟩ 1 1 [.int .i64 (R i).v.1, .int .i64 (R i).v.2] ?b3 ?b4 (flNews _ _ _ _) (flOne _ _) (by decide) ?b7 ?b8 ?b9 _ rfl ?b10)
        case g0 => rfl
        case g1 => rfl
        case b1 => rfl
        case b3 => rfl
        case b4 => rfl
        case b7 => unfold maxLen; omega
        case b8 => omega
        case b9 => have := hX.out; have := hs6.out; have := hs7.out; simp; omega
        case b10 =>
          intro g8 cp8 w8 o8 hg8 hat8 hlt8
          have hat8' := hik (show gP = g8 ∨ g8 = (w7.alloc (.cells #[.int .i64 (R i).v.1, .int .i64 (R i).v.2] 31)).heap.size from by
            rcases hat8 with q | q
            · exact .inl (by simpa [Value.ownBlock] using q)
            · exact .inr (by simpa using q))
          have C8 := hik (((Chg.refl (fun b => b = gP) w7).alloc (.cells #[.int .i64 (R i).v.1, .int .i64 (R i).v.2] 31)).trans ((Chg.refl (fun b => b = gP) (w7.alloc (.cells #[.int .i64 (R i).v.1, .int .i64 (R i).v.2] 31))).grown hg8 (fun b e _ => by have q : some gP = some b := e; cases q; rfl)))
          replace HP := hik ((HP.out.keep ((Chg.refl nob w7).alloc (.cells #[.int .i64 (R i).v.1, .int .i64 (R i).v.2] 31))).point hg8 hat8'.out o8)
          replace R6 := hik (R6.out.chg C8.out (fun b hb e => by have := hX.out; omega))
          replace S5 := hik (rowIs_chg S5.out C8.out (by have := LP.out.1; omega))
          replace Z5 := hik (rowIs_chg Z5.out C8.out (by have := LP.out.1; omega))
          replace G5 := hik (G5.out.near C8.out (fun b e => by have := LP.out.1; omega))
          have H8 := hik (show g8 = gP ∨ g8 = w7.heap.size + 1 from by
            rcases hat8'.out with q | q
            · exact .inl q.symm
            · exact .inr (by simpa using q))
          have EH := hik (show H = 2 ^ (v - (i + 1)) by rw [HHE.out, show v - (i + 1) = v - 1 - i by omega])
          clear o8 hg8 hat8 hat8' hlt8 C8 y0 y1 zX X5
          go_wp2
          go_roundw
          case rel => exact ⟨i + 1, c6, cap6, g7, cp7, g8, cp8, _, _, HLT.out, rfl, rfl, rfl, HP, hik (by rw [← EH.out]; exact R6.out.mono (fun b hb => .inr (by have := hX.out; have := H7.out; have := H8.out; have := hs7.out; have := hs6.out; omega))), S5, Z5, G5⟩
          case measure => have := HLT.out; simp [lnOf]; omega
    · have e1 : 2 ^ (v - i) = 1 := by rw [show v - i = 0 by omega]
      obtain rfl : i = v := by omega
      rw [e1] at hcc HR
      clear hlt e1 hxb
      go_wp2_with fail
      clear hcc
      go_loopw [15, 16] (fun u j W => ∃ q : Nat, q ≤ n ∧ j = .int .i64 (q : Int) ∧ Hid (W.ownsRow wi.heap.size 31 2 u q ((List.range (q * 2)).map (pf (cA (fun j => Tt i j 0)) (cB (fun j => Tt i j 0))))) ∧ Hid (Chg nob wi W)) (fun _ j _ => n - (intOf j).toNat)
      case atStart => exact ⟨0, Nat.zero_le _, rfl, hik (flNone wi wi.heap.size 31 2 (Nat.le_refl _)), hik ((Chg.refl _ _).alloc _)⟩
      case round =>
        obtain ⟨q, hq, rfl, HW, HV⟩ := hrel
        rename World => wj
        by_cases hlt : q < n
        · have hq1 : (q : Int) < (n : Int) := by omega
          have hq0 : (0 : Int) ≤ (q : Int) := by omega
          obtain ⟨yb, yo, A1, C1, ey, hyb, hc, hP⟩ := (RowsE.keep HR.out.toE HV.out) q hlt
          cases ey
          obtain ⟨ab, ao, ea, hab, y0, y1⟩ := PairE.at_ hP (show 0 < 1 by omega)
          subst ea
          rw [show ao + 0 * 2 = ao by omega] at y0 y1
          have hsz := HV.out.size
          clear hP
          go_wp2_with (at_builtin; refine wpList_append_own _ rfl (.tmp 54) (.tmp 61) 26 rfl wi.heap.size 31 i0 (.agg #[.int .i64 0, .int .i64 0]) 2 16 Tryz.underlying26 HI.out HZ0.out HZ1.out HZ2.out rfl (by decide) _ q _ rfl (HW.out.alloc _) ⟨_, 0, none⟩ 1 1 [.int .i64 (Tt i q 0).v.1, .int .i64 (Tt i q 0).v.2] rfl rfl ?c1 ?c2 ?c3 ?c4 ?c5 ?c6)
          case c1 => exact flNews _ _ _ _
          case c2 => exact flOne _ _
          case c3 => unfold maxLen; omega
          case c4 => omega
          case c5 => simp; omega
          case c6 =>
            intro v' w2 hown hgr _
            have HW2 : Hid (w2.ownsRow wi.heap.size 31 2 v' (q + 1) ((List.range ((q + 1) * 2)).map (pf (cA (fun j => Tt i j 0)) (cB (fun j => Tt i j 0))))) := hik (by rw [← flPair]; exact hown)
            have HV2 := hik ((HV.out.alloc _).grown hgr (fun i e l => absurd (HW.out.lt i e).1 (by omega)))
            clear hown hgr HW HV y0 y1 hc
            go_wp2
            go_roundw
            case rel => exact ⟨q + 1, by omega, by go_num, HW2, HV2⟩
            case measure => simp [intOf]; omega
        · obtain rfl : n = q := by omega
          have hcc : ¬ (n : Int) < (n : Int) := by omega
          obtain ⟨cv, capv, ev, hle, ov⟩ := OwnE.of_owns HW.out
          subst ev
          have O9 := hik ov
          have S9 := hik (rowIs_keep HS.out HV.out)
          have Z9 := hik (rowIs_keep HZ.out HV.out)
          have P9 := hik (HP.out.keep HV.out)
          have G9 := hik (HG.out.trans HV.out)
          have L9 := hik (show w.heap.size + 1 < wi.heap.size from HZ.out.lt)
          clear hle ov HW HV HS HZ HG HP
          go_upto_region 16 with fail
          have x0 : (wj).cell? ⟨w.heap.size, 0, none⟩ = some (.slice cs len caps) := S9.out.cell (by omega)
          have x1 : (wj).cell? ⟨w.heap.size, 1, none⟩ = some (.int .i64 (Qa i)) := S9.out.cell (by omega)
          have x2 : (wj).cell? ⟨w.heap.size, 2, none⟩ = some (.string (Qs i)) := S9.out.cell (by omega)
          have x3 : (wj).cell? ⟨w.heap.size, 3, none⟩ = some (.int .i64 (Qc i)) := S9.out.cell (by omega)
          have KW := hik ((Chg.refl nob wj).drew1)
          have SA := hik (fun (WW : World) (kW : Chg nob wj WW) => (show (WW.cell? ⟨w.heap.size, 0, none⟩ = some (.slice cs len caps) ∧ WW.cell? ⟨w.heap.size, 1, none⟩ = some (.int .i64 (Qa i)) ∧ WW.cell? ⟨w.heap.size, 2, none⟩ = some (.string (Qs i)) ∧ WW.cell? ⟨w.heap.size, 3, none⟩ = some (.int .i64 (Qc i))) from ⟨kW.see x0, kW.see x1, kW.see x2, kW.see x3⟩))
          refine wp_regionL (L := 7) (S := fun w' => w'.cell? ⟨w.heap.size, 0, none⟩ = some (.slice cs len caps) ∧ w'.cell? ⟨w.heap.size, 1, none⟩ = some (.int .i64 (Qa i)) ∧ w'.cell? ⟨w.heap.size, 2, none⟩ = some (.string (Qs i)) ∧ w'.cell? ⟨w.heap.size, 3, none⟩ = some (.int .i64 (Qc i))) (by kernel_rfl) ⟨x0, x1, x2, x3⟩ (fun hHeld => ?_)
          refine wpAnyL_take (i := 0) (v := ?_) rfl (by kernel_rfl) (by kernel_rfl) (by kernel_rfl) (fun _ _ _ h => h) (by rfl) (by kernel_rfl) (by kernel_rfl) (Or.inl ⟨by rfl, ?_⟩) (by assumption) ?_
          rotate_left 1
          · (intro w' hSw; (try dsimp only at hSw); go_simp; try with_reducible rfl)
          try simp only [Act.put, List.setIfInBounds_toArray, List.set_cons_zero, List.set_cons_succ, List.getElem_toArray, List.getElem_cons_zero, List.getElem_cons_succ]
          refine wpAnyL_take (i := 1) (v := ?_) rfl (by kernel_rfl) (by kernel_rfl) (by kernel_rfl) (fun _ _ _ h => h) (by rfl) (by kernel_rfl) (by kernel_rfl) (Or.inl ⟨by rfl, ?_⟩) (by assumption) ?_
          rotate_left 1
          · (intro w' hSw; (try dsimp only at hSw); go_simp; try with_reducible rfl)
          try simp only [Act.put, List.setIfInBounds_toArray, List.set_cons_zero, List.set_cons_succ, List.getElem_toArray, List.getElem_cons_zero, List.getElem_cons_succ]
          refine wpAnyL_take (i := 2) (v := ?_) rfl (by kernel_rfl) (by kernel_rfl) (by kernel_rfl) (fun _ _ _ h => h) (by rfl) (by kernel_rfl) (by kernel_rfl) (Or.inl ⟨by rfl, ?_⟩) (by assumption) ?_
          rotate_left 1
          · (intro w' hSw; (try dsimp only at hSw); go_simp; try with_reducible rfl)
          try simp only [Act.put, List.setIfInBounds_toArray, List.set_cons_zero, List.set_cons_succ, List.getElem_toArray, List.getElem_cons_zero, List.getElem_cons_succ]
          refine wpAnyL_take (i := 3) (v := ?_) rfl (by kernel_rfl) (by kernel_rfl) (by kernel_rfl) (fun _ _ _ h => h) (by rfl) (by kernel_rfl) (by kernel_rfl) (Or.inl ⟨by rfl, ?_⟩) (by assumption) ?_
          rotate_left 1
          · (intro w' hSw; (try dsimp only at hSw); go_simp; try with_reducible rfl)
          try simp only [Act.put, List.setIfInBounds_toArray, List.set_cons_zero, List.set_cons_succ, List.getElem_toArray, List.getElem_cons_zero, List.getElem_cons_succ]
          refine wpAnyL_take (i := 4) (v := ?_) rfl (by kernel_rfl) (by kernel_rfl) (by kernel_rfl) (fun _ _ _ h => h) (by rfl) (by kernel_rfl) (by kernel_rfl) (Or.inl ⟨by rfl, ?_⟩) (by assumption) ?_
          rotate_left 1
          · (intro w' hSw; (try dsimp only at hSw); go_simp; try with_reducible rfl)
          try simp only [Act.put, List.setIfInBounds_toArray, List.set_cons_zero, List.set_cons_succ, List.getElem_toArray, List.getElem_cons_zero, List.getElem_cons_succ]
          refine wpAnyL_take (i := 5) (v := ?_) rfl (by kernel_rfl) (by kernel_rfl) (by kernel_rfl) (fun _ _ _ h => h) (by rfl) (by kernel_rfl) (by kernel_rfl) (Or.inl ⟨by rfl, ?_⟩) (by assumption) ?_
          rotate_left 1
          · (intro w' hSw; (try dsimp only at hSw); go_simp; try with_reducible rfl)
          try simp only [Act.put, List.setIfInBounds_toArray, List.set_cons_zero, List.set_cons_succ, List.getElem_toArray, List.getElem_cons_zero, List.getElem_cons_succ]
          refine wpAnyL_take (i := 6) (v := ?_) rfl (by kernel_rfl) (by kernel_rfl) (by kernel_rfl) (fun _ _ _ h => h) (by rfl) (by kernel_rfl) (by kernel_rfl) (Or.inl ⟨by rfl, ?_⟩) (by assumption) ?_
          rotate_left 1
          · (intro w' hSw; (try dsimp only at hSw); go_simp; try with_reducible rfl)
          try simp only [Act.put, List.setIfInBounds_toArray, List.set_cons_zero, List.set_cons_succ, List.getElem_toArray, List.getElem_cons_zero, List.getElem_cons_succ]
          refine wpAnyL_ready (rs := [7]) (by kernel_rfl) (by simp) ?_
          refine AllReadyL.last rfl (by kernel_rfl) (fun K hK => ?_)
          have Z8 := hik (rowIs_keep Z9.out KW.out)
          have g0 : wj.drew.cell? ⟨w.heap.size + 1, 0, none⟩ = some (.slice none 0 0) := Z8.out.cell (by omega)
          have f0 := Z8.out.frozen 0
          have gg0 : wj.cell? ⟨w.heap.size + 1, 0, none⟩ = some (.slice none 0 0) := Z9.out.cell (by omega)
          have ff0 := Z9.out.frozen 0
          have g1 : wj.drew.cell? ⟨w.heap.size + 1, 1, none⟩ = some (.int .i64 0) := Z8.out.cell (by omega)
          have f1 := Z8.out.frozen 1
          have gg1 : wj.cell? ⟨w.heap.size + 1, 1, none⟩ = some (.int .i64 0) := Z9.out.cell (by omega)
          have ff1 := Z9.out.frozen 1
          have g2 : wj.drew.cell? ⟨w.heap.size + 1, 2, none⟩ = some (.string ⟨#[]⟩) := Z8.out.cell (by omega)
          have f2 := Z8.out.frozen 2
          have gg2 : wj.cell? ⟨w.heap.size + 1, 2, none⟩ = some (.string ⟨#[]⟩) := Z9.out.cell (by omega)
          have ff2 := Z9.out.frozen 2
          have g3 : wj.drew.cell? ⟨w.heap.size + 1, 3, none⟩ = some (.int .i64 0) := Z8.out.cell (by omega)
          have f3 := Z8.out.frozen 3
          have gg3 : wj.cell? ⟨w.heap.size + 1, 3, none⟩ = some (.int .i64 0) := Z9.out.cell (by omega)
          have ff3 := Z9.out.frozen 3
          have ln : w.heap.size + 1 < wj.drew.heap.size := Z8.out.lt
          have ln2 : w.heap.size + 1 < wj.heap.size := Z9.out.lt
          simp only [List.getElem_toArray, List.getElem_cons_zero, List.getElem_cons_succ]
          go_simp
          refine hK.out _ _ ?_
          clear hK K
          try simp only [Act.put, List.setIfInBounds_toArray, List.set_cons_zero, List.set_cons_succ, List.getElem_toArray, List.getElem_cons_zero, List.getElem_cons_succ]
          clear g0 g1 g2 g3 f0 f1 f2 f3 ln gg0 gg1 gg2 gg3 ff0 ff1 ff2 ff3 ln2
          refine wpAnyL_done (by kernel_rfl) ?_ _
          have KE := hik (chg4_set (Chg.refl (fun b => b = w.heap.size + 1) wj.drew) (w.heap.size + 1) (fun _ => rfl) (.slice cs len caps) (.int .i64 (Qa i)) (.string (Qs i)) (.int .i64 (Qc i)))
          have GE := hik (chg4_set (G9.out.trans KW.out) (w.heap.size + 1) (fun l => absurd l (by omega)) (.slice cs len caps) (.int .i64 (Qa i)) (.string (Qs i)) (.int .i64 (Qc i)))
          have PE := hik ((P9.out.keep KW.out).chg KE.out (fun b hb e => by omega))
          have OE := hik ((O9.out.keep KW.out).chg KE.out (fun b hb _ hp => by have := L9.out; omega))
          go_wp2
          exact bodyPost_ret (v := .tuple #[.slice (some ⟨gR, 0, none⟩) i cR, .slice (some ⟨gP, 0, none⟩) i cP, .slice cv n capv, .agg #[.slice cs len caps, .int .i64 (Qa i), .string (Qs i), .int .i64 (Qc i)]]) (by simp [results, Tryz.results37, go_sem, row4_s0 Z9.out (.slice cs len caps), row4_s1 Z9.out (.slice cs len caps) (.int .i64 (Qa i)), row4_s2 Z9.out (.slice cs len caps) (.int .i64 (Qa i)) (.string (Qs i)), row4_s3 Z9.out (.slice cs len caps) (.int .i64 (Qa i)) (.string (Qs i)) (.int .i64 (Qc i))]) rfl ⟨_, _, _, _, _, _, rfl, (RowsQ.of_owns PE.out.oR PE.out.tR).mono (fun b hb => by have := hb.1; omega), PE.out.ownP.low (by omega), OE.out.low (by have := L9.out; omega), GE.out⟩

theorem sProve_any {k : Nat} (hk : k = 1 ∨ k = 2) (c : Option Addr) (n v cap : Nat) (hn : n = 2 * k) (hv : v ≤ 6) (t : Nat → Nat → El) (cs : Option Addr) (len caps : Nat) (f g : Nat → Int) (at' : Int) (st : ByteArray) (ct : Int) (w : World) (h : Hid (RowsE w c n (2 ^ v) t)) (hs : Hid (PairV w cs len f g)) (hl : len ≤ 64) (hok : okP f g len = true) (hst : st.size = 32) (a0 : 0 ≤ at') (a1 : at' + 6 ≤ 1000000) :
    Calls Tryz.prog 37 #[.int .i64 (k : Int), .slice c n cap, .agg #[.slice cs len caps, .int .i64 at', .string st, .int .i64 ct]] w fun e w' => PvAns w k n v cs len caps (prd k f g len v ⟨t, at', st, ct⟩) (ppt k f g len v ⟨t, at', st, ct⟩) (pvl k f g len v ⟨t, at', st, ct⟩) (pst k f g len v ⟨t, at', st, ct⟩ v).a (pst k f g len v ⟨t, at', st, ct⟩ v).s (pst k f g len v ⟨t, at', st, ct⟩ v).c e w' :=
  sProveT_any hk c n v cap hn hv (fun i => (pst k f g len v ⟨t, at', st, ct⟩ i).t) (prd k f g len v ⟨t, at', st, ct⟩) (ppt k f g len v ⟨t, at', st, ct⟩) (fun i => (pst k f g len v ⟨t, at', st, ct⟩ i).a) (fun i => (pst k f g len v ⟨t, at', st, ct⟩ i).s) (fun i => (pst k f g len v ⟨t, at', st, ct⟩ i).c) cs len caps f g w h hs hl
    (hik (fun i => pst_t k f g len v _ i)) (hik (fun i => rfl)) (hik (fun i => pst_s k f g len v _ i)) (hik (fun i => pst_aS k f g len v _ i)) (hik (fun i => pst_cS k f g len v _ i)) (hik (fun i => ppt_v hok k v _ i)) (hik (fun i => pst_size hst i)) (hik (fun i hi => by
      have q := pst_a (k := k) (f := f) (g := g) (len := len) (v := v) (p := ⟨t, at', st, ct⟩) i
      have q2 : at' ≤ (pst k f g len v ⟨t, at', st, ct⟩ i).a ∧ (pst k f g len v ⟨t, at', st, ct⟩ i).a ≤ at' + i := q
      omega))

end Go.Proofs.YtgiefpipflcbgadGreatDoor
