/- Several texts in one: Elements in blocks of their own, slices of elements of a call's own: words. No condition but those that each theorem states. · What the model's coefficients, values and products of points answer: contracts. Conditions: elements of the greater field, rows that can be read, tables of at most 64. -/
import Derived.Test.YtnpmhfhgnnhclarDoorBzak
import Derived.Test.YtnpmhfhgnnhclarDoorBzaq
import Derived.Test.YtnpmhfhgnnhclarDoorBzar
namespace Go.Proofs.YtnpmhfhgnnhclarDoor
open Go.ChangeShapes Go.WideShapes Go.ChangeAt Go.RowKit
set_option linter.unusedVariables false
set_option maxRecDepth 100000
set_option linter.unusedSimpArgs false

/-- No element. -/
def zE (_ : Nat) : El := El.zr
/-- Elements copied into a table. -/
def fitE (t : Nat → El) (n : Nat) (u : Nat → El) (i : Nat) : El := if i < n then t i else u i
/-- An element in a block of its own. -/
def ElB (W : World) (b : Nat) (x : El) : Prop := W.rowIs b 38 2 (pv2 (.int .i64 x.v.1) (.int .i64 x.v.2))
theorem ElB.new (W : World) (x : El) : ElB (W.alloc (.cells #[.int .i64 x.v.1, .int .i64 x.v.2] 38)) W.heap.size x := row2_new W _ _ _
theorem ElB.zero (W : World) : ElB (W.alloc (.cells #[.int .i64 0, .int .i64 0] 38)) W.heap.size El.zr := row2_new W _ _ _
theorem ElB.keep {W W' : World} {b : Nat} {x : El} (h : ElB W b x) (k : Chg nob W W') : ElB W' b x := rowIs_keep h k
theorem ElB.chg {P : Nat → Prop} {W W' : World} {b : Nat} {x : El} (h : ElB W b x) (k : Chg P W W') (hp : ¬ P b) : ElB W' b x := rowIs_chg h k hp
theorem ElB.lt {W : World} {b : Nat} {x : El} (h : ElB W b x) : b < W.heap.size := World.rowIs.lt h
theorem ElB.c0 {W : World} {b : Nat} {x : El} (h : ElB W b x) : W.cell? ⟨b, 0, none⟩ = some (.int .i64 x.v.1) := row2_c0 h
theorem ElB.c1 {W : World} {b : Nat} {x : El} (h : ElB W b x) : W.cell? ⟨b, 1, none⟩ = some (.int .i64 x.v.2) := row2_c1 h
theorem ElB.fz {W : World} {b : Nat} {x : El} (h : ElB W b x) (o : Nat) : W.frozen? ⟨b, o, none⟩ = false := World.rowIs.frozen h o
theorem ElB.set {W : World} {b : Nat} {x : El} (h : ElB W b x) (y : El) : ElB ((W.setCell ⟨b, 0, none⟩ (.int .i64 y.v.1)).setCell ⟨b, 1, none⟩ (.int .i64 y.v.2)) b y := row2_set h _ _
theorem ElB.other {W : World} {b g : Nat} {x : El} (h : ElB W b x) (hne : b ≠ g) (o o' : Nat) (u v : Value) : ElB ((W.setCell ⟨g, o, none⟩ u).setCell ⟨g, o', none⟩ v) b x :=
  World.rowIs.setOther (a := ⟨g, o', none⟩) (World.rowIs.setOther (a := ⟨g, o, none⟩) h hne u) hne v

/-- A slice of elements of a call's own, or none. -/
def SlAns (w : World) (n : Nat) (t : Nat → El) (e : Ending) (w' : World) : Prop :=
  ∃ (c : Option Addr) (cap : Nat), e = .returned (.slice c n cap) ∧ n ≤ cap ∧ (cap : Int) ≤ 9223372036854775807 ∧ OwnE w' w.heap.size c n (cA t) (cB t) ∧ Chg nob w w'

end Go.Proofs.YtnpmhfhgnnhclarDoor

namespace Go.Proofs.YtnpmhfhgnnhclarDoor
open Go.ChangeShapes Go.WideShapes Go.ChangeAt Go.RowKit
set_option linter.unusedVariables false
set_option maxRecDepth 100000
set_option linter.unusedSimpArgs false

/-- A row that begins with n elements. -/
def RowP (W : World) (b n : Nat) (t : Nat → El) : Prop := ∃ (N : Nat) (H : Nat → Value), W.rowIs b 38 N H ∧ n * 2 ≤ N ∧ ∀ i, i < n * 2 → H i = pf (cA t) (cB t) i
theorem RowP.keep {W W' : World} {b n : Nat} {t : Nat → El} (h : RowP W b n t) (k : Chg nob W W') : RowP W' b n t := by
  obtain ⟨N, H, r, q⟩ := h
  exact ⟨N, H, rowIs_keep r k, q⟩
theorem RowP.lt {W : World} {b n : Nat} {t : Nat → El} (h : RowP W b n t) : b < W.heap.size := by
  obtain ⟨N, H, r, q⟩ := h
  exact r.lt
theorem RowP.c0 {W : World} {b n : Nat} {t : Nat → El} (h : RowP W b n t) {k : Nat} (hk : k < n) : W.cell? ⟨b, k * 2, none⟩ = some (.int .i64 (t k).v.1) := by
  obtain ⟨N, H, r, q, e⟩ := h
  rw [r.cell (by omega), e _ (by omega), pf_even]; rfl
theorem RowP.c1 {W : World} {b n : Nat} {t : Nat → El} (h : RowP W b n t) {k : Nat} (hk : k < n) : W.cell? ⟨b, k * 2 + 1, none⟩ = some (.int .i64 (t k).v.2) := by
  obtain ⟨N, H, r, q, e⟩ := h
  rw [r.cell (by omega), e _ (by omega), pf_odd]; rfl
theorem RowP.fz {W : World} {b n : Nat} {t : Nat → El} (h : RowP W b n t) (o : Nat) : W.frozen? ⟨b, o, none⟩ = false := by
  obtain ⟨N, H, r, q⟩ := h
  exact r.frozen o
theorem RowP.congr {W : World} {b n : Nat} {t u : Nat → El} (h : RowP W b n t) (e : ∀ i, i < n → t i = u i) : RowP W b n u := by
  obtain ⟨N, H, r, q, e'⟩ := h
  exact ⟨N, H, r, q, fun i hi => by rw [e' i hi]; unfold pf cA cB; rw [e (i / 2) (by omega)]⟩
theorem RowP.set {W : World} {b n : Nat} {t : Nat → El} (h : RowP W b n t) (k : Nat) (x : El) : RowP ((W.setCell ⟨b, k * 2, none⟩ (.int .i64 x.v.1)).setCell ⟨b, k * 2 + 1, none⟩ (.int .i64 x.v.2)) b n (upE t k x) := by
  obtain ⟨N, H, r, q, e⟩ := h
  refine ⟨N, _, World.rowIs.set (World.rowIs.set r (k * 2) _) (k * 2 + 1) _, q, fun i hi => ?_⟩
  by_cases e1 : i = k * 2 + 1
  · subst e1; simp [pf_odd, cB, upE]
  · by_cases e2 : i = k * 2
    · subst e2; simp [pf_even, cA, upE]
    · have e3 : ¬ i / 2 = k := by omega
      simp [e1, e2, pf, cA, cB, upE, e3]
      have := e i hi
      unfold pf cA cB at this
      exact this
theorem RowP.own {W : World} {B b n : Nat} {t : Nat → El} (h : RowP W b n t) (hB : B ≤ b) : OwnE W B (some ⟨b, 0, none⟩) n (cA t) (cB t) := by
  obtain ⟨N, H, r, q, e⟩ := h
  exact .inr ⟨b, N, H, rfl, hB, r, q, e⟩
theorem RowP.of_own {W : World} {B n : Nat} {c : Option Addr} {t : Nat → El} (h : OwnE W B c n (cA t) (cB t)) (hn : 1 ≤ n) : ∃ b, c = some ⟨b, 0, none⟩ ∧ B ≤ b ∧ RowP W b n t := by
  rcases h with rfl | ⟨b, N, H, rfl, hB, r, q, e⟩
  · omega
  · exact ⟨b, rfl, hB, N, H, r, q, e⟩

set_option maxHeartbeats 4000000 in
theorem sCoefs_false (c : Option Addr) (N cap n : Nat) (hN : N = 2 ^ n) (t : Nat → El) (w : World) (h : Hid (PairE w c N t)) (hn : n ≤ 6) : Calls Tryd.prog 27 #[.slice c N cap, .bool false] w fun e w' => SlAns w N (El.cfs false t n) e w' := by
  have hN64 : N ≤ 64 := by rw [hN]; exact pow_le6 hn
  have hN1 : 1 ≤ N := by rw [hN]; exact Nat.one_le_two_pow
  have HN := hik hN
  clear hN
  obtain ⟨i0, hi, hz0, hz1, hz2⟩ := info_parts infoExt
  have HI := hik hi
  have HZ0 := hik hz0
  have HZ1 := hik hz1
  have HZ2 := hik hz2
  clear hi hz0 hz1 hz2
  go_enter Tryd.func27, Tryd.ntmps27
  go_wp2_with (at_builtin; refine wpList_append_pairs _ (.tmp 8) (.tmp 9) 26 rfl rfl i0 Tryd.underlying26 HI.out HZ0.out HZ1.out HZ2.out w.heap.size (by simp) rfl c N cap (cA t) (cB t) rfl (PairE.keep h.out ((Chg.refl nob w).alloc _)) (by omega) ?_)
  intro c' cap' W1 ho hc hcm k1
  obtain ⟨b, rfl, hb, hrow⟩ := RowP.of_own ho hN1
  have R1 := hik hrow
  have G1 := hik (((Chg.refl nob w).alloc _).trans k1)
  have HB0 := hik (show w.heap.size ≤ b from Nat.le_trans (by simp) hb)
  clear ho k1 hrow hb
  go_wp2
  go_loopw [6] (fun v W => ∃ (j B : Nat) (T : Nat → El), j ≤ n ∧ v = .int .i64 (B : Int) ∧ Hid (B = 2 ^ j) ∧ Hid (∀ i, i < N → T i = El.cfs false t j i) ∧ Hid (RowP W b N T) ∧ Hid (Chg nob w W)) (fun v _ => N - (intOf v).toNat)
  case atStart => exact ⟨0, 1, t, Nat.zero_le _, rfl, hik rfl, hik (fun _ _ => rfl), R1, G1⟩
  case round =>
    clear R1 G1
    obtain ⟨j, B, T, hj, rfl, HB, HT, HS, HG⟩ := hrel
    rename World => wo
    by_cases hlt : B < N
    · have hlt' : (B : Int) < (N : Int) := by omega
      have hjn : j < n := by
        have h1 := HB.out; have h2 := HN.out
        rw [h1, h2] at hlt
        exact (Nat.pow_lt_pow_iff_right (by omega)).1 hlt
      have hj6 : j < 6 := by omega
      have hB1 : 1 ≤ B := by rw [HB.out]; exact Nat.one_le_two_pow
      go_wp2
      go_loopw [7] (fun i W => ∃ k : Nat, k ≤ N ∧ i = .int .i64 k ∧ Hid (RowP W b N (stK false j T k)) ∧ Hid (Chg nob w W)) (fun i _ => N - (intOf i).toNat)
      case atStart => exact ⟨0, Nat.zero_le _, rfl, hik (HS.out.congr (fun i _ => by unfold stK; rw [if_neg (by omega)])), HG⟩
      case round =>
        clear HS HG
        obtain ⟨k, hk, rfl, HS, HG⟩ := hrel
        rename World => wi
        by_cases hkl : k < N
        · have hk1 : (k : Int) < (N : Int) := by omega
          have hk0 : (0 : Int) ≤ (k : Int) := by omega
          cases hbit : k.testBit j
          · have hand : bits .and .i64 (k : Int) (B : Int) = 0 := by rw [HB.out]; exact and_bit0 (by omega) hj6 hbit
            go_wp2
            go_roundw
            case rel => exact ⟨k + 1, by omega, by go_num, hik (HS.out.congr (fun i _ => stK_skip false hbit i)), HG⟩
            case measure => simp [intOf]; omega
          · have hand : bits .and .i64 (k : Int) (B : Int) = (B : Int) := by rw [HB.out]; exact and_bit1 (by omega) hj6 hbit
            have hne : ¬ (B : Int) = 0 := by omega
            obtain ⟨q, hq⟩ : ∃ q, q = k ^^^ 2 ^ j := ⟨_, rfl⟩
            have HF := hik hq.symm
            have hqs : q = k - B := by rw [hq, HB.out]; exact flip_sub (by omega) hj6 hbit
            have hwq : bits .xor .i64 (k : Int) (B : Int) = (q : Int) := by rw [hq, HB.out]; exact xor_bit (by omega) hj6
            have hBk : B ≤ k := by rw [HB.out]; exact bit_le hbit
            have hq0 : (0 : Int) ≤ (q : Int) := by omega
            have hq1 : (q : Int) < (N : Int) := by omega
            have hqk : q < k := by omega
            clear hq hqs
            have ek : stK false j T k k = T k := by unfold stK; rw [if_neg (by omega)]
            have eq0 : stK false j T k q = T q := by
              unfold stK
              rw [if_pos hqk, ← HF.out]
              exact stp_flip false T hbit
            have x0 : wi.cell? ⟨b, k * 2, none⟩ = some (.int .i64 (T k).v.1) := by rw [← ek]; exact HS.out.c0 (by omega)
            have x1 : wi.cell? ⟨b, k * 2 + 1, none⟩ = some (.int .i64 (T k).v.2) := by rw [← ek]; exact HS.out.c1 (by omega)
            have y0 : wi.cell? ⟨b, q * 2, none⟩ = some (.int .i64 (T q).v.1) := by rw [← eq0]; exact HS.out.c0 (by omega)
            have y1 : wi.cell? ⟨b, q * 2 + 1, none⟩ = some (.int .i64 (T q).v.2) := by rw [← eq0]; exact HS.out.c1 (by omega)
            clear ek eq0
            go_wp2
            have KW := hik ((Chg.refl nob wi).drew1)
            have SA := hik (fun (WW : World) (kW : Chg nob wi WW) => (show (WW.cell? ⟨b, k * 2, none⟩ = some (.int .i64 (T k).v.1) ∧ WW.cell? ⟨b, k * 2 + 1, none⟩ = some (.int .i64 (T k).v.2) ∧ WW.cell? ⟨b, q * 2, none⟩ = some (.int .i64 (T q).v.1) ∧ WW.cell? ⟨b, q * 2 + 1, none⟩ = some (.int .i64 (T q).v.2)) from ⟨kW.see x0, kW.see x1, kW.see y0, kW.see y1⟩))
            refine wp_regionL (L := 14) (S := fun w' => w'.cell? ⟨b, k * 2, none⟩ = some (.int .i64 (T k).v.1) ∧ w'.cell? ⟨b, k * 2 + 1, none⟩ = some (.int .i64 (T k).v.2) ∧ w'.cell? ⟨b, q * 2, none⟩ = some (.int .i64 (T q).v.1) ∧ w'.cell? ⟨b, q * 2 + 1, none⟩ = some (.int .i64 (T q).v.2)) (by kernel_rfl) ⟨x0, x1, y0, y1⟩ (fun hHeld => ?_)
            refine wpAnyL_take (i := 0) (v := ?_) rfl (by kernel_rfl) (by kernel_rfl) (by kernel_rfl) (fun _ _ _ h => h) (by rfl) (by kernel_rfl) (by kernel_rfl) (Or.inl ⟨by rfl, ?_⟩) (by assumption) ?_
            rotate_left 1
            · (intro w' hSw; (try dsimp only at hSw); go_simp; try with_reducible rfl)
            try simp only [Act.put, List.setIfInBounds_toArray, List.set_cons_zero, List.set_cons_succ, List.getElem_toArray, List.getElem_cons_zero, List.getElem_cons_succ]
            refine wpAnyL_take (i := 1) (v := ?_) rfl (by kernel_rfl) (by kernel_rfl) (by kernel_rfl) (fun _ _ _ h => h) (by rfl) (by kernel_rfl) (by kernel_rfl) (Or.inl ⟨by rfl, ?_⟩) (by assumption) ?_
            rotate_left 1
            · (intro w' hSw; (try dsimp only at hSw); go_simp; try with_reducible rfl)
            try simp only [Act.put, List.setIfInBounds_toArray, List.set_cons_zero, List.set_cons_succ, List.getElem_toArray, List.getElem_cons_zero, List.getElem_cons_succ]
            refine wpAnyL_take (i := 2) (v := ?_) rfl (by kernel_rfl) (by kernel_rfl) (by kernel_rfl) (fun _ _ _ h => h) (by rfl) (by kernel_rfl) (by kernel_rfl) (Or.inl ⟨by rfl, ?_⟩) (by assumption) ?_
            rotate_left 1
            · (intro w' hSw; (try dsimp only at hSw); go_simp; try with_reducible rfl)
            try simp only [Act.put, List.setIfInBounds_toArray, List.set_cons_zero, List.set_cons_succ, List.getElem_toArray, List.getElem_cons_zero, List.getElem_cons_succ]
            refine wpAnyL_take (i := 3) (v := ?_) rfl (by kernel_rfl) (by kernel_rfl) (by kernel_rfl) (fun _ _ _ h => h) (by rfl) (by kernel_rfl) (by kernel_rfl) (Or.inl ⟨by rfl, ?_⟩) (by assumption) ?_
            rotate_left 1
            · (intro w' hSw; (try dsimp only at hSw); go_simp; try with_reducible rfl)
            try simp only [Act.put, List.setIfInBounds_toArray, List.set_cons_zero, List.set_cons_succ, List.getElem_toArray, List.getElem_cons_zero, List.getElem_cons_succ]
            refine wpAnyL_take (i := 4) (v := ?_) rfl (by kernel_rfl) (by kernel_rfl) (by kernel_rfl) (fun _ _ _ h => h) (by rfl) (by kernel_rfl) (by kernel_rfl) (Or.inl ⟨by rfl, ?_⟩) (by assumption) ?_
            rotate_left 1
            · (intro w' hSw; (try dsimp only at hSw); go_simp; try with_reducible rfl)
            try simp only [Act.put, List.setIfInBounds_toArray, List.set_cons_zero, List.set_cons_succ, List.getElem_toArray, List.getElem_cons_zero, List.getElem_cons_succ]
            refine wpAnyL_take (i := 5) (v := ?_) rfl (by kernel_rfl) (by kernel_rfl) (by kernel_rfl) (fun _ _ _ h => h) (by rfl) (by kernel_rfl) (by kernel_rfl) (Or.inl ⟨by rfl, ?_⟩) (by assumption) ?_
            rotate_left 1
            · (intro w' hSw; (try dsimp only at hSw); go_simp; try with_reducible rfl)
            try simp only [Act.put, List.setIfInBounds_toArray, List.set_cons_zero, List.set_cons_succ, List.getElem_toArray, List.getElem_cons_zero, List.getElem_cons_succ]
            refine wpAnyL_take (i := 6) (v := ?_) rfl (by kernel_rfl) (by kernel_rfl) (by kernel_rfl) (fun _ _ _ h => h) (by rfl) (by kernel_rfl) (by kernel_rfl) (Or.inl ⟨by rfl, ?_⟩) (by assumption) ?_
            rotate_left 1
            · (intro w' hSw; (try dsimp only at hSw); go_simp; try with_reducible rfl)
            try simp only [Act.put, List.setIfInBounds_toArray, List.set_cons_zero, List.set_cons_succ, List.getElem_toArray, List.getElem_cons_zero, List.getElem_cons_succ]
            refine wpAnyL_take (i := 7) (v := ?_) rfl (by kernel_rfl) (by kernel_rfl) (by kernel_rfl) (fun _ _ _ h => h) (by rfl) (by kernel_rfl) (by kernel_rfl) (Or.inl ⟨by rfl, ?_⟩) (by assumption) ?_
            rotate_left 1
            · (intro w' hSw; (try dsimp only at hSw); go_simp; try with_reducible rfl)
            try simp only [Act.put, List.setIfInBounds_toArray, List.set_cons_zero, List.set_cons_succ, List.getElem_toArray, List.getElem_cons_zero, List.getElem_cons_succ]
            refine wpAnyL_take (i := 8) (v := ?_) rfl (by kernel_rfl) (by kernel_rfl) (by kernel_rfl) (fun _ _ _ h => h) (by rfl) (by kernel_rfl) (by kernel_rfl) (Or.inl ⟨by rfl, ?_⟩) (by assumption) ?_
            rotate_left 1
            · (intro w' hSw; (try dsimp only at hSw); go_simp; try with_reducible rfl)
            try simp only [Act.put, List.setIfInBounds_toArray, List.set_cons_zero, List.set_cons_succ, List.getElem_toArray, List.getElem_cons_zero, List.getElem_cons_succ]
            refine wpAnyL_take (i := 9) (v := .int .i64 (q : Int)) rfl (by kernel_rfl) (by kernel_rfl) (by kernel_rfl) (fun _ _ _ h => h) (by rfl) (by kernel_rfl) (by kernel_rfl) (Or.inl ⟨by rfl, ?_⟩) (by assumption) ?_
            · (intro w' hSw; (try dsimp only at hSw); go_simp; first | done | exact hwq)
            try simp only [Act.put, List.setIfInBounds_toArray, List.set_cons_zero, List.set_cons_succ, List.getElem_toArray, List.getElem_cons_zero, List.getElem_cons_succ]
            refine wpAnyL_take (i := 10) (v := ?_) rfl (by kernel_rfl) (by kernel_rfl) (by kernel_rfl) (fun _ _ _ h => h) (by rfl) (by kernel_rfl) (by kernel_rfl) (Or.inl ⟨by rfl, ?_⟩) (by assumption) ?_
            rotate_left 1
            · (intro w' hSw; (try dsimp only at hSw); go_simp; try with_reducible rfl)
            try simp only [Act.put, List.setIfInBounds_toArray, List.set_cons_zero, List.set_cons_succ, List.getElem_toArray, List.getElem_cons_zero, List.getElem_cons_succ]
            refine wpAnyL_take (i := 11) (v := ?_) rfl (by kernel_rfl) (by kernel_rfl) (by kernel_rfl) (fun _ _ _ h => h) (by rfl) (by kernel_rfl) (by kernel_rfl) (Or.inl ⟨by rfl, ?_⟩) (by assumption) ?_
            rotate_left 1
            · (intro w' hSw; (try dsimp only at hSw); go_simp; try with_reducible rfl)
            try simp only [Act.put, List.setIfInBounds_toArray, List.set_cons_zero, List.set_cons_succ, List.getElem_toArray, List.getElem_cons_zero, List.getElem_cons_succ]
            refine wpAnyL_ready (rs := [12]) (by kernel_rfl) (by simp) ?_
            refine AllReadyL.cons rfl (fun K hK => ?_) AllReadyL.nil
            refine stepL_callN 43 #[.tmp 47, .tmp 53] #[38, 38] (by rfl) (by rfl) #[.agg #[.int .i64 (T k).v.1, .int .i64 (T k).v.2], .agg #[.int .i64 (T q).v.1, .int .i64 (T q).v.2]] (by simp only [List.map_toArray, List.map_cons, List.map_nil] <;> rfl) (run_go Tryd.func43 (by kernel_rfl) (by kernel_rfl) _ _) (sSb_el (T k) (T q) _) ?_
            rintro e U1 ⟨he, kk⟩
            refine ⟨_, he, ?_⟩
            replace KW := hik (KW.out.trans kk)
            refine hK.out _ _ (SA.out _ KW.out) (fun hHeld => ?_)
            clear hK K
            try simp only [Act.put, List.setIfInBounds_toArray, List.set_cons_zero, List.set_cons_succ, List.getElem_toArray, List.getElem_cons_zero, List.getElem_cons_succ]
            clear he kk
            refine wpAnyL_take (i := 13) (v := ?_) rfl (by kernel_rfl) (by kernel_rfl) (by kernel_rfl) (fun _ _ _ h => h) (by rfl) (by kernel_rfl) (by kernel_rfl) (Or.inl ⟨by rfl, ?_⟩) (by assumption) ?_
            rotate_left 1
            · (intro w' hSw; (try dsimp only at hSw); go_simp; try with_reducible rfl)
            try simp only [Act.put, List.setIfInBounds_toArray, List.set_cons_zero, List.set_cons_succ, List.getElem_toArray, List.getElem_cons_zero, List.getElem_cons_succ]
            refine wpAnyL_ready (rs := [14]) (by kernel_rfl) (by simp) ?_
            refine AllReadyL.last rfl (by kernel_rfl) (fun K hK => ?_)
            have SN := hik (HS.out.keep KW.out)
            have g0 := SN.out.c0 (k := k) (by omega)
            have g1 := SN.out.c1 (k := k) (by omega)
            have f0 := SN.out.fz (k * 2)
            have f1 := SN.out.fz (k * 2 + 1)
            have ln : b < U1.heap.size := SN.out.lt
            simp only [List.getElem_toArray, List.getElem_cons_zero, List.getElem_cons_succ]
            go_simp
            refine hK.out _ _ ?_
            clear hK K
            try simp only [Act.put, List.setIfInBounds_toArray, List.set_cons_zero, List.set_cons_succ, List.getElem_toArray, List.getElem_cons_zero, List.getElem_cons_succ]
            clear g0 g1 f0 f1 ln
            refine wpAnyL_done (by kernel_rfl) ?_ _
            have S2 := hik (RowP.congr (u := stK false j T (k + 1)) (SN.out.set k (El.sb (T k) (T q))) (fun i _ => by rw [← HF.out]; exact stK_step false T hbit i))
            have G2 := hik (chg2_at (HG.out.trans KW.out) b (fun l => absurd l (by have := HB0.out; omega)) (k * 2) (k * 2 + 1) (.int .i64 (El.sb (T k) (T q)).v.1) (.int .i64 (El.sb (T k) (T q)).v.2))
            generalize hE : ((U1.setCell ⟨b, k * 2, none⟩ (.int .i64 (El.sb (T k) (T q)).v.1)).setCell ⟨b, k * 2 + 1, none⟩ (.int .i64 (El.sb (T k) (T q)).v.2)) = W2 at S2 G2 ⊢
            clear hE SN KW SA hHeld x0 x1 y0 y1 HS HG
            go_wp2
            go_roundw
            case rel => exact ⟨k + 1, by omega, by go_num, S2, G2⟩
            case measure => simp [intOf]; omega
        · obtain rfl : N = k := by omega
          obtain ⟨B2, hB2⟩ : ∃ B2, B2 = B * 2 := ⟨_, rfl⟩
          have HB2 := hik hB2
          have hwB : IntKind.i64.wrap ((B : Int) * 2) = (B2 : Int) := by rw [IntKind.wrap_i64]; omega
          have hm : N - B2 < N - B := by omega
          clear hB2
          go_wp2
          go_roundw
          case rel => exact ⟨j + 1, B2, stK false j T N, hjn, rfl, hik (by rw [HB2.out, HB.out, Nat.pow_succ]), hik (fun i hi => stK_all false (by rw [← HN.out]; exact HT.out) hjn (by rw [← HN.out]; exact hi) (by rw [HN.out])), HS, HG⟩
          case measure => simp [intOf]; omega
    · have hjn : n ≤ j := by
        have h1 := HB.out; have h2 := HN.out
        rw [h1, h2] at hlt
        exact Nat.le_of_not_lt (fun h => hlt ((Nat.pow_lt_pow_iff_right (by omega)).2 h))
      obtain rfl : n = j := by omega
      have hlt' : ¬ (B : Int) < (N : Int) := by omega
      go_wp2
      go_ret
      exact ⟨some ⟨b, 0, none⟩, cap', rfl, hc, hcm, RowP.own (HS.out.congr HT.out) HB0.out, HG.out⟩


end Go.Proofs.YtnpmhfhgnnhclarDoor
