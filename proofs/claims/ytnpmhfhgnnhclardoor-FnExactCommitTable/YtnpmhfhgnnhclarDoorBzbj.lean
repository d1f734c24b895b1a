/- Several texts in one: What MerkleRoot, the way up of a node and MerklePath answer: contracts. Conditions: rows that can be read; the tables hold the shifts and the rounds' constants. · What the program's committed words and its CommitTable answer: contracts. Conditions: rows that can be read; the tables hold the shifts and the rounds' constants. -/
import Derived.Test.YtnpmhfhgnnhclarDoorBzbh
import Derived.Test.YtnpmhfhgnnhclarDoorBzbb
import Derived.Test.YtnpmhfhgnnhclarDoorBzaf
import Derived.Test.YtnpmhfhgnnhclarDoorBzbk
import Derived.Test.YtnpmhfhgnnhclarDoorBzbp
import Derived.Test.YtnpmhfhgnnhclarDoorBzbo
import Derived.Test.YtnpmhfhgnnhclarDoorBzbq
namespace Go.Proofs.YtnpmhfhgnnhclarDoor
open Go.ChangeShapes Go.WideShapes Go.ChangeAt Go.RowKit
set_option linter.unusedVariables false
set_option maxRecDepth 100000
set_option linter.unusedSimpArgs false

theorem rsv_top (hh : Nat → Nat) (d : Nat) : rsv hh d d = .slice (some ⟨hh d, 0, none⟩) 1 1 := by
  unfold rsv; rw [Nat.sub_self]


end Go.Proofs.YtnpmhfhgnnhclarDoor

namespace Go.Proofs.YtnpmhfhgnnhclarDoor
open Go.ChangeShapes Go.WideShapes Go.ChangeAt Go.RowKit
set_option linter.unusedVariables false
set_option maxRecDepth 100000
set_option linter.unusedSimpArgs false

set_option maxHeartbeats 1000000 in
theorem pairText_any (a b : El) (w : World) : Calls Tryd.prog 52 #[.agg #[.int .i64 a.v.1, .int .i64 a.v.2], .agg #[.int .i64 b.v.1, .int .i64 b.v.2]] w fun e w' => e = .returned (.string (prT a b)) ∧ Chg nob w w' := by
  have hb : bc (cA (two a b)) (cB (two a b)) 2 = 0 := by unfold bc; rw [if_neg (by omega), okP_el]; rfl
  go_enter Tryd.func52, Tryd.ntmps52
  go_wp2_with fail
  have H2 := hik (two_pairs ((w.alloc (.cells #[.int .i64 a.v.1, .int .i64 a.v.2] 38)).alloc (.cells #[.int .i64 b.v.1, .int .i64 b.v.2] 38)) a b)
  have G2 := hik ((((Chg.refl nob w).alloc (.cells #[.int .i64 a.v.1, .int .i64 a.v.2] 38)).alloc (.cells #[.int .i64 b.v.1, .int .i64 b.v.2] 38)).alloc (.cells #[.int .i64 a.v.1, .int .i64 a.v.2, .int .i64 b.v.1, .int .i64 b.v.2] 38))
  have e2 : ((w.alloc (.cells #[.int .i64 a.v.1, .int .i64 a.v.2] 38)).alloc (.cells #[.int .i64 b.v.1, .int .i64 b.v.2] 38)).heap.size = w.heap.size + 1 + 1 := by simp
  rw [e2] at H2
  generalize hW : ((w.alloc (.cells #[.int .i64 a.v.1, .int .i64 a.v.2] 38)).alloc (.cells #[.int .i64 b.v.1, .int .i64 b.v.2] 38)).alloc (.cells #[.int .i64 a.v.1, .int .i64 a.v.2, .int .i64 b.v.1, .int .i64 b.v.2] 38) = W0 at H2 G2 ⊢
  clear hW e2
  refine (extBytes_yes (some ⟨w.heap.size + 1 + 1, 0, none⟩) 2 2 (cA (two a b)) (cB (two a b)) _ (extBytes_any (some ⟨w.heap.size + 1 + 1, 0, none⟩) 2 2 (cA (two a b)) (cB (two a b)) _ H2 (by omega)) hb).mono ?_
  rintro e W1 ⟨b1, hb1, rfl, hr, kk⟩
  have hcv := convB (some ⟨b1, 0, none⟩) (2 * 8) (2 * 8) (byt (cA (two a b)) (cB (two a b))) W1 (RowV.of_row hr (Nat.le_refl _))
  have hcv : (convert 50 9 (.slice (some ⟨b1, 0, none⟩) (2 * 8) (2 * 8))).run Tryd.prog W1 = .ok (.string (prT a b)) W1 := hcv
  have G3 := hik (G2.out.trans kk)
  clear hr kk hb1 H2 G2
  go_wp2
  go_ret
  exact ⟨rfl, G3.out⟩

/-- A word and its tree: the word's elements, the tree's rows, its nodes from B on. -/
def Cmt (w : World) (B b o cap g : Nat) (T : Nat → El) (N d : Nat) : Prop :=
  ∃ (hh : Nat → Nat) (nb : Nat → Nat → Nat), N ≤ cap ∧ (cap : Int) ≤ 9223372036854775807 ∧ PairE w (some ⟨b, o, none⟩) N T ∧ (∀ j, j ≤ d → w.cell? ⟨g, j, none⟩ = some (rsv hh d j)) ∧ Tr B w (lvW T (2 ^ d)) d d hh nb
theorem Cmt.keep {w w' : World} {B b o cap g : Nat} {T : Nat → El} {N d : Nat} (h : Cmt w B b o cap g T N d) (k : Chg nob w w') : Cmt w' B b o cap g T N d := by
  obtain ⟨hh, nb, h1, h2, h3, h4, h5⟩ := h
  exact ⟨hh, nb, h1, h2, PairE.keep h3 k, fun j hj => k.see (h4 j hj), h5.keep k⟩
theorem rw2_s0 {W : World} {g : Nat} {ty : TypeId} {f : Nat → Value} (h : W.rowIs g ty 2 f) (u : Value) : (W.setCell ⟨g, 0, none⟩ u).cell? ⟨g, 0, none⟩ = some u := World.cell?_setCell_same _ _ _ (u := f 0) (h.cell (by omega))
theorem Tr.down {B B' : Nat} {W : World} {L : Nat → ByteArray} {d j : Nat} {hh : Nat → Nat} {nb : Nat → Nat → Nat} (h : Tr B W L d j hh nb) (hB : B' ≤ B) : Tr B' W L d j hh nb :=
  ⟨fun l hl => ⟨Nat.le_trans hB (h.row l hl).1, (h.row l hl).2⟩, fun l i hl hi => Nat.le_trans hB (h.low l i hl hi), h.link, h.top, h.inj⟩
theorem PairE.chg9 {P : Nat → Prop} {w w' : World} {b o n : Nat} {t : Nat → El} (h : PairE w (some ⟨b, o, none⟩) n t) (k : Chg P w w') (hp : ¬ P b) : PairE w' (some ⟨b, o, none⟩) n t := by
  intro i hi
  obtain ⟨xb, xo, e, l, h1, h2⟩ := h i hi
  cases e
  exact ⟨b, o, rfl, Nat.lt_of_lt_of_le l k.size, by rw [k.cell (p := ⟨b, o + i * 2, none⟩) l hp]; exact h1, by rw [k.cell (p := ⟨b, o + i * 2 + 1, none⟩) l hp]; exact h2⟩

set_option maxHeartbeats 4000000 in
theorem committedTo_any (b o N cap h d : Nat) (t : Nat → El) (w : World) (hp : Hid (PairE w (some ⟨b, o, none⟩) N t)) (ht : Hid (Tabs w)) (hN : N = 2 * h) (hd : d ≤ 8) (hhd : h = 2 ^ d) (hc : N ≤ cap) (hcap : (cap : Int) ≤ 9223372036854775807) :
    Calls Tryd.prog 34 #[.slice (some ⟨b, o, none⟩) N cap] w fun e w' => ∃ (g capo : Nat), e = .returned (.agg #[.slice (some ⟨b, o, none⟩) N cap, .slice (some ⟨g, 0, none⟩) (d + 1) capo]) ∧ w.heap.size ≠ g ∧ Cmt w' w.heap.size b o cap g t N d ∧ Chg nob w w' := by
  have hh : h ≤ 256 := by rw [hhd]; exact Nat.le_trans (Nat.pow_le_pow_right (by omega) hd) (by decide)
  obtain ⟨i0, hi, hz0, hz1, hz2⟩ := info_parts infoSt
  have HI := hik hi
  have HZ0 := hik hz0
  have HZ1 := hik hz1
  have hbb : i0.bytes * h ≤ 281474976710656 := by rw [hz2]; omega
  clear hi hz0 hz1 hz2
  have HN := hik hN
  have HP0 := hik hp.out
  have HN0 := hik (show 0 < N by rw [hN, hhd]; have := Nat.two_pow_pos d; omega)
  have HHD := hik hhd
  have HL := hik (show lvW t h = lvW t (2 ^ d) by rw [hhd])
  have Z0 := hik (row2_new w (.slice none 0 0) (.slice none 0 0) 43)
  have G0 := hik ((Chg.refl nob w).alloc (.cells #[.slice none 0 0, .slice none 0 0] 43))
  clear hN hhd
  go_enter Tryd.func34, Tryd.ntmps34
  go_wp2_with fail
  generalize hW : w.alloc (.cells #[.slice none 0 0, .slice none 0 0] 43) = W0 at Z0 G0 ⊢
  clear hW
  refine (halves_any b o N cap h _ HN.out (by omega) hc hcap).mono ?_
  rintro e W1 ⟨rfl, k1⟩
  replace Z0 := hik (rowIs_keep Z0.out k1)
  have G1 := hik (G0.out.trans k1)
  clear k1 G0
  go_wp2_with (at_make; refine wpList_make_row _ rfl (.tmp 13) (.tmp 13) 34 rfl 9 i0 (.string ⟨#[]⟩) Tryd.underlying34 HI.out HZ0.out HZ1.out rfl .i64 .i64 h rfl rfl hbb (by omega) ?_)
  have hzl := Z0.out.lt
  clear hbb HI HZ0 HZ1
  go_loopw [17] (fun i W => ∃ k : Nat, k ≤ h ∧ i = .int .i64 k ∧ Hid (W.rowIs W1.heap.size 9 h (fun j => if j < k then sb (lvW t h) j else es)) ∧ Hid (Chg nob W1 W)) (fun i _ => h - (intOf i).toNat)
  case atStart => exact ⟨0, Nat.zero_le _, rfl, hik ((World.rowIs_made W1 (.string ⟨#[]⟩) h 9).congr (fun i _ => by rw [if_neg (by omega)]; rfl)), hik ((Chg.refl _ _).alloc _)⟩
  case round =>
    obtain ⟨k, hk, rfl, HR, HG⟩ := hrel
    rename World => wi
    by_cases hlt : k < h
    · have hk1 : (k : Int) < (h : Int) := by omega
      have hk0 : (0 : Int) ≤ (k : Int) := by omega
      have PW := hik (PairE.keep (PairE.keep hp.out G1.out) HG.out)
      have x0 := PairE.c0 PW.out (i := k) (by have := HN.out; omega)
      have x1 := PairE.c1 PW.out (i := k) (by have := HN.out; omega)
      have y0 : wi.cell? ⟨b, o + h * 2 + k * 2, none⟩ = some (.int .i64 (t (k + h)).v.1) := by have := PairE.c0 PW.out (i := k + h) (by have := HN.out; omega); rw [show o + h * 2 + k * 2 = o + (k + h) * 2 by omega]; exact this
      have y1 : wi.cell? ⟨b, o + h * 2 + k * 2 + 1, none⟩ = some (.int .i64 (t (k + h)).v.2) := by have := PairE.c1 PW.out (i := k + h) (by have := HN.out; omega); rw [show o + h * 2 + k * 2 = o + (k + h) * 2 by omega]; exact this
      go_wp2
      have KW := hik ((Chg.refl nob wi).drew1)
      have SA := hik (fun (WW : World) (kW : Chg nob wi WW) => (show (WW.cell? ⟨b, o + k * 2, none⟩ = some (.int .i64 (t k).v.1) ∧ WW.cell? ⟨b, o + k * 2 + 1, none⟩ = some (.int .i64 (t k).v.2) ∧ WW.cell? ⟨b, o + h * 2 + k * 2, none⟩ = some (.int .i64 (t (k + h)).v.1) ∧ WW.cell? ⟨b, o + h * 2 + k * 2 + 1, none⟩ = some (.int .i64 (t (k + h)).v.2)) from ⟨kW.see x0, kW.see x1, kW.see y0, kW.see y1⟩))
      refine wp_regionL (L := 12) (S := fun w' => w'.cell? ⟨b, o + k * 2, none⟩ = some (.int .i64 (t k).v.1) ∧ w'.cell? ⟨b, o + k * 2 + 1, none⟩ = some (.int .i64 (t k).v.2) ∧ w'.cell? ⟨b, o + h * 2 + k * 2, none⟩ = some (.int .i64 (t (k + h)).v.1) ∧ w'.cell? ⟨b, o + h * 2 + k * 2 + 1, none⟩ = some (.int .i64 (t (k + h)).v.2)) (by kernel_rfl) ⟨x0, x1, y0, y1⟩ (fun hHeld => ?_)
      refine wpAnyL_take (i := 0) (v := ?_) rfl (by kernel_rfl) (by kernel_rfl) (by kernel_rfl) (fun _ _ _ h => h) (by rfl) (by kernel_rfl) (by kernel_rfl) (Or.inl ⟨by rfl, ?_⟩) (by assumption) ?_
      rotate_left 1
      · (intro w' hSw; (try dsimp only at hSw); go_simp; try with_reducible rfl)
      try simp only [Act.put, List.setIfInBounds_toArray, List.set_cons_zero, List.set_cons_succ, List.getElem_toArray, List.getElem_cons_zero, List.getElem_cons_succ]
      refine wpAnyL_take (i := 1) (v := ?_) rfl (by kernel_rfl) (by kernel_rfl) (by kernel_rfl) (fun _ _ _ h => h) (by rfl) (by kernel_rfl) (by kernel_rfl) (Or.inl ⟨by rfl, ?_⟩) (by assumption) ?_
      rotate_left 1
      · (intro w' hSw; (try dsimp only at hSw); go_simp; try with_reducible rfl)
      try simp only [Act.put, List.setIfInBounds_toArray, List.set_cons_zero, List.set_cons_succ, List.getElem_toArray, List.getElem_cons_zero, List.getElem_cons_succ]
      refine wpAnyL_take (i := 2) (v := ?_) rfl (by kernel_rfl) (by kernel_rfl) (by kernel_rfl) (fun _ _ _ h => h) (by rfl) (by kernel_rfl) (by kernel_rfl) (Or.inl ⟨by rfl, ?_⟩) (by assumption) ?_
      rotate_left 1
      · (intro w' hSw; (try dsimp only at hSw); go_simp; try with_reducible rfl)
      try simp only [Act.put, List.setIfInBounds_toArray, List.set_cons_zero, List.set_cons_succ, List.getElem_toArray, List.getElem_cons_zero, List.getElem_cons_succ]
      refine wpAnyL_take (i := 3) (v := ?_) rfl (by kernel_rfl) (by kernel_rfl) (by kernel_rfl) (fun _ _ _ h => h) (by rfl) (by kernel_rfl) (by kernel_rfl) (Or.inl ⟨by rfl, ?_⟩) (by assumption) ?_
      rotate_left 1
      · (intro w' hSw; (try dsimp only at hSw); go_simp; try with_reducible rfl)
      try simp only [Act.put, List.setIfInBounds_toArray, List.set_cons_zero, List.set_cons_succ, List.getElem_toArray, List.getElem_cons_zero, List.getElem_cons_succ]
      refine wpAnyL_take (i := 4) (v := ?_) rfl (by kernel_rfl) (by kernel_rfl) (by kernel_rfl) (fun _ _ _ h => h) (by rfl) (by kernel_rfl) (by kernel_rfl) (Or.inl ⟨by rfl, ?_⟩) (by assumption) ?_
      rotate_left 1
      · (intro w' hSw; (try dsimp only at hSw); go_simp; try with_reducible rfl)
      try simp only [Act.put, List.setIfInBounds_toArray, List.set_cons_zero, List.set_cons_succ, List.getElem_toArray, List.getElem_cons_zero, List.getElem_cons_succ]
      refine wpAnyL_take (i := 5) (v := ?_) rfl (by kernel_rfl) (by kernel_rfl) (by kernel_rfl) (fun _ _ _ h => h) (by rfl) (by kernel_rfl) (by kernel_rfl) (Or.inl ⟨by rfl, ?_⟩) (by assumption) ?_
      rotate_left 1
      · (intro w' hSw; (try dsimp only at hSw); go_simp; try with_reducible rfl)
      try simp only [Act.put, List.setIfInBounds_toArray, List.set_cons_zero, List.set_cons_succ, List.getElem_toArray, List.getElem_cons_zero, List.getElem_cons_succ]
      refine wpAnyL_take (i := 6) (v := ?_) rfl (by kernel_rfl) (by kernel_rfl) (by kernel_rfl) (fun _ _ _ h => h) (by rfl) (by kernel_rfl) (by kernel_rfl) (Or.inl ⟨by rfl, ?_⟩) (by assumption) ?_
      rotate_left 1
      · (intro w' hSw; (try dsimp only at hSw); go_simp; try with_reducible rfl)
      try simp only [Act.put, List.setIfInBounds_toArray, List.set_cons_zero, List.set_cons_succ, List.getElem_toArray, List.getElem_cons_zero, List.getElem_cons_succ]
      refine wpAnyL_take (i := 7) (v := ?_) rfl (by kernel_rfl) (by kernel_rfl) (by kernel_rfl) (fun _ _ _ h => h) (by rfl) (by kernel_rfl) (by kernel_rfl) (Or.inl ⟨by rfl, ?_⟩) (by assumption) ?_
      rotate_left 1
      · (intro w' hSw; (try dsimp only at hSw); go_simp; try with_reducible rfl)
      try simp only [Act.put, List.setIfInBounds_toArray, List.set_cons_zero, List.set_cons_succ, List.getElem_toArray, List.getElem_cons_zero, List.getElem_cons_succ]
      refine wpAnyL_take (i := 8) (v := ?_) rfl (by kernel_rfl) (by kernel_rfl) (by kernel_rfl) (fun _ _ _ h => h) (by rfl) (by kernel_rfl) (by kernel_rfl) (Or.inl ⟨by rfl, ?_⟩) (by assumption) ?_
      rotate_left 1
      · (intro w' hSw; (try dsimp only at hSw); go_simp; try with_reducible rfl)
      try simp only [Act.put, List.setIfInBounds_toArray, List.set_cons_zero, List.set_cons_succ, List.getElem_toArray, List.getElem_cons_zero, List.getElem_cons_succ]
      refine wpAnyL_take (i := 9) (v := ?_) rfl (by kernel_rfl) (by kernel_rfl) (by kernel_rfl) (fun _ _ _ h => h) (by rfl) (by kernel_rfl) (by kernel_rfl) (Or.inl ⟨by rfl, ?_⟩) (by assumption) ?_
      rotate_left 1
      · (intro w' hSw; (try dsimp only at hSw); go_simp; try with_reducible rfl)
      try simp only [Act.put, List.setIfInBounds_toArray, List.set_cons_zero, List.set_cons_succ, List.getElem_toArray, List.getElem_cons_zero, List.getElem_cons_succ]
      refine wpAnyL_ready (rs := [10]) (by kernel_rfl) (by simp) ?_
      refine AllReadyL.cons rfl (fun K hK => ?_) AllReadyL.nil
      refine stepL_callN 52 #[.tmp 25, .tmp 29] #[38, 38] (by rfl) (by rfl) #[.agg #[.int .i64 (t k).v.1, .int .i64 (t k).v.2], .agg #[.int .i64 (t (k + h)).v.1, .int .i64 (t (k + h)).v.2]] (by simp only [List.map_toArray, List.map_cons, List.map_nil] <;> rfl) (run_go Tryd.func52 (by kernel_rfl) (by kernel_rfl) _ _) (pairText_any (t k) (t (k + h)) _) ?_
      rintro e U1 ⟨he, kk⟩
      subst he
      have he : Ending.returned (.string (lvW t h k)) = .returned (.string (prT (t k) (t (k + h)))) := rfl
      replace HR := hik (rowIs_keep HR.out (((Chg.refl nob wi).drew1).trans kk))
      refine ⟨_, rfl, ?_⟩
      replace KW := hik (KW.out.trans kk)
      refine hK.out _ _ (SA.out _ KW.out) (fun hHeld => ?_)
      clear hK K
      try simp only [Act.put, List.setIfInBounds_toArray, List.set_cons_zero, List.set_cons_succ, List.getElem_toArray, List.getElem_cons_zero, List.getElem_cons_succ]
      clear kk
      refine wpAnyL_take (i := 11) (v := ?_) rfl (by kernel_rfl) (by kernel_rfl) (by kernel_rfl) (fun _ _ _ h => h) (by rfl) (by kernel_rfl) (by kernel_rfl) (Or.inl ⟨by rfl, ?_⟩) (by assumption) ?_
      rotate_left 1
      · (intro w' hSw; (try dsimp only at hSw); go_simp; try with_reducible rfl)
      try simp only [Act.put, List.setIfInBounds_toArray, List.set_cons_zero, List.set_cons_succ, List.getElem_toArray, List.getElem_cons_zero, List.getElem_cons_succ]
      refine wpAnyL_ready (rs := [12]) (by kernel_rfl) (by simp) ?_
      refine AllReadyL.last rfl (by kernel_rfl) (fun K hK => ?_)
      have hg := HR.out.cell hlt
      have hf := HR.out.frozen k
      simp only [Nat.lt_irrefl, if_false] at hg
      simp only [List.getElem_toArray, List.getElem_cons_zero, List.getElem_cons_succ]
      go_simp
      refine hK.out _ _ ?_
      clear hK K
      try simp only [Act.put, List.setIfInBounds_toArray, List.set_cons_zero, List.set_cons_succ, List.getElem_toArray, List.getElem_cons_zero, List.getElem_cons_succ]
      refine wpAnyL_done (by kernel_rfl) ?_ _
      have HR2 := hik (show _ from (HR.out.set k (.string (lvW t h k))).congr (g := fun j => if j < k + 1 then sb (lvW t h) j else es) (fun i _ => by
        by_cases e : i = k
        · subst e; rw [if_pos rfl, if_pos (by omega)]; rfl
        · rw [if_neg e]
          by_cases e2 : i < k
          · rw [if_pos e2, if_pos (by omega)]
          · rw [if_neg e2, if_neg (by omega)]))
      have HC2 := hik ((HG.out.trans KW.out).setCell (p := ⟨W1.heap.size, k, none⟩) (fun l => absurd l (by simp)) (.string (lvW t h k)))
      clear SA KW x0 x1 y0 y1 PW HR HG hg hf
      go_wp2
      go_roundw
      case rel => exact ⟨k + 1, by omega, by go_num, HR2, HC2⟩
      case measure => simp [intOf]; omega
    · obtain rfl : k = h := by omega
      have RV := hik (RowV.of_row (HR.out.congr (g := sb (lvW t k)) (fun i hi => by rw [if_pos hi])) (Nat.le_refl _))
      have TB := hik ((ht.out.keep G1.out).keep HG.out)
      have G2 := hik (G1.out.trans HG.out)
      have PW := hik (PairE.keep hp.out G2.out)
      replace Z0 := hik (rowIs_keep Z0.out HG.out)
      have hs := G1.out.size
      have hs2 := HG.out.size
      clear HR HG G1 hp ht
      go_wp2_with fail
      refine (rowsOf_any _ k k d (lvW t k) _ RV TB (hik (fun i _ => by rw [lvW_size]; omega)) hd HHD).mono ?_
      rintro e W3 ⟨g, capo, hh', nb, rfl, hcc, tr, k3⟩
      rw [HL.out] at tr
      have HC := hik hcc
      have TR := hik tr
      have G3 := hik (G2.out.trans k3)
      have PW3 := hik (PW.out.keep k3)
      replace Z0 := hik (rowIs_keep Z0.out k3)
      clear hcc tr k3 RV TB
      have hz9 := Z0.out.lt
      have y0 := row2_c0 Z0.out
      have y1 := row2_c1 Z0.out
      have f0 := Z0.out.frozen 0
      have f1 := Z0.out.frozen 1
      go_wp2
      have RR := hik (row2_set Z0.out (.slice (some ⟨b, o, none⟩) N cap) (.slice (some ⟨g, 0, none⟩) (d + 1) capo))
      have r0 := row2_c0 RR.out
      have r1 := row2_c1 RR.out
      have KZ := hik (chg2_at (Chg.refl (fun x => x = w.heap.size) W3) w.heap.size (fun _ => rfl) 0 1 (.slice (some ⟨b, o, none⟩) N cap) (.slice (some ⟨g, 0, none⟩) (d + 1) capo))
      have hgne : g ≠ w.heap.size := by
        rintro rfl
        have q := HC.out 0 (Nat.zero_le _)
        rw [y0] at q
        cases q
      have hbne : b ≠ w.heap.size := by
        obtain ⟨xb, xo, ec, hxb, _⟩ := PairE.at_ HP0.out (i := 0) HN0.out
        cases ec
        omega
      have CM : Hid (Cmt ((W3.setCell ⟨w.heap.size, 0, none⟩ (.slice (some ⟨b, o, none⟩) N cap)).setCell ⟨w.heap.size, 1, none⟩ (.slice (some ⟨g, 0, none⟩) (d + 1) capo)) w.heap.size b o cap g t N d) := hik ⟨hh', nb, hc, hcap, PairE.chg9 PW3.out KZ.out hbne, fun j hj => by rw [KZ.out.cell (p := ⟨g, j, none⟩) (block_lt_of_cell (HC.out j hj)) hgne]; exact HC.out j hj, (TR.out.down (B' := w.heap.size) (by omega)).chg KZ.out (fun l hl e => by have := (TR.out.row l hl).1; omega) (fun l i hl hi e => by have := TR.out.low l i hl hi; omega)⟩
      exact bodyPost_ret (v := .agg #[.slice (some ⟨b, o, none⟩) N cap, .slice (some ⟨g, 0, none⟩) (d + 1) capo]) (by simp [results, Tryd.results34, go_sem, r1, rw2_s0 Z0.out (.slice (some ⟨b, o, none⟩) N cap)]) rfl ⟨g, capo, rfl, fun e => hgne e.symm, CM.out, chg2_at G3.out w.heap.size (fun l => absurd l (by omega)) 0 1 _ _⟩

set_option maxHeartbeats 1000000 in
theorem root_any (B b o cap g capo : Nat) (t : Nat → El) (N d : Nat) (w : World) (h : Hid (Cmt w B b o cap g t N d)) (hd : d ≤ 8) :
    Calls Tryd.prog 19 #[.agg #[.slice (some ⟨b, o, none⟩) N cap, .slice (some ⟨g, 0, none⟩) (d + 1) capo]] w fun e w' => e = .returned (.string (rtW t d)) ∧ Chg nob w w' := by
  obtain ⟨hh, nb, h1, h2, h3, hc, tr⟩ := h.out
  have c0 : w.cell? ⟨g, d, none⟩ = some (.slice (some ⟨hh d, 0, none⟩) 1 1) := by rw [← rsv_top]; exact hc d (Nat.le_refl _)
  have c1 : w.cell? ⟨hh d, 0, none⟩ = some (.pointer (some ⟨nb d 0, 0, none⟩)) := World.rowIs.cell (tr.row d (Nat.le_refl _)).2 (Nat.two_pow_pos _)
  have c2 := (tr.top 0 (Nat.two_pow_pos _)).hash
  have KA := (Chg.refl nob w).alloc (.cells #[.slice (some ⟨b, o, none⟩) N cap, .slice (some ⟨g, 0, none⟩) (d + 1) capo] 43)
  have d0 := KA.see c0
  have d1 := KA.see c1
  have d2 := KA.see c2
  have hd' : (d : Int) ≤ 8 := by omega
  have x1 : ((d : Int) + 1 - 1) = (d : Int) := by omega
  have x2 : (d : Int) < (d : Int) + 1 := by omega
  have HE := hik (show lev (lvW t (2 ^ d)) d 0 = rtW t d from rfl)
  clear h hc tr c0 c1 c2 KA h3
  go_enter Tryd.func19, Tryd.ntmps19
  go_wp2
  go_ret
  exact ⟨by rw [← HE.out]; rfl, (Chg.refl _ _).alloc _⟩

set_option maxHeartbeats 2000000 in
theorem committedTable_any (c : Option Addr) (n cap m q d : Nat) (t : Nat → El) (w : World) (hp : Hid (PairE w c n t)) (ht : Hid (Tabs w)) (hn : n = 2 ^ m) (hm : m ≤ 6) (hm1 : 1 ≤ m) (hq : q ≤ 3) (hd : d + 1 = m + q) :
    Calls Tryd.prog 18 #[.slice c n cap, .int .i64 (q : Int)] w fun e w' => ∃ (b cap' g capo : Nat), e = .returned (.agg #[.slice (some ⟨b, 0, none⟩) (n * 2 ^ q) cap', .slice (some ⟨g, 0, none⟩) (d + 1) capo]) ∧ w.heap.size < b ∧ Cmt w' w.heap.size b 0 cap' g (wdE t m q) (n * 2 ^ q) d ∧ Chg nob w w' := by
  have HN := hik hn
  have hn64 : n ≤ 64 := by rw [hn]; exact Nat.le_trans (Nat.pow_le_pow_right (by omega) hm) (by decide)
  have hmq : m + q ≤ 9 := by omega
  have HZ := hik (show n * 2 ^ q = 2 * 2 ^ d by rw [hn, ← Nat.pow_add, ← hd, Nat.pow_succ]; omega)
  have hpos : 0 < n * 2 ^ q := by rw [HZ.out]; have := Nat.two_pow_pos d; omega
  have HV := hik (show ∀ t', (∀ i, i < n → t' i = El.cfs false (fitE t n zE) m i) → El.nt (m + q) (fitE t' n zE) (El.rtE (m + q)) = wdE t m q from fun t' h' => by
    unfold wdE
    rw [← hn]
    congr 1
    funext i
    unfold fitE
    by_cases e : i < n
    · rw [if_pos e, if_pos e, h' i e]
      exact cfs_congr false (n := m) (fun j hj => by unfold fitE; rw [if_pos (by rw [hn]; exact hj)]) m (Nat.le_refl m) i (by rw [← hn]; exact e)
    · rw [if_neg e, if_neg e])
  have Z0 := hik (row2_new w (.slice none 0 0) (.slice none 0 0) 43)
  have G0 := hik ((Chg.refl nob w).alloc (.cells #[.slice none 0 0, .slice none 0 0] 43))
  have hd8 : d ≤ 8 := by omega
  have hzs : (w.alloc (.cells #[.slice none 0 0, .slice none 0 0] 43)).heap.size = w.heap.size + 1 := by simp
  clear hn hd
  go_enter Tryd.func18, Tryd.ntmps18
  go_wp2_with fail
  generalize hW : w.alloc (.cells #[.slice none 0 0, .slice none 0 0] 43) = W0 at Z0 G0 hzs ⊢
  clear hW
  refine (cubeFrom_any c n cap t _ (hik (PairE.keep hp.out G0.out)) hn64).mono ?_
  rintro e W1 ⟨rfl, k1⟩
  have G1 := hik (G0.out.trans k1)
  replace Z0 := hik (rowIs_keep Z0.out k1)
  clear k1 G0
  go_wp2_with fail
  refine (coefs_N n m HN.out (fitE t n zE) _ hm).mono ?_
  rintro e W2 ⟨t', rfl, ht', k2⟩
  have HT' := hik ht'
  have G2 := hik (G1.out.trans k2)
  replace Z0 := hik (rowIs_keep Z0.out k2)
  clear k2 G1 ht'
  go_wp2_with fail
  refine (list_any n t' _ hn64).mono ?_
  rintro e W3 ⟨c3, cap3, rfl, _, _, o3, k3⟩
  have P3 := hik (show PairE W3 c3 n t' from OwnE.pairs o3)
  have G3 := hik (G2.out.trans k3)
  replace Z0 := hik (rowIs_keep Z0.out k3)
  clear k3 G2 o3
  go_wp2_with fail
  refine (enc_el c3 n m q (n * 2 ^ q) cap3 HN.out rfl t' _ P3 hmq).mono ?_
  have Z0lt := Z0.out.lt
  rintro e W4 ⟨c4, cap4, rfl, hc4, hcap4, o4, k4⟩
  rw [HV.out t' HT'.out] at o4
  obtain ⟨b4, M4, h4, e4, hb4, r4⟩ := RowX.of_own o4 (by omega)
  subst e4
  have P4 := hik (show PairE W4 (some ⟨b4, 0, none⟩) (n * 2 ^ q) (wdE t m q) from OwnE.pairs o4)
  have G4 := hik (G3.out.trans k4)
  have TB := hik (ht.out.keep G4.out)
  replace Z0 := hik (rowIs_keep Z0.out k4)
  have hs4 := G4.out.size
  have hb5 : w.heap.size < b4 := by have := Z0lt; omega
  clear k4 G3 o4 r4 hb4 HV P3
  go_wp2_with fail
  refine (committedTo_any b4 0 (n * 2 ^ q) cap4 (2 ^ d) d (wdE t m q) _ P4 TB HZ.out hd8 rfl hc4 hcap4).mono ?_
  rintro e W5 ⟨g, capo, rfl, hg5, cm, k5⟩
  obtain ⟨hh', nb, hc5, hcap5, pw, hcc, tr⟩ := cm
  have PW := hik pw
  have HC := hik hcc
  have TR := hik tr
  have G5 := hik (G4.out.trans k5)
  have hbox := Z0.out.lt
  replace Z0 := hik (rowIs_keep Z0.out k5)
  clear pw hcc tr k5 G4 P4
  have hz9 := Z0.out.lt
  have y0 := row2_c0 Z0.out
  have y1 := row2_c1 Z0.out
  have f0 := Z0.out.frozen 0
  have f1 := Z0.out.frozen 1
  go_wp2
  have RR := hik (row2_set Z0.out (.slice (some ⟨b4, 0, none⟩) (n * 2 ^ q) cap4) (.slice (some ⟨g, 0, none⟩) (d + 1) capo))
  have r1 := row2_c1 RR.out
  have KZ := hik (chg2_at (Chg.refl (fun x => x = w.heap.size) W5) w.heap.size (fun _ => rfl) 0 1 (.slice (some ⟨b4, 0, none⟩) (n * 2 ^ q) cap4) (.slice (some ⟨g, 0, none⟩) (d + 1) capo))
  have hgne : g ≠ w.heap.size := by
    rintro rfl
    have q := HC.out 0 (Nat.zero_le _)
    rw [y0] at q
    cases q
  have CM : Hid (Cmt ((W5.setCell ⟨w.heap.size, 0, none⟩ (.slice (some ⟨b4, 0, none⟩) (n * 2 ^ q) cap4)).setCell ⟨w.heap.size, 1, none⟩ (.slice (some ⟨g, 0, none⟩) (d + 1) capo)) w.heap.size b4 0 cap4 g (wdE t m q) (n * 2 ^ q) d) := hik ⟨hh', nb, hc4, hcap4, PairE.chg9 PW.out KZ.out (by omega), fun j hj => by rw [KZ.out.cell (p := ⟨g, j, none⟩) (block_lt_of_cell (HC.out j hj)) hgne]; exact HC.out j hj, (TR.out.down (B' := w.heap.size) (by omega)).chg KZ.out (fun l hl e => by have := (TR.out.row l hl).1; omega) (fun l i hl hi e => by have := TR.out.low l i hl hi; omega)⟩
  exact bodyPost_ret (v := .agg #[.slice (some ⟨b4, 0, none⟩) (n * 2 ^ q) cap4, .slice (some ⟨g, 0, none⟩) (d + 1) capo]) (by simp [results, Tryd.results18, go_sem, r1, rw2_s0 Z0.out (.slice (some ⟨b4, 0, none⟩) (n * 2 ^ q) cap4)]) rfl ⟨b4, cap4, g, capo, rfl, hb5, CM.out, chg2_at G5.out w.heap.size (fun l => absurd l (by omega)) 0 1 _ _⟩

set_option maxHeartbeats 2000000 in
theorem commit_any (c : Option Addr) (n cap : Nat) (f g : Nat → Int) (rate : Int) (w : World) (h : Hid (PairV w c n f g)) (ht : Hid (Tabs w)) (hn : n ≤ 1099511627776) :
    Calls Tryd.prog 7 #[.slice c n cap, .int .i64 rate] w fun e w' => e = .returned (.tuple #[.string (cmr f g n rate), .int .i64 (cmc f g n rate)]) ∧ Chg nob w w' := by
  by_cases h1 : 4096 < n
  · have hc : cmc f g n rate = 2 := if_pos h1
    have hr : cmr f g n rate = ⟨#[]⟩ := if_neg (by rw [hc]; decide)
    rw [hc, hr]
    have h1' : (4096 : Int) < (n : Int) := by omega
    clear hc hr
    go_enter Tryd.func7, Tryd.ntmps7
    go_wp2
    go_ret2
    exact ⟨rfl, Chg.refl _ _⟩
  · have h1' : ¬ (4096 : Int) < (n : Int) := by omega
    cases h2 : tok f g n
    · have hc : cmc f g n rate = 1 := by unfold cmc; rw [if_neg h1, h2]; rfl
      have hr : cmr f g n rate = ⟨#[]⟩ := if_neg (by rw [hc]; decide)
      rw [hc, hr]
      clear hc hr
      go_enter Tryd.func7, Tryd.ntmps7
      go_wp2_with (go_at_call 16; refine (tableOK_any c n cap f g _ h hn).mono ?_; rintro e W1 ⟨rfl, k1⟩; have K1 := hik k1; clear k1)
      go_ret2
      exact ⟨rfl, K1.out⟩
    · by_cases hn1 : n = 1
      · have hc : cmc f g n rate = 4 := by have h' : ¬ (n ≠ 1 ∧ rtB rate = true) := fun x => x.1 hn1; unfold cmc; rw [if_neg h1, h2]; exact if_neg h'
        have hr : cmr f g n rate = ⟨#[]⟩ := if_neg (by rw [hc]; decide)
        rw [hc, hr]
        have hn1' : (n : Int) = 1 := by omega
        clear hc hr hn1
        go_enter Tryd.func7, Tryd.ntmps7
        go_wp2_with (go_at_call 16; refine (tableOK_any c n cap f g _ h hn).mono ?_; rintro e W1 ⟨rfl, k1⟩; have K1 := hik k1; clear k1)
        go_ret2
        exact ⟨rfl, K1.out⟩
      · have hn1' : ¬ (n : Int) = 1 := by omega
        cases h3 : rtB rate
        · have hc : cmc f g n rate = 4 := by have h' : ¬ (n ≠ 1 ∧ rtB rate = true) := fun x => absurd x.2 (by rw [h3]; decide); unfold cmc; rw [if_neg h1, h2]; exact if_neg h'
          have hr : cmr f g n rate = ⟨#[]⟩ := if_neg (by rw [hc]; decide)
          rw [hc, hr]
          clear hc hr
          go_enter Tryd.func7, Tryd.ntmps7
          go_wp2_with (first | (go_at_call 16; refine (tableOK_any c n cap f g _ h hn).mono ?_; rintro e W1 ⟨rfl, k1⟩; have K1 := hik k1; clear k1) | (go_at_call 17; refine (isOpenRate_any _ _).mono ?_; rintro e W2 ⟨rfl, hw⟩; have hw := hw.symm; subst hw))
          go_ret2
          exact ⟨rfl, K1.out⟩
        · have hc : cmc f g n rate = 0 := by have h' : n ≠ 1 ∧ rtB rate = true := ⟨hn1, h3⟩; unfold cmc; rw [if_neg h1, h2]; exact if_pos h'
          have hr : cmr f g n rate = rtW (wdE (elF f g) (l2 n) rate.toNat) (l2 n + rate.toNat - 1) := if_pos hc
          rw [hc, hr]
          obtain ⟨q, rfl, q1, q3⟩ := rtB_nat h3
          obtain ⟨e2, m6⟩ := tok_pow h2
          have PE := hik (PairE.of h.out (tok_ok h2))
          obtain ⟨m, hm⟩ : ∃ m, m = l2 n := ⟨_, rfl⟩
          rw [← hm] at e2 m6 ⊢
          have m1 : 1 ≤ m := by
            rcases Nat.eq_zero_or_pos m with rfl | h'
            · exact absurd e2 hn1
            · exact h'
          have HE := hik e2
          obtain ⟨d, hd⟩ : ∃ d, d = m + q - 1 := ⟨_, rfl⟩
          have hdd : d + 1 = m + q := by omega
          have HD := hik hdd
          have hd8 : d ≤ 8 := by omega
          rw [Int.toNat_natCast, ← hd]
          clear hc hr e2 hm hd hdd
          go_enter Tryd.func7, Tryd.ntmps7
          go_wp2_with (first | (go_at_call 16; refine (tableOK_any c n cap f g _ h hn).mono ?_; rintro e W1 ⟨rfl, k1⟩; have K1 := hik k1; clear k1) | (go_at_call 17; refine (isOpenRate_any _ _).mono ?_; rintro e W2 ⟨rfl, hw⟩; have hw := hw.symm; subst hw) | (go_at_call 18; fail))
          refine (committedTable_any c n cap m q d (elF f g) _ (hik (PE.out.keep K1.out)) (hik (ht.out.keep K1.out)) HE.out m6 m1 q3 HD.out).mono ?_
          rintro e W3 ⟨b3, cap3, g3, capo3, rfl, _, cm, k3⟩
          have CM := hik cm
          have G3 := hik (K1.out.trans k3)
          clear cm k3
          go_wp2_with fail
          refine (root_any _ b3 0 cap3 g3 capo3 _ (n * 2 ^ q) d _ CM hd8).mono ?_
          rintro e W4 ⟨rfl, k4⟩
          have G4 := hik (G3.out.trans k4)
          clear k4 G3 CM
          go_wp2
          go_ret2
          exact ⟨rfl, G4.out⟩

end Go.Proofs.YtnpmhfhgnnhclarDoor
