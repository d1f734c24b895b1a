/- Rows of elements in a block of the call's own that may be longer: words; halves of a slice: a contract. No condition but those that each theorem states. -/
import Derived.Test.YtagjffjdoimhbapSegM
import Derived.Test.YtagjffjdoimhbapElR
import Derived.Test.YtagjffjdoimhbapRegL
import Derived.Test.YtagjffjdoimhbapTabQ
namespace Go.Proofs.Ytagjffjdoimhbap
open Go.ChangeShapes Go.WideShapes Go.ChangeAt Go.RowKit
set_option linter.unusedVariables false
set_option maxRecDepth 100000
set_option linter.unusedSimpArgs false

/-- Block b has M cells: n elements, and what stands behind them. -/
def RowX (W : World) (b M n : Nat) (h : Nat → Value) (T : Nat → El) : Prop := n * 2 ≤ M ∧ W.rowIs b 38 M (fun j => if j < n * 2 then pf (cA T) (cB T) j else h j)
theorem RowX.lt {W : World} {b M n : Nat} {h : Nat → Value} {T : Nat → El} (r : RowX W b M n h T) : b < W.heap.size := World.rowIs.lt r.2
theorem RowX.keep {W W' : World} {b M n : Nat} {h : Nat → Value} {T : Nat → El} (r : RowX W b M n h T) (k : Chg nob W W') : RowX W' b M n h T := ⟨r.1, rowIs_keep r.2 k⟩
theorem RowX.chg {P : Nat → Prop} {W W' : World} {b M n : Nat} {h : Nat → Value} {T : Nat → El} (r : RowX W b M n h T) (k : Chg P W W') (hp : ¬ P b) : RowX W' b M n h T := ⟨r.1, rowIs_chg r.2 k hp⟩
theorem RowX.congr {W : World} {b M n : Nat} {h : Nat → Value} {T U : Nat → El} (r : RowX W b M n h T) (e : ∀ i, i < n → T i = U i) : RowX W b M n h U :=
  ⟨r.1, World.rowIs.congr r.2 (fun j _ => by
    by_cases q : j < n * 2
    · rw [if_pos q, if_pos q]; unfold pf cA cB; rw [e (j / 2) (by omega)]
    · rw [if_neg q, if_neg q])⟩
theorem RowX.c0 {W : World} {b M n : Nat} {h : Nat → Value} {T : Nat → El} (r : RowX W b M n h T) {i : Nat} (hi : i < n) : W.cell? ⟨b, i * 2, none⟩ = some (.int .i64 (T i).v.1) := by
  rw [World.rowIs.cell r.2 (by have := r.1; omega), if_pos (by omega), pf_even]; rfl
theorem RowX.c1 {W : World} {b M n : Nat} {h : Nat → Value} {T : Nat → El} (r : RowX W b M n h T) {i : Nat} (hi : i < n) : W.cell? ⟨b, i * 2 + 1, none⟩ = some (.int .i64 (T i).v.2) := by
  rw [World.rowIs.cell r.2 (by have := r.1; omega), if_pos (by omega), pf_odd]; rfl
theorem RowX.fz {W : World} {b M n : Nat} {h : Nat → Value} {T : Nat → El} (r : RowX W b M n h T) (o : Nat) : W.frozen? ⟨b, o, none⟩ = false := World.rowIs.frozen r.2 o
theorem RowX.set {W : World} {b M n : Nat} {h : Nat → Value} {T : Nat → El} (r : RowX W b M n h T) {k : Nat} (hk : k < n) (x : El) : RowX ((W.setCell ⟨b, k * 2, none⟩ (.int .i64 x.v.1)).setCell ⟨b, k * 2 + 1, none⟩ (.int .i64 x.v.2)) b M n h (upE T k x) :=
  ⟨r.1, World.rowIs.congr (World.rowIs.set (World.rowIs.set r.2 (k * 2) _) (k * 2 + 1) _) (fun i hi => by
    by_cases e1 : i = k * 2 + 1
    · subst e1; simp [pf_odd, cB, upE, show k * 2 + 1 < n * 2 by omega]
    · by_cases e2 : i = k * 2
      · subst e2; simp [pf_even, cA, upE, show k * 2 < n * 2 by omega]
      · have e3 : ¬ i / 2 = k := by omega
        simp [e1, e2, pf, cA, cB, upE, e3])⟩
theorem RowX.other {W : World} {b g M n : Nat} {h : Nat → Value} {T : Nat → El} (r : RowX W b M n h T) (hne : b ≠ g) (o o' : Nat) (u v : Value) : RowX ((W.setCell ⟨g, o, none⟩ u).setCell ⟨g, o', none⟩ v) b M n h T :=
  ⟨r.1, World.rowIs.setOther (a := ⟨g, o', none⟩) (World.rowIs.setOther (a := ⟨g, o, none⟩) r.2 hne u) hne v⟩
theorem RowX.of_row {W : World} {b n : Nat} {T : Nat → El} (r : RowE W b n T) : RowX W b (n * 2) n (fun _ => .int .i64 0) T :=
  ⟨Nat.le_refl _, World.rowIs.congr r (fun j hj => by rw [if_pos hj])⟩
theorem RowX.of_own {W : World} {B n : Nat} {c : Option Addr} {T : Nat → El} (ho : OwnE W B c n (cA T) (cB T)) (hn : 1 ≤ n) : ∃ b M h, c = some ⟨b, 0, none⟩ ∧ B ≤ b ∧ RowX W b M n h T := by
  rcases ho with rfl | ⟨b, N, h, ec, hb, hr, hN, he⟩
  · omega
  · exact ⟨b, N, h, ec, hb, hN, World.rowIs.congr hr (fun j _ => by
      by_cases q : j < n * 2
      · rw [if_pos q, he j q]
      · rw [if_neg q])⟩
theorem RowX.own {W : World} {B b M n : Nat} {h : Nat → Value} {T : Nat → El} (r : RowX W b M n h T) (hB : B ≤ b) : OwnE W B (some ⟨b, 0, none⟩) n (cA T) (cB T) :=
  .inr ⟨b, M, _, rfl, hB, r.2, r.1, fun i hi => by rw [if_pos hi]⟩
theorem RowX.pairs {W : World} {b M n : Nat} {h : Nat → Value} {T : Nat → El} (r : RowX W b M n h T) : PairE W (some ⟨b, 0, none⟩) n T := OwnE.pairs (RowX.own (B := 0) r (Nat.zero_le _))
/-- Only block b has turned. -/
theorem Chg.one {P : Nat → Prop} {w W : World} (h : Chg P w W) (g : Nat) (hg : g < w.heap.size → P g) (o o' : Nat) (u v : Value) : Chg P w ((W.setCell ⟨g, o, none⟩ u).setCell ⟨g, o', none⟩ v) := chg2_at h g hg o o' u v

set_option maxHeartbeats 1000000 in
theorem halves_any (b o N cap H : Nat) (w : World) (hN : N = 2 * H) (hH : H ≤ 4096) (hc : N ≤ cap) (hcap : (cap : Int) ≤ 9223372036854775807) :
    Calls Try.prog 41 #[.slice (some ⟨b, o, none⟩) N cap] w fun e w' => e = .returned (.tuple #[.slice (some ⟨b, o, none⟩) H H, .slice (some ⟨b, o + H * 2, none⟩) H H]) ∧ Chg nob w w' := by
  have hdiv : (N : Int) / 2 = (H : Int) := by omega
  have h1 : (0 : Int) ≤ (H : Int) := by omega
  have h2 : (H : Int) ≤ (cap : Int) := by omega
  have h3 : (N : Int) ≤ (cap : Int) := by omega
  have h4 : (H : Int) ≤ (N : Int) := by omega
  have h5 : N - H = H := by omega
  have HN := hik hN
  clear hN
  go_enter Try.func41, Try.ntmps41
  go_wp2
  have KW := hik ((Chg.refl nob w).drew1)
  have SA := hik (fun (WW : World) (kW : Chg nob w WW) => (show (True) from True.intro))
  refine wp_region_held_drew (S := fun w' => True) (by kernel_rfl) True.intro (fun hHeld => ?_)
  refine wpAnyH_take (i := 0) (v := ?_) rfl (by kernel_rfl) (by kernel_rfl) (by kernel_rfl) (fun _ _ _ h => h) (Or.inl ⟨by rfl, ?_⟩) (by assumption) ?_
  rotate_left 1
  · (intro w' hSw; (try dsimp only at hSw); go_simp; try with_reducible rfl)
  try simp only [Act.put, List.setIfInBounds_toArray, List.set_cons_zero, List.set_cons_succ, List.getElem_toArray, List.getElem_cons_zero, List.getElem_cons_succ]
  refine wpAnyH_take (i := 1) (v := ?_) rfl (by kernel_rfl) (by kernel_rfl) (by kernel_rfl) (fun _ _ _ h => h) (Or.inl ⟨by rfl, ?_⟩) (by assumption) ?_
  rotate_left 1
  · (intro w' hSw; (try dsimp only at hSw); go_simp; try with_reducible rfl)
  try simp only [Act.put, List.setIfInBounds_toArray, List.set_cons_zero, List.set_cons_succ, List.getElem_toArray, List.getElem_cons_zero, List.getElem_cons_succ]
  refine wpAnyH_take (i := 2) (v := .int .i64 (H : Int)) rfl (by kernel_rfl) (by kernel_rfl) (by kernel_rfl) (fun _ _ _ h => h) (Or.inl ⟨by rfl, ?_⟩) (by assumption) ?_
  · (intro w' hSw; (try dsimp only at hSw); go_simp; first | done | exact hdiv | (rw [IntKind.wrap_i64]; omega))
  try simp only [Act.put, List.setIfInBounds_toArray, List.set_cons_zero, List.set_cons_succ, List.getElem_toArray, List.getElem_cons_zero, List.getElem_cons_succ]
  refine wpAnyH_take (i := 3) (v := ?_) rfl (by kernel_rfl) (by kernel_rfl) (by kernel_rfl) (fun _ _ _ h => h) (Or.inl ⟨by rfl, ?_⟩) (by assumption) ?_
  rotate_left 1
  · (intro w' hSw; (try dsimp only at hSw); go_simp; try with_reducible rfl)
  try simp only [Act.put, List.setIfInBounds_toArray, List.set_cons_zero, List.set_cons_succ, List.getElem_toArray, List.getElem_cons_zero, List.getElem_cons_succ]
  refine wpAnyH_take (i := 4) (v := .int .i64 (H : Int)) rfl (by kernel_rfl) (by kernel_rfl) (by kernel_rfl) (fun _ _ _ h => h) (Or.inl ⟨by rfl, ?_⟩) (by assumption) ?_
  · (intro w' hSw; (try dsimp only at hSw); go_simp; first | done | exact hdiv | (rw [IntKind.wrap_i64]; omega))
  try simp only [Act.put, List.setIfInBounds_toArray, List.set_cons_zero, List.set_cons_succ, List.getElem_toArray, List.getElem_cons_zero, List.getElem_cons_succ]
  refine wpAnyH_take (i := 5) (v := .slice (some ⟨b, o, none⟩) H H) rfl (by kernel_rfl) (by kernel_rfl) (by kernel_rfl) (fun _ _ _ h => h) (Or.inl ⟨by rfl, ?_⟩) (by assumption) ?_
  · (intro w' hSw; (try dsimp only at hSw); go_simp; try done)
  try simp only [Act.put, List.setIfInBounds_toArray, List.set_cons_zero, List.set_cons_succ, List.getElem_toArray, List.getElem_cons_zero, List.getElem_cons_succ]
  refine wpAnyH_take (i := 6) (v := ?_) rfl (by kernel_rfl) (by kernel_rfl) (by kernel_rfl) (fun _ _ _ h => h) (Or.inl ⟨by rfl, ?_⟩) (by assumption) ?_
  rotate_left 1
  · (intro w' hSw; (try dsimp only at hSw); go_simp; try with_reducible rfl)
  try simp only [Act.put, List.setIfInBounds_toArray, List.set_cons_zero, List.set_cons_succ, List.getElem_toArray, List.getElem_cons_zero, List.getElem_cons_succ]
  refine wpAnyH_take (i := 7) (v := ?_) rfl (by kernel_rfl) (by kernel_rfl) (by kernel_rfl) (fun _ _ _ h => h) (Or.inl ⟨by rfl, ?_⟩) (by assumption) ?_
  rotate_left 1
  · (intro w' hSw; (try dsimp only at hSw); go_simp; try with_reducible rfl)
  try simp only [Act.put, List.setIfInBounds_toArray, List.set_cons_zero, List.set_cons_succ, List.getElem_toArray, List.getElem_cons_zero, List.getElem_cons_succ]
  refine wpAnyH_take (i := 8) (v := .int .i64 (H : Int)) rfl (by kernel_rfl) (by kernel_rfl) (by kernel_rfl) (fun _ _ _ h => h) (Or.inl ⟨by rfl, ?_⟩) (by assumption) ?_
  · (intro w' hSw; (try dsimp only at hSw); go_simp; first | done | exact hdiv | (rw [IntKind.wrap_i64]; omega))
  try simp only [Act.put, List.setIfInBounds_toArray, List.set_cons_zero, List.set_cons_succ, List.getElem_toArray, List.getElem_cons_zero, List.getElem_cons_succ]
  refine wpAnyH_take (i := 9) (v := ?_) rfl (by kernel_rfl) (by kernel_rfl) (by kernel_rfl) (fun _ _ _ h => h) (Or.inl ⟨by rfl, ?_⟩) (by assumption) ?_
  rotate_left 1
  · (intro w' hSw; (try dsimp only at hSw); go_simp; try with_reducible rfl)
  try simp only [Act.put, List.setIfInBounds_toArray, List.set_cons_zero, List.set_cons_succ, List.getElem_toArray, List.getElem_cons_zero, List.getElem_cons_succ]
  refine wpAnyH_take (i := 10) (v := ?_) rfl (by kernel_rfl) (by kernel_rfl) (by kernel_rfl) (fun _ _ _ h => h) (Or.inl ⟨by rfl, ?_⟩) (by assumption) ?_
  rotate_left 1
  · (intro w' hSw; (try dsimp only at hSw); go_simp; try with_reducible rfl)
  try simp only [Act.put, List.setIfInBounds_toArray, List.set_cons_zero, List.set_cons_succ, List.getElem_toArray, List.getElem_cons_zero, List.getElem_cons_succ]
  refine wpAnyH_take (i := 11) (v := .slice (some ⟨b, o + H * 2, none⟩) H H) rfl (by kernel_rfl) (by kernel_rfl) (by kernel_rfl) (fun _ _ _ h => h) (Or.inl ⟨by rfl, ?_⟩) (by assumption) ?_
  · (intro w' hSw; (try dsimp only at hSw); go_simp; first | done | (intro e; have := HN.out; omega))
  try simp only [Act.put, List.setIfInBounds_toArray, List.set_cons_zero, List.set_cons_succ, List.getElem_toArray, List.getElem_cons_zero, List.getElem_cons_succ]
  refine wpAnyH_take (i := 12) (v := ?_) rfl (by kernel_rfl) (by kernel_rfl) (by kernel_rfl) (fun _ _ _ h => h) (Or.inl ⟨by rfl, ?_⟩) (by assumption) ?_
  rotate_left 1
  · (intro w' hSw; (try dsimp only at hSw); go_simp; try with_reducible rfl)
  try simp only [Act.put, List.setIfInBounds_toArray, List.set_cons_zero, List.set_cons_succ, List.getElem_toArray, List.getElem_cons_zero, List.getElem_cons_succ]
  refine wpAnyH_take (i := 13) (v := ?_) rfl (by kernel_rfl) (by kernel_rfl) (by kernel_rfl) (fun _ _ _ h => h) (Or.inl ⟨by rfl, ?_⟩) (by assumption) ?_
  rotate_left 1
  · (intro w' hSw; (try dsimp only at hSw); go_simp; try with_reducible rfl)
  try simp only [Act.put, List.setIfInBounds_toArray, List.set_cons_zero, List.set_cons_succ, List.getElem_toArray, List.getElem_cons_zero, List.getElem_cons_succ]
  refine wpAnyH_done (by kernel_rfl) ?_ _
  go_wp2
  go_ret2
  exact ⟨rfl, KW.out⟩
end Go.Proofs.Ytagjffjdoimhbap
