/- Several texts in one: Plain facts: a part of a list put anew, elements at even places brought ahead of those at odd ones, values put together two by two. No program is named here; no condition but those that each theorem states. · Rows of elements in a block of the call's own that may be longer: words; halves of a slice: a contract. No condition but those that each theorem states. -/
import Derived.Test.YtnpmhfhgnnhclarDoorBzas
import Derived.Test.YtnpmhfhgnnhclarDoorBzak
import Derived.Test.YtnpmhfhgnnhclarDoorBzao
import Derived.Test.YtnpmhfhgnnhclarDoorBzaq
import Derived.Test.YtnpmhfhgnnhclarDoorBzat
namespace Go.Proofs.YtnpmhfhgnnhclarDoor
set_option linter.unusedVariables false
set_option linter.unusedSimpArgs false

/-- N elements from o on put anew. -/
def sgE (T : Nat → El) (o N : Nat) (u : Nat → El) (i : Nat) : El := if o ≤ i ∧ i < o + N then u (i - o) else T i
theorem sgE_in {T : Nat → El} {o N : Nat} {u : Nat → El} {i : Nat} (h : i < N) : sgE T o N u (o + i) = u i := by
  unfold sgE; rw [if_pos (by omega), show o + i - o = i by omega]
theorem sgE_out {T : Nat → El} {o N : Nat} {u : Nat → El} {i : Nat} (h : ¬ (o ≤ i ∧ i < o + N)) : sgE T o N u i = T i := by
  unfold sgE; rw [if_neg h]
theorem sgE_same {T : Nat → El} {o N : Nat} {u : Nat → El} (h : ∀ i, i < N → u i = T (o + i)) (i : Nat) : sgE T o N u i = T i := by
  unfold sgE
  by_cases e : o ≤ i ∧ i < o + N
  · rw [if_pos e, h _ (by omega), show o + (i - o) = i by omega]
  · rw [if_neg e]

/-- Even places ahead of odd ones. -/
def uw : Nat → (Nat → El) → Nat → El
  | 0, t, i => t i
  | m + 1, t, i => if i < 2 ^ m then t (2 * i) else t (2 * (i - 2 ^ m) + 1)
theorem uw_one (t : Nat → El) {i : Nat} (hi : i < 2) : uw 1 t i = t i := by
  rw [uw]
  by_cases e : i < 2 ^ 0
  · rw [if_pos e]; congr 1; simp at e; omega
  · rw [if_neg e]; congr 1; simp at e ⊢; omega
theorem uw_ev {m : Nat} (t : Nat → El) {i : Nat} (hi : i < 2 ^ m) : uw (m + 1) t i = El.evC t i := by rw [uw, if_pos hi]; rfl
theorem uw_od {m : Nat} (t : Nat → El) (i : Nat) : uw (m + 1) t (2 ^ m + i) = El.odC t i := by
  rw [uw, if_neg (by omega), show 2 ^ m + i - 2 ^ m = i by omega]; rfl

/-- k elements from a on and k from c on, changed for one another. -/
def swp (T : Nat → El) (a c k i : Nat) : El := if a ≤ i ∧ i < a + k then T (i - a + c) else if c ≤ i ∧ i < c + k then T (i - c + a) else T i
theorem swp_zero (T : Nat → El) (a c i : Nat) : swp T a c 0 i = T i := by unfold swp; rw [if_neg (by omega), if_neg (by omega)]
theorem swp_a {T : Nat → El} {a c k q : Nat} (hk : k < q) (h : a + q ≤ c) : swp T a c k (a + k) = T (a + k) := by unfold swp; rw [if_neg (by omega), if_neg (by omega)]
theorem swp_c {T : Nat → El} {a c k q : Nat} (hk : k < q) (h : a + q ≤ c) : swp T a c k (c + k) = T (c + k) := by unfold swp; rw [if_neg (by omega), if_neg (by omega)]
theorem swp_step {T : Nat → El} {a c k q : Nat} (hk : k < q) (h : a + q ≤ c) (i : Nat) : upE (upE (swp T a c k) (a + k) (T (c + k))) (c + k) (T (a + k)) i = swp T a c (k + 1) i := by
  unfold upE swp
  by_cases e1 : i = c + k
  · subst e1
    rw [if_pos rfl, if_neg (by omega), if_pos (by omega), show c + k - c + a = a + k by omega]
  · rw [if_neg e1]
    by_cases e2 : i = a + k
    · subst e2
      rw [if_pos rfl, if_pos (by omega), show a + k - a + c = c + k by omega]
    · rw [if_neg e2]
      by_cases e3 : a ≤ i ∧ i < a + k
      · rw [if_pos e3, if_pos (by omega)]
      · rw [if_neg e3, if_neg (show ¬ (a ≤ i ∧ i < a + (k + 1)) by omega)]
        by_cases e4 : c ≤ i ∧ i < c + k
        · rw [if_pos e4, if_pos (by omega)]
        · rw [if_neg e4, if_neg (by omega)]
/-- Both halves so, and the middle changed: the whole is so. -/
theorem uw_all {m q : Nat} (hq : q = 2 ^ m) (T : Nat → El) (o i : Nat) :
    swp (sgE (sgE T o (2 * q) (uw (m + 1) (fun i => T (o + i)))) (o + 2 * q) (2 * q) (uw (m + 1) (fun i => sgE T o (2 * q) (uw (m + 1) (fun i => T (o + i))) (o + 2 * q + i)))) (o + q) (o + 2 * q) q i = sgE T o (4 * q) (uw (m + 2) (fun i => T (o + i))) i := by
  have h2 : 2 ^ (m + 1) = 2 * q := by rw [Nat.pow_succ, Nat.mul_comm, hq]
  have e0 : ∀ i, sgE T o (2 * q) (uw (m + 1) (fun i => T (o + i))) (o + 2 * q + i) = T (o + 2 * q + i) := fun i => sgE_out (by omega)
  simp only [e0]
  have u1 : ∀ (t : Nat → El) j, j < q → uw (m + 1) t j = t (2 * j) := fun t j hj => by rw [uw, if_pos (by omega)]
  have u2 : ∀ (t : Nat → El) j, uw (m + 1) t (q + j) = t (2 * j + 1) := fun t j => by rw [uw, if_neg (by omega), show q + j - 2 ^ m = j by omega]
  have v1 : ∀ (t : Nat → El) j, j < 2 * q → uw (m + 2) t j = t (2 * j) := fun t j hj => by rw [uw, if_pos (by omega)]
  have v2 : ∀ (t : Nat → El) j, uw (m + 2) t (2 * q + j) = t (2 * j + 1) := fun t j => by rw [uw, if_neg (by omega), show 2 * q + j - 2 ^ (m + 1) = j by omega]
  unfold swp
  by_cases h1 : o + q ≤ i ∧ i < o + q + q
  · rw [if_pos h1]
    obtain ⟨j, rfl⟩ : ∃ j, i = o + q + j := ⟨i - (o + q), by omega⟩
    rw [show o + q + j - (o + q) + (o + 2 * q) = o + 2 * q + j by omega, sgE_in (by omega), u1 _ _ (by omega), show o + q + j = o + (q + j) by omega, sgE_in (by omega), v1 _ _ (by omega)]
    congr 1; omega
  · rw [if_neg h1]
    by_cases h3 : o + 2 * q ≤ i ∧ i < o + 2 * q + q
    · rw [if_pos h3]
      obtain ⟨j, rfl⟩ : ∃ j, i = o + 2 * q + j := ⟨i - (o + 2 * q), by omega⟩
      rw [show o + 2 * q + j - (o + 2 * q) + (o + q) = o + (q + j) by omega, sgE_out (by omega), sgE_in (by omega), u2, show o + 2 * q + j = o + (2 * q + j) by omega, sgE_in (by omega), v2]
    · rw [if_neg h3]
      by_cases h4 : o + 2 * q ≤ i ∧ i < o + 2 * q + 2 * q
      · obtain ⟨j, rfl⟩ : ∃ j, i = o + 2 * q + (q + j) := ⟨i - (o + 2 * q + q), by omega⟩
        rw [sgE_in (by omega), u2, show o + 2 * q + (q + j) = o + (2 * q + (q + j)) by omega, sgE_in (by omega), v2]
        congr 1; omega
      · rw [sgE_out h4]
        by_cases h5 : o ≤ i ∧ i < o + 2 * q
        · obtain ⟨j, rfl⟩ : ∃ j, i = o + j := ⟨i - o, by omega⟩
          rw [sgE_in (by omega), sgE_in (by omega), u1 _ _ (by omega), v1 _ _ (by omega)]
        · rw [sgE_out h5, sgE_out (by omega)]

/-- The first k of each half put together. -/
def bfE (T A B : Nat → El) (x : El) (o H k i : Nat) : El :=
  if o ≤ i ∧ i < o + k then El.ad (A (i - o)) (El.ml (El.pwE x (i - o)) (B (i - o))) else if o + H ≤ i ∧ i < o + H + k then El.sb (A (i - (o + H))) (El.ml (El.pwE x (i - (o + H))) (B (i - (o + H)))) else T i
theorem bfE_zero (T A B : Nat → El) (x : El) (o H i : Nat) : bfE T A B x o H 0 i = T i := by unfold bfE; rw [if_neg (by omega), if_neg (by omega)]
theorem bfE_a {T A B : Nat → El} {x : El} {o H k : Nat} (hk : k < H) : bfE T A B x o H k (o + k) = T (o + k) := by unfold bfE; rw [if_neg (by omega), if_neg (by omega)]
theorem bfE_b {T A B : Nat → El} {x : El} {o H k : Nat} (hk : k < H) : bfE T A B x o H k (o + H + k) = T (o + H + k) := by unfold bfE; rw [if_neg (by omega), if_neg (by omega)]
theorem bfE_step {T A B : Nat → El} {x : El} {o H k : Nat} (hk : k < H) (i : Nat) : upE (upE (bfE T A B x o H k) (o + k) (El.ad (A k) (El.ml (El.pwE x k) (B k)))) (o + H + k) (El.sb (A k) (El.ml (El.pwE x k) (B k))) i = bfE T A B x o H (k + 1) i := by
  unfold upE bfE
  by_cases e1 : i = o + H + k
  · subst e1
    rw [if_pos rfl, if_neg (by omega), if_pos (by omega), show o + H + k - (o + H) = k by omega]
  · rw [if_neg e1]
    by_cases e2 : i = o + k
    · subst e2
      rw [if_pos rfl, if_pos (by omega), show o + k - o = k by omega]
    · rw [if_neg e2]
      by_cases e3 : o ≤ i ∧ i < o + k
      · rw [if_pos e3, if_pos (by omega)]
      · rw [if_neg e3, if_neg (show ¬ (o ≤ i ∧ i < o + (k + 1)) by omega)]
        by_cases e4 : o + H ≤ i ∧ i < o + H + k
        · rw [if_pos e4, if_pos (by omega)]
        · rw [if_neg e4, if_neg (by omega)]
theorem bfE_all {m H : Nat} (hH : H = 2 ^ m) (T T3 : Nat → El) (t : Nat → El) (x : El) (o : Nat) (hT : ∀ i, ¬ (o ≤ i ∧ i < o + 2 * H) → T3 i = T i) (i : Nat) :
    bfE T3 (El.nt m (El.evC t) (El.ml x x)) (El.nt m (El.odC t) (El.ml x x)) x o H H i = sgE T o (2 * H) (El.nt (m + 1) t x) i := by
  unfold bfE
  by_cases h1 : o ≤ i ∧ i < o + H
  · obtain ⟨j, rfl⟩ : ∃ j, i = o + j := ⟨i - o, by omega⟩
    rw [if_pos h1, sgE_in (by omega), El.nt, if_pos (by omega), show o + j - o = j by omega, El.ml_comm (El.pwE x j)]
  · rw [if_neg h1]
    by_cases h2 : o + H ≤ i ∧ i < o + H + H
    · obtain ⟨j, rfl⟩ : ∃ j, i = o + (H + j) := ⟨i - (o + H), by omega⟩
      rw [if_pos h2, sgE_in (by omega), El.nt, if_neg (by omega), show o + (H + j) - (o + H) = j by omega, show H + j - 2 ^ m = j by omega, El.ml_comm (El.pwE x j)]
    · rw [if_neg h2, sgE_out (by omega), hT i (by omega)]
/-- Values at the powers hang on as many coefficients alone: of elements that stand apart. -/
theorem nt_ev {m : Nat} (T : Nat → El) (o : Nat) (w : El) (j : Nat) : El.nt m (fun i => sgE T o (2 ^ (m + 1)) (uw (m + 1) (fun i => T (o + i))) (o + i)) w j = El.nt m (El.evC (fun i => T (o + i))) w j := by
  have h2 : 2 ^ (m + 1) = 2 * 2 ^ m := by rw [Nat.pow_succ, Nat.mul_comm]
  exact El.nt_congr m w (fun i hi => by rw [sgE_in (by omega), uw_ev _ hi]) j
theorem nt_od {m : Nat} (T : Nat → El) (o : Nat) (w : El) (j : Nat) : El.nt m (fun i => sgE T o (2 ^ (m + 1)) (uw (m + 1) (fun i => T (o + i))) (o + 2 ^ m + i)) w j = El.nt m (El.odC (fun i => T (o + i))) w j := by
  have h2 : 2 ^ (m + 1) = 2 * 2 ^ m := by rw [Nat.pow_succ, Nat.mul_comm]
  exact El.nt_congr m w (fun i hi => by rw [show o + 2 ^ m + i = o + (2 ^ m + i) by omega, sgE_in (by omega), uw_od]) j

end Go.Proofs.YtnpmhfhgnnhclarDoor

namespace Go.Proofs.YtnpmhfhgnnhclarDoor
open Go.ChangeShapes Go.WideShapes Go.ChangeAt Go.RowKit
set_option linter.unusedVariables false
set_option maxRecDepth 100000
set_option linter.unusedSimpArgs false

/-- Block b has M cells: n elements, and what stands behind them. -/
def RowX (W : World) (b M n : Nat) (h : Nat → Value) (T : Nat → El) : Prop := n * 2 ≤ M ∧ W.rowIs b 38 M (fun j => if j < n * 2 then pf (cA T) (cB T) j else h j)
theorem RowX.lt {W : World} {b M n : Nat} {h : Nat → Value} {T : Nat → El} (r : RowX W b M n h T) : b < W.heap.size := World.rowIs.lt r.2
theorem RowX.keep {W W' : World} {b M n : Nat} {h : Nat → Value} {T : Nat → El} (r : RowX W b M n h T) (k : Chg nob W W') : RowX W' b M n h T := ⟨r.1, rowIs_keep r.2 k⟩
theorem RowX.chg {P : Nat → Prop} {W W' : World} {b M n : Nat} {h : Nat → Value} {T : Nat → El} (r : RowX W b M n h T) (k : Chg P W W') (hp : ¬ P b) : RowX W' b M n h T := ⟨r.1, rowIs_chg r.2 k hp⟩
theorem RowX.congr {W : World} {b M n : Nat} {h : Nat → Value} {T U : Nat → El} (r : RowX W b M n h T) (e : ∀ i, i < n → T i = U i) : RowX W b M n h U :=
  ⟨r.1, World.rowIs.congr r.2 (fun j _ => by
    by_cases q : j < n * 2
    · rw [if_pos q, if_pos q]; unfold pf cA cB; rw [e (j / 2) (by omega)]
    · rw [if_neg q, if_neg q])⟩
theorem RowX.c0 {W : World} {b M n : Nat} {h : Nat → Value} {T : Nat → El} (r : RowX W b M n h T) {i : Nat} (hi : i < n) : W.cell? ⟨b, i * 2, none⟩ = some (.int .i64 (T i).v.1) := by
  rw [World.rowIs.cell r.2 (by have := r.1; omega), if_pos (by omega), pf_even]; rfl
theorem RowX.c1 {W : World} {b M n : Nat} {h : Nat → Value} {T : Nat → El} (r : RowX W b M n h T) {i : Nat} (hi : i < n) : W.cell? ⟨b, i * 2 + 1, none⟩ = some (.int .i64 (T i).v.2) := by
  rw [World.rowIs.cell r.2 (by have := r.1; omega), if_pos (by omega), pf_odd]; rfl
theorem RowX.fz {W : World} {b M n : Nat} {h : Nat → Value} {T : Nat → El} (r : RowX W b M n h T) (o : Nat) : W.frozen? ⟨b, o, none⟩ = false := World.rowIs.frozen r.2 o
theorem RowX.set {W : World} {b M n : Nat} {h : Nat → Value} {T : Nat → El} (r : RowX W b M n h T) {k : Nat} (hk : k < n) (x : El) : RowX ((W.setCell ⟨b, k * 2, none⟩ (.int .i64 x.v.1)).setCell ⟨b, k * 2 + 1, none⟩ (.int .i64 x.v.2)) b M n h (upE T k x) :=
  ⟨r.1, World.rowIs.congr (World.rowIs.set (World.rowIs.set r.2 (k * 2) _) (k * 2 + 1) _) (fun i hi => by
    by_cases e1 : i = k * 2 + 1
    · subst e1; simp [pf_odd, cB, upE, show k * 2 + 1 < n * 2 by omega]
    · by_cases e2 : i = k * 2
      · subst e2; simp [pf_even, cA, upE, show k * 2 < n * 2 by omega]
      · have e3 : ¬ i / 2 = k := by omega
        simp [e1, e2, pf, cA, cB, upE, e3])⟩
theorem RowX.other {W : World} {b g M n : Nat} {h : Nat → Value} {T : Nat → El} (r : RowX W b M n h T) (hne : b ≠ g) (o o' : Nat) (u v : Value) : RowX ((W.setCell ⟨g, o, none⟩ u).setCell ⟨g, o', none⟩ v) b M n h T :=
  ⟨r.1, World.rowIs.setOther (a := ⟨g, o', none⟩) (World.rowIs.setOther (a := ⟨g, o, none⟩) r.2 hne u) hne v⟩
theorem RowX.of_row {W : World} {b n : Nat} {T : Nat → El} (r : RowE W b n T) : RowX W b (n * 2) n (fun _ => .int .i64 0) T :=
  ⟨Nat.le_refl _, World.rowIs.congr r (fun j hj => by rw [if_pos hj])⟩
theorem RowX.of_own {W : World} {B n : Nat} {c : Option Addr} {T : Nat → El} (ho : OwnE W B c n (cA T) (cB T)) (hn : 1 ≤ n) : ∃ b M h, c = some ⟨b, 0, none⟩ ∧ B ≤ b ∧ RowX W b M n h T := by
  rcases ho with rfl | ⟨b, N, h, ec, hb, hr, hN, he⟩
  · omega
  · exact ⟨b, N, h, ec, hb, hN, World.rowIs.congr hr (fun j _ => by
      by_cases q : j < n * 2
      · rw [if_pos q, he j q]
      · rw [if_neg q])⟩
theorem RowX.own {W : World} {B b M n : Nat} {h : Nat → Value} {T : Nat → El} (r : RowX W b M n h T) (hB : B ≤ b) : OwnE W B (some ⟨b, 0, none⟩) n (cA T) (cB T) :=
  .inr ⟨b, M, _, rfl, hB, r.2, r.1, fun i hi => by rw [if_pos hi]⟩
theorem RowX.pairs {W : World} {b M n : Nat} {h : Nat → Value} {T : Nat → El} (r : RowX W b M n h T) : PairE W (some ⟨b, 0, none⟩) n T := OwnE.pairs (RowX.own (B := 0) r (Nat.zero_le _))
/-- Only block b has turned. -/
theorem Chg.one {P : Nat → Prop} {w W : World} (h : Chg P w W) (g : Nat) (hg : g < w.heap.size → P g) (o o' : Nat) (u v : Value) : Chg P w ((W.setCell ⟨g, o, none⟩ u).setCell ⟨g, o', none⟩ v) := chg2_at h g hg o o' u v

set_option maxHeartbeats 1000000 in
theorem halves_any (b o N cap H : Nat) (w : World) (hN : N = 2 * H) (hH : H ≤ 4096) (hc : N ≤ cap) (hcap : (cap : Int) ≤ 9223372036854775807) :
    Calls Tryd.prog 51 #[.slice (some ⟨b, o, none⟩) N cap] w fun e w' => e = .returned (.tuple #[.slice (some ⟨b, o, none⟩) H H, .slice (some ⟨b, o + H * 2, none⟩) H H]) ∧ Chg nob w w' := by
  have hdiv : (N : Int) / 2 = (H : Int) := by omega
  have h1 : (0 : Int) ≤ (H : Int) := by omega
  have h2 : (H : Int) ≤ (cap : Int) := by omega
  have h3 : (N : Int) ≤ (cap : Int) := by omega
  have h4 : (H : Int) ≤ (N : Int) := by omega
  have h5 : N - H = H := by omega
  have HN := hik hN
  clear hN
  go_enter Tryd.func51, Tryd.ntmps51
  go_wp2
  have KW := hik ((Chg.refl nob w).drew1)
  have SA := hik (fun (WW : World) (kW : Chg nob w WW) => (show (True) from True.intro))
  refine wp_region_held_drew (S := fun w' => True) (by kernel_rfl) True.intro (fun hHeld => ?_)
  refine wpAnyH_take (i := 0) (v := ?_) rfl (by kernel_rfl) (by kernel_rfl) (by kernel_rfl) (fun _ _ _ h => h) (Or.inl ⟨by rfl, ?_⟩) (by assumption) ?_
  rotate_left 1
  · (intro w' hSw; (try dsimp only at hSw); go_simp; try with_reducible rfl)
  try simp only [Act.put, List.setIfInBounds_toArray, List.set_cons_zero, List.set_cons_succ, List.getElem_toArray, List.getElem_cons_zero, List.getElem_cons_succ]
  refine wpAnyH_take (i := 1) (v := ?_) rfl (by kernel_rfl) (by kernel_rfl) (by kernel_rfl) (fun _ _ _ h => h) (Or.inl ⟨by rfl, ?_⟩) (by assumption) ?_
  rotate_left 1
  · (intro w' hSw; (try dsimp only at hSw); go_simp; try with_reducible rfl)
  try simp only [Act.put, List.setIfInBounds_toArray, List.set_cons_zero, List.set_cons_succ, List.getElem_toArray, List.getElem_cons_zero, List.getElem_cons_succ]
  refine wpAnyH_take (i := 2) (v := .int .i64 (H : Int)) rfl (by kernel_rfl) (by kernel_rfl) (by kernel_rfl) (fun _ _ _ h => h) (Or.inl ⟨by rfl, ?_⟩) (by assumption) ?_
  · (intro w' hSw; (try dsimp only at hSw); go_simp; first | done | exact hdiv | (rw [IntKind.wrap_i64]; omega))
  try simp only [Act.put, List.setIfInBounds_toArray, List.set_cons_zero, List.set_cons_succ, List.getElem_toArray, List.getElem_cons_zero, List.getElem_cons_succ]
  refine wpAnyH_take (i := 3) (v := ?_) rfl (by kernel_rfl) (by kernel_rfl) (by kernel_rfl) (fun _ _ _ h => h) (Or.inl ⟨by rfl, ?_⟩) (by assumption) ?_
  rotate_left 1
  · (intro w' hSw; (try dsimp only at hSw); go_simp; try with_reducible rfl)
  try simp only [Act.put, List.setIfInBounds_toArray, List.set_cons_zero, List.set_cons_succ, List.getElem_toArray, List.getElem_cons_zero, List.getElem_cons_succ]
  refine wpAnyH_take (i := 4) (v := .int .i64 (H : Int)) rfl (by kernel_rfl) (by kernel_rfl) (by kernel_rfl) (fun _ _ _ h => h) (Or.inl ⟨by rfl, ?_⟩) (by assumption) ?_
  · (intro w' hSw; (try dsimp only at hSw); go_simp; first | done | exact hdiv | (rw [IntKind.wrap_i64]; omega))
  try simp only [Act.put, List.setIfInBounds_toArray, List.set_cons_zero, List.set_cons_succ, List.getElem_toArray, List.getElem_cons_zero, List.getElem_cons_succ]
  refine wpAnyH_take (i := 5) (v := .slice (some ⟨b, o, none⟩) H H) rfl (by kernel_rfl) (by kernel_rfl) (by kernel_rfl) (fun _ _ _ h => h) (Or.inl ⟨by rfl, ?_⟩) (by assumption) ?_
  · (intro w' hSw; (try dsimp only at hSw); go_simp; try done)
  try simp only [Act.put, List.setIfInBounds_toArray, List.set_cons_zero, List.set_cons_succ, List.getElem_toArray, List.getElem_cons_zero, List.getElem_cons_succ]
  refine wpAnyH_take (i := 6) (v := ?_) rfl (by kernel_rfl) (by kernel_rfl) (by kernel_rfl) (fun _ _ _ h => h) (Or.inl ⟨by rfl, ?_⟩) (by assumption) ?_
  rotate_left 1
  · (intro w' hSw; (try dsimp only at hSw); go_simp; try with_reducible rfl)
  try simp only [Act.put, List.setIfInBounds_toArray, List.set_cons_zero, List.set_cons_succ, List.getElem_toArray, List.getElem_cons_zero, List.getElem_cons_succ]
  refine wpAnyH_take (i := 7) (v := ?_) rfl (by kernel_rfl) (by kernel_rfl) (by kernel_rfl) (fun _ _ _ h => h) (Or.inl ⟨by rfl, ?_⟩) (by assumption) ?_
  rotate_left 1
  · (intro w' hSw; (try dsimp only at hSw); go_simp; try with_reducible rfl)
  try simp only [Act.put, List.setIfInBounds_toArray, List.set_cons_zero, List.set_cons_succ, List.getElem_toArray, List.getElem_cons_zero, List.getElem_cons_succ]
  refine wpAnyH_take (i := 8) (v := .int .i64 (H : Int)) rfl (by kernel_rfl) (by kernel_rfl) (by kernel_rfl) (fun _ _ _ h => h) (Or.inl ⟨by rfl, ?_⟩) (by assumption) ?_
  · (intro w' hSw; (try dsimp only at hSw); go_simp; first | done | exact hdiv | (rw [IntKind.wrap_i64]; omega))
  try simp only [Act.put, List.setIfInBounds_toArray, List.set_cons_zero, List.set_cons_succ, List.getElem_toArray, List.getElem_cons_zero, List.getElem_cons_succ]
  refine wpAnyH_take (i := 9) (v := ?_) rfl (by kernel_rfl) (by kernel_rfl) (by kernel_rfl) (fun _ _ _ h => h) (Or.inl ⟨by rfl, ?_⟩) (by assumption) ?_
  rotate_left 1
  · (intro w' hSw; (try dsimp only at hSw); go_simp; try with_reducible rfl)
  try simp only [Act.put, List.setIfInBounds_toArray, List.set_cons_zero, List.set_cons_succ, List.getElem_toArray, List.getElem_cons_zero, List.getElem_cons_succ]
  refine wpAnyH_take (i := 10) (v := ?_) rfl (by kernel_rfl) (by kernel_rfl) (by kernel_rfl) (fun _ _ _ h => h) (Or.inl ⟨by rfl, ?_⟩) (by assumption) ?_
  rotate_left 1
  · (intro w' hSw; (try dsimp only at hSw); go_simp; try with_reducible rfl)
  try simp only [Act.put, List.setIfInBounds_toArray, List.set_cons_zero, List.set_cons_succ, List.getElem_toArray, List.getElem_cons_zero, List.getElem_cons_succ]
  refine wpAnyH_take (i := 11) (v := .slice (some ⟨b, o + H * 2, none⟩) H H) rfl (by kernel_rfl) (by kernel_rfl) (by kernel_rfl) (fun _ _ _ h => h) (Or.inl ⟨by rfl, ?_⟩) (by assumption) ?_
  · (intro w' hSw; (try dsimp only at hSw); go_simp; first | done | (intro e; have := HN.out; omega))
  try simp only [Act.put, List.setIfInBounds_toArray, List.set_cons_zero, List.set_cons_succ, List.getElem_toArray, List.getElem_cons_zero, List.getElem_cons_succ]
  refine wpAnyH_take (i := 12) (v := ?_) rfl (by kernel_rfl) (by kernel_rfl) (by kernel_rfl) (fun _ _ _ h => h) (Or.inl ⟨by rfl, ?_⟩) (by assumption) ?_
  rotate_left 1
  · (intro w' hSw; (try dsimp only at hSw); go_simp; try with_reducible rfl)
  try simp only [Act.put, List.setIfInBounds_toArray, List.set_cons_zero, List.set_cons_succ, List.getElem_toArray, List.getElem_cons_zero, List.getElem_cons_succ]
  refine wpAnyH_take (i := 13) (v := ?_) rfl (by kernel_rfl) (by kernel_rfl) (by kernel_rfl) (fun _ _ _ h => h) (Or.inl ⟨by rfl, ?_⟩) (by assumption) ?_
  rotate_left 1
  · (intro w' hSw; (try dsimp only at hSw); go_simp; try with_reducible rfl)
  try simp only [Act.put, List.setIfInBounds_toArray, List.set_cons_zero, List.set_cons_succ, List.getElem_toArray, List.getElem_cons_zero, List.getElem_cons_succ]
  refine wpAnyH_done (by kernel_rfl) ?_ _
  go_wp2
  go_ret2
  exact ⟨rfl, KW.out⟩

end Go.Proofs.YtnpmhfhgnnhclarDoor
