/- Several texts in one: What the program's tables by value answer: onTheWayTo, bound, likeness: contracts. Conditions: elements of the greater field, sizes of at most 64. · What the program's value of a table by value at a point answers: a contract. Conditions: elements of the greater field, a point of at most six that can be read. -/
import Derived.Test.YtpcakjajnfbgdaaBzbe
import Derived.Test.YtpcakjajnfbgdaaBzbg
namespace Go.Proofs.Ytpcakjajnfbgdaa
open Go.ChangeShapes Go.WideShapes Go.ChangeAt Go.RowKit
set_option linter.unusedVariables false
set_option maxRecDepth 100000
set_option linter.unusedSimpArgs false

set_option maxHeartbeats 1000000 in
theorem onWay_el (a b r : El) (w : World) : Calls Try.prog 97 #[.agg #[.int .i64 a.v.1, .int .i64 a.v.2], .agg #[.int .i64 b.v.1, .int .i64 b.v.2], .agg #[.int .i64 r.v.1, .int .i64 r.v.2]] w fun e w' => e = .returned (.agg #[.int .i64 (El.ad a (El.ml r (El.sb b a))).v.1, .int .i64 (El.ad a (El.ml r (El.sb b a))).v.2]) ∧ Chg nob w w' := by
  go_enter Try.func97, Try.ntmps97
  go_wp2
  have a0 : ((((w.alloc (.cells #[.int .i64 a.v.1, .int .i64 a.v.2] 32)).alloc (.cells #[.int .i64 b.v.1, .int .i64 b.v.2] 32)).alloc (.cells #[.int .i64 r.v.1, .int .i64 r.v.2] 32)).alloc (.cells #[.int .i64 0, .int .i64 0] 32)).cell? ⟨w.heap.size, 0, none⟩ = some (.int .i64 a.v.1) := by go_simp
  have a1 : ((((w.alloc (.cells #[.int .i64 a.v.1, .int .i64 a.v.2] 32)).alloc (.cells #[.int .i64 b.v.1, .int .i64 b.v.2] 32)).alloc (.cells #[.int .i64 r.v.1, .int .i64 r.v.2] 32)).alloc (.cells #[.int .i64 0, .int .i64 0] 32)).cell? ⟨w.heap.size, 1, none⟩ = some (.int .i64 a.v.2) := by go_simp
  have b0 : ((((w.alloc (.cells #[.int .i64 a.v.1, .int .i64 a.v.2] 32)).alloc (.cells #[.int .i64 b.v.1, .int .i64 b.v.2] 32)).alloc (.cells #[.int .i64 r.v.1, .int .i64 r.v.2] 32)).alloc (.cells #[.int .i64 0, .int .i64 0] 32)).cell? ⟨w.heap.size + 1, 0, none⟩ = some (.int .i64 b.v.1) := by go_simp
  have b1 : ((((w.alloc (.cells #[.int .i64 a.v.1, .int .i64 a.v.2] 32)).alloc (.cells #[.int .i64 b.v.1, .int .i64 b.v.2] 32)).alloc (.cells #[.int .i64 r.v.1, .int .i64 r.v.2] 32)).alloc (.cells #[.int .i64 0, .int .i64 0] 32)).cell? ⟨w.heap.size + 1, 1, none⟩ = some (.int .i64 b.v.2) := by go_simp
  have r0 : ((((w.alloc (.cells #[.int .i64 a.v.1, .int .i64 a.v.2] 32)).alloc (.cells #[.int .i64 b.v.1, .int .i64 b.v.2] 32)).alloc (.cells #[.int .i64 r.v.1, .int .i64 r.v.2] 32)).alloc (.cells #[.int .i64 0, .int .i64 0] 32)).cell? ⟨w.heap.size + 1 + 1, 0, none⟩ = some (.int .i64 r.v.1) := by go_simp
  have r1 : ((((w.alloc (.cells #[.int .i64 a.v.1, .int .i64 a.v.2] 32)).alloc (.cells #[.int .i64 b.v.1, .int .i64 b.v.2] 32)).alloc (.cells #[.int .i64 r.v.1, .int .i64 r.v.2] 32)).alloc (.cells #[.int .i64 0, .int .i64 0] 32)).cell? ⟨w.heap.size + 1 + 1, 1, none⟩ = some (.int .i64 r.v.2) := by go_simp
  have R0 : Hid (((((w.alloc (.cells #[.int .i64 a.v.1, .int .i64 a.v.2] 32)).alloc (.cells #[.int .i64 b.v.1, .int .i64 b.v.2] 32)).alloc (.cells #[.int .i64 r.v.1, .int .i64 r.v.2] 32)).alloc (.cells #[.int .i64 0, .int .i64 0] 32)).rowIs (w.heap.size + 1 + 1 + 1) 32 2 (pv2 (.int .i64 0) (.int .i64 0))) := hik (by simpa using row2_new (((w.alloc (.cells #[.int .i64 a.v.1, .int .i64 a.v.2] 32)).alloc (.cells #[.int .i64 b.v.1, .int .i64 b.v.2] 32)).alloc (.cells #[.int .i64 r.v.1, .int .i64 r.v.2] 32)) (.int .i64 0) (.int .i64 0) 32)
  have KW := hik ((Chg.refl nob ((((w.alloc (.cells #[.int .i64 a.v.1, .int .i64 a.v.2] 32)).alloc (.cells #[.int .i64 b.v.1, .int .i64 b.v.2] 32)).alloc (.cells #[.int .i64 r.v.1, .int .i64 r.v.2] 32)).alloc (.cells #[.int .i64 0, .int .i64 0] 32))).drew1)
  have SA := hik (fun (WW : World) (kW : Chg nob ((((w.alloc (.cells #[.int .i64 a.v.1, .int .i64 a.v.2] 32)).alloc (.cells #[.int .i64 b.v.1, .int .i64 b.v.2] 32)).alloc (.cells #[.int .i64 r.v.1, .int .i64 r.v.2] 32)).alloc (.cells #[.int .i64 0, .int .i64 0] 32)) WW) => (show (WW.cell? ⟨w.heap.size, 0, none⟩ = some (.int .i64 a.v.1) ∧ WW.cell? ⟨w.heap.size, 1, none⟩ = some (.int .i64 a.v.2) ∧ WW.cell? ⟨w.heap.size + 1, 0, none⟩ = some (.int .i64 b.v.1) ∧ WW.cell? ⟨w.heap.size + 1, 1, none⟩ = some (.int .i64 b.v.2) ∧ WW.cell? ⟨w.heap.size + 1 + 1, 0, none⟩ = some (.int .i64 r.v.1) ∧ WW.cell? ⟨w.heap.size + 1 + 1, 1, none⟩ = some (.int .i64 r.v.2)) from ⟨kW.see a0, kW.see a1, kW.see b0, kW.see b1, kW.see r0, kW.see r1⟩))
  refine wp_region_held_drew (S := fun w' => w'.cell? ⟨w.heap.size, 0, none⟩ = some (.int .i64 a.v.1) ∧ w'.cell? ⟨w.heap.size, 1, none⟩ = some (.int .i64 a.v.2) ∧ w'.cell? ⟨w.heap.size + 1, 0, none⟩ = some (.int .i64 b.v.1) ∧ w'.cell? ⟨w.heap.size + 1, 1, none⟩ = some (.int .i64 b.v.2) ∧ w'.cell? ⟨w.heap.size + 1 + 1, 0, none⟩ = some (.int .i64 r.v.1) ∧ w'.cell? ⟨w.heap.size + 1 + 1, 1, none⟩ = some (.int .i64 r.v.2)) (by kernel_rfl) ⟨a0, a1, b0, b1, r0, r1⟩ (fun hHeld => ?_)
  refine wpAnyH_take (i := 0) (v := ?_) rfl (by kernel_rfl) (by kernel_rfl) (by kernel_rfl) (fun _ _ _ h => h) (Or.inl ⟨by rfl, ?_⟩) (by assumption) ?_
  rotate_left 1
  · (intro w' hSw; (try dsimp only at hSw); go_simp; try with_reducible rfl)
  try simp only [Act.put, List.setIfInBounds_toArray, List.set_cons_zero, List.set_cons_succ, List.getElem_toArray, List.getElem_cons_zero, List.getElem_cons_succ]
  refine wpAnyH_take (i := 1) (v := ?_) rfl (by kernel_rfl) (by kernel_rfl) (by kernel_rfl) (fun _ _ _ h => h) (Or.inl ⟨by rfl, ?_⟩) (by assumption) ?_
  rotate_left 1
  · (intro w' hSw; (try dsimp only at hSw); go_simp; try with_reducible rfl)
  try simp only [Act.put, List.setIfInBounds_toArray, List.set_cons_zero, List.set_cons_succ, List.getElem_toArray, List.getElem_cons_zero, List.getElem_cons_succ]
  refine wpAnyH_take (i := 2) (v := ?_) rfl (by kernel_rfl) (by kernel_rfl) (by kernel_rfl) (fun _ _ _ h => h) (Or.inl ⟨by rfl, ?_⟩) (by assumption) ?_
  rotate_left 1
  · (intro w' hSw; (try dsimp only at hSw); go_simp; try with_reducible rfl)
  try simp only [Act.put, List.setIfInBounds_toArray, List.set_cons_zero, List.set_cons_succ, List.getElem_toArray, List.getElem_cons_zero, List.getElem_cons_succ]
  refine wpAnyH_take (i := 3) (v := ?_) rfl (by kernel_rfl) (by kernel_rfl) (by kernel_rfl) (fun _ _ _ h => h) (Or.inl ⟨by rfl, ?_⟩) (by assumption) ?_
  rotate_left 1
  · (intro w' hSw; (try dsimp only at hSw); go_simp; try with_reducible rfl)
  try simp only [Act.put, List.setIfInBounds_toArray, List.set_cons_zero, List.set_cons_succ, List.getElem_toArray, List.getElem_cons_zero, List.getElem_cons_succ]
  refine wpAnyH_ready (rs := [4]) (by kernel_rfl) (by simp) ?_
  refine AllReadyH.cons rfl (fun K hK => ?_) AllReadyH.nil
  refine stepL_callN 112 #[.tmp 9, .tmp 10] #[32, 32] (by rfl) (by rfl) #[.agg #[.int .i64 b.v.1, .int .i64 b.v.2], .agg #[.int .i64 a.v.1, .int .i64 a.v.2]] (by simp only [List.map_toArray, List.map_cons, List.map_nil] <;> rfl) (run_go Try.func112 (by kernel_rfl) (by kernel_rfl) _ _) (sb_el b a _) ?_
  rintro e U1 ⟨he, kk⟩
  refine ⟨_, he, ?_⟩
  replace KW := hik (KW.out.trans kk)
  refine hK.out _ _ (SA.out _ KW.out) (fun hHeld => ?_)
  clear hK K
  try simp only [Act.put, List.setIfInBounds_toArray, List.set_cons_zero, List.set_cons_succ, List.getElem_toArray, List.getElem_cons_zero, List.getElem_cons_succ]
  clear he kk
  refine wpAnyH_ready (rs := [5]) (by kernel_rfl) (by simp) ?_
  refine AllReadyH.cons rfl (fun K hK => ?_) AllReadyH.nil
  refine stepL_callN 111 #[.tmp 8, .tmp 11] #[32, 32] (by rfl) (by rfl) #[.agg #[.int .i64 r.v.1, .int .i64 r.v.2], .agg #[.int .i64 (El.sb b a).v.1, .int .i64 (El.sb b a).v.2]] (by simp only [List.map_toArray, List.map_cons, List.map_nil] <;> rfl) (run_go Try.func111 (by kernel_rfl) (by kernel_rfl) _ _) (ml_el r (El.sb b a) _) ?_
  rintro e U2 ⟨he, kk⟩
  refine ⟨_, he, ?_⟩
  replace KW := hik (KW.out.trans kk)
  refine hK.out _ _ (SA.out _ KW.out) (fun hHeld => ?_)
  clear hK K
  try simp only [Act.put, List.setIfInBounds_toArray, List.set_cons_zero, List.set_cons_succ, List.getElem_toArray, List.getElem_cons_zero, List.getElem_cons_succ]
  clear he kk
  refine wpAnyH_ready (rs := [6]) (by kernel_rfl) (by simp) ?_
  refine AllReadyH.cons rfl (fun K hK => ?_) AllReadyH.nil
  refine stepL_callN 110 #[.tmp 7, .tmp 12] #[32, 32] (by rfl) (by rfl) #[.agg #[.int .i64 a.v.1, .int .i64 a.v.2], .agg #[.int .i64 (El.ml r (El.sb b a)).v.1, .int .i64 (El.ml r (El.sb b a)).v.2]] (by simp only [List.map_toArray, List.map_cons, List.map_nil] <;> rfl) (run_go Try.func110 (by kernel_rfl) (by kernel_rfl) _ _) (ad_el a (El.ml r (El.sb b a)) _) ?_
  rintro e U3 ⟨he, kk⟩
  refine ⟨_, he, ?_⟩
  replace KW := hik (KW.out.trans kk)
  refine hK.out _ _ (SA.out _ KW.out) (fun hHeld => ?_)
  clear hK K
  try simp only [Act.put, List.setIfInBounds_toArray, List.set_cons_zero, List.set_cons_succ, List.getElem_toArray, List.getElem_cons_zero, List.getElem_cons_succ]
  clear he kk
  refine wpAnyH_ready (rs := [7]) (by kernel_rfl) (by simp) ?_
  refine AllReadyH.cons rfl (fun K hK => ?_) AllReadyH.nil
  have R1 := hik (rowIs_keep R0.out KW.out)
  have l1 : w.heap.size + 1 + 1 + 1 < U3.heap.size := R1.out.lt
  have y0 := R1.out.cell (i := 0) (by omega)
  have y1 := R1.out.cell (i := 1) (by omega)
  have f0 := R1.out.frozen 0
  have f1 := R1.out.frozen 1
  simp only [List.getElem_toArray, List.getElem_cons_zero, List.getElem_cons_succ]
  go_simp
  refine hK.out _ _ ⟨look_two (by omega) (SA.out _ KW.out).1 0 1 _ _, look_two (by omega) (SA.out _ KW.out).2.1 0 1 _ _, look_two (by omega) (SA.out _ KW.out).2.2.1 0 1 _ _, look_two (by omega) (SA.out _ KW.out).2.2.2.1 0 1 _ _, look_two (by omega) (SA.out _ KW.out).2.2.2.2.1 0 1 _ _, look_two (by omega) (SA.out _ KW.out).2.2.2.2.2 0 1 _ _⟩ (fun hHeld => ?_)
  clear hK K
  try simp only [Act.put, List.setIfInBounds_toArray, List.set_cons_zero, List.set_cons_succ, List.getElem_toArray, List.getElem_cons_zero, List.getElem_cons_succ]
  refine wpAnyH_done (by kernel_rfl) ?_ _
  go_wp2
  have R2 := hik (row2_set R1.out (.int .i64 (El.ad a (El.ml r (El.sb b a))).v.1) (.int .i64 (El.ad a (El.ml r (El.sb b a))).v.2))
  have u0 : ((U3.setCell ⟨w.heap.size + 1 + 1 + 1, 0, none⟩ (.int .i64 (El.ad a (El.ml r (El.sb b a))).v.1)).setCell ⟨w.heap.size + 1 + 1 + 1, 1, none⟩ (.int .i64 (El.ad a (El.ml r (El.sb b a))).v.2)).cell? ⟨w.heap.size + 1 + 1 + 1, 0, none⟩ = some (.int .i64 (El.ad a (El.ml r (El.sb b a))).v.1) := R2.out.cell (by omega)
  have u1 : ((U3.setCell ⟨w.heap.size + 1 + 1 + 1, 0, none⟩ (.int .i64 (El.ad a (El.ml r (El.sb b a))).v.1)).setCell ⟨w.heap.size + 1 + 1 + 1, 1, none⟩ (.int .i64 (El.ad a (El.ml r (El.sb b a))).v.2)).cell? ⟨w.heap.size + 1 + 1 + 1, 1, none⟩ = some (.int .i64 (El.ad a (El.ml r (El.sb b a))).v.2) := R2.out.cell (by omega)
  exact bodyPost_ret (v := .agg #[.int .i64 (El.ad a (El.ml r (El.sb b a))).v.1, .int .i64 (El.ad a (El.ml r (El.sb b a))).v.2]) (by simp [results, Try.results97, go_sem, u0, u1]) rfl ⟨rfl, chg2_at ((Chg.alloc (Chg.alloc (Chg.alloc (Chg.alloc (Chg.refl nob w) _) _) _) _).trans KW.out) _ (fun l => absurd l (by omega)) _ _ _ _⟩

/-- A table half bound: the first k. -/
def bdE (t : Nat → El) (r : El) (k i : Nat) : El := if i < k then El.fldE t r i else t i
theorem bdE_step (t : Nat → El) (r : El) (k i : Nat) : upE (bdE t r k) k (El.ad (t (2 * k)) (El.ml r (El.sb (t (2 * k + 1)) (t (2 * k))))) i = bdE t r (k + 1) i := by
  unfold upE bdE
  by_cases e : i = k
  · subst e
    rw [if_pos rfl, if_pos (by omega)]; rfl
  · rw [if_neg e]
    by_cases h : i < k
    · rw [if_pos h, if_pos (by omega)]
    · rw [if_neg h, if_neg (by omega)]

set_option maxHeartbeats 2000000 in
theorem bound_any (s : Nat) (t : Nat → El) (r : El) (w : World) (hs : s ≤ 64) : Calls Try.prog 79 #[.agg (cb s t), .agg #[.int .i64 r.v.1, .int .i64 r.v.2]] w fun e w' => e = .returned (.agg (cb (s / 2) (bdE t r (s / 2)))) ∧ Chg nob w w' := by
  have hz := (zero_of_info infoQb).1
  obtain ⟨m, hm⟩ : ∃ m, m = s / 2 := ⟨_, rfl⟩
  have hd : (s : Int) / 2 = (m : Int) := by omega
  have hm32 : m ≤ 32 := by omega
  have HM := hik hm
  clear hm
  have hg0 := cb_get s t
  have hg1 := cb_get m t
  have hst := cb_set s m t
  go_enter Try.func79, Try.ntmps79
  go_wp2
  clear hg0 hg1 hst hz hd
  go_loopw [12] (fun i W => ∃ k : Nat, k ≤ m ∧ i = .int .i64 k ∧ Hid (Cub W w.heap.size m (bdE t r k)) ∧ Hid (ElB W (w.heap.size + 1) r) ∧ Hid (Cub W (w.heap.size + 1 + 1) 0 zE) ∧ Hid (Chg nob w W)) (fun i _ => m - (intOf i).toNat)
  case atStart =>
    refine ⟨0, Nat.zero_le _, rfl, hik ?_, hik ?_, hik ?_, hik ((((Chg.refl _ _).alloc _).alloc _).alloc _)⟩
    · exact ((Cub.new w m (bdE t r 0)).keep ((Chg.refl nob _).alloc _)).keep ((Chg.refl nob _).alloc _)
    · exact (by simpa using ElB.new (w.alloc (.cells (cb m t) 85)) r : ElB _ (w.heap.size + 1) r).keep ((Chg.refl nob _).alloc _)
    · exact Cub.at_ _ _ (by simp) 0 zE
  case round =>
    obtain ⟨k, hk, rfl, HS, HR, HZ, HG⟩ := hrel
    rename World => wi
    by_cases hlt : k < m
    · have hk1 : (k : Int) < (m : Int) := by omega
      obtain ⟨q, hq⟩ : ∃ q, q = 2 * k := ⟨_, rfl⟩
      have HQ := hik hq
      have hq64 : q + 1 < 64 := by omega
      have hwq : IntKind.i64.wrap (2 * (k : Int)) = (q : Int) := by rw [IntKind.wrap_i64]; omega
      obtain ⟨p, hp⟩ : ∃ p, p = q + 1 := ⟨_, rfl⟩
      have HP := hik hp
      have hwp : IntKind.i64.wrap ((q : Int) + 1) = (p : Int) := by rw [IntKind.wrap_i64]; omega
      have hp0 : (0 : Int) ≤ (p : Int) := by omega
      have hp1 : (p : Int) < 64 := by omega
      have hq0 : (0 : Int) ≤ (q : Int) := by omega
      have hq1 : (q : Int) < 64 := by omega
      have hk64 : (k : Int) < 64 := by omega
      have hk0 : (0 : Int) ≤ (k : Int) := by omega
      clear hq hp
      have eq0 : bdE t r k q = t q := by rw [HQ.out]; unfold bdE; rw [if_neg (by omega)]
      have ep0 : bdE t r k p = t p := by rw [HP.out, HQ.out]; unfold bdE; rw [if_neg (by omega)]
      have x0 : wi.cell? ⟨w.heap.size, 1 + q * 2, none⟩ = some (.int .i64 (t q).v.1) := by rw [← eq0]; exact HS.out.c0 (by omega)
      have x1 : wi.cell? ⟨w.heap.size, 1 + q * 2 + 1, none⟩ = some (.int .i64 (t q).v.2) := by rw [← eq0]; exact HS.out.c1 (by omega)
      have y0 : wi.cell? ⟨w.heap.size, 1 + p * 2, none⟩ = some (.int .i64 (t p).v.1) := by rw [← ep0]; exact HS.out.c0 (by omega)
      have y1 : wi.cell? ⟨w.heap.size, 1 + p * 2 + 1, none⟩ = some (.int .i64 (t p).v.2) := by rw [← ep0]; exact HS.out.c1 (by omega)
      have r0 := HR.out.c0
      have r1 := HR.out.c1
      clear eq0 ep0
      go_wp2
      have KW := hik ((Chg.refl nob wi).drew1)
      have SA := hik (fun (WW : World) (kW : Chg nob wi WW) => (show (WW.cell? ⟨w.heap.size, 1 + q * 2, none⟩ = some (.int .i64 (t q).v.1) ∧ WW.cell? ⟨w.heap.size, 1 + q * 2 + 1, none⟩ = some (.int .i64 (t q).v.2) ∧ WW.cell? ⟨w.heap.size, 1 + p * 2, none⟩ = some (.int .i64 (t p).v.1) ∧ WW.cell? ⟨w.heap.size, 1 + p * 2 + 1, none⟩ = some (.int .i64 (t p).v.2) ∧ WW.cell? ⟨w.heap.size + 1, 0, none⟩ = some (.int .i64 r.v.1) ∧ WW.cell? ⟨w.heap.size + 1, 1, none⟩ = some (.int .i64 r.v.2)) from ⟨kW.see x0, kW.see x1, kW.see y0, kW.see y1, kW.see r0, kW.see r1⟩))
      refine wp_regionL (L := 16) (S := fun w' => w'.cell? ⟨w.heap.size, 1 + q * 2, none⟩ = some (.int .i64 (t q).v.1) ∧ w'.cell? ⟨w.heap.size, 1 + q * 2 + 1, none⟩ = some (.int .i64 (t q).v.2) ∧ w'.cell? ⟨w.heap.size, 1 + p * 2, none⟩ = some (.int .i64 (t p).v.1) ∧ w'.cell? ⟨w.heap.size, 1 + p * 2 + 1, none⟩ = some (.int .i64 (t p).v.2) ∧ w'.cell? ⟨w.heap.size + 1, 0, none⟩ = some (.int .i64 r.v.1) ∧ w'.cell? ⟨w.heap.size + 1, 1, none⟩ = some (.int .i64 r.v.2)) (by kernel_rfl) ⟨x0, x1, y0, y1, r0, r1⟩ (fun hHeld => ?_)
      refine wpAnyL_take (i := 0) (v := ?_) rfl (by kernel_rfl) (by kernel_rfl) (by kernel_rfl) (fun _ _ _ h => h) (by rfl) (by kernel_rfl) (by kernel_rfl) (Or.inl ⟨by rfl, ?_⟩) (by assumption) ?_
      rotate_left 1
      · (intro w' hSw; (try dsimp only at hSw); go_simp; try with_reducible rfl)
      try simp only [Act.put, List.setIfInBounds_toArray, List.set_cons_zero, List.set_cons_succ, List.getElem_toArray, List.getElem_cons_zero, List.getElem_cons_succ]
      refine wpAnyL_take (i := 1) (v := ?_) rfl (by kernel_rfl) (by kernel_rfl) (by kernel_rfl) (fun _ _ _ h => h) (by rfl) (by kernel_rfl) (by kernel_rfl) (Or.inl ⟨by rfl, ?_⟩) (by assumption) ?_
      rotate_left 1
      · (intro w' hSw; (try dsimp only at hSw); go_simp; try with_reducible rfl)
      try simp only [Act.put, List.setIfInBounds_toArray, List.set_cons_zero, List.set_cons_succ, List.getElem_toArray, List.getElem_cons_zero, List.getElem_cons_succ]
      refine wpAnyL_take (i := 2) (v := .int .i64 (q : Int)) rfl (by kernel_rfl) (by kernel_rfl) (by kernel_rfl) (fun _ _ _ h => h) (by rfl) (by kernel_rfl) (by kernel_rfl) (Or.inl ⟨by rfl, ?_⟩) (by assumption) ?_
      · (intro w' hSw; (try dsimp only at hSw); go_simp; first | done | exact hwq)
      try simp only [Act.put, List.setIfInBounds_toArray, List.set_cons_zero, List.set_cons_succ, List.getElem_toArray, List.getElem_cons_zero, List.getElem_cons_succ]
      refine wpAnyL_take (i := 3) (v := ?_) rfl (by kernel_rfl) (by kernel_rfl) (by kernel_rfl) (fun _ _ _ h => h) (by rfl) (by kernel_rfl) (by kernel_rfl) (Or.inl ⟨by rfl, ?_⟩) (by assumption) ?_
      rotate_left 1
      · (intro w' hSw; (try dsimp only at hSw); go_simp; try with_reducible rfl)
      try simp only [Act.put, List.setIfInBounds_toArray, List.set_cons_zero, List.set_cons_succ, List.getElem_toArray, List.getElem_cons_zero, List.getElem_cons_succ]
      refine wpAnyL_take (i := 4) (v := ?_) rfl (by kernel_rfl) (by kernel_rfl) (by kernel_rfl) (fun _ _ _ h => h) (by rfl) (by kernel_rfl) (by kernel_rfl) (Or.inl ⟨by rfl, ?_⟩) (by assumption) ?_
      rotate_left 1
      · (intro w' hSw; (try dsimp only at hSw); go_simp; try with_reducible rfl)
      try simp only [Act.put, List.setIfInBounds_toArray, List.set_cons_zero, List.set_cons_succ, List.getElem_toArray, List.getElem_cons_zero, List.getElem_cons_succ]
      refine wpAnyL_take (i := 5) (v := ?_) rfl (by kernel_rfl) (by kernel_rfl) (by kernel_rfl) (fun _ _ _ h => h) (by rfl) (by kernel_rfl) (by kernel_rfl) (Or.inl ⟨by rfl, ?_⟩) (by assumption) ?_
      rotate_left 1
      · (intro w' hSw; (try dsimp only at hSw); go_simp; try with_reducible rfl)
      try simp only [Act.put, List.setIfInBounds_toArray, List.set_cons_zero, List.set_cons_succ, List.getElem_toArray, List.getElem_cons_zero, List.getElem_cons_succ]
      refine wpAnyL_take (i := 6) (v := ?_) rfl (by kernel_rfl) (by kernel_rfl) (by kernel_rfl) (fun _ _ _ h => h) (by rfl) (by kernel_rfl) (by kernel_rfl) (Or.inl ⟨by rfl, ?_⟩) (by assumption) ?_
      rotate_left 1
      · (intro w' hSw; (try dsimp only at hSw); go_simp; try with_reducible rfl)
      try simp only [Act.put, List.setIfInBounds_toArray, List.set_cons_zero, List.set_cons_succ, List.getElem_toArray, List.getElem_cons_zero, List.getElem_cons_succ]
      refine wpAnyL_take (i := 7) (v := .int .i64 (q : Int)) rfl (by kernel_rfl) (by kernel_rfl) (by kernel_rfl) (fun _ _ _ h => h) (by rfl) (by kernel_rfl) (by kernel_rfl) (Or.inl ⟨by rfl, ?_⟩) (by assumption) ?_
      · (intro w' hSw; (try dsimp only at hSw); go_simp; first | done | exact hwq)
      try simp only [Act.put, List.setIfInBounds_toArray, List.set_cons_zero, List.set_cons_succ, List.getElem_toArray, List.getElem_cons_zero, List.getElem_cons_succ]
      refine wpAnyL_take (i := 8) (v := .int .i64 (p : Int)) rfl (by kernel_rfl) (by kernel_rfl) (by kernel_rfl) (fun _ _ _ h => h) (by rfl) (by kernel_rfl) (by kernel_rfl) (Or.inl ⟨by rfl, ?_⟩) (by assumption) ?_
      · (intro w' hSw; (try dsimp only at hSw); go_simp; first | done | exact hwp)
      try simp only [Act.put, List.setIfInBounds_toArray, List.set_cons_zero, List.set_cons_succ, List.getElem_toArray, List.getElem_cons_zero, List.getElem_cons_succ]
      refine wpAnyL_take (i := 9) (v := ?_) rfl (by kernel_rfl) (by kernel_rfl) (by kernel_rfl) (fun _ _ _ h => h) (by rfl) (by kernel_rfl) (by kernel_rfl) (Or.inl ⟨by rfl, ?_⟩) (by assumption) ?_
      rotate_left 1
      · (intro w' hSw; (try dsimp only at hSw); go_simp; try with_reducible rfl)
      try simp only [Act.put, List.setIfInBounds_toArray, List.set_cons_zero, List.set_cons_succ, List.getElem_toArray, List.getElem_cons_zero, List.getElem_cons_succ]
      refine wpAnyL_take (i := 10) (v := ?_) rfl (by kernel_rfl) (by kernel_rfl) (by kernel_rfl) (fun _ _ _ h => h) (by rfl) (by kernel_rfl) (by kernel_rfl) (Or.inl ⟨by rfl, ?_⟩) (by assumption) ?_
      rotate_left 1
      · (intro w' hSw; (try dsimp only at hSw); go_simp; try with_reducible rfl)
      try simp only [Act.put, List.setIfInBounds_toArray, List.set_cons_zero, List.set_cons_succ, List.getElem_toArray, List.getElem_cons_zero, List.getElem_cons_succ]
      refine wpAnyL_take (i := 11) (v := ?_) rfl (by kernel_rfl) (by kernel_rfl) (by kernel_rfl) (fun _ _ _ h => h) (by rfl) (by kernel_rfl) (by kernel_rfl) (Or.inl ⟨by rfl, ?_⟩) (by assumption) ?_
      rotate_left 1
      · (intro w' hSw; (try dsimp only at hSw); go_simp; try with_reducible rfl)
      try simp only [Act.put, List.setIfInBounds_toArray, List.set_cons_zero, List.set_cons_succ, List.getElem_toArray, List.getElem_cons_zero, List.getElem_cons_succ]
      refine wpAnyL_take (i := 12) (v := ?_) rfl (by kernel_rfl) (by kernel_rfl) (by kernel_rfl) (fun _ _ _ h => h) (by rfl) (by kernel_rfl) (by kernel_rfl) (Or.inl ⟨by rfl, ?_⟩) (by assumption) ?_
      rotate_left 1
      · (intro w' hSw; (try dsimp only at hSw); go_simp; try with_reducible rfl)
      try simp only [Act.put, List.setIfInBounds_toArray, List.set_cons_zero, List.set_cons_succ, List.getElem_toArray, List.getElem_cons_zero, List.getElem_cons_succ]
      refine wpAnyL_take0 (i := 14) (v := ?_) rfl (by kernel_rfl) (by kernel_rfl) (by kernel_rfl) (fun _ _ _ h => h) (by rfl) (Or.inl ⟨by rfl, ?_⟩) (by assumption) ?_
      rotate_left 1
      · (intro w' hSw; (try dsimp only at hSw); go_simp; try with_reducible rfl)
      try simp only [Act.put, List.setIfInBounds_toArray, List.set_cons_zero, List.set_cons_succ, List.getElem_toArray, List.getElem_cons_zero, List.getElem_cons_succ]
      refine wpAnyL_ready (rs := [13]) (by kernel_rfl) (by simp) ?_
      refine AllReadyL.cons rfl (fun K hK => ?_) AllReadyL.nil
      refine stepL_callN 97 #[.tmp 20, .tmp 26, .tmp 27] #[32, 32, 32] (by rfl) (by rfl) #[.agg #[.int .i64 (t q).v.1, .int .i64 (t q).v.2], .agg #[.int .i64 (t p).v.1, .int .i64 (t p).v.2], .agg #[.int .i64 r.v.1, .int .i64 r.v.2]] (by simp only [List.map_toArray, List.map_cons, List.map_nil] <;> rfl) (run_go Try.func97 (by kernel_rfl) (by kernel_rfl) _ _) (onWay_el (t q) (t p) r _) ?_
      rintro e U1 ⟨he, kk⟩
      refine ⟨_, he, ?_⟩
      replace KW := hik (KW.out.trans kk)
      refine hK.out _ _ (SA.out _ KW.out) (fun hHeld => ?_)
      clear hK K
      try simp only [Act.put, List.setIfInBounds_toArray, List.set_cons_zero, List.set_cons_succ, List.getElem_toArray, List.getElem_cons_zero, List.getElem_cons_succ]
      clear he kk
      refine wpAnyL_take (i := 15) (v := ?_) rfl (by kernel_rfl) (by kernel_rfl) (by kernel_rfl) (fun _ _ _ h => h) (by rfl) (by kernel_rfl) (by kernel_rfl) (Or.inl ⟨by rfl, ?_⟩) (by assumption) ?_
      rotate_left 1
      · (intro w' hSw; (try dsimp only at hSw); go_simp; try with_reducible rfl)
      try simp only [Act.put, List.setIfInBounds_toArray, List.set_cons_zero, List.set_cons_succ, List.getElem_toArray, List.getElem_cons_zero, List.getElem_cons_succ]
      refine wpAnyL_ready (rs := [16]) (by kernel_rfl) (by simp) ?_
      refine AllReadyL.last rfl (by kernel_rfl) (fun K hK => ?_)
      have SN := hik (HS.out.keep KW.out)
      have g0 := SN.out.c0 (k := k) (by omega)
      have g1 := SN.out.c1 (k := k) (by omega)
      have f0 := SN.out.fz (1 + k * 2)
      have f1 := SN.out.fz (1 + k * 2 + 1)
      have ln : w.heap.size < U1.heap.size := SN.out.lt
      simp only [List.getElem_toArray, List.getElem_cons_zero, List.getElem_cons_succ]
      go_simp
      refine hK.out _ _ ?_
      clear hK K
      try simp only [Act.put, List.setIfInBounds_toArray, List.set_cons_zero, List.set_cons_succ, List.getElem_toArray, List.getElem_cons_zero, List.getElem_cons_succ]
      clear g0 g1 f0 f1 ln
      refine wpAnyL_done (by kernel_rfl) ?_ _
      have S2 := hik (Cub.congr (u := bdE t r (k + 1)) (SN.out.set k (El.ad (t q) (El.ml r (El.sb (t p) (t q))))) (fun i _ => by rw [HP.out, HQ.out]; exact bdE_step t r k i))
      have R2 := hik (ElB.other (HR.out.keep KW.out) (g := w.heap.size) (by omega) (1 + k * 2) (1 + k * 2 + 1) (.int .i64 (El.ad (t q) (El.ml r (El.sb (t p) (t q)))).v.1) (.int .i64 (El.ad (t q) (El.ml r (El.sb (t p) (t q)))).v.2))
      have Z2 := hik (Cub.other (HZ.out.keep KW.out) (g := w.heap.size) (by omega) (1 + k * 2) (1 + k * 2 + 1) (.int .i64 (El.ad (t q) (El.ml r (El.sb (t p) (t q)))).v.1) (.int .i64 (El.ad (t q) (El.ml r (El.sb (t p) (t q)))).v.2))
      have G2 := hik (chg2_at (HG.out.trans KW.out) w.heap.size (fun l => absurd l (by omega)) (1 + k * 2) (1 + k * 2 + 1) (.int .i64 (El.ad (t q) (El.ml r (El.sb (t p) (t q)))).v.1) (.int .i64 (El.ad (t q) (El.ml r (El.sb (t p) (t q)))).v.2))
      generalize hE : ((U1.setCell ⟨w.heap.size, 1 + k * 2, none⟩ (.int .i64 (El.ad (t q) (El.ml r (El.sb (t p) (t q)))).v.1)).setCell ⟨w.heap.size, 1 + k * 2 + 1, none⟩ (.int .i64 (El.ad (t q) (El.ml r (El.sb (t p) (t q)))).v.2)) = W2 at S2 R2 Z2 G2 ⊢
      clear hE SN KW SA hHeld x0 x1 y0 y1 r0 r1 HS HR HZ HG
      go_wp2
      go_roundw
      case rel => exact ⟨k + 1, by omega, by go_num, S2, R2, Z2, G2⟩
      case measure => simp [intOf]; omega
    · obtain rfl : m = k := by omega
      go_wp2_with (first
        | ((with_reducible refine wpList_load_cub (.tmp 2) rfl rfl w.heap.size ?hx HS.out ?_); (case hx => rfl))
        | ((with_reducible refine wpList_store_cub (s := m) (t := bdE t r m) (.tmp 4) (.tmp 32) rfl rfl (w.heap.size + 1 + 1) ?hx ?hy HZ.out ?_); (case hx => rfl); (case hy => rfl); intro W3 r3 g3; have R3 := hik r3; have G3 := hik (Chg.near HG.out g3 (fun i e => by omega)); clear r3 g3))
      rw [← HM.out]
      exact bodyPost_ret (results_cub rfl _ _ (w.heap.size + 1 + 1) rfl R3.out) rfl ⟨rfl, G3.out⟩

end Go.Proofs.Ytpcakjajnfbgdaa

namespace Go.Proofs.Ytpcakjajnfbgdaa
open Go.ChangeShapes Go.WideShapes Go.ChangeAt Go.RowKit
set_option linter.unusedVariables false
set_option maxRecDepth 100000
set_option linter.unusedSimpArgs false

theorem bd_half {t p T : Nat → El} {j m i : Nat} (hT : ∀ i, i < 2 * m → T i = El.bnd t p j i) (hi : i < m) : bdE T (p j) m i = El.bnd t p (j + 1) i := by
  unfold bdE
  rw [if_pos hi, El.bnd, El.fldE, El.fldE, hT _ (by omega), hT _ (by omega)]

set_option maxHeartbeats 2000000 in
theorem at_any' (n : Nat) (t : Nat → El) (c : Option Addr) (cap : Nat) (p : Nat → El) (w : World) (h : Hid (PairE w c n p)) (hn : n ≤ 6) : Calls Try.prog 40 #[.agg (cb (2 ^ n) t), .slice c n cap] w fun e w' => e = .returned (.agg #[.int .i64 (El.tat t p n).v.1, .int .i64 (El.tat t p n).v.2]) ∧ Chg nob w w' := by
  go_enter Try.func40, Try.ntmps40
  go_wp2
  go_loopw [9] (fun i W => ∃ (j m : Nat) (T : Nat → El), j ≤ n ∧ i = .int .i64 j ∧ Hid (m = 2 ^ (n - j)) ∧ Hid (∀ i, i < m → T i = El.bnd t p j i) ∧ Hid (Cub W w.heap.size m T) ∧ Hid (ElB W (w.heap.size + 1) El.zr) ∧ Hid (Chg nob w W)) (fun i _ => n - (intOf i).toNat)
  case atStart => exact ⟨0, 2 ^ n, t, Nat.zero_le _, rfl, hik rfl, hik (fun _ _ => rfl), hik ((Cub.new w _ t).keep ((Chg.refl nob _).alloc _)), hik (by simpa using ElB.zero (w.alloc (.cells (cb (2 ^ n) t) 85))), hik (((Chg.refl _ _).alloc _).alloc _)⟩
  case round =>
    obtain ⟨j, m, T, hj, rfl, HM, HT, HS, HZ, HG⟩ := hrel
    rename World => wi
    by_cases hlt : j < n
    · have hlt' : (j : Int) < (n : Int) := by omega
      have hj0 : (0 : Int) ≤ (j : Int) := by omega
      obtain ⟨xb, xo, ec, hxb, _, _⟩ := PairE.at_ (PairE.keep h.out HG.out) hlt
      subst ec
      have p0 := PairE.c0 (PairE.keep h.out HG.out) hlt
      have p1 := PairE.c1 (PairE.keep h.out HG.out) hlt
      have hm64 : m ≤ 64 := by rw [HM.out]; exact pow_le6 (by omega)
      obtain ⟨m2, hm2⟩ : ∃ m2, m2 = m / 2 := ⟨_, rfl⟩
      have hmm : m = 2 * m2 ∧ m2 = 2 ^ (n - (j + 1)) := by
        have e : 2 ^ (n - j) = 2 * 2 ^ (n - (j + 1)) := by rw [show n - j = (n - (j + 1)) + 1 by omega, Nat.pow_succ]; omega
        have := HM.out
        omega
      have HMM := hik hmm
      have HM2 := hik hm2
      clear hmm hm2
      go_wp2_with (first
        | ((with_reducible refine wpList_load_cub (.tmp 2) rfl rfl w.heap.size ?hx (HS.out.keep ((Chg.refl nob _).alloc _)) ?_); (case hx => rfl))
        | (go_at_call 79; refine (bound_any m T (p j) _ hm64).mono ?_; rintro e W1 ⟨rfl, k1⟩; have S1 := hik ((HS.out.keep ((Chg.refl nob _).alloc _)).keep k1); have Z1 := hik ((HZ.out.keep ((Chg.refl nob _).alloc _)).keep k1); have G1 := hik ((HG.out.alloc _).trans k1); clear k1)
        | ((with_reducible refine wpList_store_cub (s := m / 2) (t := bdE T (p j) (m / 2)) (.tmp 2) (.tmp 15) rfl rfl w.heap.size ?hx ?hy S1.out ?_); (case hx => rfl); (case hy => rfl); intro W2 r2 g2; have R2 := hik r2; have Z2 := hik (Z1.out.chg g2 (by omega)); have G2 := hik (Chg.near G1.out g2 (fun i e => by omega)); clear r2 g2))
      go_roundw
      case rel => exact ⟨j + 1, m / 2, bdE T (p j) (m / 2), hlt, by go_num, hik (by have := HMM.out; have := HM2.out; omega), hik (fun i hi => bd_half (m := m / 2) (fun i hi => HT.out i (by have := HMM.out; have := HM2.out; omega)) hi), R2, Z2, G2⟩
      case measure => simp [intOf]; omega
    · obtain rfl : n = j := by omega
      have hm1 : m = 1 := by rw [HM.out, Nat.sub_self]
      have HE := hik (show T 0 = El.tat t p n by rw [HT.out 0 (by omega), El.bnd_all])
      have c0 : wi.cell? ⟨w.heap.size, 1, none⟩ = some (.int .i64 (T 0).v.1) := HS.out.c0 (k := 0) (by omega)
      have c1 : wi.cell? ⟨w.heap.size, 1 + 1, none⟩ = some (.int .i64 (T 0).v.2) := HS.out.c1 (k := 0) (by omega)
      have z0 := HZ.out.c0
      have z1 := HZ.out.c1
      have f0 := HZ.out.fz 0
      have f1 := HZ.out.fz 1
      go_wp2
      have E2 := hik (HZ.out.set (T 0))
      have u0 := E2.out.c0
      have u1 := E2.out.c1
      rw [← HE.out]
      exact bodyPost_ret (v := .agg #[.int .i64 (T 0).v.1, .int .i64 (T 0).v.2]) (by simp [results, Try.results40, go_sem, u0, u1]) rfl ⟨rfl, chg2_at HG.out _ (fun l => absurd l (by omega)) _ _ _ _⟩
theorem at_N (N n : Nat) (hN : N = 2 ^ n) (t : Nat → El) (c : Option Addr) (cap : Nat) (p : Nat → El) (w : World) (h : Hid (PairE w c n p)) (hn : n ≤ 6) : Calls Try.prog 40 #[.agg (cb N t), .slice c n cap] w fun e w' => e = .returned (.agg #[.int .i64 (El.tat t p n).v.1, .int .i64 (El.tat t p n).v.2]) ∧ Chg nob w w' := by
  subst hN
  exact at_any' n t c cap p w h hn

end Go.Proofs.Ytpcakjajnfbgdaa
