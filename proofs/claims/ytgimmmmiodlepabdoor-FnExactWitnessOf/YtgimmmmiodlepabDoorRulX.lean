/- The rows of gates, op by op, and the map of their rules: contracts. -/
import Derived.Test.YtgimmmmiodlepabDoorRunM
import Derived.Test.YtgimmmmiodlepabDoorGatE
import Derived.Test.YtgimmmmiodlepabDoorWalks
import Derived.Test.YtgimmmmiodlepabDoorPair
import Derived.Test.YtgimmmmiodlepabDoorStepL
import Derived.Test.YtgimmmmiodlepabDoorIGro
import Derived.Maps.Own
import Derived.Maps.OwnSet
import Derived.Laws.EntriesVeiled
import Derived.Deep.DeepCutAuto
namespace Go.Proofs.YtgimmmmiodlepabDoor
open Go.ChangeShapes Go.WideShapes Go.ChangeAt Go.RowKit
open Go.Maps (Keyed IsMap)
set_option linter.unusedVariables false
set_option maxRecDepth 100000
set_option linter.unusedSimpArgs false

/-- Terms in memory. -/
def TrmV (w : World) (c : Option Addr) (n : Nat) (t : Nat → Tm) : Prop := PairV w c n (fun i => (t i).1) (fun i => (t i).2)
theorem TrmV.keep {w w' : World} {c : Option Addr} {n : Nat} {t : Nat → Tm} (h : TrmV w c n t) (k : Chg nob w w') : TrmV w' c n t := PairV.keep h k
/-- Rows in memory. -/
def RwV (w : World) (c : Option Addr) (n : Nat) (R : Nat → Rw) : Prop := ∀ i, i < n → ∃ (xb xo : Nat) (cl : Option Addr) (pl : Nat) (cr : Option Addr) (pr : Nat), c = some ⟨xb, xo, none⟩ ∧ xb < w.heap.size ∧ w.cell? ⟨xb, xo + i * 2, none⟩ = some (.slice cl (R i).nl pl) ∧ w.cell? ⟨xb, xo + i * 2 + 1, none⟩ = some (.slice cr (R i).nr pr) ∧ TrmV w cl (R i).nl (R i).L ∧ TrmV w cr (R i).nr (R i).R
theorem RwV.keep {w w' : World} {c : Option Addr} {n : Nat} {R : Nat → Rw} (h : RwV w c n R) (k : Chg nob w w') : RwV w' c n R := by
  intro i hi
  obtain ⟨xb, xo, cl, pl, cr, pr, e, l, h1, h2, h3, h4⟩ := h i hi
  exact ⟨xb, xo, cl, pl, cr, pr, e, Nat.lt_of_lt_of_le l k.size, k.see h1, k.see h2, h3.keep k, h4.keep k⟩
/-- The rows that a call made. -/
def RwAns (w : World) (n : Nat) (R : Nat → Rw) (e : Ending) (w' : World) : Prop := ∃ c, e = .returned (.slice c n n) ∧ RwV w' c n R ∧ Chg nob w w'
def OnceAns (w : World) (s : Int) (e : Ending) (w' : World) : Prop := e = .returned (.slice (some ⟨w.heap.size, 0, none⟩) 1 1) ∧ TrmV w' (some ⟨w.heap.size, 0, none⟩) 1 (tl1 (s, 1)) ∧ Chg nob w w'
theorem chgS2 {w W : World} (h : Chg nob w W) (g : Nat) (hg : ¬ g < w.heap.size) (o o' : Nat) (u v : Value) : Chg nob w ((W.setCell ⟨g, o, none⟩ u).setCell ⟨g, o', none⟩ v) :=
  (h.setCell (p := ⟨g, o, none⟩) (fun l => absurd l hg) u).setCell (p := ⟨g, o', none⟩) (fun l => absurd l hg) v
theorem TrmV.other {W : World} {b o1 n : Nat} {t : Nat → Tm} (h : TrmV W (some ⟨b, o1, none⟩) n t) {g : Nat} (hne : b ≠ g) (o o' : Nat) (u v : Value) : TrmV ((W.setCell ⟨g, o, none⟩ u).setCell ⟨g, o', none⟩ v) (some ⟨b, o1, none⟩) n t :=
  PairV.chg h (((Chg.refl (fun x => x = g) W).setCell (p := ⟨g, o, none⟩) (fun _ => rfl) u).setCell (p := ⟨g, o', none⟩) (fun _ => rfl) v) (fun xb xo e _ q => by cases e; exact hne q)
theorem trm_new1 (w : World) (a b : Int) (t : TypeId) : TrmV (w.alloc (.cells #[.int .i64 a, .int .i64 b] t)) (some ⟨w.heap.size, 0, none⟩) 1 (tl1 (a, b)) := by
  intro i hi
  obtain rfl : i = 0 := by omega
  exact ⟨w.heap.size, 0, rfl, by simp, by simp [tl1], by simp [tl1]⟩
theorem trm_new2 (w : World) (a b c d : Int) (t : TypeId) : TrmV (w.alloc (.cells #[.int .i64 a, .int .i64 b, .int .i64 c, .int .i64 d] t)) (some ⟨w.heap.size, 0, none⟩) 2 (tl2 (a, b) (c, d)) := by
  intro i hi
  rcases (show i = 0 ∨ i = 1 by omega) with rfl | rfl
  · exact ⟨w.heap.size, 0, rfl, by simp, by simp [tl2], by simp [tl2]⟩
  · exact ⟨w.heap.size, 0, rfl, by simp, by simp [tl2], by simp [tl2]⟩

set_option maxHeartbeats 1000000 in
theorem slotOf_any (a : Int) (w : World) (a0 : -1 ≤ a) (a1 : a ≤ 1099511627776) : Calls Tryd.prog 39 #[.int .i64 a] w fun e w' => e = .returned (.int .i64 (a + 1)) ∧ w' = w := by
  go_enter Tryd.func39, Tryd.ntmps39
  go_wp2
  go_ret
  exact ⟨rfl, rfl⟩
set_option maxHeartbeats 1000000 in
theorem once_any (s : Int) (w : World) : Calls Tryd.prog 78 #[.int .i64 s] w fun e w' => OnceAns w s e w' := by
  go_enter Tryd.func78, Tryd.ntmps78
  go_wp2
  go_ret
  exact ⟨rfl, trm_new1 _ _ _ _, (Chg.refl nob w).alloc _⟩
theorem slotOf_c (a : Int) (w : World) (a0 : -1 ≤ a) (a1 : a ≤ 1099511627776) : Calls Tryd.prog 39 #[.int .i64 a] w fun e w' => e = .returned (.int .i64 (a + 1)) ∧ Chg nob w w' :=
  (slotOf_any a w a0 a1).mono (fun e w' h => ⟨h.1, by rw [h.2]; exact Chg.refl _ _⟩)
def ByAns (w : World) (c : Option Addr) (n cap : Nat) (e : Ending) (w' : World) : Prop := ∃ b, w.heap.size ≤ b ∧ e = .returned (.agg #[.slice c n cap, .slice (some ⟨b, 0, none⟩) 1 1]) ∧ TrmV w' (some ⟨b, 0, none⟩) 1 one9 ∧ Chg nob w w'
set_option maxHeartbeats 1000000 in
theorem byOne_any (c : Option Addr) (n cap : Nat) (w : World) : Calls Tryd.prog 98 #[.slice c n cap] w fun e w' => ByAns w c n cap e w' := by
  have KB := hik ((Chg.refl nob w).alloc (.cells #[.slice none 0 0, .slice none 0 0] 76))
  have R0 := hik (row2_new w (.slice none 0 0) (.slice none 0 0) 76)
  go_enter Tryd.func98, Tryd.ntmps98
  go_wp2_with fail
  generalize w.alloc (.cells #[.slice none 0 0, .slice none 0 0] 76) = W0 at KB R0 ⊢
  refine (once_any _ _).mono ?_
  rintro e W1 ⟨rfl, t1, k1⟩
  have HL := hik (show w.heap.size < W0.heap.size from R0.out.lt)
  have R1 := hik (rowIs_keep R0.out k1)
  have K1 := hik (KB.out.trans k1)
  have T1 := hik t1
  clear k1 t1 R0 KB
  generalize W0.heap.size = b at T1 HL ⊢
  have c0 := row2_c0 R1.out
  have c1 := row2_c1 R1.out
  have f0 := R1.out.frozen 0
  have f1 := R1.out.frozen 1
  go_wp2
  have u0 := row2_c0 (row2_set R1.out (.slice c n cap) (.slice (some ⟨b, 0, none⟩) 1 1))
  have u1 := row2_c1 (row2_set R1.out (.slice c n cap) (.slice (some ⟨b, 0, none⟩) 1 1))
  have hl := HL.out
  exact bodyPost_ret (v := .agg #[.slice c n cap, .slice (some ⟨b, 0, none⟩) 1 1]) (by simp [results, Tryd.results98, go_sem, u0, u1]) rfl ⟨b, by omega, rfl, T1.out.other (by omega) 0 1 _ _, chgS2 K1.out w.heap.size (by omega) 0 1 _ _⟩
set_option maxHeartbeats 1000000 in
theorem handed_any (g : Gt) (w : World) : Calls Tryd.prog 70 #[.agg #[.int .i64 g.1, .int .i64 g.2.1, .int .i64 g.2.2.1, .int .i64 g.2.2.2]] w fun e w' => RwAns w 0 (rwG g) e w' := by
  have KB := hik ((Chg.refl nob w).alloc (.cells #[.int .i64 g.1, .int .i64 g.2.1, .int .i64 g.2.2.1, .int .i64 g.2.2.2] 51))
  go_enter Tryd.func70, Tryd.ntmps70
  go_wp2
  go_ret
  exact ⟨none, rfl, fun i hi => absurd hi (by omega), KB.out⟩
/-- One row. -/
theorem rwv_new1 {w : World} {bl nl pl br nr pr : Nat} {R : Nat → Rw} (h1 : (R 0).nl = nl) (h2 : (R 0).nr = nr) (hl : TrmV w (some ⟨bl, 0, none⟩) nl (R 0).L) (hr : TrmV w (some ⟨br, 0, none⟩) nr (R 0).R) (t : TypeId) :
    RwV (w.alloc (.cells #[.slice (some ⟨bl, 0, none⟩) nl pl, .slice (some ⟨br, 0, none⟩) nr pr] t)) (some ⟨w.heap.size, 0, none⟩) 1 R := by
  intro i hi
  obtain rfl : i = 0 := by omega
  subst h1 h2
  exact ⟨w.heap.size, 0, _, pl, _, pr, rfl, by simp, by simp, by simp, hl.keep ((Chg.refl nob w).alloc _), hr.keep ((Chg.refl nob w).alloc _)⟩
theorem rwv_new2 {w : World} {bl nl pl br nr pr bl' nl' pl' br' nr' pr' : Nat} {R : Nat → Rw} (h1 : (R 0).nl = nl) (h2 : (R 0).nr = nr) (hl : TrmV w (some ⟨bl, 0, none⟩) nl (R 0).L) (hr : TrmV w (some ⟨br, 0, none⟩) nr (R 0).R)
    (h1' : (R 1).nl = nl') (h2' : (R 1).nr = nr') (hl' : TrmV w (some ⟨bl', 0, none⟩) nl' (R 1).L) (hr' : TrmV w (some ⟨br', 0, none⟩) nr' (R 1).R) (t : TypeId) :
    RwV (w.alloc (.cells #[.slice (some ⟨bl, 0, none⟩) nl pl, .slice (some ⟨br, 0, none⟩) nr pr, .slice (some ⟨bl', 0, none⟩) nl' pl', .slice (some ⟨br', 0, none⟩) nr' pr'] t)) (some ⟨w.heap.size, 0, none⟩) 2 R := by
  intro i hi
  subst h1 h2 h1' h2'
  rcases (show i = 0 ∨ i = 1 by omega) with rfl | rfl
  · exact ⟨w.heap.size, 0, _, pl, _, pr, rfl, by simp, by simp, by simp, hl.keep ((Chg.refl nob w).alloc _), hr.keep ((Chg.refl nob w).alloc _)⟩
  · exact ⟨w.heap.size, 0, _, pl', _, pr', rfl, by simp, by simp, by simp, hl'.keep ((Chg.refl nob w).alloc _), hr'.keep ((Chg.refl nob w).alloc _)⟩
set_option maxHeartbeats 2000000 in
theorem constant_any (a b k : Int) (w : World) : Calls Tryd.prog 71 #[.agg #[.int .i64 3, .int .i64 a, .int .i64 b, .int .i64 k]] w fun e w' => RwAns w 1 (rwG (3, a, b, k)) e w' := by
  have KB := hik (((Chg.refl nob w).alloc (.cells #[.int .i64 3, .int .i64 a, .int .i64 b, .int .i64 k] 51)).alloc (.cells #[.int .i64 0, .int .i64 k] 133))
  have T0 := hik (trm_new1 (w.alloc (.cells #[.int .i64 3, .int .i64 a, .int .i64 b, .int .i64 k] 51)) 0 k 133)
  go_enter Tryd.func71, Tryd.ntmps71
  go_wp2_with fail
  rw [show (w.alloc (.cells #[.int .i64 3, .int .i64 a, .int .i64 b, .int .i64 k] 51)).heap.size = w.heap.size + 1 by simp] at T0
  generalize (w.alloc (.cells #[.int .i64 3, .int .i64 a, .int .i64 b, .int .i64 k] 51)).alloc (.cells #[.int .i64 0, .int .i64 k] 133) = W0 at KB T0 ⊢
  refine (byOne_any _ _ _ _).mono ?_
  rintro e W1 ⟨br, hb, rfl, t1, k1⟩
  have K1 := hik (KB.out.trans k1)
  have T1 := hik t1
  have T2 := hik (T0.out.keep k1)
  clear k1 t1 T0 KB
  go_wp2
  go_ret
  exact ⟨_, rfl, rwv_new1 (w := W1) (R := rwG (3, a, b, k)) (nl := 1) (nr := 1) rfl rfl T2.out T1.out _, K1.out.alloc _⟩

set_option maxHeartbeats 4000000 in
theorem sum_any (a b k : Int) (w : World) (a0 : 0 ≤ a) (a1 : a ≤ 1099511627776) (b0 : 0 ≤ b) (b1 : b ≤ 1099511627776) : Calls Tryd.prog 72 #[.agg #[.int .i64 4, .int .i64 a, .int .i64 b, .int .i64 k]] w fun e w' => RwAns w 1 (rwG (4, a, b, k)) e w' := by
  have KB := hik ((Chg.refl nob w).alloc (.cells #[.int .i64 4, .int .i64 a, .int .i64 b, .int .i64 k] 51))
  have x1 : World.cell? (w.alloc (.cells #[.int .i64 4, .int .i64 a, .int .i64 b, .int .i64 k] 51)) ⟨w.heap.size, 1, none⟩ = some (.int .i64 a) := by go_simp
  have x2 : World.cell? (w.alloc (.cells #[.int .i64 4, .int .i64 a, .int .i64 b, .int .i64 k] 51)) ⟨w.heap.size, 2, none⟩ = some (.int .i64 b) := by go_simp
  go_enter Tryd.func72, Tryd.ntmps72
  go_upto_region 1 with fail
  generalize w.alloc (.cells #[.int .i64 4, .int .i64 a, .int .i64 b, .int .i64 k] 51) = W0 at KB x1 x2 ⊢
  have KW := hik ((Chg.refl nob W0).drew1)
  have SA := hik (fun (WW : World) (kW : Chg nob W0 WW) => (show (WW.cell? ⟨w.heap.size, 1, none⟩ = some (.int .i64 a) ∧ WW.cell? ⟨w.heap.size, 2, none⟩ = some (.int .i64 b)) from ⟨kW.see x1, kW.see x2⟩))
  refine wp_region_held_drew (S := fun w' => w'.cell? ⟨w.heap.size, 1, none⟩ = some (.int .i64 a) ∧ w'.cell? ⟨w.heap.size, 2, none⟩ = some (.int .i64 b)) (by kernel_rfl) ⟨x1, x2⟩ (fun hHeld => ?_)
  refine wpAnyH_take (i := 0) (v := ?_) rfl (by kernel_rfl) (by kernel_rfl) (by kernel_rfl) (fun _ _ _ h => h) (Or.inl ⟨by rfl, ?_⟩) (by assumption) ?_
  rotate_left 1
  · (intro w' hSw; (try dsimp only at hSw); go_simp; try with_reducible rfl)
  try simp only [Act.put, List.setIfInBounds_toArray, List.set_cons_zero, List.set_cons_succ, List.getElem_toArray, List.getElem_cons_zero, List.getElem_cons_succ]
  refine wpAnyH_take (i := 1) (v := ?_) rfl (by kernel_rfl) (by kernel_rfl) (by kernel_rfl) (fun _ _ _ h => h) (Or.inl ⟨by rfl, ?_⟩) (by assumption) ?_
  rotate_left 1
  · (intro w' hSw; (try dsimp only at hSw); go_simp; try with_reducible rfl)
  try simp only [Act.put, List.setIfInBounds_toArray, List.set_cons_zero, List.set_cons_succ, List.getElem_toArray, List.getElem_cons_zero, List.getElem_cons_succ]
  refine wpAnyH_take (i := 4) (v := ?_) rfl (by kernel_rfl) (by kernel_rfl) (by kernel_rfl) (fun _ _ _ h => h) (Or.inl ⟨by rfl, ?_⟩) (by assumption) ?_
  rotate_left 1
  · (intro w' hSw; (try dsimp only at hSw); go_simp; try with_reducible rfl)
  try simp only [Act.put, List.setIfInBounds_toArray, List.set_cons_zero, List.set_cons_succ, List.getElem_toArray, List.getElem_cons_zero, List.getElem_cons_succ]
  refine wpAnyH_take (i := 5) (v := ?_) rfl (by kernel_rfl) (by kernel_rfl) (by kernel_rfl) (fun _ _ _ h => h) (Or.inl ⟨by rfl, ?_⟩) (by assumption) ?_
  rotate_left 1
  · (intro w' hSw; (try dsimp only at hSw); go_simp; try with_reducible rfl)
  try simp only [Act.put, List.setIfInBounds_toArray, List.set_cons_zero, List.set_cons_succ, List.getElem_toArray, List.getElem_cons_zero, List.getElem_cons_succ]
  refine wpAnyH_ready (rs := [2]) (by kernel_rfl) (by simp) ?_
  refine AllReadyH.cons rfl (fun K hK => ?_) AllReadyH.nil
  refine stepL_callN 39 #[.tmp 4] #[3] (by rfl) (by rfl) #[.int .i64 a] (by simp only [List.map_toArray, List.map_cons, List.map_nil] <;> rfl) (run_go Tryd.func39 (by kernel_rfl) (by kernel_rfl) _ _) (slotOf_c a _ (by omega) (by omega)) ?_
  rintro e U1 ⟨he, kk⟩
  refine ⟨_, he, ?_⟩
  replace KW := hik (KW.out.trans kk)
  refine hK.out _ _ (SA.out _ KW.out) (fun hHeld => ?_)
  clear hK K
  try simp only [Act.put, List.setIfInBounds_toArray, List.set_cons_zero, List.set_cons_succ, List.getElem_toArray, List.getElem_cons_zero, List.getElem_cons_succ]
  clear he kk
  refine wpAnyH_take (i := 3) (v := ?_) rfl (by kernel_rfl) (by kernel_rfl) (by kernel_rfl) (fun _ _ _ h => h) (Or.inl ⟨by rfl, ?_⟩) (by assumption) ?_
  rotate_left 1
  · (intro w' hSw; (try dsimp only at hSw); go_simp; try with_reducible rfl)
  try simp only [Act.put, List.setIfInBounds_toArray, List.set_cons_zero, List.set_cons_succ, List.getElem_toArray, List.getElem_cons_zero, List.getElem_cons_succ]
  refine wpAnyH_ready (rs := [6]) (by kernel_rfl) (by simp) ?_
  refine AllReadyH.cons rfl (fun K hK => ?_) AllReadyH.nil
  refine stepL_callN 39 #[.tmp 8] #[3] (by rfl) (by rfl) #[.int .i64 b] (by simp only [List.map_toArray, List.map_cons, List.map_nil] <;> rfl) (run_go Tryd.func39 (by kernel_rfl) (by kernel_rfl) _ _) (slotOf_c b _ (by omega) (by omega)) ?_
  rintro e U2 ⟨he, kk⟩
  refine ⟨_, he, ?_⟩
  replace KW := hik (KW.out.trans kk)
  refine hK.out _ _ (SA.out _ KW.out) (fun hHeld => ?_)
  clear hK K
  try simp only [Act.put, List.setIfInBounds_toArray, List.set_cons_zero, List.set_cons_succ, List.getElem_toArray, List.getElem_cons_zero, List.getElem_cons_succ]
  clear he kk
  refine wpAnyH_take (i := 7) (v := ?_) rfl (by kernel_rfl) (by kernel_rfl) (by kernel_rfl) (fun _ _ _ h => h) (Or.inl ⟨by rfl, ?_⟩) (by assumption) ?_
  rotate_left 1
  · (intro w' hSw; (try dsimp only at hSw); go_simp; try with_reducible rfl)
  try simp only [Act.put, List.setIfInBounds_toArray, List.set_cons_zero, List.set_cons_succ, List.getElem_toArray, List.getElem_cons_zero, List.getElem_cons_succ]
  refine wpAnyH_ready (rs := [8]) (by kernel_rfl) (by simp) ?_
  refine AllReadyH.cons rfl (fun K hK => ?_) AllReadyH.nil
  simp only [List.getElem_toArray, List.getElem_cons_zero, List.getElem_cons_succ]
  go_simp
  have TL := hik (trm_new2 U2 ((a + 1)) (1) ((b + 1)) (1) 133)
  replace KW : Hid (Chg nob W0 (World.alloc U2 (.cells #[.int .i64 (a + 1), .int .i64 1, .int .i64 (b + 1), .int .i64 1] 133))) := hik (KW.out.alloc _)
  generalize hUA : (World.alloc U2 (.cells #[.int .i64 (a + 1), .int .i64 1, .int .i64 (b + 1), .int .i64 1] 133)) = UA1 at  KW TL ⊢
  clear hUA
  generalize U2.heap.size = bTL at TL ⊢
  refine hK.out _ _ (SA.out _ KW.out) (fun hHeld => ?_)
  clear hK K
  try simp only [Act.put, List.setIfInBounds_toArray, List.set_cons_zero, List.set_cons_succ, List.getElem_toArray, List.getElem_cons_zero, List.getElem_cons_succ]
  refine wpAnyH_ready (rs := [9]) (by kernel_rfl) (by simp) ?_
  refine AllReadyH.cons rfl (fun K hK => ?_) AllReadyH.nil
  refine stepL_callN 98 #[.tmp 11] #[74] (by rfl) (by rfl) #[.slice (some ⟨bTL, 0, none⟩) 2 2] (by simp only [List.map_toArray, List.map_cons, List.map_nil] <;> rfl) (run_go Tryd.func98 (by kernel_rfl) (by kernel_rfl) _ _) (byOne_any _ _ _ _) ?_
  rintro e U3 ⟨bTR, hb, he, tt, kk⟩
  replace TL := hik (TL.out.keep kk)
  have TR := hik tt
  clear tt hb
  refine ⟨_, he, ?_⟩
  replace KW := hik (KW.out.trans kk)
  refine hK.out _ _ (SA.out _ KW.out) (fun hHeld => ?_)
  clear hK K
  try simp only [Act.put, List.setIfInBounds_toArray, List.set_cons_zero, List.set_cons_succ, List.getElem_toArray, List.getElem_cons_zero, List.getElem_cons_succ]
  clear he kk
  refine wpAnyH_ready (rs := [10]) (by kernel_rfl) (by simp) ?_
  refine AllReadyH.cons rfl (fun K hK => ?_) AllReadyH.nil
  simp only [List.getElem_toArray, List.getElem_cons_zero, List.getElem_cons_succ]
  go_simp
  have RW : Hid (RwV (World.alloc U3 (.cells #[.slice (some ⟨bTL, 0, none⟩) 2 2, .slice (some ⟨bTR, 0, none⟩) 1 1] 76)) (some ⟨U3.heap.size, 0, none⟩) 1 (rwG (4, a, b, k))) := hik (rwv_new1 (w := U3) (R := rwG (4, a, b, k)) (nl := 2) (nr := 1) rfl rfl TL.out TR.out _)
  replace KW : Hid (Chg nob W0 (World.alloc U3 (.cells #[.slice (some ⟨bTL, 0, none⟩) 2 2, .slice (some ⟨bTR, 0, none⟩) 1 1] 76))) := hik (KW.out.alloc _)
  generalize hUA : (World.alloc U3 (.cells #[.slice (some ⟨bTL, 0, none⟩) 2 2, .slice (some ⟨bTR, 0, none⟩) 1 1] 76)) = UZ at RW KW ⊢
  clear hUA
  generalize U3.heap.size = bz at RW ⊢
  refine hK.out _ _ (SA.out _ KW.out) (fun hHeld => ?_)
  clear hK K
  try simp only [Act.put, List.setIfInBounds_toArray, List.set_cons_zero, List.set_cons_succ, List.getElem_toArray, List.getElem_cons_zero, List.getElem_cons_succ]
  refine wpAnyH_take (i := 11) (v := ?_) rfl (by kernel_rfl) (by kernel_rfl) (by kernel_rfl) (fun _ _ _ h => h) (Or.inl ⟨by rfl, ?_⟩) (by assumption) ?_
  rotate_left 1
  · (intro w' hSw; (try dsimp only at hSw); go_simp; try with_reducible rfl)
  try simp only [Act.put, List.setIfInBounds_toArray, List.set_cons_zero, List.set_cons_succ, List.getElem_toArray, List.getElem_cons_zero, List.getElem_cons_succ]
  refine wpAnyH_done (by kernel_rfl) ?_ _
  go_wp2
  go_ret
  exact ⟨_, rfl, RW.out, KB.out.trans KW.out⟩

set_option maxHeartbeats 4000000 in
theorem difference_any (a b k : Int) (w : World) (a0 : 0 ≤ a) (a1 : a ≤ 1099511627776) (b0 : 0 ≤ b) (b1 : b ≤ 1099511627776) : Calls Tryd.prog 73 #[.agg #[.int .i64 5, .int .i64 a, .int .i64 b, .int .i64 k]] w fun e w' => RwAns w 1 (rwG (5, a, b, k)) e w' := by
  have KB := hik ((Chg.refl nob w).alloc (.cells #[.int .i64 5, .int .i64 a, .int .i64 b, .int .i64 k] 51))
  have x1 : World.cell? (w.alloc (.cells #[.int .i64 5, .int .i64 a, .int .i64 b, .int .i64 k] 51)) ⟨w.heap.size, 1, none⟩ = some (.int .i64 a) := by go_simp
  have x2 : World.cell? (w.alloc (.cells #[.int .i64 5, .int .i64 a, .int .i64 b, .int .i64 k] 51)) ⟨w.heap.size, 2, none⟩ = some (.int .i64 b) := by go_simp
  go_enter Tryd.func73, Tryd.ntmps73
  go_upto_region 1 with fail
  generalize w.alloc (.cells #[.int .i64 5, .int .i64 a, .int .i64 b, .int .i64 k] 51) = W0 at KB x1 x2 ⊢
  have KW := hik ((Chg.refl nob W0).drew1)
  have SA := hik (fun (WW : World) (kW : Chg nob W0 WW) => (show (WW.cell? ⟨w.heap.size, 1, none⟩ = some (.int .i64 a) ∧ WW.cell? ⟨w.heap.size, 2, none⟩ = some (.int .i64 b)) from ⟨kW.see x1, kW.see x2⟩))
  refine wp_region_held_drew (S := fun w' => w'.cell? ⟨w.heap.size, 1, none⟩ = some (.int .i64 a) ∧ w'.cell? ⟨w.heap.size, 2, none⟩ = some (.int .i64 b)) (by kernel_rfl) ⟨x1, x2⟩ (fun hHeld => ?_)
  refine wpAnyH_take (i := 0) (v := ?_) rfl (by kernel_rfl) (by kernel_rfl) (by kernel_rfl) (fun _ _ _ h => h) (Or.inl ⟨by rfl, ?_⟩) (by assumption) ?_
  rotate_left 1
  · (intro w' hSw; (try dsimp only at hSw); go_simp; try with_reducible rfl)
  try simp only [Act.put, List.setIfInBounds_toArray, List.set_cons_zero, List.set_cons_succ, List.getElem_toArray, List.getElem_cons_zero, List.getElem_cons_succ]
  refine wpAnyH_take (i := 1) (v := ?_) rfl (by kernel_rfl) (by kernel_rfl) (by kernel_rfl) (fun _ _ _ h => h) (Or.inl ⟨by rfl, ?_⟩) (by assumption) ?_
  rotate_left 1
  · (intro w' hSw; (try dsimp only at hSw); go_simp; try with_reducible rfl)
  try simp only [Act.put, List.setIfInBounds_toArray, List.set_cons_zero, List.set_cons_succ, List.getElem_toArray, List.getElem_cons_zero, List.getElem_cons_succ]
  refine wpAnyH_take (i := 4) (v := ?_) rfl (by kernel_rfl) (by kernel_rfl) (by kernel_rfl) (fun _ _ _ h => h) (Or.inl ⟨by rfl, ?_⟩) (by assumption) ?_
  rotate_left 1
  · (intro w' hSw; (try dsimp only at hSw); go_simp; try with_reducible rfl)
  try simp only [Act.put, List.setIfInBounds_toArray, List.set_cons_zero, List.set_cons_succ, List.getElem_toArray, List.getElem_cons_zero, List.getElem_cons_succ]
  refine wpAnyH_take (i := 5) (v := ?_) rfl (by kernel_rfl) (by kernel_rfl) (by kernel_rfl) (fun _ _ _ h => h) (Or.inl ⟨by rfl, ?_⟩) (by assumption) ?_
  rotate_left 1
  · (intro w' hSw; (try dsimp only at hSw); go_simp; try with_reducible rfl)
  try simp only [Act.put, List.setIfInBounds_toArray, List.set_cons_zero, List.set_cons_succ, List.getElem_toArray, List.getElem_cons_zero, List.getElem_cons_succ]
  refine wpAnyH_ready (rs := [2]) (by kernel_rfl) (by simp) ?_
  refine AllReadyH.cons rfl (fun K hK => ?_) AllReadyH.nil
  refine stepL_callN 39 #[.tmp 4] #[3] (by rfl) (by rfl) #[.int .i64 a] (by simp only [List.map_toArray, List.map_cons, List.map_nil] <;> rfl) (run_go Tryd.func39 (by kernel_rfl) (by kernel_rfl) _ _) (slotOf_c a _ (by omega) (by omega)) ?_
  rintro e U1 ⟨he, kk⟩
  refine ⟨_, he, ?_⟩
  replace KW := hik (KW.out.trans kk)
  refine hK.out _ _ (SA.out _ KW.out) (fun hHeld => ?_)
  clear hK K
  try simp only [Act.put, List.setIfInBounds_toArray, List.set_cons_zero, List.set_cons_succ, List.getElem_toArray, List.getElem_cons_zero, List.getElem_cons_succ]
  clear he kk
  refine wpAnyH_take (i := 3) (v := ?_) rfl (by kernel_rfl) (by kernel_rfl) (by kernel_rfl) (fun _ _ _ h => h) (Or.inl ⟨by rfl, ?_⟩) (by assumption) ?_
  rotate_left 1
  · (intro w' hSw; (try dsimp only at hSw); go_simp; try with_reducible rfl)
  try simp only [Act.put, List.setIfInBounds_toArray, List.set_cons_zero, List.set_cons_succ, List.getElem_toArray, List.getElem_cons_zero, List.getElem_cons_succ]
  refine wpAnyH_ready (rs := [6]) (by kernel_rfl) (by simp) ?_
  refine AllReadyH.cons rfl (fun K hK => ?_) AllReadyH.nil
  refine stepL_callN 39 #[.tmp 8] #[3] (by rfl) (by rfl) #[.int .i64 b] (by simp only [List.map_toArray, List.map_cons, List.map_nil] <;> rfl) (run_go Tryd.func39 (by kernel_rfl) (by kernel_rfl) _ _) (slotOf_c b _ (by omega) (by omega)) ?_
  rintro e U2 ⟨he, kk⟩
  refine ⟨_, he, ?_⟩
  replace KW := hik (KW.out.trans kk)
  refine hK.out _ _ (SA.out _ KW.out) (fun hHeld => ?_)
  clear hK K
  try simp only [Act.put, List.setIfInBounds_toArray, List.set_cons_zero, List.set_cons_succ, List.getElem_toArray, List.getElem_cons_zero, List.getElem_cons_succ]
  clear he kk
  refine wpAnyH_take (i := 7) (v := ?_) rfl (by kernel_rfl) (by kernel_rfl) (by kernel_rfl) (fun _ _ _ h => h) (Or.inl ⟨by rfl, ?_⟩) (by assumption) ?_
  rotate_left 1
  · (intro w' hSw; (try dsimp only at hSw); go_simp; try with_reducible rfl)
  try simp only [Act.put, List.setIfInBounds_toArray, List.set_cons_zero, List.set_cons_succ, List.getElem_toArray, List.getElem_cons_zero, List.getElem_cons_succ]
  refine wpAnyH_ready (rs := [8]) (by kernel_rfl) (by simp) ?_
  refine AllReadyH.cons rfl (fun K hK => ?_) AllReadyH.nil
  simp only [List.getElem_toArray, List.getElem_cons_zero, List.getElem_cons_succ]
  go_simp
  have TL := hik (trm_new2 U2 ((a + 1)) (1) ((b + 1)) (2130706432) 133)
  replace KW : Hid (Chg nob W0 (World.alloc U2 (.cells #[.int .i64 (a + 1), .int .i64 1, .int .i64 (b + 1), .int .i64 2130706432] 133))) := hik (KW.out.alloc _)
  generalize hUA : (World.alloc U2 (.cells #[.int .i64 (a + 1), .int .i64 1, .int .i64 (b + 1), .int .i64 2130706432] 133)) = UA1 at  KW TL ⊢
  clear hUA
  generalize U2.heap.size = bTL at TL ⊢
  refine hK.out _ _ (SA.out _ KW.out) (fun hHeld => ?_)
  clear hK K
  try simp only [Act.put, List.setIfInBounds_toArray, List.set_cons_zero, List.set_cons_succ, List.getElem_toArray, List.getElem_cons_zero, List.getElem_cons_succ]
  refine wpAnyH_ready (rs := [9]) (by kernel_rfl) (by simp) ?_
  refine AllReadyH.cons rfl (fun K hK => ?_) AllReadyH.nil
  refine stepL_callN 98 #[.tmp 11] #[74] (by rfl) (by rfl) #[.slice (some ⟨bTL, 0, none⟩) 2 2] (by simp only [List.map_toArray, List.map_cons, List.map_nil] <;> rfl) (run_go Tryd.func98 (by kernel_rfl) (by kernel_rfl) _ _) (byOne_any _ _ _ _) ?_
  rintro e U3 ⟨bTR, hb, he, tt, kk⟩
  replace TL := hik (TL.out.keep kk)
  have TR := hik tt
  clear tt hb
  refine ⟨_, he, ?_⟩
  replace KW := hik (KW.out.trans kk)
  refine hK.out _ _ (SA.out _ KW.out) (fun hHeld => ?_)
  clear hK K
  try simp only [Act.put, List.setIfInBounds_toArray, List.set_cons_zero, List.set_cons_succ, List.getElem_toArray, List.getElem_cons_zero, List.getElem_cons_succ]
  clear he kk
  refine wpAnyH_ready (rs := [10]) (by kernel_rfl) (by simp) ?_
  refine AllReadyH.cons rfl (fun K hK => ?_) AllReadyH.nil
  simp only [List.getElem_toArray, List.getElem_cons_zero, List.getElem_cons_succ]
  go_simp
  have RW : Hid (RwV (World.alloc U3 (.cells #[.slice (some ⟨bTL, 0, none⟩) 2 2, .slice (some ⟨bTR, 0, none⟩) 1 1] 76)) (some ⟨U3.heap.size, 0, none⟩) 1 (rwG (5, a, b, k))) := hik (rwv_new1 (w := U3) (R := rwG (5, a, b, k)) (nl := 2) (nr := 1) rfl rfl TL.out TR.out _)
  replace KW : Hid (Chg nob W0 (World.alloc U3 (.cells #[.slice (some ⟨bTL, 0, none⟩) 2 2, .slice (some ⟨bTR, 0, none⟩) 1 1] 76))) := hik (KW.out.alloc _)
  generalize hUA : (World.alloc U3 (.cells #[.slice (some ⟨bTL, 0, none⟩) 2 2, .slice (some ⟨bTR, 0, none⟩) 1 1] 76)) = UZ at RW KW ⊢
  clear hUA
  generalize U3.heap.size = bz at RW ⊢
  refine hK.out _ _ (SA.out _ KW.out) (fun hHeld => ?_)
  clear hK K
  try simp only [Act.put, List.setIfInBounds_toArray, List.set_cons_zero, List.set_cons_succ, List.getElem_toArray, List.getElem_cons_zero, List.getElem_cons_succ]
  refine wpAnyH_take (i := 11) (v := ?_) rfl (by kernel_rfl) (by kernel_rfl) (by kernel_rfl) (fun _ _ _ h => h) (Or.inl ⟨by rfl, ?_⟩) (by assumption) ?_
  rotate_left 1
  · (intro w' hSw; (try dsimp only at hSw); go_simp; try with_reducible rfl)
  try simp only [Act.put, List.setIfInBounds_toArray, List.set_cons_zero, List.set_cons_succ, List.getElem_toArray, List.getElem_cons_zero, List.getElem_cons_succ]
  refine wpAnyH_done (by kernel_rfl) ?_ _
  go_wp2
  go_ret
  exact ⟨_, rfl, RW.out, KB.out.trans KW.out⟩

set_option maxHeartbeats 4000000 in
theorem product_any (a b k : Int) (w : World) (a0 : 0 ≤ a) (a1 : a ≤ 1099511627776) (b0 : 0 ≤ b) (b1 : b ≤ 1099511627776) : Calls Tryd.prog 74 #[.agg #[.int .i64 6, .int .i64 a, .int .i64 b, .int .i64 k]] w fun e w' => RwAns w 1 (rwG (6, a, b, k)) e w' := by
  have KB := hik ((Chg.refl nob w).alloc (.cells #[.int .i64 6, .int .i64 a, .int .i64 b, .int .i64 k] 51))
  have x1 : World.cell? (w.alloc (.cells #[.int .i64 6, .int .i64 a, .int .i64 b, .int .i64 k] 51)) ⟨w.heap.size, 1, none⟩ = some (.int .i64 a) := by go_simp
  have x2 : World.cell? (w.alloc (.cells #[.int .i64 6, .int .i64 a, .int .i64 b, .int .i64 k] 51)) ⟨w.heap.size, 2, none⟩ = some (.int .i64 b) := by go_simp
  go_enter Tryd.func74, Tryd.ntmps74
  go_upto_region 1 with fail
  generalize w.alloc (.cells #[.int .i64 6, .int .i64 a, .int .i64 b, .int .i64 k] 51) = W0 at KB x1 x2 ⊢
  have KW := hik ((Chg.refl nob W0).drew1)
  have SA := hik (fun (WW : World) (kW : Chg nob W0 WW) => (show (WW.cell? ⟨w.heap.size, 1, none⟩ = some (.int .i64 a) ∧ WW.cell? ⟨w.heap.size, 2, none⟩ = some (.int .i64 b)) from ⟨kW.see x1, kW.see x2⟩))
  refine wp_region_held_drew (S := fun w' => w'.cell? ⟨w.heap.size, 1, none⟩ = some (.int .i64 a) ∧ w'.cell? ⟨w.heap.size, 2, none⟩ = some (.int .i64 b)) (by kernel_rfl) ⟨x1, x2⟩ (fun hHeld => ?_)
  refine wpAnyH_take (i := 0) (v := ?_) rfl (by kernel_rfl) (by kernel_rfl) (by kernel_rfl) (fun _ _ _ h => h) (Or.inl ⟨by rfl, ?_⟩) (by assumption) ?_
  rotate_left 1
  · (intro w' hSw; (try dsimp only at hSw); go_simp; try with_reducible rfl)
  try simp only [Act.put, List.setIfInBounds_toArray, List.set_cons_zero, List.set_cons_succ, List.getElem_toArray, List.getElem_cons_zero, List.getElem_cons_succ]
  refine wpAnyH_take (i := 1) (v := ?_) rfl (by kernel_rfl) (by kernel_rfl) (by kernel_rfl) (fun _ _ _ h => h) (Or.inl ⟨by rfl, ?_⟩) (by assumption) ?_
  rotate_left 1
  · (intro w' hSw; (try dsimp only at hSw); go_simp; try with_reducible rfl)
  try simp only [Act.put, List.setIfInBounds_toArray, List.set_cons_zero, List.set_cons_succ, List.getElem_toArray, List.getElem_cons_zero, List.getElem_cons_succ]
  refine wpAnyH_take (i := 4) (v := ?_) rfl (by kernel_rfl) (by kernel_rfl) (by kernel_rfl) (fun _ _ _ h => h) (Or.inl ⟨by rfl, ?_⟩) (by assumption) ?_
  rotate_left 1
  · (intro w' hSw; (try dsimp only at hSw); go_simp; try with_reducible rfl)
  try simp only [Act.put, List.setIfInBounds_toArray, List.set_cons_zero, List.set_cons_succ, List.getElem_toArray, List.getElem_cons_zero, List.getElem_cons_succ]
  refine wpAnyH_take (i := 5) (v := ?_) rfl (by kernel_rfl) (by kernel_rfl) (by kernel_rfl) (fun _ _ _ h => h) (Or.inl ⟨by rfl, ?_⟩) (by assumption) ?_
  rotate_left 1
  · (intro w' hSw; (try dsimp only at hSw); go_simp; try with_reducible rfl)
  try simp only [Act.put, List.setIfInBounds_toArray, List.set_cons_zero, List.set_cons_succ, List.getElem_toArray, List.getElem_cons_zero, List.getElem_cons_succ]
  refine wpAnyH_ready (rs := [2]) (by kernel_rfl) (by simp) ?_
  refine AllReadyH.cons rfl (fun K hK => ?_) AllReadyH.nil
  refine stepL_callN 39 #[.tmp 4] #[3] (by rfl) (by rfl) #[.int .i64 a] (by simp only [List.map_toArray, List.map_cons, List.map_nil] <;> rfl) (run_go Tryd.func39 (by kernel_rfl) (by kernel_rfl) _ _) (slotOf_c a _ (by omega) (by omega)) ?_
  rintro e U1 ⟨he, kk⟩
  refine ⟨_, he, ?_⟩
  replace KW := hik (KW.out.trans kk)
  refine hK.out _ _ (SA.out _ KW.out) (fun hHeld => ?_)
  clear hK K
  try simp only [Act.put, List.setIfInBounds_toArray, List.set_cons_zero, List.set_cons_succ, List.getElem_toArray, List.getElem_cons_zero, List.getElem_cons_succ]
  clear he kk
  refine wpAnyH_ready (rs := [3]) (by kernel_rfl) (by simp) ?_
  refine AllReadyH.cons rfl (fun K hK => ?_) AllReadyH.nil
  refine stepL_callN 78 #[.tmp 5] #[3] (by rfl) (by rfl) #[.int .i64 (a + 1)] (by simp only [List.map_toArray, List.map_cons, List.map_nil] <;> rfl) (run_go Tryd.func78 (by kernel_rfl) (by kernel_rfl) _ _) (once_any (a + 1) _) ?_
  rintro e U2 ⟨he, tt, kk⟩
  have TL := hik tt
  clear tt
  generalize U1.heap.size = bTL at he TL
  refine ⟨_, he, ?_⟩
  replace KW := hik (KW.out.trans kk)
  refine hK.out _ _ (SA.out _ KW.out) (fun hHeld => ?_)
  clear hK K
  try simp only [Act.put, List.setIfInBounds_toArray, List.set_cons_zero, List.set_cons_succ, List.getElem_toArray, List.getElem_cons_zero, List.getElem_cons_succ]
  clear he kk
  refine wpAnyH_ready (rs := [6]) (by kernel_rfl) (by simp) ?_
  refine AllReadyH.cons rfl (fun K hK => ?_) AllReadyH.nil
  refine stepL_callN 39 #[.tmp 8] #[3] (by rfl) (by rfl) #[.int .i64 b] (by simp only [List.map_toArray, List.map_cons, List.map_nil] <;> rfl) (run_go Tryd.func39 (by kernel_rfl) (by kernel_rfl) _ _) (slotOf_c b _ (by omega) (by omega)) ?_
  rintro e U3 ⟨he, kk⟩
  replace TL := hik (TL.out.keep kk)
  refine ⟨_, he, ?_⟩
  replace KW := hik (KW.out.trans kk)
  refine hK.out _ _ (SA.out _ KW.out) (fun hHeld => ?_)
  clear hK K
  try simp only [Act.put, List.setIfInBounds_toArray, List.set_cons_zero, List.set_cons_succ, List.getElem_toArray, List.getElem_cons_zero, List.getElem_cons_succ]
  clear he kk
  refine wpAnyH_ready (rs := [7]) (by kernel_rfl) (by simp) ?_
  refine AllReadyH.cons rfl (fun K hK => ?_) AllReadyH.nil
  refine stepL_callN 78 #[.tmp 9] #[3] (by rfl) (by rfl) #[.int .i64 (b + 1)] (by simp only [List.map_toArray, List.map_cons, List.map_nil] <;> rfl) (run_go Tryd.func78 (by kernel_rfl) (by kernel_rfl) _ _) (once_any (b + 1) _) ?_
  rintro e U4 ⟨he, tt, kk⟩
  replace TL := hik (TL.out.keep kk)
  have TR := hik tt
  clear tt
  generalize U3.heap.size = bTR at he TR
  refine ⟨_, he, ?_⟩
  replace KW := hik (KW.out.trans kk)
  refine hK.out _ _ (SA.out _ KW.out) (fun hHeld => ?_)
  clear hK K
  try simp only [Act.put, List.setIfInBounds_toArray, List.set_cons_zero, List.set_cons_succ, List.getElem_toArray, List.getElem_cons_zero, List.getElem_cons_succ]
  clear he kk
  refine wpAnyH_take (i := 8) (v := ?_) rfl (by kernel_rfl) (by kernel_rfl) (by kernel_rfl) (fun _ _ _ h => h) (Or.inl ⟨by rfl, ?_⟩) (by assumption) ?_
  rotate_left 1
  · (intro w' hSw; (try dsimp only at hSw); go_simp; try with_reducible rfl)
  try simp only [Act.put, List.setIfInBounds_toArray, List.set_cons_zero, List.set_cons_succ, List.getElem_toArray, List.getElem_cons_zero, List.getElem_cons_succ]
  refine wpAnyH_ready (rs := [9]) (by kernel_rfl) (by simp) ?_
  refine AllReadyH.cons rfl (fun K hK => ?_) AllReadyH.nil
  simp only [List.getElem_toArray, List.getElem_cons_zero, List.getElem_cons_succ]
  go_simp
  have RW : Hid (RwV (World.alloc U4 (.cells #[.slice (some ⟨bTL, 0, none⟩) 1 1, .slice (some ⟨bTR, 0, none⟩) 1 1] 76)) (some ⟨U4.heap.size, 0, none⟩) 1 (rwG (6, a, b, k))) := hik (rwv_new1 (w := U4) (R := rwG (6, a, b, k)) (nl := 1) (nr := 1) rfl rfl TL.out TR.out _)
  replace KW : Hid (Chg nob W0 (World.alloc U4 (.cells #[.slice (some ⟨bTL, 0, none⟩) 1 1, .slice (some ⟨bTR, 0, none⟩) 1 1] 76))) := hik (KW.out.alloc _)
  generalize hUA : (World.alloc U4 (.cells #[.slice (some ⟨bTL, 0, none⟩) 1 1, .slice (some ⟨bTR, 0, none⟩) 1 1] 76)) = UZ at RW KW ⊢
  clear hUA
  generalize U4.heap.size = bz at RW ⊢
  refine hK.out _ _ (SA.out _ KW.out) (fun hHeld => ?_)
  clear hK K
  try simp only [Act.put, List.setIfInBounds_toArray, List.set_cons_zero, List.set_cons_succ, List.getElem_toArray, List.getElem_cons_zero, List.getElem_cons_succ]
  refine wpAnyH_take (i := 10) (v := ?_) rfl (by kernel_rfl) (by kernel_rfl) (by kernel_rfl) (fun _ _ _ h => h) (Or.inl ⟨by rfl, ?_⟩) (by assumption) ?_
  rotate_left 1
  · (intro w' hSw; (try dsimp only at hSw); go_simp; try with_reducible rfl)
  try simp only [Act.put, List.setIfInBounds_toArray, List.set_cons_zero, List.set_cons_succ, List.getElem_toArray, List.getElem_cons_zero, List.getElem_cons_succ]
  refine wpAnyH_done (by kernel_rfl) ?_ _
  go_wp2
  go_ret
  exact ⟨_, rfl, RW.out, KB.out.trans KW.out⟩

set_option maxHeartbeats 4000000 in
theorem bit_any (a b k : Int) (w : World) (a0 : 0 ≤ a) (a1 : a ≤ 1099511627776) : Calls Tryd.prog 76 #[.agg #[.int .i64 8, .int .i64 a, .int .i64 b, .int .i64 k]] w fun e w' => RwAns w 2 (rwG (8, a, b, k)) e w' := by
  have KB := hik ((Chg.refl nob w).alloc (.cells #[.int .i64 8, .int .i64 a, .int .i64 b, .int .i64 k] 51))
  have x1 : World.cell? (w.alloc (.cells #[.int .i64 8, .int .i64 a, .int .i64 b, .int .i64 k] 51)) ⟨w.heap.size, 1, none⟩ = some (.int .i64 a) := by go_simp
  have x2 : World.cell? (w.alloc (.cells #[.int .i64 8, .int .i64 a, .int .i64 b, .int .i64 k] 51)) ⟨w.heap.size, 2, none⟩ = some (.int .i64 b) := by go_simp
  go_enter Tryd.func76, Tryd.ntmps76
  go_upto_region 1 with fail
  generalize w.alloc (.cells #[.int .i64 8, .int .i64 a, .int .i64 b, .int .i64 k] 51) = W0 at KB x1 x2 ⊢
  have KW := hik ((Chg.refl nob W0).drew1)
  have SA := hik (fun (WW : World) (kW : Chg nob W0 WW) => (show (WW.cell? ⟨w.heap.size, 1, none⟩ = some (.int .i64 a) ∧ WW.cell? ⟨w.heap.size, 2, none⟩ = some (.int .i64 b)) from ⟨kW.see x1, kW.see x2⟩))
  refine wp_region_held_drew (S := fun w' => w'.cell? ⟨w.heap.size, 1, none⟩ = some (.int .i64 a) ∧ w'.cell? ⟨w.heap.size, 2, none⟩ = some (.int .i64 b)) (by kernel_rfl) ⟨x1, x2⟩ (fun hHeld => ?_)
  refine wpAnyH_take (i := 0) (v := ?_) rfl (by kernel_rfl) (by kernel_rfl) (by kernel_rfl) (fun _ _ _ h => h) (Or.inl ⟨by rfl, ?_⟩) (by assumption) ?_
  rotate_left 1
  · (intro w' hSw; (try dsimp only at hSw); go_simp; try with_reducible rfl)
  try simp only [Act.put, List.setIfInBounds_toArray, List.set_cons_zero, List.set_cons_succ, List.getElem_toArray, List.getElem_cons_zero, List.getElem_cons_succ]
  refine wpAnyH_take (i := 1) (v := ?_) rfl (by kernel_rfl) (by kernel_rfl) (by kernel_rfl) (fun _ _ _ h => h) (Or.inl ⟨by rfl, ?_⟩) (by assumption) ?_
  rotate_left 1
  · (intro w' hSw; (try dsimp only at hSw); go_simp; try with_reducible rfl)
  try simp only [Act.put, List.setIfInBounds_toArray, List.set_cons_zero, List.set_cons_succ, List.getElem_toArray, List.getElem_cons_zero, List.getElem_cons_succ]
  refine wpAnyH_take (i := 4) (v := ?_) rfl (by kernel_rfl) (by kernel_rfl) (by kernel_rfl) (fun _ _ _ h => h) (Or.inl ⟨by rfl, ?_⟩) (by assumption) ?_
  rotate_left 1
  · (intro w' hSw; (try dsimp only at hSw); go_simp; try with_reducible rfl)
  try simp only [Act.put, List.setIfInBounds_toArray, List.set_cons_zero, List.set_cons_succ, List.getElem_toArray, List.getElem_cons_zero, List.getElem_cons_succ]
  refine wpAnyH_take (i := 5) (v := ?_) rfl (by kernel_rfl) (by kernel_rfl) (by kernel_rfl) (fun _ _ _ h => h) (Or.inl ⟨by rfl, ?_⟩) (by assumption) ?_
  rotate_left 1
  · (intro w' hSw; (try dsimp only at hSw); go_simp; try with_reducible rfl)
  try simp only [Act.put, List.setIfInBounds_toArray, List.set_cons_zero, List.set_cons_succ, List.getElem_toArray, List.getElem_cons_zero, List.getElem_cons_succ]
  refine wpAnyH_take (i := 9) (v := ?_) rfl (by kernel_rfl) (by kernel_rfl) (by kernel_rfl) (fun _ _ _ h => h) (Or.inl ⟨by rfl, ?_⟩) (by assumption) ?_
  rotate_left 1
  · (intro w' hSw; (try dsimp only at hSw); go_simp; try with_reducible rfl)
  try simp only [Act.put, List.setIfInBounds_toArray, List.set_cons_zero, List.set_cons_succ, List.getElem_toArray, List.getElem_cons_zero, List.getElem_cons_succ]
  refine wpAnyH_take (i := 10) (v := ?_) rfl (by kernel_rfl) (by kernel_rfl) (by kernel_rfl) (fun _ _ _ h => h) (Or.inl ⟨by rfl, ?_⟩) (by assumption) ?_
  rotate_left 1
  · (intro w' hSw; (try dsimp only at hSw); go_simp; try with_reducible rfl)
  try simp only [Act.put, List.setIfInBounds_toArray, List.set_cons_zero, List.set_cons_succ, List.getElem_toArray, List.getElem_cons_zero, List.getElem_cons_succ]
  refine wpAnyH_ready (rs := [2]) (by kernel_rfl) (by simp) ?_
  refine AllReadyH.cons rfl (fun K hK => ?_) AllReadyH.nil
  refine stepL_callN 39 #[.tmp 4] #[3] (by rfl) (by rfl) #[.int .i64 a] (by simp only [List.map_toArray, List.map_cons, List.map_nil] <;> rfl) (run_go Tryd.func39 (by kernel_rfl) (by kernel_rfl) _ _) (slotOf_c a _ (by omega) (by omega)) ?_
  rintro e U1 ⟨he, kk⟩
  refine ⟨_, he, ?_⟩
  replace KW := hik (KW.out.trans kk)
  refine hK.out _ _ (SA.out _ KW.out) (fun hHeld => ?_)
  clear hK K
  try simp only [Act.put, List.setIfInBounds_toArray, List.set_cons_zero, List.set_cons_succ, List.getElem_toArray, List.getElem_cons_zero, List.getElem_cons_succ]
  clear he kk
  refine wpAnyH_ready (rs := [3]) (by kernel_rfl) (by simp) ?_
  refine AllReadyH.cons rfl (fun K hK => ?_) AllReadyH.nil
  refine stepL_callN 78 #[.tmp 5] #[3] (by rfl) (by rfl) #[.int .i64 (a + 1)] (by simp only [List.map_toArray, List.map_cons, List.map_nil] <;> rfl) (run_go Tryd.func78 (by kernel_rfl) (by kernel_rfl) _ _) (once_any (a + 1) _) ?_
  rintro e U2 ⟨he, tt, kk⟩
  have TL := hik tt
  clear tt
  generalize U1.heap.size = bTL at he TL
  refine ⟨_, he, ?_⟩
  replace KW := hik (KW.out.trans kk)
  refine hK.out _ _ (SA.out _ KW.out) (fun hHeld => ?_)
  clear hK K
  try simp only [Act.put, List.setIfInBounds_toArray, List.set_cons_zero, List.set_cons_succ, List.getElem_toArray, List.getElem_cons_zero, List.getElem_cons_succ]
  clear he kk
  refine wpAnyH_ready (rs := [6]) (by kernel_rfl) (by simp) ?_
  refine AllReadyH.cons rfl (fun K hK => ?_) AllReadyH.nil
  refine stepL_callN 39 #[.tmp 8] #[3] (by rfl) (by rfl) #[.int .i64 a] (by simp only [List.map_toArray, List.map_cons, List.map_nil] <;> rfl) (run_go Tryd.func39 (by kernel_rfl) (by kernel_rfl) _ _) (slotOf_c a _ (by omega) (by omega)) ?_
  rintro e U3 ⟨he, kk⟩
  replace TL := hik (TL.out.keep kk)
  refine ⟨_, he, ?_⟩
  replace KW := hik (KW.out.trans kk)
  refine hK.out _ _ (SA.out _ KW.out) (fun hHeld => ?_)
  clear hK K
  try simp only [Act.put, List.setIfInBounds_toArray, List.set_cons_zero, List.set_cons_succ, List.getElem_toArray, List.getElem_cons_zero, List.getElem_cons_succ]
  clear he kk
  refine wpAnyH_ready (rs := [7]) (by kernel_rfl) (by simp) ?_
  refine AllReadyH.cons rfl (fun K hK => ?_) AllReadyH.nil
  refine stepL_callN 78 #[.tmp 9] #[3] (by rfl) (by rfl) #[.int .i64 (a + 1)] (by simp only [List.map_toArray, List.map_cons, List.map_nil] <;> rfl) (run_go Tryd.func78 (by kernel_rfl) (by kernel_rfl) _ _) (once_any (a + 1) _) ?_
  rintro e U4 ⟨he, tt, kk⟩
  replace TL := hik (TL.out.keep kk)
  have TR := hik tt
  clear tt
  generalize U3.heap.size = bTR at he TR
  refine ⟨_, he, ?_⟩
  replace KW := hik (KW.out.trans kk)
  refine hK.out _ _ (SA.out _ KW.out) (fun hHeld => ?_)
  clear hK K
  try simp only [Act.put, List.setIfInBounds_toArray, List.set_cons_zero, List.set_cons_succ, List.getElem_toArray, List.getElem_cons_zero, List.getElem_cons_succ]
  clear he kk
  refine wpAnyH_take (i := 8) (v := ?_) rfl (by kernel_rfl) (by kernel_rfl) (by kernel_rfl) (fun _ _ _ h => h) (Or.inl ⟨by rfl, ?_⟩) (by assumption) ?_
  rotate_left 1
  · (intro w' hSw; (try dsimp only at hSw); go_simp; try with_reducible rfl)
  try simp only [Act.put, List.setIfInBounds_toArray, List.set_cons_zero, List.set_cons_succ, List.getElem_toArray, List.getElem_cons_zero, List.getElem_cons_succ]
  refine wpAnyH_ready (rs := [11]) (by kernel_rfl) (by simp) ?_
  refine AllReadyH.cons rfl (fun K hK => ?_) AllReadyH.nil
  refine stepL_callN 39 #[.tmp 13] #[3] (by rfl) (by rfl) #[.int .i64 a] (by simp only [List.map_toArray, List.map_cons, List.map_nil] <;> rfl) (run_go Tryd.func39 (by kernel_rfl) (by kernel_rfl) _ _) (slotOf_c a _ (by omega) (by omega)) ?_
  rintro e U5 ⟨he, kk⟩
  replace TL := hik (TL.out.keep kk)
  replace TR := hik (TR.out.keep kk)
  refine ⟨_, he, ?_⟩
  replace KW := hik (KW.out.trans kk)
  refine hK.out _ _ (SA.out _ KW.out) (fun hHeld => ?_)
  clear hK K
  try simp only [Act.put, List.setIfInBounds_toArray, List.set_cons_zero, List.set_cons_succ, List.getElem_toArray, List.getElem_cons_zero, List.getElem_cons_succ]
  clear he kk
  refine wpAnyH_take (i := 12) (v := ?_) rfl (by kernel_rfl) (by kernel_rfl) (by kernel_rfl) (fun _ _ _ h => h) (Or.inl ⟨by rfl, ?_⟩) (by assumption) ?_
  rotate_left 1
  · (intro w' hSw; (try dsimp only at hSw); go_simp; try with_reducible rfl)
  try simp only [Act.put, List.setIfInBounds_toArray, List.set_cons_zero, List.set_cons_succ, List.getElem_toArray, List.getElem_cons_zero, List.getElem_cons_succ]
  refine wpAnyH_ready (rs := [13]) (by kernel_rfl) (by simp) ?_
  refine AllReadyH.cons rfl (fun K hK => ?_) AllReadyH.nil
  simp only [List.getElem_toArray, List.getElem_cons_zero, List.getElem_cons_succ]
  go_simp
  replace TL := hik (TL.out.keep ((Chg.refl nob U5).alloc (.cells #[.int .i64 (a + 1), .int .i64 1] 133)))
  replace TR := hik (TR.out.keep ((Chg.refl nob U5).alloc (.cells #[.int .i64 (a + 1), .int .i64 1] 133)))
  have TM := hik (trm_new1 U5 ((a + 1)) (1) 133)
  replace KW : Hid (Chg nob W0 (World.alloc U5 (.cells #[.int .i64 (a + 1), .int .i64 1] 133))) := hik (KW.out.alloc _)
  generalize hUA : (World.alloc U5 (.cells #[.int .i64 (a + 1), .int .i64 1] 133)) = UA1 at TL TR KW TM ⊢
  clear hUA
  generalize U5.heap.size = bTM at TM ⊢
  refine hK.out _ _ (SA.out _ KW.out) (fun hHeld => ?_)
  clear hK K
  try simp only [Act.put, List.setIfInBounds_toArray, List.set_cons_zero, List.set_cons_succ, List.getElem_toArray, List.getElem_cons_zero, List.getElem_cons_succ]
  refine wpAnyH_ready (rs := [14]) (by kernel_rfl) (by simp) ?_
  refine AllReadyH.cons rfl (fun K hK => ?_) AllReadyH.nil
  refine stepL_callN 98 #[.tmp 16] #[74] (by rfl) (by rfl) #[.slice (some ⟨bTM, 0, none⟩) 1 1] (by simp only [List.map_toArray, List.map_cons, List.map_nil] <;> rfl) (run_go Tryd.func98 (by kernel_rfl) (by kernel_rfl) _ _) (byOne_any _ _ _ _) ?_
  rintro e U6 ⟨bTN, hb, he, tt, kk⟩
  replace TL := hik (TL.out.keep kk)
  replace TR := hik (TR.out.keep kk)
  replace TM := hik (TM.out.keep kk)
  have TN := hik tt
  clear tt hb
  refine ⟨_, he, ?_⟩
  replace KW := hik (KW.out.trans kk)
  refine hK.out _ _ (SA.out _ KW.out) (fun hHeld => ?_)
  clear hK K
  try simp only [Act.put, List.setIfInBounds_toArray, List.set_cons_zero, List.set_cons_succ, List.getElem_toArray, List.getElem_cons_zero, List.getElem_cons_succ]
  clear he kk
  refine wpAnyH_ready (rs := [15]) (by kernel_rfl) (by simp) ?_
  refine AllReadyH.cons rfl (fun K hK => ?_) AllReadyH.nil
  simp only [List.getElem_toArray, List.getElem_cons_zero, List.getElem_cons_succ]
  go_simp
  have RW : Hid (RwV (World.alloc U6 (.cells #[.slice (some ⟨bTL, 0, none⟩) 1 1, .slice (some ⟨bTR, 0, none⟩) 1 1, .slice (some ⟨bTM, 0, none⟩) 1 1, .slice (some ⟨bTN, 0, none⟩) 1 1] 76)) (some ⟨U6.heap.size, 0, none⟩) 2 (rwG (8, a, b, k))) := hik (rwv_new2 (w := U6) (R := rwG (8, a, b, k)) (nl := 1) (nr := 1) (nl' := 1) (nr' := 1) rfl rfl TL.out TR.out rfl rfl TM.out TN.out _)
  replace KW : Hid (Chg nob W0 (World.alloc U6 (.cells #[.slice (some ⟨bTL, 0, none⟩) 1 1, .slice (some ⟨bTR, 0, none⟩) 1 1, .slice (some ⟨bTM, 0, none⟩) 1 1, .slice (some ⟨bTN, 0, none⟩) 1 1] 76))) := hik (KW.out.alloc _)
  generalize hUA : (World.alloc U6 (.cells #[.slice (some ⟨bTL, 0, none⟩) 1 1, .slice (some ⟨bTR, 0, none⟩) 1 1, .slice (some ⟨bTM, 0, none⟩) 1 1, .slice (some ⟨bTN, 0, none⟩) 1 1] 76)) = UZ at RW KW ⊢
  clear hUA
  generalize U6.heap.size = bz at RW ⊢
  refine hK.out _ _ (SA.out _ KW.out) (fun hHeld => ?_)
  clear hK K
  try simp only [Act.put, List.setIfInBounds_toArray, List.set_cons_zero, List.set_cons_succ, List.getElem_toArray, List.getElem_cons_zero, List.getElem_cons_succ]
  refine wpAnyH_take (i := 16) (v := ?_) rfl (by kernel_rfl) (by kernel_rfl) (by kernel_rfl) (fun _ _ _ h => h) (Or.inl ⟨by rfl, ?_⟩) (by assumption) ?_
  rotate_left 1
  · (intro w' hSw; (try dsimp only at hSw); go_simp; try with_reducible rfl)
  try simp only [Act.put, List.setIfInBounds_toArray, List.set_cons_zero, List.set_cons_succ, List.getElem_toArray, List.getElem_cons_zero, List.getElem_cons_succ]
  refine wpAnyH_done (by kernel_rfl) ?_ _
  go_wp2
  go_ret
  exact ⟨_, rfl, RW.out, KB.out.trans KW.out⟩

set_option maxHeartbeats 4000000 in
theorem equality_any (a b k : Int) (w : World) (a0 : 0 ≤ a) (a1 : a ≤ 1099511627776) (b0 : 0 ≤ b) (b1 : b ≤ 1099511627776) : Calls Tryd.prog 75 #[.agg #[.int .i64 7, .int .i64 a, .int .i64 b, .int .i64 k]] w fun e w' => RwAns w 2 (rwG (7, a, b, k)) e w' := by
  have KB := hik ((Chg.refl nob w).alloc (.cells #[.int .i64 7, .int .i64 a, .int .i64 b, .int .i64 k] 51))
  have x1 : World.cell? (w.alloc (.cells #[.int .i64 7, .int .i64 a, .int .i64 b, .int .i64 k] 51)) ⟨w.heap.size, 1, none⟩ = some (.int .i64 a) := by go_simp
  have x2 : World.cell? (w.alloc (.cells #[.int .i64 7, .int .i64 a, .int .i64 b, .int .i64 k] 51)) ⟨w.heap.size, 2, none⟩ = some (.int .i64 b) := by go_simp
  go_enter Tryd.func75, Tryd.ntmps75
  go_upto_region 1 with fail
  generalize w.alloc (.cells #[.int .i64 7, .int .i64 a, .int .i64 b, .int .i64 k] 51) = W0 at KB x1 x2 ⊢
  have KW := hik ((Chg.refl nob W0).drew1)
  have SA := hik (fun (WW : World) (kW : Chg nob W0 WW) => (show (WW.cell? ⟨w.heap.size, 1, none⟩ = some (.int .i64 a) ∧ WW.cell? ⟨w.heap.size, 2, none⟩ = some (.int .i64 b)) from ⟨kW.see x1, kW.see x2⟩))
  refine wp_region_held_drew (S := fun w' => w'.cell? ⟨w.heap.size, 1, none⟩ = some (.int .i64 a) ∧ w'.cell? ⟨w.heap.size, 2, none⟩ = some (.int .i64 b)) (by kernel_rfl) ⟨x1, x2⟩ (fun hHeld => ?_)
  refine wpAnyH_take (i := 0) (v := ?_) rfl (by kernel_rfl) (by kernel_rfl) (by kernel_rfl) (fun _ _ _ h => h) (Or.inl ⟨by rfl, ?_⟩) (by assumption) ?_
  rotate_left 1
  · (intro w' hSw; (try dsimp only at hSw); go_simp; try with_reducible rfl)
  try simp only [Act.put, List.setIfInBounds_toArray, List.set_cons_zero, List.set_cons_succ, List.getElem_toArray, List.getElem_cons_zero, List.getElem_cons_succ]
  refine wpAnyH_take (i := 1) (v := ?_) rfl (by kernel_rfl) (by kernel_rfl) (by kernel_rfl) (fun _ _ _ h => h) (Or.inl ⟨by rfl, ?_⟩) (by assumption) ?_
  rotate_left 1
  · (intro w' hSw; (try dsimp only at hSw); go_simp; try with_reducible rfl)
  try simp only [Act.put, List.setIfInBounds_toArray, List.set_cons_zero, List.set_cons_succ, List.getElem_toArray, List.getElem_cons_zero, List.getElem_cons_succ]
  refine wpAnyH_take (i := 6) (v := ?_) rfl (by kernel_rfl) (by kernel_rfl) (by kernel_rfl) (fun _ _ _ h => h) (Or.inl ⟨by rfl, ?_⟩) (by assumption) ?_
  rotate_left 1
  · (intro w' hSw; (try dsimp only at hSw); go_simp; try with_reducible rfl)
  try simp only [Act.put, List.setIfInBounds_toArray, List.set_cons_zero, List.set_cons_succ, List.getElem_toArray, List.getElem_cons_zero, List.getElem_cons_succ]
  refine wpAnyH_take (i := 7) (v := ?_) rfl (by kernel_rfl) (by kernel_rfl) (by kernel_rfl) (fun _ _ _ h => h) (Or.inl ⟨by rfl, ?_⟩) (by assumption) ?_
  rotate_left 1
  · (intro w' hSw; (try dsimp only at hSw); go_simp; try with_reducible rfl)
  try simp only [Act.put, List.setIfInBounds_toArray, List.set_cons_zero, List.set_cons_succ, List.getElem_toArray, List.getElem_cons_zero, List.getElem_cons_succ]
  refine wpAnyH_ready (rs := [2]) (by kernel_rfl) (by simp) ?_
  refine AllReadyH.cons rfl (fun K hK => ?_) AllReadyH.nil
  refine stepL_callN 39 #[.tmp 4] #[3] (by rfl) (by rfl) #[.int .i64 b] (by simp only [List.map_toArray, List.map_cons, List.map_nil] <;> rfl) (run_go Tryd.func39 (by kernel_rfl) (by kernel_rfl) _ _) (slotOf_c b _ (by omega) (by omega)) ?_
  rintro e U1 ⟨he, kk⟩
  refine ⟨_, he, ?_⟩
  replace KW := hik (KW.out.trans kk)
  refine hK.out _ _ (SA.out _ KW.out) (fun hHeld => ?_)
  clear hK K
  try simp only [Act.put, List.setIfInBounds_toArray, List.set_cons_zero, List.set_cons_succ, List.getElem_toArray, List.getElem_cons_zero, List.getElem_cons_succ]
  clear he kk
  refine wpAnyH_take (i := 3) (v := ?_) rfl (by kernel_rfl) (by kernel_rfl) (by kernel_rfl) (fun _ _ _ h => h) (Or.inl ⟨by rfl, ?_⟩) (by assumption) ?_
  rotate_left 1
  · (intro w' hSw; (try dsimp only at hSw); go_simp; try with_reducible rfl)
  try simp only [Act.put, List.setIfInBounds_toArray, List.set_cons_zero, List.set_cons_succ, List.getElem_toArray, List.getElem_cons_zero, List.getElem_cons_succ]
  refine wpAnyH_ready (rs := [4]) (by kernel_rfl) (by simp) ?_
  refine AllReadyH.cons rfl (fun K hK => ?_) AllReadyH.nil
  simp only [List.getElem_toArray, List.getElem_cons_zero, List.getElem_cons_succ]
  go_simp
  have TL := hik (trm_new1 U1 ((b + 1)) (1) 133)
  replace KW : Hid (Chg nob W0 (World.alloc U1 (.cells #[.int .i64 (b + 1), .int .i64 1] 133))) := hik (KW.out.alloc _)
  generalize hUA : (World.alloc U1 (.cells #[.int .i64 (b + 1), .int .i64 1] 133)) = UA1 at  KW TL ⊢
  clear hUA
  generalize U1.heap.size = bTL at TL ⊢
  refine hK.out _ _ (SA.out _ KW.out) (fun hHeld => ?_)
  clear hK K
  try simp only [Act.put, List.setIfInBounds_toArray, List.set_cons_zero, List.set_cons_succ, List.getElem_toArray, List.getElem_cons_zero, List.getElem_cons_succ]
  refine wpAnyH_ready (rs := [5]) (by kernel_rfl) (by simp) ?_
  refine AllReadyH.cons rfl (fun K hK => ?_) AllReadyH.nil
  refine stepL_callN 98 #[.tmp 7] #[74] (by rfl) (by rfl) #[.slice (some ⟨bTL, 0, none⟩) 1 1] (by simp only [List.map_toArray, List.map_cons, List.map_nil] <;> rfl) (run_go Tryd.func98 (by kernel_rfl) (by kernel_rfl) _ _) (byOne_any _ _ _ _) ?_
  rintro e U2 ⟨bTR, hb, he, tt, kk⟩
  replace TL := hik (TL.out.keep kk)
  have TR := hik tt
  clear tt hb
  refine ⟨_, he, ?_⟩
  replace KW := hik (KW.out.trans kk)
  refine hK.out _ _ (SA.out _ KW.out) (fun hHeld => ?_)
  clear hK K
  try simp only [Act.put, List.setIfInBounds_toArray, List.set_cons_zero, List.set_cons_succ, List.getElem_toArray, List.getElem_cons_zero, List.getElem_cons_succ]
  clear he kk
  refine wpAnyH_ready (rs := [8]) (by kernel_rfl) (by simp) ?_
  refine AllReadyH.cons rfl (fun K hK => ?_) AllReadyH.nil
  refine stepL_callN 39 #[.tmp 10] #[3] (by rfl) (by rfl) #[.int .i64 a] (by simp only [List.map_toArray, List.map_cons, List.map_nil] <;> rfl) (run_go Tryd.func39 (by kernel_rfl) (by kernel_rfl) _ _) (slotOf_c a _ (by omega) (by omega)) ?_
  rintro e U3 ⟨he, kk⟩
  replace TL := hik (TL.out.keep kk)
  replace TR := hik (TR.out.keep kk)
  refine ⟨_, he, ?_⟩
  replace KW := hik (KW.out.trans kk)
  refine hK.out _ _ (SA.out _ KW.out) (fun hHeld => ?_)
  clear hK K
  try simp only [Act.put, List.setIfInBounds_toArray, List.set_cons_zero, List.set_cons_succ, List.getElem_toArray, List.getElem_cons_zero, List.getElem_cons_succ]
  clear he kk
  refine wpAnyH_take (i := 9) (v := ?_) rfl (by kernel_rfl) (by kernel_rfl) (by kernel_rfl) (fun _ _ _ h => h) (Or.inl ⟨by rfl, ?_⟩) (by assumption) ?_
  rotate_left 1
  · (intro w' hSw; (try dsimp only at hSw); go_simp; try with_reducible rfl)
  try simp only [Act.put, List.setIfInBounds_toArray, List.set_cons_zero, List.set_cons_succ, List.getElem_toArray, List.getElem_cons_zero, List.getElem_cons_succ]
  refine wpAnyH_ready (rs := [10]) (by kernel_rfl) (by simp) ?_
  refine AllReadyH.cons rfl (fun K hK => ?_) AllReadyH.nil
  simp only [List.getElem_toArray, List.getElem_cons_zero, List.getElem_cons_succ]
  go_simp
  replace TL := hik (TL.out.keep ((Chg.refl nob U3).alloc (.cells #[.int .i64 (a + 1), .int .i64 1] 133)))
  replace TR := hik (TR.out.keep ((Chg.refl nob U3).alloc (.cells #[.int .i64 (a + 1), .int .i64 1] 133)))
  have TM := hik (trm_new1 U3 ((a + 1)) (1) 133)
  replace KW : Hid (Chg nob W0 (World.alloc U3 (.cells #[.int .i64 (a + 1), .int .i64 1] 133))) := hik (KW.out.alloc _)
  generalize hUA : (World.alloc U3 (.cells #[.int .i64 (a + 1), .int .i64 1] 133)) = UA2 at TL TR KW TM ⊢
  clear hUA
  generalize U3.heap.size = bTM at TM ⊢
  refine hK.out _ _ (SA.out _ KW.out) (fun hHeld => ?_)
  clear hK K
  try simp only [Act.put, List.setIfInBounds_toArray, List.set_cons_zero, List.set_cons_succ, List.getElem_toArray, List.getElem_cons_zero, List.getElem_cons_succ]
  refine wpAnyH_ready (rs := [11]) (by kernel_rfl) (by simp) ?_
  refine AllReadyH.cons rfl (fun K hK => ?_) AllReadyH.nil
  refine stepL_callN 98 #[.tmp 13] #[74] (by rfl) (by rfl) #[.slice (some ⟨bTM, 0, none⟩) 1 1] (by simp only [List.map_toArray, List.map_cons, List.map_nil] <;> rfl) (run_go Tryd.func98 (by kernel_rfl) (by kernel_rfl) _ _) (byOne_any _ _ _ _) ?_
  rintro e U4 ⟨bTN, hb, he, tt, kk⟩
  replace TL := hik (TL.out.keep kk)
  replace TR := hik (TR.out.keep kk)
  replace TM := hik (TM.out.keep kk)
  have TN := hik tt
  clear tt hb
  refine ⟨_, he, ?_⟩
  replace KW := hik (KW.out.trans kk)
  refine hK.out _ _ (SA.out _ KW.out) (fun hHeld => ?_)
  clear hK K
  try simp only [Act.put, List.setIfInBounds_toArray, List.set_cons_zero, List.set_cons_succ, List.getElem_toArray, List.getElem_cons_zero, List.getElem_cons_succ]
  clear he kk
  refine wpAnyH_ready (rs := [12]) (by kernel_rfl) (by simp) ?_
  refine AllReadyH.cons rfl (fun K hK => ?_) AllReadyH.nil
  simp only [List.getElem_toArray, List.getElem_cons_zero, List.getElem_cons_succ]
  go_simp
  have RW : Hid (RwV (World.alloc U4 (.cells #[.slice (some ⟨bTL, 0, none⟩) 1 1, .slice (some ⟨bTR, 0, none⟩) 1 1, .slice (some ⟨bTM, 0, none⟩) 1 1, .slice (some ⟨bTN, 0, none⟩) 1 1] 76)) (some ⟨U4.heap.size, 0, none⟩) 2 (rwG (7, a, b, k))) := hik (rwv_new2 (w := U4) (R := rwG (7, a, b, k)) (nl := 1) (nr := 1) (nl' := 1) (nr' := 1) rfl rfl TL.out TR.out rfl rfl TM.out TN.out _)
  replace KW : Hid (Chg nob W0 (World.alloc U4 (.cells #[.slice (some ⟨bTL, 0, none⟩) 1 1, .slice (some ⟨bTR, 0, none⟩) 1 1, .slice (some ⟨bTM, 0, none⟩) 1 1, .slice (some ⟨bTN, 0, none⟩) 1 1] 76))) := hik (KW.out.alloc _)
  generalize hUA : (World.alloc U4 (.cells #[.slice (some ⟨bTL, 0, none⟩) 1 1, .slice (some ⟨bTR, 0, none⟩) 1 1, .slice (some ⟨bTM, 0, none⟩) 1 1, .slice (some ⟨bTN, 0, none⟩) 1 1] 76)) = UZ at RW KW ⊢
  clear hUA
  generalize U4.heap.size = bz at RW ⊢
  refine hK.out _ _ (SA.out _ KW.out) (fun hHeld => ?_)
  clear hK K
  try simp only [Act.put, List.setIfInBounds_toArray, List.set_cons_zero, List.set_cons_succ, List.getElem_toArray, List.getElem_cons_zero, List.getElem_cons_succ]
  refine wpAnyH_take (i := 13) (v := ?_) rfl (by kernel_rfl) (by kernel_rfl) (by kernel_rfl) (fun _ _ _ h => h) (Or.inl ⟨by rfl, ?_⟩) (by assumption) ?_
  rotate_left 1
  · (intro w' hSw; (try dsimp only at hSw); go_simp; try with_reducible rfl)
  try simp only [Act.put, List.setIfInBounds_toArray, List.set_cons_zero, List.set_cons_succ, List.getElem_toArray, List.getElem_cons_zero, List.getElem_cons_succ]
  refine wpAnyH_done (by kernel_rfl) ?_ _
  go_wp2
  go_ret
  exact ⟨_, rfl, RW.out, KB.out.trans KW.out⟩
end Go.Proofs.YtgimmmmiodlepabDoor
