/- What the model's sources are behind elements that they take in: contracts. Conditions: rows that can be read. -/
import Derived.Test.YtmnakafplpmphabDoorSpsZ
import Derived.Test.YtmnakafplpmphabDoorBdc
namespace Go.Proofs.YtmnakafplpmphabDoor
open Go.ChangeShapes Go.WideShapes Go.ChangeAt Go.RowKit
set_option linter.unusedVariables false
set_option maxRecDepth 100000
set_option linter.unusedSimpArgs false

/-- The text of elements. -/
def etx (f g : Nat → Int) (n : Nat) : ByteArray := bt (byt f g) (n * 8)
theorem etx_size (f g : Nat → Int) (n : Nat) : (etx f g n).size = n * 8 := bt_size _ _

set_option maxHeartbeats 2000000 in
theorem sExts_any (c : Option Addr) (len cap : Nat) (at' : Int) (st : ByteArray) (ct : Int) (c1 : Option Addr) (n1 cap1 : Nat) (f1 g1 : Nat → Int) (w : World) (h1 : Hid (PairV w c1 n1 f1 g1)) (hn : n1 ≤ 4096) (hok : Hid (okP f1 g1 n1 = true)) (hst : st.size = 32) :
    Calls Tryd.prog 91 #[.agg #[.slice c len cap, .int .i64 at', .string st, .int .i64 ct], .slice c1 n1 cap1] w fun e w' => e = .returned (.agg #[.slice c len cap, .int .i64 at', .string (abS st (etx f1 g1 n1)), .int .i64 0]) ∧ Chg nob w w' := by
  have hsz := hik (show (etx f1 g1 n1).size ≤ 65536 by rw [etx_size]; omega)
  go_enter Tryd.func91, Tryd.ntmps91
  go_wp2
  refine wp_region_held_drew (S := fun w' => w'.cell? ⟨w.heap.size, 0, none⟩ = some (.slice c len cap) ∧ w'.cell? ⟨w.heap.size, 1, none⟩ = some (.int .i64 at') ∧ w'.cell? ⟨w.heap.size, 2, none⟩ = some (.string st) ∧ w'.cell? ⟨w.heap.size, 3, none⟩ = some (.int .i64 ct)) (by kernel_rfl) ⟨by go_simp, by go_simp, by go_simp, by go_simp⟩ (fun hHeld => ?_)
  refine wpAnyH_take (i := 0) (v := ?_) rfl (by kernel_rfl) (by kernel_rfl) (by kernel_rfl) (fun _ _ _ h => h) (Or.inl ⟨by rfl, ?_⟩) (by assumption) ?_
  rotate_left 1
  · (intro w' hSw; (try dsimp only at hSw); go_simp; try with_reducible rfl)
  try simp only [Act.put, List.setIfInBounds_toArray, List.set_cons_zero, List.set_cons_succ, List.getElem_toArray, List.getElem_cons_zero, List.getElem_cons_succ]
  refine wpAnyH_take (i := 1) (v := ?_) rfl (by kernel_rfl) (by kernel_rfl) (by kernel_rfl) (fun _ _ _ h => h) (Or.inl ⟨by rfl, ?_⟩) (by assumption) ?_
  rotate_left 1
  · (intro w' hSw; (try dsimp only at hSw); go_simp; try with_reducible rfl)
  try simp only [Act.put, List.setIfInBounds_toArray, List.set_cons_zero, List.set_cons_succ, List.getElem_toArray, List.getElem_cons_zero, List.getElem_cons_succ]
  refine wpAnyH_ready (rs := [2]) (by kernel_rfl) (by simp) ?_
  refine AllReadyH.cons rfl (fun K hK => ?_) AllReadyH.nil
  refine stepL_callN 122 #[.tmp 6] #[45] (by rfl) (by rfl) #[.slice c1 n1 cap1] (by simp only [List.map_toArray, List.map_cons, List.map_nil]; rfl) (run_go Tryd.func122 (by kernel_rfl) (by kernel_rfl) _ _) (l02Bytes_any c1 n1 cap1 f1 g1 _ (hik (h1.out.keep (((Chg.refl nob w).alloc _).alloc _).drew1)) hn hok) ?_
  rintro e W1 ⟨c0, cap0, he, hrow, k1⟩
  refine ⟨_, he, ?_⟩
  refine hK.out _ _ ⟨k1.see hHeld.1, k1.see hHeld.2.1, k1.see hHeld.2.2.1, k1.see hHeld.2.2.2⟩ (fun hHeld => ?_)
  clear hK K
  try simp only [Act.put, List.setIfInBounds_toArray, List.set_cons_zero, List.set_cons_succ, List.getElem_toArray, List.getElem_cons_zero, List.getElem_cons_succ]
  have K1 := hik k1
  have hcv := convB c0 (n1 * 8) cap0 (byt f1 g1) W1 hrow
  have hcv : (convert 22 9 (.slice c0 (n1 * 8) cap0)).run Tryd.prog W1 = .ok (.string (etx f1 g1 n1)) W1 := hcv
  clear he hrow k1
  refine wpAnyH_ready (rs := [3]) (by kernel_rfl) (by simp) ?_
  refine AllReadyH.cons rfl (fun K hK => ?_) AllReadyH.nil
  refine stepL_conv 22 9 (.tmp 7) (by rfl) (by rfl) _ _ _ (by rfl) hcv ?_
  refine hK.out _ _ hHeld (fun hHeld => ?_)
  clear hK K
  try simp only [Act.put, List.setIfInBounds_toArray, List.set_cons_zero, List.set_cons_succ, List.getElem_toArray, List.getElem_cons_zero, List.getElem_cons_succ]
  clear hcv
  refine wpAnyH_ready (rs := [4]) (by kernel_rfl) (by simp) ?_
  refine AllReadyH.cons rfl (fun K hK => ?_) AllReadyH.nil
  refine stepL_callN 82 #[.tmp 5, .tmp 8] #[47, 9] (by rfl) (by rfl) #[.agg #[.slice c len cap, .int .i64 at', .string st, .int .i64 ct], .string (etx f1 g1 n1)] (by simp only [List.map_toArray, List.map_cons, List.map_nil]; rfl) (run_go Tryd.func82 (by kernel_rfl) (by kernel_rfl) _ _) (sAbsorb_any c len cap at' st ct (etx f1 g1 n1) _ hst hsz.out) ?_
  rintro e W2 ⟨he, k1⟩
  refine ⟨_, he, ?_⟩
  refine hK.out _ _ ⟨k1.see hHeld.1, k1.see hHeld.2.1, k1.see hHeld.2.2.1, k1.see hHeld.2.2.2⟩ (fun hHeld => ?_)
  clear hK K
  try simp only [Act.put, List.setIfInBounds_toArray, List.set_cons_zero, List.set_cons_succ, List.getElem_toArray, List.getElem_cons_zero, List.getElem_cons_succ]
  have KK : Chg nob ((w.alloc (.cells #[.slice c len cap, .int .i64 at', .string st, .int .i64 ct] 47)).alloc (.cells #[.slice none 0 0, .int .i64 0, .string ⟨#[]⟩, .int .i64 0] 47)) W2 := (Chg.refl nob _).drew1.trans (K1.out.trans k1)
  have G3 := hik ((((Chg.refl nob w).alloc (.cells #[.slice c len cap, .int .i64 at', .string st, .int .i64 ct] 47)).alloc (.cells #[.slice none 0 0, .int .i64 0, .string ⟨#[]⟩, .int .i64 0] 47)).trans KK)
  have R1 := hik (rowIs_keep (row4_new (w.alloc (.cells #[.slice c len cap, .int .i64 at', .string st, .int .i64 ct] 47)) (.slice none 0 0) (.int .i64 0) (.string ⟨#[]⟩) (.int .i64 0) 47) KK)
  have R2 : Hid (W2.rowIs (w.heap.size + 1) 47 4 (pv4 (.slice none 0 0) (.int .i64 0) (.string ⟨#[]⟩) (.int .i64 0))) := hik (by simpa using R1.out)
  clear he K1 k1 KK R1
  have hz9 : w.heap.size + 1 < W2.heap.size := R2.out.lt
  have y0 := R2.out.cell (i := 0) (by omega)
  have v0 := R2.out.frozen 0
  have y1 := R2.out.cell (i := 1) (by omega)
  have v1 := R2.out.frozen 1
  have y2 := R2.out.cell (i := 2) (by omega)
  have v2 := R2.out.frozen 2
  have y3 := R2.out.cell (i := 3) (by omega)
  have v3 := R2.out.frozen 3
  refine wpAnyH_ready (rs := [5]) (by kernel_rfl) (by simp) ?_
  refine AllReadyH.cons rfl (fun K hK => ?_) AllReadyH.nil
  simp only [List.getElem_toArray, List.getElem_cons_zero, List.getElem_cons_succ]
  go_simp
  refine hK.out _ _ ⟨by go_simp, by go_simp, by go_simp, by go_simp⟩ (fun hHeld => ?_)
  clear hK K
  try simp only [Act.put, List.setIfInBounds_toArray, List.set_cons_zero, List.set_cons_succ, List.getElem_toArray, List.getElem_cons_zero, List.getElem_cons_succ]
  refine wpAnyH_done (by kernel_rfl) ?_ _
  go_wp2
  exact bodyPost_ret (v := .agg #[.slice c len cap, .int .i64 at', .string (abS st (etx f1 g1 n1)), .int .i64 0]) (by simp [results, Tryd.results91, go_sem, row4_s0 R2.out (.slice c len cap), row4_s1 R2.out (.slice c len cap) (.int .i64 at'), row4_s2 R2.out (.slice c len cap) (.int .i64 at') (.string (abS st (etx f1 g1 n1))), row4_s3 R2.out (.slice c len cap) (.int .i64 at') (.string (abS st (etx f1 g1 n1))) (.int .i64 0)]) rfl ⟨rfl, chg4_set G3.out _ (fun l => absurd l (by simp)) _ _ _ _⟩

/-- The code of elements that are taken in. -/
def aec (n : Nat) (okl oks : Bool) : Int := if 4096 < n then 2 else if okl && oks then 0 else 1
theorem aec_long {n : Nat} {a b : Bool} (h : 4096 < n) : aec n a b = 2 := if_pos h
theorem aec_bad {n : Nat} {a b : Bool} (h : ¬ 4096 < n) (hab : a = false ∨ b = false) : aec n a b = 1 := by
  unfold aec; rw [if_neg h]
  rcases hab with rfl | rfl <;> simp
theorem aec_ok {n : Nat} (h : ¬ 4096 < n) : aec n true true = 0 := by unfold aec; rw [if_neg h]; rfl
theorem bc_zero {f g : Nat → Int} {n : Nat} (h : bc f g n = 0) : n ≤ 4096 ∧ okP f g n = true := by
  unfold bc at h
  by_cases h1 : 4096 < n
  · rw [if_pos h1] at h; cases h
  · rw [if_neg h1] at h
    cases h2 : okP f g n
    · rw [h2] at h; cases h
    · exact ⟨by omega, rfl⟩
theorem bc_aec {f g : Nat → Int} {n : Nat} {b : Bool} (h : ¬ bc f g n = 0) : aec n (okP f g n) b = bc f g n := by
  unfold bc at h ⊢
  unfold aec
  by_cases h1 : 4096 < n
  · rw [if_pos h1, if_pos h1]
  · rw [if_neg h1] at h ⊢
    rw [if_neg h1]
    cases h2 : okP f g n
    · rfl
    · rw [h2] at h; exact absurd rfl h

set_option maxHeartbeats 2000000 in
theorem sAbsorbExts_any (c : Option Addr) (len cap : Nat) (f g : Nat → Int) (at' : Int) (st : ByteArray) (ct : Int) (c1 : Option Addr) (n1 cap1 : Nat) (f1 g1 : Nat → Int) (w : World) (h : Hid (PairV w c len f g)) (h1 : Hid (PairV w c1 n1 f1 g1)) (hl : (len : Int) ≤ 9223372036854775807) (hs : (st.size : Int) ≤ 9223372036854775807) (hm : n1 ≤ 1099511627776) :
    Calls Tryd.prog 40 #[.agg #[.slice c len cap, .int .i64 at', .string st, .int .i64 ct], .slice c1 n1 cap1] w fun e w' => SCAns w (aec n1 (okP f1 g1 n1) (sokb f g len at' st ct)) (scn (aec n1 (okP f1 g1 n1) (sokb f g len at' st ct)) len) f g (scI (aec n1 (okP f1 g1 n1) (sokb f g len at' st ct)) at') (scS (aec n1 (okP f1 g1 n1) (sokb f g len at' st ct)) (abS st (etx f1 g1 n1))) 0 e w' := by
  by_cases h4 : 4096 < n1
  · rw [aec_long h4]
    have h4' : 4096 < (n1 : Int) := by omega
    go_enter Tryd.func40, Tryd.ntmps40
    go_wp2
    exact bodyPost_ret (v := .tuple #[.agg #[.slice none 0 0, .int .i64 0, .string ⟨#[]⟩, .int .i64 0], .int .i64 2]) (by simp [results, Tryd.results40, go_sem]) rfl ⟨_, _, rfl, .inl rfl, ((Chg.refl _ _).alloc _).alloc _⟩
  have h4' : ¬ 4096 < (n1 : Int) := by omega
  cases h2 : sokb f g len at' st ct
  · rw [aec_bad h4 (.inr rfl)]
    go_enter Tryd.func40, Tryd.ntmps40
    go_wp2_with fail
    refine (sSourceOK_any c len cap at' st ct f g _ (hik (h.out.keep (((Chg.refl nob w).alloc _).alloc _))) hl hs).mono ?_
    rintro e W1 ⟨he, kk⟩
    have K := hik ((((Chg.refl nob w).alloc _).alloc _).trans kk)
    have s1 := hik K.out.size
    have A := hik (rowIs_keep (World.rowIs.alloc (row4_new w (.slice c len cap) (.int .i64 at') (.string st) (.int .i64 ct) 47) _) kk)
    have RZ : Hid (W1.rowIs (w.heap.size + 1) 47 4 (pv4 (.slice none 0 0) (.int .i64 0) (.string ⟨#[]⟩) (.int .i64 0))) := hik (by simpa using rowIs_keep (row4_new _ (.slice none 0 0) (.int .i64 0) (.string ⟨#[]⟩) (.int .i64 0) 47) kk)
    rw [h2] at he
    subst he
    have G := hik K.out
    have L0 : Hid (w.heap.size + 1 < W1.heap.size) := hik RZ.out.lt
    clear kk K
    have hz9 : w.heap.size + 1 < W1.heap.size := RZ.out.lt
    have y0 := RZ.out.cell (i := 0) (by omega)
    have v0 := RZ.out.frozen 0
    have y1 := RZ.out.cell (i := 1) (by omega)
    have v1 := RZ.out.frozen 1
    have y2 := RZ.out.cell (i := 2) (by omega)
    have v2 := RZ.out.frozen 2
    have y3 := RZ.out.cell (i := 3) (by omega)
    have v3 := RZ.out.frozen 3
    go_wp2
    exact bodyPost_ret (v := .tuple #[.agg #[.slice none 0 0, .int .i64 0, .string ⟨#[]⟩, .int .i64 0], .int .i64 1]) (by simp [results, Tryd.results40, go_sem, row4_s0 RZ.out (.slice none 0 0), row4_s1 RZ.out (.slice none 0 0) (.int .i64 0), row4_s2 RZ.out (.slice none 0 0) (.int .i64 0) (.string ⟨#[]⟩), row4_s3 RZ.out (.slice none 0 0) (.int .i64 0) (.string ⟨#[]⟩) (.int .i64 0)]) rfl ⟨_, _, rfl, .inl rfl, chg4_set G.out _ (fun l => absurd l (by simp)) _ _ _ _⟩
  cases h3 : okP f1 g1 n1
  · rw [aec_bad h4 (.inl rfl)]
    go_enter Tryd.func40, Tryd.ntmps40
    go_wp2_with fail
    refine (sSourceOK_any c len cap at' st ct f g _ (hik (h.out.keep (((Chg.refl nob w).alloc _).alloc _))) hl hs).mono ?_
    rintro e W1 ⟨he, kk⟩
    have K := hik ((((Chg.refl nob w).alloc _).alloc _).trans kk)
    have s1 := hik K.out.size
    have A := hik (rowIs_keep (World.rowIs.alloc (row4_new w (.slice c len cap) (.int .i64 at') (.string st) (.int .i64 ct) 47) _) kk)
    have RZ : Hid (W1.rowIs (w.heap.size + 1) 47 4 (pv4 (.slice none 0 0) (.int .i64 0) (.string ⟨#[]⟩) (.int .i64 0))) := hik (by simpa using rowIs_keep (row4_new _ (.slice none 0 0) (.int .i64 0) (.string ⟨#[]⟩) (.int .i64 0) 47) kk)
    rw [h2] at he
    subst he
    have G := hik K.out
    have L0 : Hid (w.heap.size + 1 < W1.heap.size) := hik RZ.out.lt
    clear kk K
    go_wp2_with fail
    refine (l02List_any c1 n1 cap1 f1 g1 _ (hik (h1.out.keep G.out)) hm).mono ?_
    rintro e W2 ⟨he, kk⟩
    have K := hik ((Chg.refl nob W1).trans kk)
    have s2 := hik K.out.size
    replace G := hik (G.out.trans K.out)
    replace A := hik (rowIs_keep A.out K.out)
    replace RZ := hik (rowIs_keep RZ.out K.out)
    rw [h3] at he
    subst he
    clear kk K
    have hz9 : w.heap.size + 1 < W2.heap.size := RZ.out.lt
    have y0 := RZ.out.cell (i := 0) (by omega)
    have v0 := RZ.out.frozen 0
    have y1 := RZ.out.cell (i := 1) (by omega)
    have v1 := RZ.out.frozen 1
    have y2 := RZ.out.cell (i := 2) (by omega)
    have v2 := RZ.out.frozen 2
    have y3 := RZ.out.cell (i := 3) (by omega)
    have v3 := RZ.out.frozen 3
    go_wp2
    exact bodyPost_ret (v := .tuple #[.agg #[.slice none 0 0, .int .i64 0, .string ⟨#[]⟩, .int .i64 0], .int .i64 1]) (by simp [results, Tryd.results40, go_sem, row4_s0 RZ.out (.slice none 0 0), row4_s1 RZ.out (.slice none 0 0) (.int .i64 0), row4_s2 RZ.out (.slice none 0 0) (.int .i64 0) (.string ⟨#[]⟩), row4_s3 RZ.out (.slice none 0 0) (.int .i64 0) (.string ⟨#[]⟩) (.int .i64 0)]) rfl ⟨_, _, rfl, .inl rfl, chg4_set G.out _ (fun l => absurd l (by simp)) _ _ _ _⟩
  rw [aec_ok h4, show scn 0 len = len from rfl, show scI 0 at' = at' from rfl, show scS 0 (abS st (etx f1 g1 n1)) = abS st (etx f1 g1 n1) from rfl]
  obtain ⟨p1, p2, p3, p4, p5⟩ := sokb_parts h2
  go_enter Tryd.func40, Tryd.ntmps40
  go_wp2_with fail
  refine (sSourceOK_any c len cap at' st ct f g _ (hik (h.out.keep (((Chg.refl nob w).alloc _).alloc _))) hl hs).mono ?_
  rintro e W1 ⟨he, kk⟩
  have K := hik ((((Chg.refl nob w).alloc _).alloc _).trans kk)
  have s1 := hik K.out.size
  have A := hik (rowIs_keep (World.rowIs.alloc (row4_new w (.slice c len cap) (.int .i64 at') (.string st) (.int .i64 ct) 47) _) kk)
  have RZ : Hid (W1.rowIs (w.heap.size + 1) 47 4 (pv4 (.slice none 0 0) (.int .i64 0) (.string ⟨#[]⟩) (.int .i64 0))) := hik (by simpa using rowIs_keep (row4_new _ (.slice none 0 0) (.int .i64 0) (.string ⟨#[]⟩) (.int .i64 0) 47) kk)
  rw [h2] at he
  subst he
  have G := hik K.out
  have L0 : Hid (w.heap.size + 1 < W1.heap.size) := hik RZ.out.lt
  clear kk K
  go_wp2_with fail
  refine (l02List_any c1 n1 cap1 f1 g1 _ (hik (h1.out.keep G.out)) hm).mono ?_
  rintro e W2 ⟨he, kk⟩
  have K := hik ((Chg.refl nob W1).trans kk)
  have s2 := hik K.out.size
  replace G := hik (G.out.trans K.out)
  replace A := hik (rowIs_keep A.out K.out)
  replace RZ := hik (rowIs_keep RZ.out K.out)
  rw [h3] at he
  subst he
  clear kk K
  have zA : w.heap.size < W2.heap.size := A.out.lt
  have xA0 : W2.cell? ⟨w.heap.size, 0, none⟩ = some (.slice c len cap) := A.out.cell (by omega)
  have xA1 : W2.cell? ⟨w.heap.size, 1, none⟩ = some (.int .i64 at') := A.out.cell (by omega)
  have xA2 : W2.cell? ⟨w.heap.size, 2, none⟩ = some (.string st) := A.out.cell (by omega)
  have xA3 : W2.cell? ⟨w.heap.size, 3, none⟩ = some (.int .i64 ct) := A.out.cell (by omega)
  go_wp2_with fail
  refine (sExts_any c len cap at' st ct c1 n1 cap1 f1 g1 _ (hik (h1.out.keep G.out)) (by omega) (hik h3) p4).mono ?_
  rintro e W3 ⟨rfl, kk⟩
  clear zA xA0 xA1 xA2 xA3
  have K := hik ((Chg.refl nob W2).trans kk)
  have s3 := hik K.out.size
  replace G := hik (G.out.trans K.out)
  replace A := hik (rowIs_keep A.out K.out)
  replace RZ := hik (rowIs_keep RZ.out K.out)
  clear kk K
  go_wp2_with fail
  refine (sOwn_any c len cap f g at' (abS st (etx f1 g1 n1)) 0 _ (hik (h.out.keep G.out)) (by omega)).mono ?_
  rintro e W4 ⟨c3, cap3, rfl, o3, kk⟩
  have K := hik ((Chg.refl nob W3).trans kk)
  have s4 := hik K.out.size
  replace G := hik (G.out.trans K.out)
  replace A := hik (rowIs_keep A.out K.out)
  replace RZ := hik (rowIs_keep RZ.out K.out)
  have O3 := hik (o3.low (B' := W3.heap.size) (Nat.le_refl _))
  clear o3
  clear kk K
  have hz9 : w.heap.size + 1 < W4.heap.size := RZ.out.lt
  have y0 := RZ.out.cell (i := 0) (by omega)
  have v0 := RZ.out.frozen 0
  have y1 := RZ.out.cell (i := 1) (by omega)
  have v1 := RZ.out.frozen 1
  have y2 := RZ.out.cell (i := 2) (by omega)
  have v2 := RZ.out.frozen 2
  have y3 := RZ.out.cell (i := 3) (by omega)
  have v3 := RZ.out.frozen 3
  go_wp2
  exact bodyPost_ret (v := .tuple #[.agg #[.slice c3 len cap3, .int .i64 at', .string (abS st (etx f1 g1 n1)), .int .i64 0], .int .i64 0]) (by simp [results, Tryd.results40, go_sem, row4_s0 RZ.out (.slice c3 len cap3), row4_s1 RZ.out (.slice c3 len cap3) (.int .i64 at'), row4_s2 RZ.out (.slice c3 len cap3) (.int .i64 at') (.string (abS st (etx f1 g1 n1))), row4_s3 RZ.out (.slice c3 len cap3) (.int .i64 at') (.string (abS st (etx f1 g1 n1))) (.int .i64 0)]) rfl ⟨_, _, rfl, ((O3.out.chg (P := fun b => b = w.heap.size + 1) (chg4_set (Chg.refl (fun b => b = w.heap.size + 1) W4) (w.heap.size + 1) (fun _ => rfl) _ _ _ _) (fun b hb _ hp => (by have := s1.out; have := L0.out; have := s2.out; have := s3.out; have := s4.out; omega))).low (B' := w.heap.size) (by have := s1.out; have := L0.out; have := s2.out; have := s3.out; have := s4.out; omega)), chg4_set G.out _ (fun l => absurd l (by simp)) _ _ _ _⟩

end Go.Proofs.YtmnakafplpmphabDoor
