/- Several texts in one: What the model's sources are behind elements that they take in: contracts. Conditions: rows that can be read. · What the program's sources are behind what they take in: contracts. Conditions: rows that can be read, the tables hold the shifts and the rounds' constants. · What the program's sources are behind elements that they take in: a contract. Conditions: rows that can be read, the tables hold the shifts and the rounds' constants. · A source's copy lies in a block of its own, an empty one too: contracts. Conditions: a list that can be read. -/
import Derived.Test.YtgiefpipflcbgadGreatDoorBzav
import Derived.Test.YtgiefpipflcbgadGreatDoorBzam
import Derived.Test.YtgiefpipflcbgadGreatDoorBzat
import Derived.Test.YtgiefpipflcbgadGreatDoorBzax
import Derived.Test.YtgiefpipflcbgadGreatDoorBzbb
namespace Go.Proofs.YtgiefpipflcbgadGreatDoor
open Go.ChangeShapes Go.WideShapes Go.ChangeAt Go.RowKit
set_option linter.unusedVariables false
set_option maxRecDepth 100000
set_option linter.unusedSimpArgs false

/-- The text of elements. -/
def etx (f g : Nat → Int) (n : Nat) : ByteArray := bt (byt f g) (n * 8)
theorem etx_size (f g : Nat → Int) (n : Nat) : (etx f g n).size = n * 8 := bt_size _ _

set_option maxHeartbeats 2000000 in
theorem sExts_any (c : Option Addr) (len cap : Nat) (at' : Int) (st : ByteArray) (ct : Int) (c1 : Option Addr) (n1 cap1 : Nat) (f1 g1 : Nat → Int) (w : World) (h1 : Hid (PairV w c1 n1 f1 g1)) (hn : n1 ≤ 4096) (hok : Hid (okP f1 g1 n1 = true)) (hst : st.size = 32) :
    Calls Tryz.prog 74 #[.agg #[.slice c len cap, .int .i64 at', .string st, .int .i64 ct], .slice c1 n1 cap1] w fun e w' => e = .returned (.agg #[.slice c len cap, .int .i64 at', .string (abS st (etx f1 g1 n1)), .int .i64 0]) ∧ Chg nob w w' := by
  have hsz := hik (show (etx f1 g1 n1).size ≤ 65536 by rw [etx_size]; omega)
  go_enter Tryz.func74, Tryz.ntmps74
  go_wp2
  refine wp_region_held_drew (S := fun w' => w'.cell? ⟨w.heap.size, 0, none⟩ = some (.slice c len cap) ∧ w'.cell? ⟨w.heap.size, 1, none⟩ = some (.int .i64 at') ∧ w'.cell? ⟨w.heap.size, 2, none⟩ = some (.string st) ∧ w'.cell? ⟨w.heap.size, 3, none⟩ = some (.int .i64 ct)) (by kernel_rfl) ⟨by go_simp, by go_simp, by go_simp, by go_simp⟩ (fun hHeld => ?_)
  refine wpAnyH_take (i := 0) (v := ?_) rfl (by kernel_rfl) (by kernel_rfl) (by kernel_rfl) (fun _ _ _ h => h) (Or.inl ⟨by rfl, ?_⟩) (by assumption) ?_
  rotate_left 1
  · (intro w' hSw; (try dsimp only at hSw); go_simp; try with_reducible rfl)
  try simp only [Act.put, List.setIfInBounds_toArray, List.set_cons_zero, List.set_cons_succ, List.getElem_toArray, List.getElem_cons_zero, List.getElem_cons_succ]
  refine wpAnyH_take (i := 1) (v := ?_) rfl (by kernel_rfl) (by kernel_rfl) (by kernel_rfl) (fun _ _ _ h => h) (Or.inl ⟨by rfl, ?_⟩) (by assumption) ?_
  rotate_left 1
  · (intro w' hSw; (try dsimp only at hSw); go_simp; try with_reducible rfl)
  try simp only [Act.put, List.setIfInBounds_toArray, List.set_cons_zero, List.set_cons_succ, List.getElem_toArray, List.getElem_cons_zero, List.getElem_cons_succ]
  refine wpAnyH_ready (rs := [2]) (by kernel_rfl) (by simp) ?_
  refine AllReadyH.cons rfl (fun K hK => ?_) AllReadyH.nil
  refine stepL_callN 102 #[.tmp 6] #[26] (by rfl) (by rfl) #[.slice c1 n1 cap1] (by simp only [List.map_toArray, List.map_cons, List.map_nil]; rfl) (run_go Tryz.func102 (by kernel_rfl) (by kernel_rfl) _ _) (l02Bytes_any c1 n1 cap1 f1 g1 _ (hik (h1.out.keep (((Chg.refl nob w).alloc _).alloc _).drew1)) hn hok) ?_
  rintro e W1 ⟨c0, cap0, he, hrow, k1⟩
  refine ⟨_, he, ?_⟩
  refine hK.out _ _ ⟨k1.see hHeld.1, k1.see hHeld.2.1, k1.see hHeld.2.2.1, k1.see hHeld.2.2.2⟩ (fun hHeld => ?_)
  clear hK K
  try simp only [Act.put, List.setIfInBounds_toArray, List.set_cons_zero, List.set_cons_succ, List.getElem_toArray, List.getElem_cons_zero, List.getElem_cons_succ]
  have K1 := hik k1
  have hcv := convB c0 (n1 * 8) cap0 (byt f1 g1) W1 hrow
  have hcv : (convert 22 9 (.slice c0 (n1 * 8) cap0)).run Tryz.prog W1 = .ok (.string (etx f1 g1 n1)) W1 := hcv
  clear he hrow k1
  refine wpAnyH_ready (rs := [3]) (by kernel_rfl) (by simp) ?_
  refine AllReadyH.cons rfl (fun K hK => ?_) AllReadyH.nil
  refine stepL_conv 22 9 (.tmp 7) (by rfl) (by rfl) _ _ _ (by rfl) hcv ?_
  refine hK.out _ _ hHeld (fun hHeld => ?_)
  clear hK K
  try simp only [Act.put, List.setIfInBounds_toArray, List.set_cons_zero, List.set_cons_succ, List.getElem_toArray, List.getElem_cons_zero, List.getElem_cons_succ]
  clear hcv
  refine wpAnyH_ready (rs := [4]) (by kernel_rfl) (by simp) ?_
  refine AllReadyH.cons rfl (fun K hK => ?_) AllReadyH.nil
  refine stepL_callN 60 #[.tmp 5, .tmp 8] #[28, 9] (by rfl) (by rfl) #[.agg #[.slice c len cap, .int .i64 at', .string st, .int .i64 ct], .string (etx f1 g1 n1)] (by simp only [List.map_toArray, List.map_cons, List.map_nil]; rfl) (run_go Tryz.func60 (by kernel_rfl) (by kernel_rfl) _ _) (sAbsorb_any c len cap at' st ct (etx f1 g1 n1) _ hst hsz.out) ?_
  rintro e W2 ⟨he, k1⟩
  refine ⟨_, he, ?_⟩
  refine hK.out _ _ ⟨k1.see hHeld.1, k1.see hHeld.2.1, k1.see hHeld.2.2.1, k1.see hHeld.2.2.2⟩ (fun hHeld => ?_)
  clear hK K
  try simp only [Act.put, List.setIfInBounds_toArray, List.set_cons_zero, List.set_cons_succ, List.getElem_toArray, List.getElem_cons_zero, List.getElem_cons_succ]
  have KK : Chg nob ((w.alloc (.cells #[.slice c len cap, .int .i64 at', .string st, .int .i64 ct] 28)).alloc (.cells #[.slice none 0 0, .int .i64 0, .string ⟨#[]⟩, .int .i64 0] 28)) W2 := (Chg.refl nob _).drew1.trans (K1.out.trans k1)
  have G3 := hik ((((Chg.refl nob w).alloc (.cells #[.slice c len cap, .int .i64 at', .string st, .int .i64 ct] 28)).alloc (.cells #[.slice none 0 0, .int .i64 0, .string ⟨#[]⟩, .int .i64 0] 28)).trans KK)
  have R1 := hik (rowIs_keep (row4_new (w.alloc (.cells #[.slice c len cap, .int .i64 at', .string st, .int .i64 ct] 28)) (.slice none 0 0) (.int .i64 0) (.string ⟨#[]⟩) (.int .i64 0) 28) KK)
  have R2 : Hid (W2.rowIs (w.heap.size + 1) 28 4 (pv4 (.slice none 0 0) (.int .i64 0) (.string ⟨#[]⟩) (.int .i64 0))) := hik (by simpa using R1.out)
  clear he K1 k1 KK R1
  have hz9 : w.heap.size + 1 < W2.heap.size := R2.out.lt
  have y0 := R2.out.cell (i := 0) (by omega)
  have v0 := R2.out.frozen 0
  have y1 := R2.out.cell (i := 1) (by omega)
  have v1 := R2.out.frozen 1
  have y2 := R2.out.cell (i := 2) (by omega)
  have v2 := R2.out.frozen 2
  have y3 := R2.out.cell (i := 3) (by omega)
  have v3 := R2.out.frozen 3
  refine wpAnyH_ready (rs := [5]) (by kernel_rfl) (by simp) ?_
  refine AllReadyH.cons rfl (fun K hK => ?_) AllReadyH.nil
  simp only [List.getElem_toArray, List.getElem_cons_zero, List.getElem_cons_succ]
  go_simp
  refine hK.out _ _ ⟨by go_simp, by go_simp, by go_simp, by go_simp⟩ (fun hHeld => ?_)
  clear hK K
  try simp only [Act.put, List.setIfInBounds_toArray, List.set_cons_zero, List.set_cons_succ, List.getElem_toArray, List.getElem_cons_zero, List.getElem_cons_succ]
  refine wpAnyH_done (by kernel_rfl) ?_ _
  go_wp2
  exact bodyPost_ret (v := .agg #[.slice c len cap, .int .i64 at', .string (abS st (etx f1 g1 n1)), .int .i64 0]) (by simp [results, Tryz.results74, go_sem, row4_s0 R2.out (.slice c len cap), row4_s1 R2.out (.slice c len cap) (.int .i64 at'), row4_s2 R2.out (.slice c len cap) (.int .i64 at') (.string (abS st (etx f1 g1 n1))), row4_s3 R2.out (.slice c len cap) (.int .i64 at') (.string (abS st (etx f1 g1 n1))) (.int .i64 0)]) rfl ⟨rfl, chg4_set G3.out _ (fun l => absurd l (by simp)) _ _ _ _⟩

/-- The code of elements that are taken in. -/
def aec (n : Nat) (okl oks : Bool) : Int := if 4096 < n then 2 else if okl && oks then 0 else 1
theorem bc_zero {f g : Nat → Int} {n : Nat} (h : bc f g n = 0) : n ≤ 4096 ∧ okP f g n = true := by
  unfold bc at h
  by_cases h1 : 4096 < n
  · rw [if_pos h1] at h; cases h
  · rw [if_neg h1] at h
    cases h2 : okP f g n
    · rw [h2] at h; cases h
    · exact ⟨by omega, rfl⟩
theorem bc_aec {f g : Nat → Int} {n : Nat} {b : Bool} (h : ¬ bc f g n = 0) : aec n (okP f g n) b = bc f g n := by
  unfold bc at h ⊢
  unfold aec
  by_cases h1 : 4096 < n
  · rw [if_pos h1, if_pos h1]
  · rw [if_neg h1] at h ⊢
    rw [if_neg h1]
    cases h2 : okP f g n
    · rfl
    · rw [h2] at h; exact absurd rfl h

end Go.Proofs.YtgiefpipflcbgadGreatDoor

namespace Go.Proofs.YtgiefpipflcbgadGreatDoor
open Go.ChangeShapes Go.WideShapes Go.ChangeAt Go.RowKit
set_option linter.unusedVariables false
set_option maxRecDepth 100000
set_option linter.unusedSimpArgs false

set_option maxHeartbeats 2000000 in
theorem absorbText_any (c : Option Addr) (len cap : Nat) (f g : Nat → Int) (at' : Int) (st : ByteArray) (ct : Int) (t : ByteArray) (w : World) (htb : Hid (Tabs w)) (h : Hid (PairV w c len f g)) (hl : (len : Int) ≤ 9223372036854775807) (hs : (st.size : Int) ≤ 9223372036854775807) (hm : (t.size : Int) ≤ 9223372036854775807) :
    Calls Tryz.prog 98 #[.agg #[.slice c len cap, .int .i64 at', .string st, .int .i64 ct], .string t] w fun e w' => SCAns w (atc t.size (sokb f g len at' st ct)) (scn (atc t.size (sokb f g len at' st ct)) len) f g (scI (atc t.size (sokb f g len at' st ct)) at') (scS (atc t.size (sokb f g len at' st ct)) (abS st t)) 0 e w' := by
  by_cases h1 : 65536 < t.size
  · rw [atc_long h1]
    have h1' : 65536 < (t.size : Int) := by omega
    go_enter Tryz.func98, Tryz.ntmps98
    go_wp2
    exact bodyPost_ret (v := .tuple #[.agg #[.slice none 0 0, .int .i64 0, .string ⟨#[]⟩, .int .i64 0], .int .i64 2]) (by simp [results, Tryz.results98, go_sem]) rfl ⟨_, _, rfl, .inl rfl, ((Chg.refl _ _).alloc _).alloc _⟩
  have h1' : ¬ 65536 < (t.size : Int) := by omega
  cases h2 : sokb f g len at' st ct
  · rw [atc_bad h1]
    go_enter Tryz.func98, Tryz.ntmps98
    go_wp2_with fail
    refine (sourceOK_any c len cap at' st ct f g _ (hik (h.out.keep (((Chg.refl nob w).alloc _).alloc _))) hl hs).mono ?_
    rintro e W1 ⟨he, kk⟩
    have K := hik ((((Chg.refl nob w).alloc _).alloc _).trans kk)
    have s1 := hik K.out.size
    have A := hik (rowIs_keep (World.rowIs.alloc (row4_new w (.slice c len cap) (.int .i64 at') (.string st) (.int .i64 ct) 28) _) kk)
    have RZ : Hid (W1.rowIs (w.heap.size + 1) 28 4 (pv4 (.slice none 0 0) (.int .i64 0) (.string ⟨#[]⟩) (.int .i64 0))) := hik (by simpa using rowIs_keep (row4_new _ (.slice none 0 0) (.int .i64 0) (.string ⟨#[]⟩) (.int .i64 0) 28) kk)
    rw [h2] at he
    subst he
    have G := hik K.out
    have L0 : Hid (w.heap.size + 1 < W1.heap.size) := hik RZ.out.lt
    clear kk K
    have hz9 : w.heap.size + 1 < W1.heap.size := RZ.out.lt
    have y0 := RZ.out.cell (i := 0) (by omega)
    have v0 := RZ.out.frozen 0
    have y1 := RZ.out.cell (i := 1) (by omega)
    have v1 := RZ.out.frozen 1
    have y2 := RZ.out.cell (i := 2) (by omega)
    have v2 := RZ.out.frozen 2
    have y3 := RZ.out.cell (i := 3) (by omega)
    have v3 := RZ.out.frozen 3
    go_wp2
    exact bodyPost_ret (v := .tuple #[.agg #[.slice none 0 0, .int .i64 0, .string ⟨#[]⟩, .int .i64 0], .int .i64 1]) (by simp [results, Tryz.results98, go_sem, row4_s0 RZ.out (.slice none 0 0), row4_s1 RZ.out (.slice none 0 0) (.int .i64 0), row4_s2 RZ.out (.slice none 0 0) (.int .i64 0) (.string ⟨#[]⟩), row4_s3 RZ.out (.slice none 0 0) (.int .i64 0) (.string ⟨#[]⟩) (.int .i64 0)]) rfl ⟨_, _, rfl, .inl rfl, chg4_set G.out _ (fun l => absurd l (by simp)) _ _ _ _⟩
  rw [atc_ok h1, show scn 0 len = len from rfl, show scI 0 at' = at' from rfl, show scS 0 (abS st t) = abS st t from rfl]
  obtain ⟨p1, p2, p3, p4, p5⟩ := sokb_parts h2
  go_enter Tryz.func98, Tryz.ntmps98
  go_wp2_with fail
  refine (sourceOK_any c len cap at' st ct f g _ (hik (h.out.keep (((Chg.refl nob w).alloc _).alloc _))) hl hs).mono ?_
  rintro e W1 ⟨he, kk⟩
  have K := hik ((((Chg.refl nob w).alloc _).alloc _).trans kk)
  have s1 := hik K.out.size
  have A := hik (rowIs_keep (World.rowIs.alloc (row4_new w (.slice c len cap) (.int .i64 at') (.string st) (.int .i64 ct) 28) _) kk)
  have RZ : Hid (W1.rowIs (w.heap.size + 1) 28 4 (pv4 (.slice none 0 0) (.int .i64 0) (.string ⟨#[]⟩) (.int .i64 0))) := hik (by simpa using rowIs_keep (row4_new _ (.slice none 0 0) (.int .i64 0) (.string ⟨#[]⟩) (.int .i64 0) 28) kk)
  rw [h2] at he
  subst he
  have G := hik K.out
  have L0 : Hid (w.heap.size + 1 < W1.heap.size) := hik RZ.out.lt
  clear kk K
  have zA : w.heap.size < W1.heap.size := A.out.lt
  have xA0 : W1.cell? ⟨w.heap.size, 0, none⟩ = some (.slice c len cap) := A.out.cell (by omega)
  have xA1 : W1.cell? ⟨w.heap.size, 1, none⟩ = some (.int .i64 at') := A.out.cell (by omega)
  have xA2 : W1.cell? ⟨w.heap.size, 2, none⟩ = some (.string st) := A.out.cell (by omega)
  have xA3 : W1.cell? ⟨w.heap.size, 3, none⟩ = some (.int .i64 ct) := A.out.cell (by omega)
  go_wp2_with fail
  refine (takingIn_any c len cap f g at' st ct t _ (hik (htb.out.keep G.out)) (hik (h.out.keep G.out)) (by omega) p4 (by omega)).mono ?_
  rintro e W2 ⟨c3, cap3, rfl, o3, kk⟩
  clear zA xA0 xA1 xA2 xA3
  have K := hik ((Chg.refl nob W1).trans kk)
  have s2 := hik K.out.size
  replace G := hik (G.out.trans K.out)
  replace A := hik (rowIs_keep A.out K.out)
  replace RZ := hik (rowIs_keep RZ.out K.out)
  have O3 := hik (o3.low (B' := W1.heap.size) (Nat.le_refl _))
  clear o3
  clear kk K
  have hz9 : w.heap.size + 1 < W2.heap.size := RZ.out.lt
  have y0 := RZ.out.cell (i := 0) (by omega)
  have v0 := RZ.out.frozen 0
  have y1 := RZ.out.cell (i := 1) (by omega)
  have v1 := RZ.out.frozen 1
  have y2 := RZ.out.cell (i := 2) (by omega)
  have v2 := RZ.out.frozen 2
  have y3 := RZ.out.cell (i := 3) (by omega)
  have v3 := RZ.out.frozen 3
  go_wp2
  exact bodyPost_ret (v := .tuple #[.agg #[.slice c3 len cap3, .int .i64 at', .string (abS st t), .int .i64 0], .int .i64 0]) (by simp [results, Tryz.results98, go_sem, row4_s0 RZ.out (.slice c3 len cap3), row4_s1 RZ.out (.slice c3 len cap3) (.int .i64 at'), row4_s2 RZ.out (.slice c3 len cap3) (.int .i64 at') (.string (abS st t)), row4_s3 RZ.out (.slice c3 len cap3) (.int .i64 at') (.string (abS st t)) (.int .i64 0)]) rfl ⟨_, _, rfl, ((O3.out.chg (P := fun b => b = w.heap.size + 1) (chg4_set (Chg.refl (fun b => b = w.heap.size + 1) W2) (w.heap.size + 1) (fun _ => rfl) _ _ _ _) (fun b hb _ hp => (by have := s1.out; have := L0.out; have := s2.out; omega))).low (B' := w.heap.size) (by have := s1.out; have := L0.out; have := s2.out; omega)), chg4_set G.out _ (fun l => absurd l (by simp)) _ _ _ _⟩

end Go.Proofs.YtgiefpipflcbgadGreatDoor

namespace Go.Proofs.YtgiefpipflcbgadGreatDoor
open Go.ChangeShapes Go.WideShapes Go.ChangeAt Go.RowKit
set_option linter.unusedVariables false
set_option maxRecDepth 100000
set_option linter.unusedSimpArgs false

set_option maxHeartbeats 2000000 in
theorem absorbExts_any (c : Option Addr) (len cap : Nat) (f g : Nat → Int) (at' : Int) (st : ByteArray) (ct : Int) (c1 : Option Addr) (n1 cap1 : Nat) (f1 g1 : Nat → Int) (w : World) (htb : Hid (Tabs w)) (h : Hid (PairV w c len f g)) (h1 : Hid (PairV w c1 n1 f1 g1)) (hl : (len : Int) ≤ 9223372036854775807) (hs : (st.size : Int) ≤ 9223372036854775807) (hm : n1 ≤ 1099511627776) :
    Calls Tryz.prog 68 #[.agg #[.slice c len cap, .int .i64 at', .string st, .int .i64 ct], .slice c1 n1 cap1] w fun e w' => SCAns w (aec n1 (okP f1 g1 n1) (sokb f g len at' st ct)) (scn (aec n1 (okP f1 g1 n1) (sokb f g len at' st ct)) len) f g (scI (aec n1 (okP f1 g1 n1) (sokb f g len at' st ct)) at') (scS (aec n1 (okP f1 g1 n1) (sokb f g len at' st ct)) (abS st (etx f1 g1 n1))) 0 e w' := by
  by_cases hb : bc f1 g1 n1 = 0
  · obtain ⟨q1, q2⟩ := bc_zero hb
    have hsz : (etx f1 g1 n1).size ≤ 65536 := by rw [etx_size]; omega
    have hszm : ((etx f1 g1 n1).size : Int) ≤ 9223372036854775807 := by omega
    have hcd : aec n1 (okP f1 g1 n1) (sokb f g len at' st ct) = atc (etx f1 g1 n1).size (sokb f g len at' st ct) := by
      rw [q2]; unfold aec atc; rw [if_neg (show ¬ 4096 < n1 by omega), if_neg (show ¬ 65536 < (etx f1 g1 n1).size by omega)]; cases sokb f g len at' st ct <;> rfl
    rw [hcd]
    go_enter Tryz.func68, Tryz.ntmps68
    go_wp2_with fail
    refine (extBytes_yes c1 n1 cap1 f1 g1 _ (extBytes_any c1 n1 cap1 f1 g1 _ (hik (h1.out.keep (((Chg.refl nob w).alloc _).alloc _))) hm) hb).mono ?_
    rintro e W1 ⟨b1, hb1, rfl, hr, kk⟩
    have K := hik ((((Chg.refl nob w).alloc _).alloc _).trans kk)
    have s1 := hik K.out.size
    have A := hik (rowIs_keep (World.rowIs.alloc (row4_new w (.slice c len cap) (.int .i64 at') (.string st) (.int .i64 ct) 28) _) kk)
    have RZ : Hid (W1.rowIs (w.heap.size + 1) 28 4 (pv4 (.slice none 0 0) (.int .i64 0) (.string ⟨#[]⟩) (.int .i64 0))) := hik (by simpa using rowIs_keep (row4_new _ (.slice none 0 0) (.int .i64 0) (.string ⟨#[]⟩) (.int .i64 0) 28) kk)
    have RB := hik hr
    clear hr hb1
    have G := hik K.out
    have L0 : Hid (w.heap.size + 1 < W1.heap.size) := hik RZ.out.lt
    clear kk K
    have zA : w.heap.size < W1.heap.size := A.out.lt
    have xA0 : W1.cell? ⟨w.heap.size, 0, none⟩ = some (.slice c len cap) := A.out.cell (by omega)
    have xA1 : W1.cell? ⟨w.heap.size, 1, none⟩ = some (.int .i64 at') := A.out.cell (by omega)
    have xA2 : W1.cell? ⟨w.heap.size, 2, none⟩ = some (.string st) := A.out.cell (by omega)
    have xA3 : W1.cell? ⟨w.heap.size, 3, none⟩ = some (.int .i64 ct) := A.out.cell (by omega)
    have hcv := convB (some ⟨b1, 0, none⟩) (n1 * 8) (n1 * 8) (byt f1 g1) W1 (RowV.of_row RB.out (Nat.le_refl _))
    have hcv : (convert 22 9 (.slice (some ⟨b1, 0, none⟩) (n1 * 8) (n1 * 8))).run Tryz.prog W1 = .ok (.string (etx f1 g1 n1)) W1 := hcv
    go_wp2_with fail
    refine (absorbText_any c len cap f g at' st ct (etx f1 g1 n1) _ (hik (htb.out.keep G.out)) (hik (h.out.keep G.out)) hl hs hszm).mono ?_
    rintro e W2 ⟨c3, cap3, rfl, o3, kk⟩
    clear zA xA0 xA1 xA2 xA3
    have K := hik ((Chg.refl nob W1).trans kk)
    have s2 := hik K.out.size
    replace G := hik (G.out.trans K.out)
    replace A := hik (rowIs_keep A.out K.out)
    replace RZ := hik (rowIs_keep RZ.out K.out)
    have O3 := hik (o3.low (B' := W1.heap.size) (Nat.le_refl _))
    clear o3 hcv
    clear kk K
    have hz9 : w.heap.size + 1 < W2.heap.size := RZ.out.lt
    have y0 := RZ.out.cell (i := 0) (by omega)
    have v0 := RZ.out.frozen 0
    have y1 := RZ.out.cell (i := 1) (by omega)
    have v1 := RZ.out.frozen 1
    have y2 := RZ.out.cell (i := 2) (by omega)
    have v2 := RZ.out.frozen 2
    have y3 := RZ.out.cell (i := 3) (by omega)
    have v3 := RZ.out.frozen 3
    go_wp2
    exact bodyPost_ret (v := .tuple #[.agg #[.slice c3 (scn (atc (etx f1 g1 n1).size (sokb f g len at' st ct)) len) cap3, .int .i64 (scI (atc (etx f1 g1 n1).size (sokb f g len at' st ct)) at'), .string (scS (atc (etx f1 g1 n1).size (sokb f g len at' st ct)) (abS st (etx f1 g1 n1))), .int .i64 0], .int .i64 (atc (etx f1 g1 n1).size (sokb f g len at' st ct))]) (by simp [results, Tryz.results68, go_sem, row4_s0 RZ.out (.slice c3 (scn (atc (etx f1 g1 n1).size (sokb f g len at' st ct)) len) cap3), row4_s1 RZ.out (.slice c3 (scn (atc (etx f1 g1 n1).size (sokb f g len at' st ct)) len) cap3) (.int .i64 (scI (atc (etx f1 g1 n1).size (sokb f g len at' st ct)) at')), row4_s2 RZ.out (.slice c3 (scn (atc (etx f1 g1 n1).size (sokb f g len at' st ct)) len) cap3) (.int .i64 (scI (atc (etx f1 g1 n1).size (sokb f g len at' st ct)) at')) (.string (scS (atc (etx f1 g1 n1).size (sokb f g len at' st ct)) (abS st (etx f1 g1 n1)))), row4_s3 RZ.out (.slice c3 (scn (atc (etx f1 g1 n1).size (sokb f g len at' st ct)) len) cap3) (.int .i64 (scI (atc (etx f1 g1 n1).size (sokb f g len at' st ct)) at')) (.string (scS (atc (etx f1 g1 n1).size (sokb f g len at' st ct)) (abS st (etx f1 g1 n1)))) (.int .i64 0)]) rfl ⟨_, _, rfl, ((O3.out.chg (P := fun b => b = w.heap.size + 1) (chg4_set (Chg.refl (fun b => b = w.heap.size + 1) W2) (w.heap.size + 1) (fun _ => rfl) _ _ _ _) (fun b hb _ hp => (by have := s1.out; have := L0.out; have := s2.out; omega))).low (B' := w.heap.size) (by have := s1.out; have := L0.out; have := s2.out; omega)), chg4_set G.out _ (fun l => absurd l (by simp)) _ _ _ _⟩
  · have hcd : aec n1 (okP f1 g1 n1) (sokb f g len at' st ct) = bc f1 g1 n1 := bc_aec hb
    rw [hcd]
    obtain ⟨cd, hc⟩ : ∃ cd, cd = bc f1 g1 n1 := ⟨_, rfl⟩
    have hb' : ¬ cd = 0 := by rw [hc]; exact hb
    have HC := hik hc
    rw [show scn (bc f1 g1 n1) len = 0 from if_neg hb, show scI (bc f1 g1 n1) at' = 0 from if_neg hb, show scS (bc f1 g1 n1) (abS st (etx f1 g1 n1)) = ⟨#[]⟩ from if_neg hb, ← hc]
    clear hcd hc
    go_enter Tryz.func68, Tryz.ntmps68
    go_wp2_with fail
    refine (extBytes_no c1 n1 cap1 f1 g1 _ (extBytes_any c1 n1 cap1 f1 g1 _ (hik (h1.out.keep (((Chg.refl nob w).alloc _).alloc _))) hm) hb).mono ?_
    rintro e W1 ⟨he, kk⟩
    have K := hik ((((Chg.refl nob w).alloc _).alloc _).trans kk)
    have s1 := hik K.out.size
    have A := hik (rowIs_keep (World.rowIs.alloc (row4_new w (.slice c len cap) (.int .i64 at') (.string st) (.int .i64 ct) 28) _) kk)
    have RZ : Hid (W1.rowIs (w.heap.size + 1) 28 4 (pv4 (.slice none 0 0) (.int .i64 0) (.string ⟨#[]⟩) (.int .i64 0))) := hik (by simpa using rowIs_keep (row4_new _ (.slice none 0 0) (.int .i64 0) (.string ⟨#[]⟩) (.int .i64 0) 28) kk)
    rw [← HC.out] at he
    subst he
    have G := hik K.out
    have L0 : Hid (w.heap.size + 1 < W1.heap.size) := hik RZ.out.lt
    clear kk K
    have hz9 : w.heap.size + 1 < W1.heap.size := RZ.out.lt
    have y0 := RZ.out.cell (i := 0) (by omega)
    have v0 := RZ.out.frozen 0
    have y1 := RZ.out.cell (i := 1) (by omega)
    have v1 := RZ.out.frozen 1
    have y2 := RZ.out.cell (i := 2) (by omega)
    have v2 := RZ.out.frozen 2
    have y3 := RZ.out.cell (i := 3) (by omega)
    have v3 := RZ.out.frozen 3
    go_wp2
    exact bodyPost_ret (v := .tuple #[.agg #[.slice none 0 0, .int .i64 0, .string ⟨#[]⟩, .int .i64 0], .int .i64 cd]) (by simp [results, Tryz.results68, go_sem, row4_s0 RZ.out (.slice none 0 0), row4_s1 RZ.out (.slice none 0 0) (.int .i64 0), row4_s2 RZ.out (.slice none 0 0) (.int .i64 0) (.string ⟨#[]⟩), row4_s3 RZ.out (.slice none 0 0) (.int .i64 0) (.string ⟨#[]⟩) (.int .i64 0)]) rfl ⟨_, _, rfl, .inl rfl, chg4_set G.out _ (fun l => absurd l (by simp)) _ _ _ _⟩

end Go.Proofs.YtgiefpipflcbgadGreatDoor

namespace Go.Proofs.YtgiefpipflcbgadGreatDoor
open Go.ChangeShapes Go.WideShapes Go.ChangeAt Go.RowKit
set_option linter.unusedVariables false
set_option maxRecDepth 100000
set_option linter.unusedSimpArgs false

set_option maxHeartbeats 1000000 in
theorem cloneF_any (c : Option Addr) (n cap : Nat) (f g : Nat → Int) (w : World) (h : Hid (PairV w c n f g)) (hn : n ≤ 1099511627776) :
    Calls Tryz.prog 71 #[.slice c n cap] w fun e w' => ∃ (c' : Option Addr) (cap' : Nat), e = .returned (.slice c' n cap') ∧ OwnE w' w.heap.size c' n f g ∧ Chg nob w w' ∧ ∀ b o, c' = some ⟨b, o, none⟩ → w.heap.size ≤ b := by
  by_cases h0 : n = 0
  · subst h0
    obtain ⟨i0, hi, hz0, hz1, hz2⟩ := info_parts infoExt
    have HI := hik hi
    have HZ0 := hik hz0
    have HZ1 := hik hz1
    have HZ2 := hik hz2
    clear hi hz0 hz1 hz2
    have qT : ∀ (w : World) (a : Option Addr) (n c n' c' : Nat), (binOp .eql 26 (.slice a n c) (.slice none n' c')).run Tryz.prog w = .ok (.bool a.isNone) w := fun w a n c n' c' => Lib.run_eql_slice_nil w _ _ a n c n' c' Tryz.underlying26
    cases c with
    | none =>
      go_enter Tryz.func71, Tryz.ntmps71
      go_wp2
      go_ret
      exact ⟨_, _, rfl, .inl rfl, Chg.refl _ _, fun b o e => by cases e⟩
    | some ad =>
      go_enter Tryz.func71, Tryz.ntmps71
      go_wp2_with (at_builtin; refine wpList_append_own _ rfl (.tmp 5) (.tmp 6) 26 rfl w.heap.size 31 i0 (.agg #[.int .i64 0, .int .i64 0]) 2 16 Tryz.underlying26 HI.out HZ0.out HZ1.out HZ2.out rfl (by decide) _ 0 _ rfl (flNone w w.heap.size 31 2 (Nat.le_refl _)) ad 0 cap [] rfl rfl ?c1 ?c2 ?c3 ?c4 ?c5 ?c6)
      case c1 => intro j u hj; simp at hj
      case c2 => intro u hu; simp at hu
      case c3 => unfold maxLen; omega
      case c4 => omega
      case c5 => simp
      case c6 =>
        intro v' w2 hown hgr _
        have HO := hik hown
        have K1 := hik (((Chg.refl nob w).alloc (.cells #[] 31)).grown hgr (fun i e l => by have q : some w.heap.size = some i := e; cases q; omega))
        obtain ⟨c', cap', ev, _, oe⟩ : ∃ c' cap', v' = .slice c' 0 cap' ∧ 0 ≤ cap' ∧ ∀ b o, c' = some ⟨b, o, none⟩ → w.heap.size ≤ b := by
          rcases hown.2 with ⟨e, _⟩ | ⟨g2, cap2, cur, e, hb, _⟩
          · exact ⟨none, 0, e, Nat.le_refl _, fun b o e => by cases e⟩
          · exact ⟨some ⟨g2, 0, none⟩, cap2, e, Nat.zero_le _, fun b o e => by cases e; exact hb⟩
        subst ev
        clear hown hgr qT HO
        go_wp2
        go_ret
        exact ⟨c', cap', rfl, .inl rfl, K1.out, oe⟩
  · refine (clone_any c n cap f g w h hn).mono (fun e w' ⟨c', cap', he, ho, k⟩ => ⟨c', cap', he, ho, k, fun b o ec => ?_⟩)
    rcases ho with q | ⟨b', N, hh, e', hb, _⟩
    · exact absurd q h0
    · rw [e'] at ec
      cases ec
      exact hb

set_option maxRecDepth 100000 in
set_option maxHeartbeats 1000000 in
theorem copiedF_any (c : Option Addr) (n cap : Nat) (f g : Nat → Int) (at' : Int) (st : ByteArray) (ct : Int) (w : World) (h : Hid (PairV w c n f g)) (hn : n ≤ 1099511627776) :
    Calls Tryz.prog 34 #[.agg #[.slice c n cap, .int .i64 at', .string st, .int .i64 ct]] w fun e w' => ∃ (c' : Option Addr) (cap' : Nat), e = .returned (.agg #[.slice c' n cap', .int .i64 at', .string st, .int .i64 ct]) ∧ OwnE w' w.heap.size c' n f g ∧ Chg nob w w' ∧ ∀ b o, c' = some ⟨b, o, none⟩ → w.heap.size ≤ b := by
  go_enter Tryz.func34, Tryz.ntmps34
  go_wp2_with fail
  refine (cloneF_any c n cap f g _ (hik (h.out.keep (((Chg.refl nob w).alloc _).alloc _))) hn).mono ?_
  rintro e W1 ⟨c1, cap1, rfl, ho, k1, hfr⟩
  have HFR := hik (show ∀ b o, c1 = some ⟨b, o, none⟩ → w.heap.size ≤ b from fun b o e => by have q := hfr b o e; simp at q; omega)
  have R0 := hik (rowIs_keep (World.rowIs.alloc (row4_new w (.slice c n cap) (.int .i64 at') (.string st) (.int .i64 ct) 28) (.cells #[.slice none 0 0, .int .i64 0, .string ⟨#[]⟩, .int .i64 0] 28)) k1)
  have R1 := hik (rowIs_keep (row4_new (w.alloc (.cells #[.slice c n cap, .int .i64 at', .string st, .int .i64 ct] 28)) (.slice none 0 0) (.int .i64 0) (.string ⟨#[]⟩) (.int .i64 0) 28) k1)
  have G1 := hik ((((Chg.refl nob w).alloc (.cells #[.slice c n cap, .int .i64 at', .string st, .int .i64 ct] 28)).alloc (.cells #[.slice none 0 0, .int .i64 0, .string ⟨#[]⟩, .int .i64 0] 28)).trans k1)
  have HO := hik ho
  obtain ⟨hc1, hf1, hz1⟩ := kcell k1 (w.heap.size + 2) (by simp)
  clear k1 ho hfr
  go_wp2
  have R2 : Hid ((W1.setCell ⟨w.heap.size, 0, none⟩ (.slice c1 n cap1)).rowIs (w.heap.size + 1) 28 4 (pv4 (.slice none 0 0) (.int .i64 0) (.string ⟨#[]⟩) (.int .i64 0))) := hik (World.rowIs.setOther (by simpa using R1.out) (by simp) _)
  exact bodyPost_ret (v := .agg #[.slice c1 n cap1, .int .i64 at', .string st, .int .i64 ct]) (by simp [results, Tryz.results34, go_sem, row4_s0 R2.out (.slice c1 n cap1), row4_s1 R2.out (.slice c1 n cap1) (.int .i64 at'), row4_s2 R2.out (.slice c1 n cap1) (.int .i64 at') (.string st), row4_s3 R2.out (.slice c1 n cap1) (.int .i64 at') (.string st) (.int .i64 ct)]) rfl ⟨_, _, rfl, ((HO.out.chg (P := fun b => b < w.heap.size + 2) (chg4_set ((Chg.refl _ W1).setCell (p := ⟨w.heap.size, 0, none⟩) (fun _ => (by show w.heap.size < w.heap.size + 2; omega)) _) _ (fun _ => (by show w.heap.size + 1 < w.heap.size + 2; omega)) _ _ _ _) (fun b hb _ hp => (by simp at hb; omega))).low (B' := w.heap.size) (by simp; omega)), chg4_set (G1.out.setCell (p := ⟨w.heap.size, 0, none⟩) (fun l => absurd l (by simp)) _) _ (fun l => absurd l (by simp)) _ _ _ _, HFR.out⟩

end Go.Proofs.YtgiefpipflcbgadGreatDoor
