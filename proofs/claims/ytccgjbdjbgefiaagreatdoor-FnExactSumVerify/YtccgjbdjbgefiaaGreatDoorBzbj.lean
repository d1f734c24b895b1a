/- Several texts in one: What the program's sources are behind what they take in: contracts. Conditions: rows that can be read, the tables hold the shifts and the rounds' constants. · What the program's sources are behind elements that they take in: a contract. Conditions: rows that can be read, the tables hold the shifts and the rounds' constants. -/
import Derived.Test.YtccgjbdjbgefiaaGreatDoorBzbd
import Derived.Test.YtccgjbdjbgefiaaGreatDoorBzak
import Derived.Test.YtccgjbdjbgefiaaGreatDoorBzbf
import Derived.Test.YtccgjbdjbgefiaaGreatDoorBzat
namespace Go.Proofs.YtccgjbdjbgefiaaGreatDoor
open Go.ChangeShapes Go.WideShapes Go.ChangeAt Go.RowKit
set_option linter.unusedVariables false
set_option maxRecDepth 100000
set_option linter.unusedSimpArgs false

set_option maxHeartbeats 2000000 in
theorem absorbText_any (c : Option Addr) (len cap : Nat) (f g : Nat → Int) (at' : Int) (st : ByteArray) (ct : Int) (t : ByteArray) (w : World) (htb : Hid (Tabs w)) (h : Hid (PairV w c len f g)) (hl : (len : Int) ≤ 9223372036854775807) (hs : (st.size : Int) ≤ 9223372036854775807) (hm : (t.size : Int) ≤ 9223372036854775807) :
    Calls Tryz.prog 71 #[.agg #[.slice c len cap, .int .i64 at', .string st, .int .i64 ct], .string t] w fun e w' => SCAns w (atc t.size (sokb f g len at' st ct)) (scn (atc t.size (sokb f g len at' st ct)) len) f g (scI (atc t.size (sokb f g len at' st ct)) at') (scS (atc t.size (sokb f g len at' st ct)) (abS st t)) 0 e w' := by
  by_cases h1 : 65536 < t.size
  · rw [atc_long h1]
    have h1' : 65536 < (t.size : Int) := by omega
    go_enter Tryz.func71, Tryz.ntmps71
    go_wp2
    exact bodyPost_ret (v := .tuple #[.agg #[.slice none 0 0, .int .i64 0, .string ⟨#[]⟩, .int .i64 0], .int .i64 2]) (by simp [results, Tryz.results71, go_sem]) rfl ⟨_, _, rfl, .inl rfl, ((Chg.refl _ _).alloc _).alloc _⟩
  have h1' : ¬ 65536 < (t.size : Int) := by omega
  cases h2 : sokb f g len at' st ct
  · rw [atc_bad h1]
    go_enter Tryz.func71, Tryz.ntmps71
    go_wp2_with fail
    refine (sourceOK_any c len cap at' st ct f g _ (hik (h.out.keep (((Chg.refl nob w).alloc _).alloc _))) hl hs).mono ?_
    rintro e W1 ⟨he, kk⟩
    have K := hik ((((Chg.refl nob w).alloc _).alloc _).trans kk)
    have s1 := hik K.out.size
    have A := hik (rowIs_keep (World.rowIs.alloc (row4_new w (.slice c len cap) (.int .i64 at') (.string st) (.int .i64 ct) 33) _) kk)
    have RZ : Hid (W1.rowIs (w.heap.size + 1) 33 4 (pv4 (.slice none 0 0) (.int .i64 0) (.string ⟨#[]⟩) (.int .i64 0))) := hik (by simpa using rowIs_keep (row4_new _ (.slice none 0 0) (.int .i64 0) (.string ⟨#[]⟩) (.int .i64 0) 33) kk)
    rw [h2] at he
    subst he
    have G := hik K.out
    have L0 : Hid (w.heap.size + 1 < W1.heap.size) := hik RZ.out.lt
    clear kk K
    have hz9 : w.heap.size + 1 < W1.heap.size := RZ.out.lt
    have y0 := RZ.out.cell (i := 0) (by omega)
    have v0 := RZ.out.frozen 0
    have y1 := RZ.out.cell (i := 1) (by omega)
    have v1 := RZ.out.frozen 1
    have y2 := RZ.out.cell (i := 2) (by omega)
    have v2 := RZ.out.frozen 2
    have y3 := RZ.out.cell (i := 3) (by omega)
    have v3 := RZ.out.frozen 3
    go_wp2
    exact bodyPost_ret (v := .tuple #[.agg #[.slice none 0 0, .int .i64 0, .string ⟨#[]⟩, .int .i64 0], .int .i64 1]) (by simp [results, Tryz.results71, go_sem, row4_s0 RZ.out (.slice none 0 0), row4_s1 RZ.out (.slice none 0 0) (.int .i64 0), row4_s2 RZ.out (.slice none 0 0) (.int .i64 0) (.string ⟨#[]⟩), row4_s3 RZ.out (.slice none 0 0) (.int .i64 0) (.string ⟨#[]⟩) (.int .i64 0)]) rfl ⟨_, _, rfl, .inl rfl, chg4_set G.out _ (fun l => absurd l (by simp)) _ _ _ _⟩
  rw [atc_ok h1, show scn 0 len = len from rfl, show scI 0 at' = at' from rfl, show scS 0 (abS st t) = abS st t from rfl]
  obtain ⟨p1, p2, p3, p4, p5⟩ := sokb_parts h2
  go_enter Tryz.func71, Tryz.ntmps71
  go_wp2_with fail
  refine (sourceOK_any c len cap at' st ct f g _ (hik (h.out.keep (((Chg.refl nob w).alloc _).alloc _))) hl hs).mono ?_
  rintro e W1 ⟨he, kk⟩
  have K := hik ((((Chg.refl nob w).alloc _).alloc _).trans kk)
  have s1 := hik K.out.size
  have A := hik (rowIs_keep (World.rowIs.alloc (row4_new w (.slice c len cap) (.int .i64 at') (.string st) (.int .i64 ct) 33) _) kk)
  have RZ : Hid (W1.rowIs (w.heap.size + 1) 33 4 (pv4 (.slice none 0 0) (.int .i64 0) (.string ⟨#[]⟩) (.int .i64 0))) := hik (by simpa using rowIs_keep (row4_new _ (.slice none 0 0) (.int .i64 0) (.string ⟨#[]⟩) (.int .i64 0) 33) kk)
  rw [h2] at he
  subst he
  have G := hik K.out
  have L0 : Hid (w.heap.size + 1 < W1.heap.size) := hik RZ.out.lt
  clear kk K
  have zA : w.heap.size < W1.heap.size := A.out.lt
  have xA0 : W1.cell? ⟨w.heap.size, 0, none⟩ = some (.slice c len cap) := A.out.cell (by omega)
  have xA1 : W1.cell? ⟨w.heap.size, 1, none⟩ = some (.int .i64 at') := A.out.cell (by omega)
  have xA2 : W1.cell? ⟨w.heap.size, 2, none⟩ = some (.string st) := A.out.cell (by omega)
  have xA3 : W1.cell? ⟨w.heap.size, 3, none⟩ = some (.int .i64 ct) := A.out.cell (by omega)
  go_wp2_with fail
  refine (takingIn_any c len cap f g at' st ct t _ (hik (htb.out.keep G.out)) (hik (h.out.keep G.out)) (by omega) p4 (by omega)).mono ?_
  rintro e W2 ⟨c3, cap3, rfl, o3, kk⟩
  clear zA xA0 xA1 xA2 xA3
  have K := hik ((Chg.refl nob W1).trans kk)
  have s2 := hik K.out.size
  replace G := hik (G.out.trans K.out)
  replace A := hik (rowIs_keep A.out K.out)
  replace RZ := hik (rowIs_keep RZ.out K.out)
  have O3 := hik (o3.low (B' := W1.heap.size) (Nat.le_refl _))
  clear o3
  clear kk K
  have hz9 : w.heap.size + 1 < W2.heap.size := RZ.out.lt
  have y0 := RZ.out.cell (i := 0) (by omega)
  have v0 := RZ.out.frozen 0
  have y1 := RZ.out.cell (i := 1) (by omega)
  have v1 := RZ.out.frozen 1
  have y2 := RZ.out.cell (i := 2) (by omega)
  have v2 := RZ.out.frozen 2
  have y3 := RZ.out.cell (i := 3) (by omega)
  have v3 := RZ.out.frozen 3
  go_wp2
  exact bodyPost_ret (v := .tuple #[.agg #[.slice c3 len cap3, .int .i64 at', .string (abS st t), .int .i64 0], .int .i64 0]) (by simp [results, Tryz.results71, go_sem, row4_s0 RZ.out (.slice c3 len cap3), row4_s1 RZ.out (.slice c3 len cap3) (.int .i64 at'), row4_s2 RZ.out (.slice c3 len cap3) (.int .i64 at') (.string (abS st t)), row4_s3 RZ.out (.slice c3 len cap3) (.int .i64 at') (.string (abS st t)) (.int .i64 0)]) rfl ⟨_, _, rfl, ((O3.out.chg (P := fun b => b = w.heap.size + 1) (chg4_set (Chg.refl (fun b => b = w.heap.size + 1) W2) (w.heap.size + 1) (fun _ => rfl) _ _ _ _) (fun b hb _ hp => (by have := s1.out; have := L0.out; have := s2.out; omega))).low (B' := w.heap.size) (by have := s1.out; have := L0.out; have := s2.out; omega)), chg4_set G.out _ (fun l => absurd l (by simp)) _ _ _ _⟩

end Go.Proofs.YtccgjbdjbgefiaaGreatDoor

namespace Go.Proofs.YtccgjbdjbgefiaaGreatDoor
open Go.ChangeShapes Go.WideShapes Go.ChangeAt Go.RowKit
set_option linter.unusedVariables false
set_option maxRecDepth 100000
set_option linter.unusedSimpArgs false

set_option maxHeartbeats 2000000 in
theorem absorbExts_any (c : Option Addr) (len cap : Nat) (f g : Nat → Int) (at' : Int) (st : ByteArray) (ct : Int) (c1 : Option Addr) (n1 cap1 : Nat) (f1 g1 : Nat → Int) (w : World) (htb : Hid (Tabs w)) (h : Hid (PairV w c len f g)) (h1 : Hid (PairV w c1 n1 f1 g1)) (hl : (len : Int) ≤ 9223372036854775807) (hs : (st.size : Int) ≤ 9223372036854775807) (hm : n1 ≤ 1099511627776) :
    Calls Tryz.prog 49 #[.agg #[.slice c len cap, .int .i64 at', .string st, .int .i64 ct], .slice c1 n1 cap1] w fun e w' => SCAns w (aec n1 (okP f1 g1 n1) (sokb f g len at' st ct)) (scn (aec n1 (okP f1 g1 n1) (sokb f g len at' st ct)) len) f g (scI (aec n1 (okP f1 g1 n1) (sokb f g len at' st ct)) at') (scS (aec n1 (okP f1 g1 n1) (sokb f g len at' st ct)) (abS st (etx f1 g1 n1))) 0 e w' := by
  by_cases hb : bc f1 g1 n1 = 0
  · obtain ⟨q1, q2⟩ := bc_zero hb
    have hsz : (etx f1 g1 n1).size ≤ 65536 := by rw [etx_size]; omega
    have hszm : ((etx f1 g1 n1).size : Int) ≤ 9223372036854775807 := by omega
    have hcd : aec n1 (okP f1 g1 n1) (sokb f g len at' st ct) = atc (etx f1 g1 n1).size (sokb f g len at' st ct) := by
      rw [q2]; unfold aec atc; rw [if_neg (show ¬ 4096 < n1 by omega), if_neg (show ¬ 65536 < (etx f1 g1 n1).size by omega)]; cases sokb f g len at' st ct <;> rfl
    rw [hcd]
    go_enter Tryz.func49, Tryz.ntmps49
    go_wp2_with fail
    refine (extBytes_yes c1 n1 cap1 f1 g1 _ (extBytes_any c1 n1 cap1 f1 g1 _ (hik (h1.out.keep (((Chg.refl nob w).alloc _).alloc _))) hm) hb).mono ?_
    rintro e W1 ⟨b1, hb1, rfl, hr, kk⟩
    have K := hik ((((Chg.refl nob w).alloc _).alloc _).trans kk)
    have s1 := hik K.out.size
    have A := hik (rowIs_keep (World.rowIs.alloc (row4_new w (.slice c len cap) (.int .i64 at') (.string st) (.int .i64 ct) 33) _) kk)
    have RZ : Hid (W1.rowIs (w.heap.size + 1) 33 4 (pv4 (.slice none 0 0) (.int .i64 0) (.string ⟨#[]⟩) (.int .i64 0))) := hik (by simpa using rowIs_keep (row4_new _ (.slice none 0 0) (.int .i64 0) (.string ⟨#[]⟩) (.int .i64 0) 33) kk)
    have RB := hik hr
    clear hr hb1
    have G := hik K.out
    have L0 : Hid (w.heap.size + 1 < W1.heap.size) := hik RZ.out.lt
    clear kk K
    have zA : w.heap.size < W1.heap.size := A.out.lt
    have xA0 : W1.cell? ⟨w.heap.size, 0, none⟩ = some (.slice c len cap) := A.out.cell (by omega)
    have xA1 : W1.cell? ⟨w.heap.size, 1, none⟩ = some (.int .i64 at') := A.out.cell (by omega)
    have xA2 : W1.cell? ⟨w.heap.size, 2, none⟩ = some (.string st) := A.out.cell (by omega)
    have xA3 : W1.cell? ⟨w.heap.size, 3, none⟩ = some (.int .i64 ct) := A.out.cell (by omega)
    have hcv := convB (some ⟨b1, 0, none⟩) (n1 * 8) (n1 * 8) (byt f1 g1) W1 (RowV.of_row RB.out (Nat.le_refl _))
    have hcv : (convert 86 9 (.slice (some ⟨b1, 0, none⟩) (n1 * 8) (n1 * 8))).run Tryz.prog W1 = .ok (.string (etx f1 g1 n1)) W1 := hcv
    go_wp2_with fail
    refine (absorbText_any c len cap f g at' st ct (etx f1 g1 n1) _ (hik (htb.out.keep G.out)) (hik (h.out.keep G.out)) hl hs hszm).mono ?_
    rintro e W2 ⟨c3, cap3, rfl, o3, kk⟩
    clear zA xA0 xA1 xA2 xA3
    have K := hik ((Chg.refl nob W1).trans kk)
    have s2 := hik K.out.size
    replace G := hik (G.out.trans K.out)
    replace A := hik (rowIs_keep A.out K.out)
    replace RZ := hik (rowIs_keep RZ.out K.out)
    have O3 := hik (o3.low (B' := W1.heap.size) (Nat.le_refl _))
    clear o3 hcv
    clear kk K
    have hz9 : w.heap.size + 1 < W2.heap.size := RZ.out.lt
    have y0 := RZ.out.cell (i := 0) (by omega)
    have v0 := RZ.out.frozen 0
    have y1 := RZ.out.cell (i := 1) (by omega)
    have v1 := RZ.out.frozen 1
    have y2 := RZ.out.cell (i := 2) (by omega)
    have v2 := RZ.out.frozen 2
    have y3 := RZ.out.cell (i := 3) (by omega)
    have v3 := RZ.out.frozen 3
    go_wp2
    exact bodyPost_ret (v := .tuple #[.agg #[.slice c3 (scn (atc (etx f1 g1 n1).size (sokb f g len at' st ct)) len) cap3, .int .i64 (scI (atc (etx f1 g1 n1).size (sokb f g len at' st ct)) at'), .string (scS (atc (etx f1 g1 n1).size (sokb f g len at' st ct)) (abS st (etx f1 g1 n1))), .int .i64 0], .int .i64 (atc (etx f1 g1 n1).size (sokb f g len at' st ct))]) (by simp [results, Tryz.results49, go_sem, row4_s0 RZ.out (.slice c3 (scn (atc (etx f1 g1 n1).size (sokb f g len at' st ct)) len) cap3), row4_s1 RZ.out (.slice c3 (scn (atc (etx f1 g1 n1).size (sokb f g len at' st ct)) len) cap3) (.int .i64 (scI (atc (etx f1 g1 n1).size (sokb f g len at' st ct)) at')), row4_s2 RZ.out (.slice c3 (scn (atc (etx f1 g1 n1).size (sokb f g len at' st ct)) len) cap3) (.int .i64 (scI (atc (etx f1 g1 n1).size (sokb f g len at' st ct)) at')) (.string (scS (atc (etx f1 g1 n1).size (sokb f g len at' st ct)) (abS st (etx f1 g1 n1)))), row4_s3 RZ.out (.slice c3 (scn (atc (etx f1 g1 n1).size (sokb f g len at' st ct)) len) cap3) (.int .i64 (scI (atc (etx f1 g1 n1).size (sokb f g len at' st ct)) at')) (.string (scS (atc (etx f1 g1 n1).size (sokb f g len at' st ct)) (abS st (etx f1 g1 n1)))) (.int .i64 0)]) rfl ⟨_, _, rfl, ((O3.out.chg (P := fun b => b = w.heap.size + 1) (chg4_set (Chg.refl (fun b => b = w.heap.size + 1) W2) (w.heap.size + 1) (fun _ => rfl) _ _ _ _) (fun b hb _ hp => (by have := s1.out; have := L0.out; have := s2.out; omega))).low (B' := w.heap.size) (by have := s1.out; have := L0.out; have := s2.out; omega)), chg4_set G.out _ (fun l => absurd l (by simp)) _ _ _ _⟩
  · have hcd : aec n1 (okP f1 g1 n1) (sokb f g len at' st ct) = bc f1 g1 n1 := bc_aec hb
    rw [hcd]
    obtain ⟨cd, hc⟩ : ∃ cd, cd = bc f1 g1 n1 := ⟨_, rfl⟩
    have hb' : ¬ cd = 0 := by rw [hc]; exact hb
    have HC := hik hc
    rw [show scn (bc f1 g1 n1) len = 0 from if_neg hb, show scI (bc f1 g1 n1) at' = 0 from if_neg hb, show scS (bc f1 g1 n1) (abS st (etx f1 g1 n1)) = ⟨#[]⟩ from if_neg hb, ← hc]
    clear hcd hc
    go_enter Tryz.func49, Tryz.ntmps49
    go_wp2_with fail
    refine (extBytes_no c1 n1 cap1 f1 g1 _ (extBytes_any c1 n1 cap1 f1 g1 _ (hik (h1.out.keep (((Chg.refl nob w).alloc _).alloc _))) hm) hb).mono ?_
    rintro e W1 ⟨he, kk⟩
    have K := hik ((((Chg.refl nob w).alloc _).alloc _).trans kk)
    have s1 := hik K.out.size
    have A := hik (rowIs_keep (World.rowIs.alloc (row4_new w (.slice c len cap) (.int .i64 at') (.string st) (.int .i64 ct) 33) _) kk)
    have RZ : Hid (W1.rowIs (w.heap.size + 1) 33 4 (pv4 (.slice none 0 0) (.int .i64 0) (.string ⟨#[]⟩) (.int .i64 0))) := hik (by simpa using rowIs_keep (row4_new _ (.slice none 0 0) (.int .i64 0) (.string ⟨#[]⟩) (.int .i64 0) 33) kk)
    rw [← HC.out] at he
    subst he
    have G := hik K.out
    have L0 : Hid (w.heap.size + 1 < W1.heap.size) := hik RZ.out.lt
    clear kk K
    have hz9 : w.heap.size + 1 < W1.heap.size := RZ.out.lt
    have y0 := RZ.out.cell (i := 0) (by omega)
    have v0 := RZ.out.frozen 0
    have y1 := RZ.out.cell (i := 1) (by omega)
    have v1 := RZ.out.frozen 1
    have y2 := RZ.out.cell (i := 2) (by omega)
    have v2 := RZ.out.frozen 2
    have y3 := RZ.out.cell (i := 3) (by omega)
    have v3 := RZ.out.frozen 3
    go_wp2
    exact bodyPost_ret (v := .tuple #[.agg #[.slice none 0 0, .int .i64 0, .string ⟨#[]⟩, .int .i64 0], .int .i64 cd]) (by simp [results, Tryz.results49, go_sem, row4_s0 RZ.out (.slice none 0 0), row4_s1 RZ.out (.slice none 0 0) (.int .i64 0), row4_s2 RZ.out (.slice none 0 0) (.int .i64 0) (.string ⟨#[]⟩), row4_s3 RZ.out (.slice none 0 0) (.int .i64 0) (.string ⟨#[]⟩) (.int .i64 0)]) rfl ⟨_, _, rfl, .inl rfl, chg4_set G.out _ (fun l => absurd l (by simp)) _ _ _ _⟩

end Go.Proofs.YtccgjbdjbgefiaaGreatDoor
