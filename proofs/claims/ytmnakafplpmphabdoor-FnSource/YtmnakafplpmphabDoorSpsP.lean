/- Places that right sources draw, by the model: contracts. Conditions: right sources with draws left, rows that can be read. -/
import Derived.Test.YtmnakafplpmphabDoorSpsK
import Derived.Test.YtmnakafplpmphabDoorIpsP
namespace Go.Proofs.YtmnakafplpmphabDoor
open Go.ChangeShapes Go.WideShapes Go.ChangeAt Go.RowKit
set_option linter.unusedVariables false
set_option maxRecDepth 100000
set_option linter.unusedSimpArgs false

/-- A source as it was laid, and places. -/
def PlAns (w : World) (c : Option Addr) (len cap : Nat) (at' : Int) (st : ByteArray) (ct : Int) (m : Nat) (p : Nat → Int) (e : Ending) (w' : World) : Prop :=
  ∃ (d : Option Addr) (cap' : Nat), e = .returned (.tuple #[.agg #[.slice c len cap, .int .i64 at', .string st, .int .i64 ct], .slice d m cap']) ∧ RowV w' d m (ivl p) ∧ (∀ xb xo, d = some ⟨xb, xo, none⟩ → w.heap.size ≤ xb) ∧ Chg nob w w'
theorem range_one (h : Nat → Value) (k : Nat) : (List.range k).map h ++ [h k] = (List.range (k + 1)).map h := by rw [List.range_succ]; simp
theorem one1 (a : Int) : ∀ u ∈ ([.int .i64 a] : List Value), u.oneCell' = true := by
  intro u hu
  simp at hu
  subst hu
  rfl
theorem news1 (W : World) (a : Int) (T : TypeId) : ∀ j u, ([.int .i64 a] : List Value)[j]? = some u → (W.alloc (.cells #[.int .i64 a] T)).cell? ((⟨W.heap.size, 0, none⟩ : Addr).add j) = some u := by
  intro j u hj
  match j, hj with
  | 0, hj => simp at hj; subst hj; simp [Addr.add]
  | j + 1, hj => simp at hj

set_option maxHeartbeats 2000000 in
theorem sPlaces_any (c : Option Addr) (len cap : Nat) (f g : Nat → Int) (at' : Int) (st : ByteArray) (ct : Int) (n : Nat) (most : Int) (w : World) (h : Hid (PairV w c len f g)) (hok : sokb f g len at' st ct = true) (hn : n ≤ 100) (a1 : at' + n ≤ 1000000) (c1 : ct + n ≤ 1000000) (m1 : 1 ≤ most) (m2 : most ≤ 65536) :
    Calls Tryd.prog 92 #[.agg #[.slice c len cap, .int .i64 at', .string st, .int .i64 ct], .int .i64 n, .int .i64 most] w fun e w' => PlAns w c len cap (dnA len at' n) st (dnC len ct n) n (plc5 f len at' st ct most) e w' := by
  obtain ⟨p1, p2, p3, p4, p5⟩ := sokb_parts hok
  have hl : (len : Int) ≤ 9223372036854775807 := by omega
  have hs : (st.size : Int) ≤ 9223372036854775807 := by omega
  have P := hik (sokb_parts hok)
  obtain ⟨i0, hi, hz0, hz1, hz2⟩ := info_parts infoI
  have HI := hik hi
  have HZ0 := hik hz0
  have HZ1 := hik hz1
  have HZ2 := hik hz2
  clear hi hz0 hz1 hz2
  have HAC := hik (show at' + n ≤ 1000000 ∧ ct + n ≤ 1000000 from ⟨a1, c1⟩)
  have HMM := hik (show 1 ≤ most ∧ most ≤ 65536 from ⟨m1, m2⟩)
  clear a1 c1 p3 p5 m1 m2
  go_enter Tryd.func92, Tryd.ntmps92
  go_wp2_with fail
  refine (sSome_any c len cap n f g at' st ct _ (hik (h.out.keep (((Chg.refl nob w).alloc _).alloc _))) p1 p4 P.out.2.2.1.1 HAC.out.1 P.out.2.2.2.2.1 HAC.out.2 hn).mono ?_
  rintro e W1 ⟨d3, cap3', rfl, q3, kk⟩
  have K := hik ((((Chg.refl nob w).alloc _).alloc _).trans kk)
  have s1 := hik K.out.size
  have A := hik (rowIs_keep (World.rowIs.alloc (row4_new w (.slice c len cap) (.int .i64 at') (.string st) (.int .i64 ct) 47) _) kk)
  have RZ : Hid (W1.rowIs (w.heap.size + 1) 47 4 (pv4 (.slice none 0 0) (.int .i64 0) (.string ⟨#[]⟩) (.int .i64 0))) := hik (by simpa using rowIs_keep (row4_new _ (.slice none 0 0) (.int .i64 0) (.string ⟨#[]⟩) (.int .i64 0) 47) kk)
  have D3 := hik q3.pairs
  clear q3
  have G := hik K.out
  have L0 : Hid (w.heap.size + 1 < W1.heap.size) := hik RZ.out.lt
  clear kk K
  have LZ := hik RZ.out.lt
  have KD := hik (fun i => drE_in P.out.2.1 at' st ct i)
  go_wp2
  go_loopw [10, 11] (fun v i W => ∃ k : Nat, k ≤ n ∧ i = .int .i64 k ∧ Hid (W.ownsRow (W1.heap.size + 1) 3 1 v k ((List.range k).map (ivl (plc5 f len at' st ct most)))) ∧ Hid (W.rowIs W1.heap.size 47 4 (pv4 (.slice c len cap) (.int .i64 (dnA len at' n)) (.string st) (.int .i64 (dnC len ct n)))) ∧ Hid (W.rowIs (w.heap.size + 1) 47 4 (pv4 (.slice none 0 0) (.int .i64 0) (.string ⟨#[]⟩) (.int .i64 0))) ∧ Hid (Chg nob W1 W)) (fun _ i _ => n - (intOf i).toNat)
  case atStart => exact ⟨0, Nat.zero_le _, rfl, hik (by have q := owns_none (W1.alloc (.cells #[.slice c len cap, .int .i64 (dnA len at' n), .string st, .int .i64 (dnC len ct n)] 47)) (W1.heap.size + 1) 3 1 (by simp); simpa using q), hik (World.rowIs.alloc (row4_new W1 _ _ _ _ _) _), hik (World.rowIs.alloc (World.rowIs.alloc RZ.out _) _), hik (((Chg.refl nob W1).alloc _).alloc _)⟩
  case round =>
    obtain ⟨k, hk, rfl, HW, HO, HZ, HG⟩ := hrel
    have hsz := HG.out.size
    by_cases hlt : k < n
    · have hlt' : (k : Int) < (n : Int) := by omega
      have k0 : (0 : Int) ≤ (k : Int) := by omega
      obtain ⟨x, hx⟩ : ∃ x, x = drE f len at' st ct k := ⟨_, rfl⟩
      have x0 : 0 ≤ x := by rw [hx]; exact (KD.out k).1
      have hm0 : ¬ most = 0 := by have := HMM.out; omega
      have hmod : x.tmod most = x % most := Int.tmod_eq_emod_of_nonneg x0
      have EP := hik (show ivl (plc5 f len at' st ct most) k = .int .i64 (x % most) by rw [hx]; rfl)
      obtain ⟨xb, xo, ed, hxb, e0, e1⟩ := (D3.out.keep HG.out) k hlt
      rw [← hx] at e0
      subst ed
      have L2 := hik (show W1.heap.size + 1 ≤ wr.heap.size by have := HO.out.lt; omega)
      clear hx
      go_wp2_with (at_builtin; refine wpList_append_own _ ?g0 (.tmp 24) (.tmp 32) 61 ?g1 (W1.heap.size + 1) 3 i0 (.int .i64 0) 1 8 Tryd.underlying61 HI.out HZ0.out HZ1.out HZ2.out rfl (by decide) u10 k ((List.range k).map (ivl (plc5 f len at' st ct most))) ?b1 ?b2 ⟨wr.heap.size, 0, none⟩ 1 1 [.int .i64 (x % most)] ?b3 ?b4 ?b5 ?b6 ?b7 ?b8 ?b9 ?b10)
      case g0 => rfl
      case g1 => rfl
      case b1 => rfl
      case b2 => exact HW.out.alloc _
      case b3 => rfl
      case b4 => rfl
      case b5 => exact news1 _ _ _
      case b6 => exact one1 _
      case b7 => unfold maxLen; omega
      case b8 => omega
      case b9 => have := L2.out; simp; omega
      case b10 =>
        intro v' w2 hown hgr _
        have HO2 : Hid (w2.ownsRow (W1.heap.size + 1) 3 1 v' (k + 1) ((List.range (k + 1)).map (ivl (plc5 f len at' st ct most)))) := hik (by rw [← range_one, EP.out]; exact hown)
        have KU := (Chg.refl (fun i => W1.heap.size + 1 ≤ i) _).grown hgr (fun b e _ => (HW.out.lt b e).1)
        have NO := hik (rowIs_chg (World.rowIs.alloc HO.out _) KU (by omega))
        have NZ := hik (rowIs_chg (World.rowIs.alloc HZ.out _) KU (by have := LZ.out; omega))
        have NG := hik ((HG.out.alloc _).near KU (fun i e => by omega))
        clear hown hgr KU
        go_wp2
        go_roundw
        case rel => exact ⟨k + 1, by omega, by go_num, HO2, NO, NZ, NG⟩
        case measure => simp [intOf]; omega
    · obtain rfl : k = n := by omega
      obtain ⟨d9, cap9, rfl, rv, hB9⟩ := row_of_owns HW.out
      have RV := hik rv
      have HB9 := hik hB9
      have GF := hik (G.out.trans HG.out)
      clear rv hB9
      have xo0 : wr.cell? ⟨W1.heap.size, 0, none⟩ = some (.slice c len cap) := HO.out.cell (by omega)
      have xo1 : wr.cell? ⟨W1.heap.size, 1, none⟩ = some (.int .i64 (dnA len at' k)) := HO.out.cell (by omega)
      have xo2 : wr.cell? ⟨W1.heap.size, 2, none⟩ = some (.string st) := HO.out.cell (by omega)
      have xo3 : wr.cell? ⟨W1.heap.size, 3, none⟩ = some (.int .i64 (dnC len ct k)) := HO.out.cell (by omega)
      have zo : W1.heap.size < wr.heap.size := HO.out.lt
      have hz9 : w.heap.size + 1 < wr.heap.size := HZ.out.lt
      have y0 := HZ.out.cell (i := 0) (by omega)
      have v0 := HZ.out.frozen 0
      have y1 := HZ.out.cell (i := 1) (by omega)
      have v1 := HZ.out.frozen 1
      have y2 := HZ.out.cell (i := 2) (by omega)
      have v2 := HZ.out.frozen 2
      have y3 := HZ.out.cell (i := 3) (by omega)
      have v3 := HZ.out.frozen 3
      go_wp2
      exact bodyPost_ret (v := .tuple #[.agg #[.slice c len cap, .int .i64 (dnA len at' k), .string st, .int .i64 (dnC len ct k)], .slice d9 k cap9]) (by simp [results, Tryd.results92, go_sem, row4_s0 HZ.out (.slice c len cap), row4_s1 HZ.out (.slice c len cap) (.int .i64 (dnA len at' k)), row4_s2 HZ.out (.slice c len cap) (.int .i64 (dnA len at' k)) (.string st), row4_s3 HZ.out (.slice c len cap) (.int .i64 (dnA len at' k)) (.string st) (.int .i64 (dnC len ct k))]) rfl ⟨_, _, rfl, RV.out.chg (P := fun b => b = w.heap.size + 1) (chg4_set (Chg.refl (fun b => b = w.heap.size + 1) wr) (w.heap.size + 1) (fun _ => rfl) _ _ _ _) (fun xb xo e _ hp => (by have := HB9.out xb xo e; have := LZ.out; omega)), fun xb xo e => (by have := HB9.out xb xo e; have := LZ.out; omega), chg4_set GF.out _ (fun l => absurd l (by simp)) _ _ _ _⟩

set_option maxHeartbeats 2000000 in
theorem sTakePlaces_ok (c : Option Addr) (len cap : Nat) (f g : Nat → Int) (at' : Int) (st : ByteArray) (ct : Int) (n : Nat) (most : Int) (w : World) (h : Hid (PairV w c len f g)) (hok : sokb f g len at' st ct = true) (hn : n ≤ 100) (a1 : at' + n ≤ 1000000) (c1 : ct + n ≤ 1000000) (m1 : 1 ≤ most) (m2 : most ≤ 65536) :
    Calls Tryd.prog 42 #[.agg #[.slice c len cap, .int .i64 at', .string st, .int .i64 ct], .int .i64 n, .int .i64 most] w fun e w' => PTAns w len f g (dnA len at' n) st (dnC len ct n) n (plc5 f len at' st ct most) 0 e w' := by
  obtain ⟨p1, p2, p3, p4, p5⟩ := sokb_parts hok
  have hl : (len : Int) ≤ 9223372036854775807 := by omega
  have hs : (st.size : Int) ≤ 9223372036854775807 := by omega
  have P := hik (sokb_parts hok)
  have HI1 := hik (show inW (n : Int) 0 100 = true from decide_eq_true (by omega))
  have HI2 := hik (show inW most 1 65536 = true from decide_eq_true (by omega))
  have HAC := hik (show at' + n ≤ 1000000 ∧ ct + n ≤ 1000000 from ⟨a1, c1⟩)
  have HMM := hik (show 1 ≤ most ∧ most ≤ 65536 from ⟨m1, m2⟩)
  clear a1 c1 p3 p5 m1 m2
  go_enter Tryd.func42, Tryd.ntmps42
  go_wp2_with fail
  refine (sSourceOK_any c len cap at' st ct f g _ (hik (h.out.keep (((Chg.refl nob w).alloc _).alloc _))) hl hs).mono ?_
  rintro e W1 ⟨he, kk⟩
  have K := hik ((((Chg.refl nob w).alloc _).alloc _).trans kk)
  have s1 := hik K.out.size
  have A := hik (rowIs_keep (World.rowIs.alloc (row4_new w (.slice c len cap) (.int .i64 at') (.string st) (.int .i64 ct) 47) _) kk)
  have RZ : Hid (W1.rowIs (w.heap.size + 1) 47 4 (pv4 (.slice none 0 0) (.int .i64 0) (.string ⟨#[]⟩) (.int .i64 0))) := hik (by simpa using rowIs_keep (row4_new _ (.slice none 0 0) (.int .i64 0) (.string ⟨#[]⟩) (.int .i64 0) 47) kk)
  rw [hok] at he
  subst he
  have G := hik K.out
  have L0 : Hid (w.heap.size + 1 < W1.heap.size) := hik RZ.out.lt
  clear kk K
  go_wp2_with fail
  refine (l01In_c _ _ _ _).mono ?_
  rintro e W2 ⟨he, kk⟩
  have K := hik ((Chg.refl nob W1).trans kk)
  have s2 := hik K.out.size
  replace G := hik (G.out.trans K.out)
  replace A := hik (rowIs_keep A.out K.out)
  replace RZ := hik (rowIs_keep RZ.out K.out)
  rw [HI1.out] at he
  subst he
  clear kk K
  go_wp2_with fail
  refine (l01In_c _ _ _ _).mono ?_
  rintro e W3 ⟨he, kk⟩
  have K := hik ((Chg.refl nob W2).trans kk)
  have s3 := hik K.out.size
  replace G := hik (G.out.trans K.out)
  replace A := hik (rowIs_keep A.out K.out)
  replace RZ := hik (rowIs_keep RZ.out K.out)
  rw [HI2.out] at he
  subst he
  clear kk K
  have zA : w.heap.size < W3.heap.size := A.out.lt
  have xA0 : W3.cell? ⟨w.heap.size, 0, none⟩ = some (.slice c len cap) := A.out.cell (by omega)
  have xA1 : W3.cell? ⟨w.heap.size, 1, none⟩ = some (.int .i64 at') := A.out.cell (by omega)
  have xA2 : W3.cell? ⟨w.heap.size, 2, none⟩ = some (.string st) := A.out.cell (by omega)
  have xA3 : W3.cell? ⟨w.heap.size, 3, none⟩ = some (.int .i64 ct) := A.out.cell (by omega)
  go_wp2_with fail
  refine (sSpent_ok c len cap f g at' st ct n _ hn HAC.out.1 HAC.out.2).mono ?_
  rintro e W4 ⟨rfl, kk⟩
  clear zA xA0 xA1 xA2 xA3
  have K := hik ((Chg.refl nob W3).trans kk)
  have s4 := hik K.out.size
  replace G := hik (G.out.trans K.out)
  replace A := hik (rowIs_keep A.out K.out)
  replace RZ := hik (rowIs_keep RZ.out K.out)
  clear kk K
  have zA : w.heap.size < W4.heap.size := A.out.lt
  have xA0 : W4.cell? ⟨w.heap.size, 0, none⟩ = some (.slice c len cap) := A.out.cell (by omega)
  have xA1 : W4.cell? ⟨w.heap.size, 1, none⟩ = some (.int .i64 at') := A.out.cell (by omega)
  have xA2 : W4.cell? ⟨w.heap.size, 2, none⟩ = some (.string st) := A.out.cell (by omega)
  have xA3 : W4.cell? ⟨w.heap.size, 3, none⟩ = some (.int .i64 ct) := A.out.cell (by omega)
  go_wp2_with fail
  refine (sPlaces_any c len cap f g at' st ct n most _ (hik (h.out.keep G.out)) hok hn HAC.out.1 HAC.out.2 HMM.out.1 HMM.out.2).mono ?_
  rintro e W5 ⟨d3, cap3', rfl, q3, hb3, kk⟩
  clear zA xA0 xA1 xA2 xA3
  have K := hik ((Chg.refl nob W4).trans kk)
  have s5 := hik K.out.size
  replace G := hik (G.out.trans K.out)
  replace A := hik (rowIs_keep A.out K.out)
  replace RZ := hik (rowIs_keep RZ.out K.out)
  have D3 := hik q3
  have HB3 := hik hb3
  clear q3 hb3
  clear kk K
  go_wp2_with fail
  refine (sOwn_any c len cap f g (dnA len at' n) st (dnC len ct n) _ (hik (h.out.keep (G.out.alloc _))) (by omega)).mono ?_
  rintro e W6 ⟨c4, cap4, rfl, o4, kk⟩
  have K := hik (((Chg.refl nob W5).alloc _).trans kk)
  have s6 := hik K.out.size
  replace G := hik (G.out.trans K.out)
  replace A := hik (rowIs_keep A.out K.out)
  replace RZ := hik (rowIs_keep RZ.out K.out)
  have RO := hik (rowIs_keep (row4_new W5 (.slice c len cap) (.int .i64 (dnA len at' n)) (.string st) (.int .i64 (dnC len ct n)) 47) kk)
  have O4 := hik (o4.low (B' := W5.heap.size) (by simp))
  replace D3 := hik (D3.out.keep K.out)
  clear o4
  clear kk K
  have hz9 : w.heap.size + 1 < W6.heap.size := RZ.out.lt
  have y0 := RZ.out.cell (i := 0) (by omega)
  have v0 := RZ.out.frozen 0
  have y1 := RZ.out.cell (i := 1) (by omega)
  have v1 := RZ.out.frozen 1
  have y2 := RZ.out.cell (i := 2) (by omega)
  have v2 := RZ.out.frozen 2
  have y3 := RZ.out.cell (i := 3) (by omega)
  have v3 := RZ.out.frozen 3
  go_wp2
  exact bodyPost_ret (v := .tuple #[.agg #[.slice c4 len cap4, .int .i64 (dnA len at' n), .string st, .int .i64 (dnC len ct n)], .slice d3 n cap3', .int .i64 0]) (by simp [results, Tryd.results42, go_sem, row4_s0 RZ.out (.slice c4 len cap4), row4_s1 RZ.out (.slice c4 len cap4) (.int .i64 (dnA len at' n)), row4_s2 RZ.out (.slice c4 len cap4) (.int .i64 (dnA len at' n)) (.string st), row4_s3 RZ.out (.slice c4 len cap4) (.int .i64 (dnA len at' n)) (.string st) (.int .i64 (dnC len ct n))]) rfl ⟨_, _, _, _, rfl, ((O4.out.chg (P := fun b => b = w.heap.size + 1) (chg4_set (Chg.refl (fun b => b = w.heap.size + 1) W6) (w.heap.size + 1) (fun _ => rfl) _ _ _ _) (fun b hb _ hp => (by have := s1.out; have := L0.out; have := s2.out; have := s3.out; have := s4.out; have := s5.out; have := s6.out; omega))).low (B' := w.heap.size) (by have := s1.out; have := L0.out; have := s2.out; have := s3.out; have := s4.out; have := s5.out; have := s6.out; omega)), D3.out.chg (P := fun b => b = w.heap.size + 1) (chg4_set (Chg.refl (fun b => b = w.heap.size + 1) W6) (w.heap.size + 1) (fun _ => rfl) _ _ _ _) (fun xb xo e _ hp => (by have := HB3.out xb xo e; have := s1.out; have := L0.out; have := s2.out; have := s3.out; have := s4.out; have := s5.out; have := s6.out; omega)), fun xb xo e => (by have := HB3.out xb xo e; have := s1.out; have := L0.out; have := s2.out; have := s3.out; have := s4.out; have := s5.out; have := s6.out; omega), chg4_set G.out _ (fun l => absurd l (by simp)) _ _ _ _⟩

end Go.Proofs.YtmnakafplpmphabDoor
