/- What the program's two texts of one hash are: contracts. Conditions: rows that can be read; the tables hold the shifts and the rounds' constants. -/
import Derived.Test.YtabioonijjibnabDoorIplU
import Derived.Test.YtabioonijjibnabDoorMrkX
namespace Go.Proofs.YtabioonijjibnabDoor
open Go.ChangeShapes Go.WideShapes Go.ChangeAt Go.RowKit
set_option linter.unusedVariables false
set_option maxRecDepth 100000
set_option linter.unusedSimpArgs false

theorem rowV_own {w : World} {B n g cap : Nat} {t : TypeId} {h : Nat → Value} (ho : w.ownsRow B t 1 (.slice (some ⟨g, 0, none⟩) n cap) n ((List.range n).map h)) (hn : 0 < n) : RowV w (some ⟨g, 0, none⟩) n h := by
  obtain ⟨b, c, e, _, _, hv⟩ := rowV_of_owns ho hn
  obtain ⟨rfl, _⟩ : g = b ∧ cap = c := by simpa using e
  exact hv

set_option maxHeartbeats 4000000 in
theorem lastDifferent_any (b3 c3 b4 c4 n : Nat) (U V : Nat → ByteArray) (w : World) (hU : Hid (RowV w (some ⟨b3, 0, none⟩) n (sb U))) (hV : Hid (RowV w (some ⟨b4, 0, none⟩) n (sb V))) (hn : n ≤ 256) :
    Calls Tryd.prog 74 #[.slice (some ⟨b3, 0, none⟩) n c3, .slice (some ⟨b4, 0, none⟩) n c4] w fun e w' => e = .returned (exd U V (dif U V n)) ∧ Chg nob w w' := by
  have v1 : IntKind.i64.wrap ((n : Int) - 1) = (n : Int) - 1 := by rw [IntKind.wrap_i64]; omega
  go_enter Tryd.func74, Tryd.ntmps74
  go_wp2
  go_loopw [6] (fun v W => ∃ (k : Nat) (z : Int), k ≤ n ∧ v = .int .i64 z ∧ Hid (z = (k : Int) - 1) ∧ Hid (dif U V n = dif U V k) ∧ Hid (W.rowIs w.heap.size 41 2 (pv2 es es)) ∧ Hid (Chg nob w W)) (fun v _ => (intOf v + 1).toNat)
  case atStart => exact ⟨n, _, Nat.le_refl _, rfl, hik rfl, hik rfl, hik (row2_new w es es 41), hik ((Chg.refl _ _).alloc _)⟩
  case round =>
    obtain ⟨k, z, hk, rfl, HZK, HD, HR, HG⟩ := hrel
    match k, hk, HZK, HD with
    | 0, hk, HZK, HD =>
      obtain rfl : z = -1 := by have := HZK.out; omega
      have x0 := row2_c0 HR.out
      have x1 := row2_c1 HR.out
      have f0 := HR.out.frozen 0
      have f1 := HR.out.frozen 1
      go_wp2
      exact bodyPost_ret (v := exn 5) (by simp [results, Tryd.results74, go_sem, exn, es, set_c0 HR.out (.string ⟨#[]⟩), row2_c1 (row2_set HR.out (.string ⟨#[]⟩) (.string ⟨#[]⟩))]) rfl ⟨by rw [HD.out]; rfl, chg2_set HG.out _ (fun l => absurd l (by simp)) _ _⟩
    | j + 1, hk, HZK, HD =>
      obtain rfl : z = (j : Int) := by have := HZK.out; omega
      have ya : wr.cell? ⟨b3, j, none⟩ = some (.string (U j)) := by
        obtain ⟨xb, xo, e, _, hc⟩ := (hU.out.keep HG.out) j (by omega)
        obtain ⟨rfl, rfl⟩ : b3 = xb ∧ 0 = xo := by simpa using e
        rw [Nat.zero_add] at hc; exact hc
      have yb : wr.cell? ⟨b4, j, none⟩ = some (.string (V j)) := by
        obtain ⟨xb, xo, e, _, hc⟩ := (hV.out.keep HG.out) j (by omega)
        obtain ⟨rfl, rfl⟩ : b4 = xb ∧ 0 = xo := by simpa using e
        rw [Nat.zero_add] at hc; exact hc
      have j1 : (j : Int) < (n : Int) := by omega
      by_cases hq : (U j).toList = (V j).toList
      · have HD2 := hik (show dif U V n = dif U V j by rw [HD.out, dif, if_pos hq])
        go_wp2
        go_quiet (fail)
        go_wp2
        go_roundw
        case rel => exact ⟨j, _, by omega, rfl, hik (by simp), HD2, hik (rowIs_keep HR.out ((Chg.refl _ _).drewN _)), hik (HG.out.drewN _)⟩
        case measure => simp [intOf]
      · have HD2 := hik (show dif U V n = some j by rw [HD.out, dif, if_neg hq])
        have hq' : ((U j).toList == (V j).toList) = false := by simpa using hq
        clear hq
        have x0 := row2_c0 HR.out
        have x1 := row2_c1 HR.out
        have f0 := HR.out.frozen 0
        have f1 := HR.out.frozen 1
        go_wp2
        go_quiet (fail)
        set_option maxRecDepth 100000 in go_wp2
        set_option maxRecDepth 100000 in go_region
        have HR2 := hik (rowIs_keep HR.out ((Chg.refl nob wr).drewN (nq + 1)))
        set_option maxRecDepth 100000 in go_wp2
        exact bodyPost_ret (v := exd U V (some j)) (by simp [results, Tryd.results74, go_sem, exd, set_c0 HR2.out (.string (U j)), row2_c1 (row2_set HR2.out (.string (U j)) (.string (V j)))]) rfl ⟨by rw [HD2.out], chg2_set (HG.out.drewN _) _ (fun l => absurd l (by simp)) _ _⟩

set_option maxHeartbeats 4000000 in
theorem extract_any (r : ByteArray) (n i : Int) (ta : ByteArray) (ca : Option Addr) (da capa : Nat) (A : Nat → ByteArray) (tb : ByteArray) (cb : Option Addr) (db capb : Nat) (B : Nat → ByteArray) (w : World) (ha : Hid (RowV w ca da (sb A))) (hb : Hid (RowV w cb db (sb B))) (hza : Hid (∀ k, k < da → (A k).size ≤ 9223372036854775807)) (hzb : Hid (∀ k, k < db → (B k).size ≤ 9223372036854775807)) (hr : (r.size : Int) ≤ 9223372036854775807) (hta : (ta.size : Int) ≤ 9223372036854775807) (hda : (da : Int) ≤ 9223372036854775807) (htb : (tb.size : Int) ≤ 9223372036854775807) (hdb : (db : Int) ≤ 9223372036854775807) (hT : Hid (Tabs w)) :
    Calls Tryd.prog 27 #[.string r, .int .i64 n, .int .i64 i, .string ta, .slice ca da capa, .string tb, .slice cb db capb] w fun e w' => e = .returned (exv r n i ta da A tb db B) ∧ Chg nob w w' := by
  by_cases h_rs : 65536 < (r.size : Int)
  · have E := hik (show exv r n i ta da A tb db B = exn 2 from exv_long (.inl (by omega)))
    go_enter Tryd.func27, Tryd.ntmps27
    go_wp2
    exact bodyPost_ret (v := exn 2) (by simp [results, Tryd.results27, go_sem, exn, es]) rfl ⟨by rw [E.out], (Chg.refl _ _).alloc _⟩
  have WA := fun W => wayTooLong_any ta ca da capa W hta hda
  by_cases h_a : 65536 < ta.size ∨ 4096 < da
  · have E := hik (show exv r n i ta da A tb db B = exn 2 from exv_long (by omega))
    have e : wtl ta da = true := decide_eq_true h_a
    rw [e] at WA
    clear h_a e
    go_enter Tryd.func27, Tryd.ntmps27
    go_wp2_with fail
    refine (WA _).mono ?_
    rintro e W1 ⟨rfl, hw⟩
    subst hw
    go_wp2
    exact bodyPost_ret (v := exn 2) (by simp [results, Tryd.results27, go_sem, exn, es]) rfl ⟨by rw [E.out], (Chg.refl _ _).alloc _⟩
  rw [show wtl ta da = false from decide_eq_false h_a] at WA
  have WB := fun W => wayTooLong_any tb cb db capb W htb hdb
  by_cases h_b : 65536 < tb.size ∨ 4096 < db
  · have E := hik (show exv r n i ta da A tb db B = exn 2 from exv_long (by omega))
    have e : wtl tb db = true := decide_eq_true h_b
    rw [e] at WB
    clear h_a h_b e
    go_enter Tryd.func27, Tryd.ntmps27
    go_wp2_with fail
    refine (WA _).mono ?_
    rintro e W1 ⟨rfl, hw⟩
    subst hw
    go_wp2_with fail
    refine (WB _).mono ?_
    rintro e W1 ⟨rfl, hw⟩
    subst hw
    go_wp2
    exact bodyPost_ret (v := exn 2) (by simp [results, Tryd.results27, go_sem, exn, es]) rfl ⟨by rw [E.out], (Chg.refl _ _).alloc _⟩
  rw [show wtl tb db = false from decide_eq_false h_b] at WB
  have hz0 : ¬ (65536 < r.size ∨ 65536 < ta.size ∨ 4096 < da ∨ 65536 < tb.size ∨ 4096 < db) := by omega
  have HZ := hik hz0
  have hA : akc r n i ta da = plc n i := akc_plc (by omega)
  have hB : akc r n i tb db = plc n i := akc_plc (by omega)
  clear hz0 h_a h_b
  by_cases h1 : plc n i = 0
  · have H1 := hik (hA.trans h1)
    have H2 := hik (hB.trans h1)
    obtain ⟨_, _, _, hp, i0, i1, _⟩ := akc_ok H1.out
    obtain ⟨m, rfl⟩ : ∃ m : Nat, i = (m : Int) := ⟨i.toNat, by omega⟩
    have hb1 : (plc n m != 0) = false := by simp [h1]
    have hda' : da ≤ 4096 := by have := HZ.out; omega
    have hdb' : db ≤ 4096 := by have := HZ.out; omega
    have HP := hik hp
    have hm' : m < 256 := by omega
    clear h1 hA hB hp
    cases h3 : ckb r n m ta da A
    · have E := hik (show exv r n m ta da A tb db B = exn 9 from exv_9 HZ.out H1.out H2.out (by rw [Int.toNat_natCast]; exact h3))
      go_enter Tryd.func27, Tryd.ntmps27
      go_wp2_with fail
      refine (WA _).mono ?_
      rintro e W1 ⟨rfl, hw⟩
      subst hw
      go_wp2_with fail
      refine (WB _).mono ?_
      rintro e W1 ⟨rfl, hw⟩
      subst hw
      go_wp2_with fail
      refine (placeCode_any _ _ _).mono ?_
      rintro e W1 ⟨rfl, hw⟩
      subst hw
      go_wp2_with fail
      refine (leadsUp_any r n m ta ca da capa A _ (hik (ha.out.keep ((Chg.refl nob w).alloc (.cells #[es, es] 41)))) hza hta hda' HP.out hm' (hik (hT.out.keep ((Chg.refl nob w).alloc (.cells #[es, es] 41))))).mono ?_
      rintro e W1 ⟨he, k1⟩
      rw [h3] at he
      subst he
      have G1 := hik (((Chg.refl nob w).alloc (.cells #[es, es] 41)).trans k1)
      have R1 := hik (rowIs_keep (row2_new w es es 41) k1)
      clear k1
      have x0 := row2_c0 R1.out
      have x1 := row2_c1 R1.out
      have f0 := R1.out.frozen 0
      have f1 := R1.out.frozen 1
      go_wp2
      exact bodyPost_ret (v := exn 9) (by simp [results, Tryd.results27, go_sem, exn, es, set_c0 R1.out (.string ⟨#[]⟩), row2_c1 (row2_set R1.out (.string ⟨#[]⟩) (.string ⟨#[]⟩))]) rfl ⟨by rw [E.out], chg2_set G1.out _ (fun l => absurd l (by simp)) _ _⟩
    · cases h4 : ckb r n m tb db B
      · have E := hik (show exv r n m ta da A tb db B = exn 9 from exv_9' HZ.out H1.out H2.out (by rw [Int.toNat_natCast]; exact h3) (by rw [Int.toNat_natCast]; exact h4))
        go_enter Tryd.func27, Tryd.ntmps27
        go_wp2_with fail
        refine (WA _).mono ?_
        rintro e W1 ⟨rfl, hw⟩
        subst hw
        go_wp2_with fail
        refine (WB _).mono ?_
        rintro e W1 ⟨rfl, hw⟩
        subst hw
        go_wp2_with fail
        refine (placeCode_any _ _ _).mono ?_
        rintro e W1 ⟨rfl, hw⟩
        subst hw
        go_wp2_with fail
        refine (leadsUp_any r n m ta ca da capa A _ (hik (ha.out.keep ((Chg.refl nob w).alloc (.cells #[es, es] 41)))) hza hta hda' HP.out hm' (hik (hT.out.keep ((Chg.refl nob w).alloc (.cells #[es, es] 41))))).mono ?_
        rintro e W1 ⟨he, k1⟩
        rw [h3] at he
        subst he
        have G1 := hik (((Chg.refl nob w).alloc (.cells #[es, es] 41)).trans k1)
        have R1 := hik (rowIs_keep (row2_new w es es 41) k1)
        clear k1
        go_wp2_with fail
        refine (leadsUp_any r n m tb cb db capb B _ (hik (hb.out.keep (G1.out))) hzb htb hdb' HP.out hm' (hik (hT.out.keep G1.out))).mono ?_
        rintro e W2 ⟨he, k2⟩
        rw [h4] at he
        subst he
        have G2 := hik ((G1.out).trans k2)
        have R2 := hik (rowIs_keep R1.out k2)
        clear k2
        have x0 := row2_c0 R2.out
        have x1 := row2_c1 R2.out
        have f0 := R2.out.frozen 0
        have f1 := R2.out.frozen 1
        go_wp2
        exact bodyPost_ret (v := exn 9) (by simp [results, Tryd.results27, go_sem, exn, es, set_c0 R2.out (.string ⟨#[]⟩), row2_c1 (row2_set R2.out (.string ⟨#[]⟩) (.string ⟨#[]⟩))]) rfl ⟨by rw [E.out], chg2_set G2.out _ (fun l => absurd l (by simp)) _ _⟩
      · obtain ⟨U, hU⟩ : ∃ U : Nat → ByteArray, U = fun k => (upT m ta A k).1 := ⟨_, rfl⟩
        obtain ⟨V, hV⟩ : ∃ V : Nat → ByteArray, V = fun k => (upT m tb B k).1 := ⟨_, rfl⟩
        have E := hik (show exv r n m ta da A tb db B = exd U V (dif U V (da + 1)) by
          rw [exv_ok HZ.out H1.out H2.out (by rw [Int.toNat_natCast]; exact h3) (by rw [Int.toNat_natCast]; exact h4), Int.toNat_natCast, hU, hV])
        obtain ⟨a8, a64, an, a32⟩ := ckb_ok h3 HP.out
        obtain ⟨b8, b64, bn, b32⟩ := ckb_ok h4 HP.out
        have hdd : db = da := pow_inj (by rw [an] at bn; exact Int.ofNat.inj bn)
        have HDD := hik hdd
        clear hdd
        have SA := hik a32
        have SB := hik b32
        have HU := hik hU
        have HV := hik hV
        clear a32 b32 an bn hU hV
        go_enter Tryd.func27, Tryd.ntmps27
        go_wp2_with fail
        refine (WA _).mono ?_
        rintro e W1 ⟨rfl, hw⟩
        subst hw
        go_wp2_with fail
        refine (WB _).mono ?_
        rintro e W1 ⟨rfl, hw⟩
        subst hw
        go_wp2_with fail
        refine (placeCode_any _ _ _).mono ?_
        rintro e W1 ⟨rfl, hw⟩
        subst hw
        go_wp2_with fail
        refine (leadsUp_any r n m ta ca da capa A _ (hik (ha.out.keep ((Chg.refl nob w).alloc (.cells #[es, es] 41)))) hza hta hda' HP.out hm' (hik (hT.out.keep ((Chg.refl nob w).alloc (.cells #[es, es] 41))))).mono ?_
        rintro e W1 ⟨he, k1⟩
        rw [h3] at he
        subst he
        have G1 := hik (((Chg.refl nob w).alloc (.cells #[es, es] 41)).trans k1)
        have R1 := hik (rowIs_keep (row2_new w es es 41) k1)
        clear k1
        go_wp2_with fail
        refine (leadsUp_any r n m tb cb db capb B _ (hik (hb.out.keep (G1.out))) hzb htb hdb' HP.out hm' (hik (hT.out.keep G1.out))).mono ?_
        rintro e W2 ⟨he, k2⟩
        rw [h4] at he
        subst he
        have G2 := hik ((G1.out).trans k2)
        have R2 := hik (rowIs_keep R1.out k2)
        clear k2
        go_wp2_with fail
        refine (textsUp_any m ta ca da capa A _ (hik (ha.out.keep G2.out)) SA a8 hm' a64 (hik (hT.out.keep G2.out))).mono ?_
        rintro e W3 ⟨b3, cp3, rfl, o3, k3⟩
        have V3 := hik (rowV_own o3 (Nat.succ_pos _))
        have G3 := hik ((G2.out).trans k3)
        have R3 := hik (rowIs_keep R2.out k3)
        clear o3 k3
        go_wp2_with fail
        refine (textsUp_any m tb cb db capb B _ (hik (hb.out.keep G3.out)) SB b8 hm' b64 (hik (hT.out.keep G3.out))).mono ?_
        rintro e W4 ⟨b4, cp4, rfl, o4, k4⟩
        have V4 := hik (rowV_own o4 (Nat.succ_pos _))
        have G4 := hik ((G3.out).trans k4)
        have R4 := hik (rowIs_keep R3.out k4)
        have V5 := hik (V3.out.keep k4)
        clear o4 k4 V3 G1 G2 G3 R1 R2 R3
        have V6 : Hid (RowV W4 (some ⟨b3, 0, none⟩) (da + 1) (sb U)) := hik (by rw [HU.out]; exact V5.out)
        have V7 : Hid (RowV W4 (some ⟨b4, 0, none⟩) (da + 1) (sb V)) := hik (by rw [HV.out, ← HDD.out]; exact V4.out)
        clear V5 V4
        have hdd := HDD.out.symm
        subst hdd
        go_wp2_with fail
        refine (lastDifferent_any b3 cp3 b4 cp4 (da + 1) U V _ V6 V7 (by omega)).mono ?_
        rintro e W5 ⟨he, k5⟩
        cases hdf : dif U V (da + 1)
        · rw [hdf] at he
          have he : e = .returned (.tuple #[.agg #[.string ⟨#[]⟩, .string ⟨#[]⟩], .int .i64 5]) := he
          subst he
          have G5 := hik ((G4.out).trans k5)
          have R5 := hik (rowIs_keep R4.out k5)
          clear k5
          have x0 := row2_c0 R5.out
          have x1 := row2_c1 R5.out
          have f0 := R5.out.frozen 0
          have f1 := R5.out.frozen 1
          go_wp2
          exact bodyPost_ret (v := .tuple #[.agg #[.string ⟨#[]⟩, .string ⟨#[]⟩], .int .i64 5]) (by simp [results, Tryd.results27, go_sem, set_c0 R5.out (.string ⟨#[]⟩), row2_c1 (row2_set R5.out (.string ⟨#[]⟩) (.string ⟨#[]⟩))]) rfl ⟨by rw [E.out, hdf]; rfl, chg2_set G5.out _ (fun l => absurd l (by simp)) _ _⟩
        · rename_i j
          rw [hdf] at he
          have he : e = .returned (.tuple #[.agg #[.string (U j), .string (V j)], .int .i64 0]) := he
          subst he
          have G5 := hik ((G4.out).trans k5)
          have R5 := hik (rowIs_keep R4.out k5)
          clear k5
          have x0 := row2_c0 R5.out
          have x1 := row2_c1 R5.out
          have f0 := R5.out.frozen 0
          have f1 := R5.out.frozen 1
          go_wp2
          exact bodyPost_ret (v := .tuple #[.agg #[.string (U j), .string (V j)], .int .i64 0]) (by simp [results, Tryd.results27, go_sem, set_c0 R5.out (.string (U j)), row2_c1 (row2_set R5.out (.string (U j)) (.string (V j)))]) rfl ⟨by rw [E.out, hdf]; rfl, chg2_set G5.out _ (fun l => absurd l (by simp)) _ _⟩
  · have E := hik (show exv r n i ta da A tb db B = exn (plc n i) by rw [exv_a HZ.out (by rw [hA]; exact h1), hA])
    have hb1 : (plc n i != 0) = true := by simpa using h1
    clear h1 hA hB
    go_enter Tryd.func27, Tryd.ntmps27
    go_wp2_with fail
    refine (WA _).mono ?_
    rintro e W1 ⟨rfl, hw⟩
    subst hw
    go_wp2_with fail
    refine (WB _).mono ?_
    rintro e W1 ⟨rfl, hw⟩
    subst hw
    go_wp2_with fail
    refine (placeCode_any _ _ _).mono ?_
    rintro e W1 ⟨rfl, hw⟩
    subst hw
    go_wp2
    exact bodyPost_ret (v := exn (plc n i)) (by simp [results, Tryd.results27, go_sem, exn, es]) rfl ⟨by rw [E.out], (Chg.refl _ _).alloc _⟩
end Go.Proofs.YtabioonijjibnabDoor
