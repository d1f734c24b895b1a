/- What the model's two texts of one hash are: a contract. Conditions: rows that can be read. -/
import Derived.Test.YtabioonijjibnabDoorMrkC
import Derived.Test.YtabioonijjibnabDoorPair
import Derived.BigRegion
namespace Go.Proofs.YtabioonijjibnabDoor
open Go.ChangeShapes Go.WideShapes Go.ChangeAt Go.RowKit
set_option linter.unusedVariables false
set_option maxRecDepth 100000
set_option linter.unusedSimpArgs false

/-- The last place below k at which two rows of texts differ. -/
def dif (u v : Nat → ByteArray) : Nat → Option Nat
  | 0 => none
  | k + 1 => if (u k).toList = (v k).toList then dif u v k else some k
/-- The empty answer with a code. -/
def exn (c : Int) : Value := .tuple #[.agg #[es, es], .int .i64 c]
/-- The answer for two ways up that both lead to the root. -/
def exd (u v : Nat → ByteArray) : Option Nat → Value
  | none => exn 5
  | some k => .tuple #[.agg #[.string (u k), .string (v k)], .int .i64 0]
/-- Two texts of one hash, with the code. -/
def exv (r : ByteArray) (n i : Int) (ta : ByteArray) (da : Nat) (A : Nat → ByteArray) (tb : ByteArray) (db : Nat) (B : Nat → ByteArray) : Value :=
  if 65536 < r.size ∨ 65536 < ta.size ∨ 4096 < da ∨ 65536 < tb.size ∨ 4096 < db then exn 2
  else if akc r n i ta da = 0 then (if akc r n i tb db = 0 then (if ckb r n i.toNat ta da A = true then (if ckb r n i.toNat tb db B = true then exd (fun k => (upT i.toNat ta A k).1) (fun k => (upT i.toNat tb B k).1) (dif (fun k => (upT i.toNat ta A k).1) (fun k => (upT i.toNat tb B k).1) (da + 1)) else exn 9) else exn 9) else exn (akc r n i tb db)) else exn (akc r n i ta da)

theorem set_c0 {W : World} {g : Nat} {t : TypeId} {f : Nat → Value} (h : W.rowIs g t 2 f) (u : Value) : (W.setCell ⟨g, 0, none⟩ u).cell? ⟨g, 0, none⟩ = some u := by
  have := (h.set 0 u).cell (show 0 < 2 by omega); simpa using this
theorem pow_inj {a b : Nat} (h : 2 ^ a = 2 ^ b) : b = a := by
  rcases Nat.lt_trichotomy a b with q | q | q
  · have := Nat.pow_lt_pow_right (show 1 < 2 by omega) q; omega
  · exact q.symm
  · have := Nat.pow_lt_pow_right (show 1 < 2 by omega) q; omega
theorem ckb_ok {r : ByteArray} {n : Int} {i : Nat} {t : ByteArray} {d : Nat} {P : Nat → ByteArray} (h : ckb r n i t d P = true) (hp : pw n = true) : d ≤ 8 ∧ t.size ≤ 64 ∧ n = ((2 ^ d : Nat) : Int) ∧ ∀ k, k < d → (P k).size = 32 := by
  unfold ckb at h
  split at h
  · cases h
  · rename_i h1
    split at h
    · rename_i h2
      have e : n = ((2 ^ min 20 d : Nat) : Int) := Classical.byContradiction (fun q => h1 (.inr q))
      obtain ⟨j, hj, hn⟩ := pw_ex n hp
      have e1 : 2 ^ min 20 d = 2 ^ j := by rw [e] at hn; exact Int.ofNat.inj hn
      have e2 := pow_inj e1
      have hd : d ≤ 8 := by omega
      have hm : min 20 d = d := by omega
      rw [hm] at e
      exact ⟨hd, Classical.byContradiction (fun q => h1 (.inl (by omega))), e, h2⟩
    · cases h
section
variable {r : ByteArray} {n i : Int} {ta : ByteArray} {da : Nat} {A : Nat → ByteArray} {tb : ByteArray} {db : Nat} {B : Nat → ByteArray}
theorem exv_long (h : 65536 < r.size ∨ 65536 < ta.size ∨ 4096 < da ∨ 65536 < tb.size ∨ 4096 < db) : exv r n i ta da A tb db B = exn 2 := if_pos h
theorem exv_a (h : ¬ (65536 < r.size ∨ 65536 < ta.size ∨ 4096 < da ∨ 65536 < tb.size ∨ 4096 < db)) (h1 : ¬ akc r n i ta da = 0) : exv r n i ta da A tb db B = exn (akc r n i ta da) := by
  unfold exv; rw [if_neg h, if_neg h1]
theorem exv_b (h : ¬ (65536 < r.size ∨ 65536 < ta.size ∨ 4096 < da ∨ 65536 < tb.size ∨ 4096 < db)) (h1 : akc r n i ta da = 0) (h2 : ¬ akc r n i tb db = 0) : exv r n i ta da A tb db B = exn (akc r n i tb db) := by
  unfold exv; rw [if_neg h, if_pos h1, if_neg h2]
theorem exv_9 (h : ¬ (65536 < r.size ∨ 65536 < ta.size ∨ 4096 < da ∨ 65536 < tb.size ∨ 4096 < db)) (h1 : akc r n i ta da = 0) (h2 : akc r n i tb db = 0) (h3 : ckb r n i.toNat ta da A = false) : exv r n i ta da A tb db B = exn 9 := by
  unfold exv; rw [if_neg h, if_pos h1, if_pos h2, if_neg (by rw [h3]; decide)]
theorem exv_9' (h : ¬ (65536 < r.size ∨ 65536 < ta.size ∨ 4096 < da ∨ 65536 < tb.size ∨ 4096 < db)) (h1 : akc r n i ta da = 0) (h2 : akc r n i tb db = 0) (h3 : ckb r n i.toNat ta da A = true) (h4 : ckb r n i.toNat tb db B = false) : exv r n i ta da A tb db B = exn 9 := by
  unfold exv; rw [if_neg h, if_pos h1, if_pos h2, if_pos h3, if_neg (by rw [h4]; decide)]
theorem exv_ok (h : ¬ (65536 < r.size ∨ 65536 < ta.size ∨ 4096 < da ∨ 65536 < tb.size ∨ 4096 < db)) (h1 : akc r n i ta da = 0) (h2 : akc r n i tb db = 0) (h3 : ckb r n i.toNat ta da A = true) (h4 : ckb r n i.toNat tb db B = true) : exv r n i ta da A tb db B = exd (fun k => (upT i.toNat ta A k).1) (fun k => (upT i.toNat tb B k).1) (dif (fun k => (upT i.toNat ta A k).1) (fun k => (upT i.toNat tb B k).1) (da + 1)) := by
  unfold exv; rw [if_neg h, if_pos h1, if_pos h2, if_pos h3, if_pos h4]
end

set_option maxHeartbeats 4000000 in
theorem sExtract_any (r : ByteArray) (n i : Int) (ta : ByteArray) (ca : Option Addr) (da capa : Nat) (A : Nat → ByteArray) (tb : ByteArray) (cb : Option Addr) (db capb : Nat) (B : Nat → ByteArray) (w : World) (ha : Hid (RowV w ca da (sb A))) (hb : Hid (RowV w cb db (sb B))) (hza : Hid (∀ k, k < da → (A k).size ≤ 9223372036854775807)) (hzb : Hid (∀ k, k < db → (B k).size ≤ 9223372036854775807)) (hr : (r.size : Int) ≤ 9223372036854775807) (hta : (ta.size : Int) ≤ 9223372036854775807) (hda : (da : Int) ≤ 9223372036854775807) (htb : (tb.size : Int) ≤ 9223372036854775807) (hdb : (db : Int) ≤ 9223372036854775807) :
    Calls Tryd.prog 29 #[.string r, .int .i64 n, .int .i64 i, .string ta, .slice ca da capa, .string tb, .slice cb db capb] w fun e w' => e = .returned (exv r n i ta da A tb db B) ∧ Chg nob w w' := by
  by_cases h_rs : 65536 < (r.size : Int)
  · have E := hik (show exv r n i ta da A tb db B = exn 2 from exv_long (.inl (by omega)))
    go_enter Tryd.func29, Tryd.ntmps29
    go_wp2
    exact bodyPost_ret (v := exn 2) (by simp [results, Tryd.results29, go_sem, exn, es]) rfl ⟨by rw [E.out], (Chg.refl _ _).alloc _⟩
  by_cases h_as : 65536 < (ta.size : Int)
  · have E := hik (show exv r n i ta da A tb db B = exn 2 from exv_long (.inr (.inl (by omega))))
    go_enter Tryd.func29, Tryd.ntmps29
    go_wp2
    exact bodyPost_ret (v := exn 2) (by simp [results, Tryd.results29, go_sem, exn, es]) rfl ⟨by rw [E.out], (Chg.refl _ _).alloc _⟩
  by_cases h_da : 4096 < (da : Int)
  · have E := hik (show exv r n i ta da A tb db B = exn 2 from exv_long (.inr (.inr (.inl (by omega)))))
    go_enter Tryd.func29, Tryd.ntmps29
    go_wp2
    exact bodyPost_ret (v := exn 2) (by simp [results, Tryd.results29, go_sem, exn, es]) rfl ⟨by rw [E.out], (Chg.refl _ _).alloc _⟩
  by_cases h_bs : 65536 < (tb.size : Int)
  · have E := hik (show exv r n i ta da A tb db B = exn 2 from exv_long (.inr (.inr (.inr (.inl (by omega))))))
    go_enter Tryd.func29, Tryd.ntmps29
    go_wp2
    exact bodyPost_ret (v := exn 2) (by simp [results, Tryd.results29, go_sem, exn, es]) rfl ⟨by rw [E.out], (Chg.refl _ _).alloc _⟩
  by_cases h_db : 4096 < (db : Int)
  · have E := hik (show exv r n i ta da A tb db B = exn 2 from exv_long (.inr (.inr (.inr (.inr (by omega))))))
    go_enter Tryd.func29, Tryd.ntmps29
    go_wp2
    exact bodyPost_ret (v := exn 2) (by simp [results, Tryd.results29, go_sem, exn, es]) rfl ⟨by rw [E.out], (Chg.refl _ _).alloc _⟩
  have hz0 : ¬ (65536 < r.size ∨ 65536 < ta.size ∨ 4096 < da ∨ 65536 < tb.size ∨ 4096 < db) := by omega
  have HZ := hik hz0
  clear hz0
  by_cases h1 : akc r n i ta da = 0
  · by_cases h2 : akc r n i tb db = 0
    · obtain ⟨_, _, _, hp, i0, i1, _⟩ := akc_ok h1
      obtain ⟨m, rfl⟩ : ∃ m : Nat, i = (m : Int) := ⟨i.toNat, by omega⟩
      have H1 := hik h1
      have H2 := hik h2
      have hb1 : (akc r n m ta da != 0) = false := by simp [h1]
      have hb2 : (akc r n m tb db != 0) = false := by simp [h2]
      have HP := hik hp
      clear h1 h2 hp
      have hda' : da ≤ 4096 := by omega
      have hdb' : db ≤ 4096 := by omega
      have hm' : m < 256 := by omega
      cases h3 : ckb r n m ta da A
      · have E := hik (show exv r n m ta da A tb db B = exn 9 from exv_9 HZ.out H1.out H2.out (by rw [Int.toNat_natCast]; exact h3))
        go_enter Tryd.func29, Tryd.ntmps29
        go_wp2_with ((go_at_call 68; refine (sAsk_any _ _ _ _ _ _ _ _ (by with_reducible assumption) (by with_reducible assumption) (by with_reducible assumption)).mono ?_; rintro e W1 ⟨rfl, hw⟩; have hw := hw.symm; subst hw))
        refine (sCheck_any r n m ta ca da capa A _ (hik (ha.out.keep ((Chg.refl nob w).alloc (.cells #[es, es] 41)))) hza hta hda' HP.out hm').mono ?_
        rintro e W1 ⟨he, k1⟩
        rw [h3] at he
        subst he
        have G1 := hik (((Chg.refl nob w).alloc (.cells #[es, es] 41)).trans k1)
        have R1 := hik (rowIs_keep (row2_new w es es 41) k1)
        clear k1
        have x0 := row2_c0 R1.out
        have x1 := row2_c1 R1.out
        have f0 := R1.out.frozen 0
        have f1 := R1.out.frozen 1
        go_wp2
        exact bodyPost_ret (v := exn 9) (by simp [results, Tryd.results29, go_sem, exn, es, set_c0 R1.out (.string ⟨#[]⟩), row2_c1 (row2_set R1.out (.string ⟨#[]⟩) (.string ⟨#[]⟩))]) rfl ⟨by rw [E.out], chg2_set G1.out _ (fun l => absurd l (by simp)) _ _⟩
      · cases h4 : ckb r n m tb db B
        · have E := hik (show exv r n m ta da A tb db B = exn 9 from exv_9' HZ.out H1.out H2.out (by rw [Int.toNat_natCast]; exact h3) (by rw [Int.toNat_natCast]; exact h4))
          go_enter Tryd.func29, Tryd.ntmps29
          go_wp2_with ((go_at_call 68; refine (sAsk_any _ _ _ _ _ _ _ _ (by with_reducible assumption) (by with_reducible assumption) (by with_reducible assumption)).mono ?_; rintro e W1 ⟨rfl, hw⟩; have hw := hw.symm; subst hw))
          refine (sCheck_any r n m ta ca da capa A _ (hik (ha.out.keep ((Chg.refl nob w).alloc (.cells #[es, es] 41)))) hza hta hda' HP.out hm').mono ?_
          rintro e W1 ⟨he, k1⟩
          rw [h3] at he
          subst he
          have G1 := hik (((Chg.refl nob w).alloc (.cells #[es, es] 41)).trans k1)
          have R1 := hik (rowIs_keep (row2_new w es es 41) k1)
          clear k1
          go_wp2_with fail
          refine (sCheck_any r n m tb cb db capb B _ (hik (hb.out.keep (G1.out))) hzb htb hdb' HP.out hm').mono ?_
          rintro e W2 ⟨he, k2⟩
          rw [h4] at he
          subst he
          have G2 := hik ((G1.out).trans k2)
          have R2 := hik (rowIs_keep R1.out k2)
          clear k2
          have x0 := row2_c0 R2.out
          have x1 := row2_c1 R2.out
          have f0 := R2.out.frozen 0
          have f1 := R2.out.frozen 1
          go_wp2
          exact bodyPost_ret (v := exn 9) (by simp [results, Tryd.results29, go_sem, exn, es, set_c0 R2.out (.string ⟨#[]⟩), row2_c1 (row2_set R2.out (.string ⟨#[]⟩) (.string ⟨#[]⟩))]) rfl ⟨by rw [E.out], chg2_set G2.out _ (fun l => absurd l (by simp)) _ _⟩
        · obtain ⟨U, hU⟩ : ∃ U : Nat → ByteArray, U = fun k => (upT m ta A k).1 := ⟨_, rfl⟩
          obtain ⟨V, hV⟩ : ∃ V : Nat → ByteArray, V = fun k => (upT m tb B k).1 := ⟨_, rfl⟩
          have E := hik (show exv r n m ta da A tb db B = exd U V (dif U V (da + 1)) by
            rw [exv_ok HZ.out H1.out H2.out (by rw [Int.toNat_natCast]; exact h3) (by rw [Int.toNat_natCast]; exact h4), Int.toNat_natCast, hU, hV])
          obtain ⟨a8, a64, an, a32⟩ := ckb_ok h3 HP.out
          obtain ⟨b8, b64, bn, b32⟩ := ckb_ok h4 HP.out
          have hdd : db = da := pow_inj (by rw [an] at bn; exact Int.ofNat.inj bn)
          have HDD := hik hdd
          have hdb20 : db ≤ 20 := by omega
          clear hdd
          have hda20 : da ≤ 20 := by omega
          have hta' : ta.size ≤ 65535 := by omega
          have htb' : tb.size ≤ 65535 := by omega
          have SA := hik a32
          have SB := hik b32
          have HU := hik hU
          have HV := hik hV
          clear a32 b32 an bn hU hV
          go_enter Tryd.func29, Tryd.ntmps29
          go_wp2_with ((go_at_call 68; refine (sAsk_any _ _ _ _ _ _ _ _ (by with_reducible assumption) (by with_reducible assumption) (by with_reducible assumption)).mono ?_; rintro e W1 ⟨rfl, hw⟩; have hw := hw.symm; subst hw))
          refine (sCheck_any r n m ta ca da capa A _ (hik (ha.out.keep ((Chg.refl nob w).alloc (.cells #[es, es] 41)))) hza hta hda' HP.out hm').mono ?_
          rintro e W1 ⟨he, k1⟩
          rw [h3] at he
          subst he
          have G1 := hik (((Chg.refl nob w).alloc (.cells #[es, es] 41)).trans k1)
          have R1 := hik (rowIs_keep (row2_new w es es 41) k1)
          clear k1
          go_wp2_with fail
          refine (sCheck_any r n m tb cb db capb B _ (hik (hb.out.keep (G1.out))) hzb htb hdb' HP.out hm').mono ?_
          rintro e W2 ⟨he, k2⟩
          rw [h4] at he
          subst he
          have G2 := hik ((G1.out).trans k2)
          have R2 := hik (rowIs_keep R1.out k2)
          clear k2
          go_wp2_with fail
          refine (sUp_any m ta ca da capa A _ (hik (ha.out.keep G2.out)) SA hda20 hm' hta').mono ?_
          rintro e W3 ⟨v3, rfl, o3, k3⟩
          obtain ⟨b3, cp3, rfl, hb3, hbl3, hv3⟩ := rowV_of_owns o3 (Nat.succ_pos _)
          have V3 := hik hv3
          have G3 := hik ((G2.out).trans k3)
          have R3 := hik (rowIs_keep R2.out k3)
          clear o3 k3 hv3
          go_wp2_with fail
          refine (sUp_any m tb cb db capb B _ (hik (hb.out.keep G3.out)) SB hdb20 hm' htb').mono ?_
          rintro e W4 ⟨v4, rfl, o4, k4⟩
          obtain ⟨b4, cp4, rfl, hb4, hbl4, hv4⟩ := rowV_of_owns o4 (Nat.succ_pos _)
          have V4 := hik hv4
          have G4 := hik ((G3.out).trans k4)
          have R4 := hik (rowIs_keep R3.out k4)
          have V5 := hik (V3.out.keep k4)
          clear o4 k4 hv4 G1 G2 G3 R1 R2 R3 V3
          have V6 : Hid (RowV W4 (some ⟨b3, 0, none⟩) (da + 1) (sb U)) := hik (by rw [HU.out]; exact V5.out)
          have V7 : Hid (RowV W4 (some ⟨b4, 0, none⟩) (db + 1) (sb V)) := hik (by rw [HV.out]; exact V4.out)
          clear V5 V4
          have HS := hik (show w.heap.size < W4.heap.size from R4.out.lt)
          go_wp2
          go_loopw [22] (fun v W => ∃ (k : Nat) (z : Int), k ≤ da + 1 ∧ v = .int .i64 z ∧ Hid (z = (k : Int) - 1) ∧ Hid (dif U V (da + 1) = dif U V k) ∧ Hid (RowV W (some ⟨b3, 0, none⟩) (da + 1) (sb U)) ∧ Hid (RowV W (some ⟨b4, 0, none⟩) (db + 1) (sb V)) ∧ Hid (W.rowIs w.heap.size 41 2 (pv2 es es)) ∧ Hid (Chg nob w W)) (fun v _ => (intOf v + 1).toNat)
          case atStart => exact ⟨da + 1, _, Nat.le_refl _, rfl, hik (by simp), hik rfl, V6, V7, R4, G4⟩
          case round =>
            clear V6 V7 R4 G4
            obtain ⟨k, z, hk, rfl, HZK, HD, VA, VB, HR, HG⟩ := hrel
            match k, hk, HZK, HD with
            | 0, hk, HZK, HD =>
              obtain rfl : z = -1 := by have := HZK.out; omega
              have x0 := row2_c0 HR.out
              have x1 := row2_c1 HR.out
              have f0 := HR.out.frozen 0
              have f1 := HR.out.frozen 1
              go_wp2
              exact bodyPost_ret (v := exn 5) (by simp [results, Tryd.results29, go_sem, exn, es, set_c0 HR.out (.string ⟨#[]⟩), row2_c1 (row2_set HR.out (.string ⟨#[]⟩) (.string ⟨#[]⟩))]) rfl ⟨by rw [E.out, HD.out]; rfl, chg2_set HG.out _ (fun l => absurd l (by simp)) _ _⟩
            | j + 1, hk, HZK, HD =>
              obtain rfl : z = (j : Int) := by have := HZK.out; omega
              have ya : wr.cell? ⟨b3, j, none⟩ = some (.string (U j)) := by
                obtain ⟨xb, xo, e, _, hc⟩ := VA.out j (by omega)
                obtain ⟨rfl, rfl⟩ : b3 = xb ∧ 0 = xo := by simpa using e
                rw [Nat.zero_add] at hc; exact hc
              have yb : wr.cell? ⟨b4, j, none⟩ = some (.string (V j)) := by
                obtain ⟨xb, xo, e, _, hc⟩ := VB.out j (by have := HDD.out; omega)
                obtain ⟨rfl, rfl⟩ : b4 = xb ∧ 0 = xo := by simpa using e
                rw [Nat.zero_add] at hc; exact hc
              have j1 : (j : Int) < (da : Int) + 1 := by omega
              have j2 : (j : Int) < (db : Int) + 1 := by have := HDD.out; omega
              by_cases hq : (U j).toList = (V j).toList
              · have HD2 := hik (show dif U V (da + 1) = dif U V j by rw [HD.out, dif, if_pos hq])
                go_wp2
                go_quiet (fail)
                go_wp2
                go_roundw
                case rel => exact ⟨j, _, by omega, rfl, hik (by simp), HD2, hik (VA.out.keep ((Chg.refl _ _).drewN _)), hik (VB.out.keep ((Chg.refl _ _).drewN _)), hik (rowIs_keep HR.out ((Chg.refl _ _).drewN _)), hik (HG.out.drewN _)⟩
                case measure => simp [intOf]
              · have HD2 := hik (show dif U V (da + 1) = some j by rw [HD.out, dif, if_neg hq])
                have hq' : ((U j).toList == (V j).toList) = false := by simpa using hq
                clear hq
                have x0 := row2_c0 HR.out
                have x1 := row2_c1 HR.out
                have f0 := HR.out.frozen 0
                have f1 := HR.out.frozen 1
                go_wp2
                go_quiet (fail)
                set_option maxRecDepth 100000 in go_wp2
                set_option maxRecDepth 100000 in go_region
                have HR2 := hik (rowIs_keep HR.out ((Chg.refl nob wr).drewN (nq + 1)))
                set_option maxRecDepth 100000 in go_wp2
                exact bodyPost_ret (v := exd U V (some j)) (by simp [results, Tryd.results29, go_sem, exd, set_c0 HR2.out (.string (U j)), row2_c1 (row2_set HR2.out (.string (U j)) (.string (V j)))]) rfl ⟨by rw [E.out, HD2.out], chg2_set (HG.out.drewN _) _ (fun l => absurd l (by simp)) _ _⟩
    · have E := hik (show exv r n i ta da A tb db B = exn (akc r n i tb db) from exv_b HZ.out h1 h2)
      have hb1 : (akc r n i ta da != 0) = false := by simp [h1]
      have hb2 : (akc r n i tb db != 0) = true := by simpa using h2
      clear h1 h2
      go_enter Tryd.func29, Tryd.ntmps29
      go_wp2_with ((go_at_call 68; refine (sAsk_any _ _ _ _ _ _ _ _ (by with_reducible assumption) (by with_reducible assumption) (by with_reducible assumption)).mono ?_; rintro e W1 ⟨rfl, hw⟩; have hw := hw.symm; subst hw))
      exact bodyPost_ret (v := exn (akc r n i tb db)) (by simp [results, Tryd.results29, go_sem, exn, es]) rfl ⟨by rw [E.out], (Chg.refl _ _).alloc _⟩
  · have E := hik (show exv r n i ta da A tb db B = exn (akc r n i ta da) from exv_a HZ.out h1)
    have hb1 : (akc r n i ta da != 0) = true := by simpa using h1
    clear h1
    go_enter Tryd.func29, Tryd.ntmps29
    go_wp2_with ((go_at_call 68; refine (sAsk_any _ _ _ _ _ _ _ _ (by with_reducible assumption) (by with_reducible assumption) (by with_reducible assumption)).mono ?_; rintro e W1 ⟨rfl, hw⟩; have hw := hw.symm; subst hw))
    exact bodyPost_ret (v := exn (akc r n i ta da)) (by simp [results, Tryd.results29, go_sem, exn, es]) rfl ⟨by rw [E.out], (Chg.refl _ _).alloc _⟩
end Go.Proofs.YtabioonijjibnabDoor
