/- Whether a nonce does, and the least one that does, by the program: contracts. Conditions: rows that can be read, the tables hold the shifts and the rounds' constants. -/
import Derived.Test.YtmnakafplpmphabDoorIpsT
import Derived.Test.YtmnakafplpmphabDoorBdf
import Derived.Test.YtmnakafplpmphabDoorBdd
import Derived.Deep.QuietTactic
import Derived.BigQuiet
namespace Go.Proofs.YtmnakafplpmphabDoor
open Go.ChangeShapes Go.WideShapes Go.ChangeAt Go.RowKit
set_option linter.unusedVariables false
set_option maxRecDepth 100000
set_option linter.unusedSimpArgs false

/-- The bytes of a text of 32, and where they lie. -/
def HshV (w : World) (h : ByteArray) (v : Value) (W : World) : Prop := ∃ (b cap : Nat), v = .slice (some ⟨b, 0, none⟩) 32 cap ∧ 32 ≤ cap ∧ (cap : Int) ≤ 9223372036854775807 ∧ (∀ j, j < 32 → W.cell? ⟨b, j, none⟩ = some (.int .u8 (zs h j))) ∧ Chg nob w W

/-- The first b bits of four bytes are those of two. -/
theorem does_eq (h st : ByteArray) (b k : Nat) (hb : b ≤ 12) (hh : h = grH st k) : ftb st b k = decide (w4 (zs h) 0 / 2 ^ (32 - b) = 0) := by
  unfold ftb
  rw [← hh]
  have h0 := zs_B h 0
  have h1 := zs_B h 1
  have h2 := zs_B h 2
  have h3 := zs_B h 3
  have e : w4 (zs h) 0 = (zs h 0 * 256 + zs h 1) * 65536 + (zs h 2 * 256 + zs h 3) := by simp only [w4, Nat.zero_add]; omega
  have p : (2 : Int) ^ (32 - b) = 65536 * 2 ^ (16 - b) := by
    rw [show 32 - b = 16 + (16 - b) by omega, Int.pow_add]
    rfl
  have q : w4 (zs h) 0 / 2 ^ (32 - b) = (zs h 0 * 256 + zs h 1) / 2 ^ (16 - b) := by
    rw [p, ← Int.ediv_ediv_of_nonneg (show (0 : Int) ≤ 65536 by omega), e]
    congr 1
    omega
  rw [q]

set_option maxHeartbeats 2000000 in
theorem nonceDoes_any (c : Option Addr) (len cap : Nat) (at' : Int) (st : ByteArray) (ct : Int) (b k : Nat) (w : World) (htb : Hid (Tabs w)) (hst : st.size = 32) (hb : b ≤ 12) (hk : k ≤ 65535) :
    Calls Tryd.prog 95 #[.agg #[.slice c len cap, .int .i64 at', .string st, .int .i64 ct], .int .i64 b, .int .i64 k] w fun e w' => e = .returned (.bool (ftb st b k)) ∧ Chg nob w w' := by
  have hst' : (st.size : Int) = 32 := by omega
  have hb4 : (be4 (k : Int)).size = 4 := be4_size _
  have hsz : (grT st k).size ≤ 65536 := by rw [grT_size]; omega
  have HSZ := hik hsz
  clear hsz
  obtain ⟨h, hh⟩ : ∃ h, h = grH st k := ⟨_, rfl⟩
  have hs32 : h.size = 32 := by rw [hh]; exact grH_size _ _
  have HH := hik hh
  have HB := hik (zs_B h)
  clear hh
  go_enter Tryd.func95, Tryd.ntmps95
  go_upto_region 1 with fail
  go_cut [7] from 8 (fun v W => HshV w h v W)
  case first =>
    refine wp_region_held_drew (S := fun w' => w'.cell? ⟨w.heap.size, 2, none⟩ = some (.string st)) (by kernel_rfl) (by go_simp) (fun hHeld => ?_)
    refine wpAnyH_take (i := 0) (v := ?_) rfl (by kernel_rfl) (by kernel_rfl) (by kernel_rfl) (fun _ _ _ h => h) (Or.inl ⟨by rfl, ?_⟩) (by assumption) ?_
    rotate_left 1
    · (intro w' hSw; (try dsimp only at hSw); go_simp; try with_reducible rfl)
    try simp only [Act.put, List.setIfInBounds_toArray, List.set_cons_zero, List.set_cons_succ, List.getElem_toArray, List.getElem_cons_zero, List.getElem_cons_succ]
    refine wpAnyH_take (i := 1) (v := ?_) rfl (by kernel_rfl) (by kernel_rfl) (by kernel_rfl) (fun _ _ _ h => h) (Or.inl ⟨by rfl, ?_⟩) (by assumption) ?_
    rotate_left 1
    · (intro w' hSw; (try dsimp only at hSw); go_simp; try with_reducible rfl)
    try simp only [Act.put, List.setIfInBounds_toArray, List.set_cons_zero, List.set_cons_succ, List.getElem_toArray, List.getElem_cons_zero, List.getElem_cons_succ]
    refine wpAnyH_take (i := 2) (v := ?_) rfl (by kernel_rfl) (by kernel_rfl) (by kernel_rfl) (fun _ _ _ h => h) (Or.inl ⟨by rfl, ?_⟩) (by assumption) ?_
    rotate_left 1
    · (intro w' hSw; (try dsimp only at hSw); go_simp; try with_reducible rfl)
    try simp only [Act.put, List.setIfInBounds_toArray, List.set_cons_zero, List.set_cons_succ, List.getElem_toArray, List.getElem_cons_zero, List.getElem_cons_succ]
    refine wpAnyH_take (i := 3) (v := ?_) rfl (by kernel_rfl) (by kernel_rfl) (by kernel_rfl) (fun _ _ _ h => h) (Or.inl ⟨by rfl, ?_⟩) (by assumption) ?_
    rotate_left 1
    · (intro w' hSw; (try dsimp only at hSw); go_simp; try with_reducible rfl)
    try simp only [Act.put, List.setIfInBounds_toArray, List.set_cons_zero, List.set_cons_succ, List.getElem_toArray, List.getElem_cons_zero, List.getElem_cons_succ]
    refine wpAnyH_ready (rs := [4]) (by kernel_rfl) (by simp) ?_
    refine AllReadyH.cons rfl (fun K hK => ?_) AllReadyH.nil
    refine stepL_callN 114 #[.tmp 11] #[3] (by rfl) (by rfl) #[.int .i64 k] (by simp only [List.map_toArray, List.map_cons, List.map_nil]; rfl) (run_go Tryd.func114 (by kernel_rfl) (by kernel_rfl) _ _) (wordText_any (k : Int) _ (by omega) (by omega)) ?_
    rintro e W1 ⟨he, k1⟩
    refine ⟨_, he, ?_⟩
    refine hK.out _ _ (k1.see hHeld) (fun hHeld => ?_)
    clear hK K
    try simp only [Act.put, List.setIfInBounds_toArray, List.set_cons_zero, List.set_cons_succ, List.getElem_toArray, List.getElem_cons_zero, List.getElem_cons_succ]
    have K1 := hik ((((Chg.refl nob w).alloc (.cells #[.slice c len cap, .int .i64 at', .string st, .int .i64 ct] 47)).drew1).trans k1)
    clear he k1
    refine wpAnyH_take (i := 5) (v := ?_) rfl (by kernel_rfl) (by kernel_rfl) (by kernel_rfl) (fun _ _ _ h => h) (Or.inl ⟨by rfl, ?_⟩) (by assumption) ?_
    rotate_left 1
    · (intro w' hSw; (try dsimp only at hSw); go_simp; try with_reducible rfl)
    try simp only [Act.put, List.setIfInBounds_toArray, List.set_cons_zero, List.set_cons_succ, List.getElem_toArray, List.getElem_cons_zero, List.getElem_cons_succ]
    refine wpAnyH_ready (rs := [6]) (by kernel_rfl) (by simp) ?_
    refine AllReadyH.cons rfl (fun K hK => ?_) AllReadyH.nil
    refine stepL_callN 70 #[.tmp 13] #[9] (by rfl) (by rfl) #[.string (grT st k)] (by simp only [List.map_toArray, List.map_cons, List.map_nil]; rfl) (run_go Tryd.func70 (by kernel_rfl) (by kernel_rfl) _ _) (hashOf_any (grT st k) _ (hik (htb.out.keep K1.out)) HSZ.out) ?_
    rintro e W2 ⟨he, k2⟩
    have he : e = .returned (.string h) := by rw [HH.out]; exact he
    refine ⟨_, he, ?_⟩
    refine hK.out _ _ (k2.see hHeld) (fun hHeld => ?_)
    clear hK K
    try simp only [Act.put, List.setIfInBounds_toArray, List.set_cons_zero, List.set_cons_succ, List.getElem_toArray, List.getElem_cons_zero, List.getElem_cons_succ]
    have K2 := hik (K1.out.trans k2)
    clear he k2
    obtain ⟨W0, cap0, hcv, HB0, HG0, HC0⟩ := conv_text h W2 (by omega)
    refine wpAnyH_ready (rs := [7]) (by kernel_rfl) (by simp) ?_
    refine AllReadyH.cons rfl (fun K hK => ?_) AllReadyH.nil
    refine stepL_conv 9 22 (.tmp 14) (by rfl) (by rfl) (.string h) _ _ (by rfl) hcv ?_
    refine hK.out _ _ (HG0.out.see hHeld) (fun hHeld => ?_)
    clear hK K
    try simp only [Act.put, List.setIfInBounds_toArray, List.set_cons_zero, List.set_cons_succ, List.getElem_toArray, List.getElem_cons_zero, List.getElem_cons_succ]
    clear hcv
    refine wpAnyH_take (i := 8) (v := ?_) rfl (by kernel_rfl) (by kernel_rfl) (by kernel_rfl) (fun _ _ _ h => h) (Or.inl ⟨by rfl, ?_⟩) (by assumption) ?_
    rotate_left 1
    · (intro w' hSw; (try dsimp only at hSw); go_simp; try with_reducible rfl)
    try simp only [Act.put, List.setIfInBounds_toArray, List.set_cons_zero, List.set_cons_succ, List.getElem_toArray, List.getElem_cons_zero, List.getElem_cons_succ]
    refine wpAnyH_done (by kernel_rfl) ?_ _
    go_wp2_with fail
    go_meet
    case rel => exact ⟨W2.heap.size, cap0, rfl, by have := HB0.out.le; omega, HC0, fun j hj => HB0.out.at_ j (by omega), K2.out.trans HG0.out⟩
  case rest =>
    obtain ⟨xb, cap0, rfl, hle, hcm, hcell, hg⟩ := hcut
    have G := hik hg
    have C0 := hcell 0 (by omega)
    have C1 := hcell 1 (by omega)
    have C2 := hcell 2 (by omega)
    have C3 := hcell 3 (by omega)
    clear hcell hg
    go_wp2_with fail
    refine (wordAt_any xb 0 32 cap0 0 (zs h) _ C0 C1 C2 C3 (HB.out 0).1 (HB.out 0).2 (HB.out 1).1 (HB.out 1).2 (HB.out 2).1 (HB.out 2).2 (HB.out 3).1 (HB.out 3).2 (by omega) (by omega)).mono ?_
    rintro e W1 ⟨rfl, k1⟩
    have G1 := hik (G.out.trans k1)
    clear k1 C0 C1 C2 C3
    have E := hik (does_eq h st b k hb HH.out)
    obtain ⟨x, hx⟩ : ∃ x, x = w4 (zs h) 0 := ⟨_, rfl⟩
    rw [← hx] at E ⊢
    have x0 : 0 ≤ x := by rw [hx]; simp only [w4, Nat.zero_add]; have := HB.out 0; have := HB.out 1; have := HB.out 2; have := HB.out 3; omega
    have x1 : x < 4294967296 := by rw [hx]; simp only [w4, Nat.zero_add]; have := HB.out 0; have := HB.out 1; have := HB.out 2; have := HB.out 3; omega
    clear hx
    have hq : ¬ (32 : Int) - (b : Int) < 0 := by omega
    go_wp2
    go_ret
    exact ⟨by rw [E.out]; rfl, G1.out⟩

set_option maxHeartbeats 2000000 in
theorem grindCode_any (c : Option Addr) (len cap : Nat) (f g : Nat → Int) (at' : Int) (st : ByteArray) (ct : Int) (bits : Int) (w : World) (h : Hid (PairV w c len f g)) (hl : (len : Int) ≤ 9223372036854775807) (hs : (st.size : Int) ≤ 9223372036854775807) :
    Calls Tryd.prog 94 #[.agg #[.slice c len cap, .int .i64 at', .string st, .int .i64 ct], .int .i64 bits] w fun e w' => e = .returned (.int .i64 (gcd5 (sokb f g len at' st ct) bits)) ∧ Chg nob w w' := by
  cases h2 : sokb f g len at' st ct
  · rw [gcd5_bad]
    go_enter Tryd.func94, Tryd.ntmps94
    go_wp2_with (go_at_call 37; refine (sourceOK_any c len cap at' st ct f g _ (hik (h.out.keep ((Chg.refl nob w).alloc _))) hl hs).mono ?_; rintro e W1 ⟨he, k1⟩; rw [h2] at he; subst he; have G1 := hik (((Chg.refl nob w).alloc (.cells #[.slice c len cap, .int .i64 at', .string st, .int .i64 ct] 47)).trans k1); clear k1)
    go_ret
    exact ⟨rfl, G1.out⟩
  by_cases h0 : bits < 0
  · rw [gcd5_out (by omega)]
    have b0 : decide (bits < 0) = true := decide_eq_true h0
    go_enter Tryd.func94, Tryd.ntmps94
    go_wp2_with (go_at_call 37; refine (sourceOK_any c len cap at' st ct f g _ (hik (h.out.keep ((Chg.refl nob w).alloc _))) hl hs).mono ?_; rintro e W1 ⟨he, k1⟩; rw [h2] at he; subst he; have G1 := hik (((Chg.refl nob w).alloc (.cells #[.slice c len cap, .int .i64 at', .string st, .int .i64 ct] 47)).trans k1); clear k1)
    go_ret
    exact ⟨rfl, G1.out⟩
  have b0 : decide (bits < 0) = false := decide_eq_false h0
  by_cases h1 : 12 < bits
  · rw [gcd5_out (by omega)]
    have b1 : decide (12 < bits) = true := decide_eq_true h1
    go_enter Tryd.func94, Tryd.ntmps94
    go_wp2_with (go_at_call 37; refine (sourceOK_any c len cap at' st ct f g _ (hik (h.out.keep ((Chg.refl nob w).alloc _))) hl hs).mono ?_; rintro e W1 ⟨he, k1⟩; rw [h2] at he; subst he; have G1 := hik (((Chg.refl nob w).alloc (.cells #[.slice c len cap, .int .i64 at', .string st, .int .i64 ct] 47)).trans k1); clear k1)
    go_ret
    exact ⟨rfl, G1.out⟩
  have b1 : decide (12 < bits) = false := decide_eq_false h1
  rw [gcd5_ok (by omega)]
  go_enter Tryd.func94, Tryd.ntmps94
  go_wp2_with (go_at_call 37; refine (sourceOK_any c len cap at' st ct f g _ (hik (h.out.keep ((Chg.refl nob w).alloc _))) hl hs).mono ?_; rintro e W1 ⟨he, k1⟩; rw [h2] at he; subst he; have G1 := hik (((Chg.refl nob w).alloc (.cells #[.slice c len cap, .int .i64 at', .string st, .int .i64 ct] 47)).trans k1); clear k1)
  go_ret
  exact ⟨rfl, G1.out⟩

set_option maxHeartbeats 2000000 in
theorem grindNonce_any (c : Option Addr) (len cap : Nat) (f g : Nat → Int) (at' : Int) (st : ByteArray) (ct : Int) (bits : Int) (w : World) (htb : Hid (Tabs w)) (h : Hid (PairV w c len f g)) (hl : (len : Int) ≤ 9223372036854775807) (hs : (st.size : Int) ≤ 9223372036854775807) :
    Calls Tryd.prog 47 #[.agg #[.slice c len cap, .int .i64 at', .string st, .int .i64 ct], .int .i64 bits] w fun e w' => e = .returned (.tuple #[.int .i64 (gnv (sokb f g len at' st ct) bits st), .int .i64 (gnc (sokb f g len at' st ct) bits st)]) ∧ Chg nob w w' := by
  by_cases hcd : gcd5 (sokb f g len at' st ct) bits = 0
  · obtain ⟨h2, hb⟩ := gcd5_zero hcd
    obtain ⟨p1, p2, p3, p4, p5⟩ := sokb_parts h2
    obtain ⟨b, rfl⟩ : ∃ b : Nat, bits = b := ⟨bits.toNat, by omega⟩
    have HCD := hik hcd
    have HB := hik hb
    clear hb hcd h2 p1 p2 p3 p5
    go_enter Tryd.func47, Tryd.ntmps47
    go_wp2_with (go_at_call 94; refine (grindCode_any c len cap f g at' st ct (b : Int) _ (hik (h.out.keep ((Chg.refl nob w).alloc _))) hl hs).mono ?_; rintro e W1 ⟨he, k1⟩; rw [HCD.out] at he; subst he; have G1 := hik (((Chg.refl nob w).alloc (.cells #[.slice c len cap, .int .i64 at', .string st, .int .i64 ct] 47)).trans k1); have R1 := hik (rowIs_keep (row4_new w (.slice c len cap) (.int .i64 at') (.string st) (.int .i64 ct) 47) k1); obtain ⟨hc1, hf1, hz1⟩ := kcell k1 (w.heap.size + 1) (by simp); clear k1)
    go_loopw [14] (fun v W => ∃ k : Nat, k ≤ 65536 ∧ v = .int .i64 k ∧ Hid (fstB (ftb st b) k = none) ∧ Hid (W.rowIs w.heap.size 47 4 (pv4 (.slice c len cap) (.int .i64 at') (.string st) (.int .i64 ct))) ∧ Hid (Chg nob w W)) (fun v _ => 65536 - (intOf v).toNat)
    case atStart => exact ⟨0, by omega, rfl, hik rfl, R1, G1⟩
    case round =>
      clear R1 G1 hc1 hf1 hz1
      obtain ⟨k, hk, rfl, HF, HR, HG⟩ := hrel
      by_cases hlt : k < 65536
      · have hlt' : (k : Int) < 65536 := by omega
        have x0 : wr.cell? ⟨w.heap.size, 0, none⟩ = some (.slice c len cap) := HR.out.cell (by omega)
        have x1 : wr.cell? ⟨w.heap.size, 1, none⟩ = some (.int .i64 at') := HR.out.cell (by omega)
        have x2 : wr.cell? ⟨w.heap.size, 2, none⟩ = some (.string st) := HR.out.cell (by omega)
        have x3 : wr.cell? ⟨w.heap.size, 3, none⟩ = some (.int .i64 ct) := HR.out.cell (by omega)
        cases hf : ftb st b k
        · have HN := hik (fstB_none HF.out hf)
          go_wp2_with (go_at_call 95; refine (nonceDoes_any c len cap at' st ct b k _ (hik (htb.out.keep HG.out)) p4 (by have := HB.out; omega) (by omega)).mono ?_; rintro e W1 ⟨he, k1⟩; rw [hf] at he; subst he; have R1 := hik (rowIs_keep HR.out k1); have G1 := hik (HG.out.trans k1); clear k1)
          clear x0 x1 x2 x3
          go_roundw
          case rel => exact ⟨k + 1, by omega, by go_num, HN, R1, G1⟩
          case measure => simp [intOf]; omega
        · have HN := hik (fstB_up (fstB_some HF.out hf) (show k + 1 ≤ 65536 by omega))
          go_wp2_with (go_at_call 95; refine (nonceDoes_any c len cap at' st ct b k _ (hik (htb.out.keep HG.out)) p4 (by have := HB.out; omega) (by omega)).mono ?_; rintro e W1 ⟨he, k1⟩; rw [hf] at he; subst he; have G1 := hik (HG.out.trans k1); clear k1)
          go_ret2
          exact ⟨by rw [(gn_some HCD.out (by rw [Int.toNat_natCast]; exact HN.out)).1, (gn_some HCD.out (by rw [Int.toNat_natCast]; exact HN.out)).2]; rfl, G1.out⟩
      · obtain rfl : k = 65536 := by omega
        go_wp2
        go_ret2
        exact ⟨by rw [(gn_none HCD.out (by rw [Int.toNat_natCast]; exact HF.out)).1, (gn_none HCD.out (by rw [Int.toNat_natCast]; exact HF.out)).2]; rfl, HG.out⟩
  · obtain ⟨cd, hc⟩ : ∃ cd, cd = gcd5 (sokb f g len at' st ct) bits := ⟨_, rfl⟩
    have hb' : ¬ cd = 0 := by rw [hc]; exact hcd
    have HCD := hik hc.symm
    rw [(gn_no hc.symm hb').1, (gn_no hc.symm hb').2]
    clear hc hcd
    go_enter Tryd.func47, Tryd.ntmps47
    go_wp2_with (go_at_call 94; refine (grindCode_any c len cap f g at' st ct bits _ (hik (h.out.keep ((Chg.refl nob w).alloc _))) hl hs).mono ?_; rintro e W1 ⟨he, k1⟩; rw [HCD.out] at he; subst he; have G1 := hik (((Chg.refl nob w).alloc (.cells #[.slice c len cap, .int .i64 at', .string st, .int .i64 ct] 47)).trans k1); have R1 := hik (rowIs_keep (row4_new w (.slice c len cap) (.int .i64 at') (.string st) (.int .i64 ct) 47) k1); obtain ⟨hc1, hf1, hz1⟩ := kcell k1 (w.heap.size + 1) (by simp); clear k1)
    go_ret2
    exact ⟨rfl, G1.out⟩

set_option maxHeartbeats 2000000 in
theorem checkNonce_any (c : Option Addr) (len cap : Nat) (f g : Nat → Int) (at' : Int) (st : ByteArray) (ct : Int) (bits : Int) (nonce : Int) (w : World) (htb : Hid (Tabs w)) (h : Hid (PairV w c len f g)) (hl : (len : Int) ≤ 9223372036854775807) (hs : (st.size : Int) ≤ 9223372036854775807) :
    Calls Tryd.prog 49 #[.agg #[.slice c len cap, .int .i64 at', .string st, .int .i64 ct], .int .i64 bits, .int .i64 nonce] w fun e w' => e = .returned (.tuple #[.bool (cnv (sokb f g len at' st ct) bits nonce st), .int .i64 (cnc (sokb f g len at' st ct) bits nonce)]) ∧ Chg nob w w' := by
  by_cases hcd : gcd5 (sokb f g len at' st ct) bits = 0
  · obtain ⟨h2, hb⟩ := gcd5_zero hcd
    obtain ⟨p1, p2, p3, p4, p5⟩ := sokb_parts h2
    obtain ⟨b, rfl⟩ : ∃ b : Nat, bits = b := ⟨bits.toNat, by omega⟩
    have HCD := hik hcd
    have HB := hik hb
    by_cases hn : 0 ≤ nonce ∧ nonce ≤ 65535
    · obtain ⟨k, rfl⟩ : ∃ k : Nat, nonce = k := ⟨nonce.toNat, by omega⟩
      rw [(cn_ok (st := st) hcd hn).1, (cn_ok hcd hn).2, Int.toNat_natCast, Int.toNat_natCast]
      have b0 : decide ((k : Int) < 0) = false := decide_eq_false (by omega)
      have b1 : decide ((65536 : Int) ≤ (k : Int)) = false := decide_eq_false (by omega)
      have HK := hik hn
      clear hb hcd h2 hn p1 p2 p3 p5
      go_enter Tryd.func49, Tryd.ntmps49
      go_wp2_with (first | (go_at_call 94; refine (grindCode_any c len cap f g at' st ct (b : Int) _ (hik (h.out.keep ((Chg.refl nob w).alloc _))) hl hs).mono ?_; rintro e W1 ⟨he, k1⟩; rw [HCD.out] at he; subst he; have G1 := hik (((Chg.refl nob w).alloc (.cells #[.slice c len cap, .int .i64 at', .string st, .int .i64 ct] 47)).trans k1); have R1 := hik (rowIs_keep (row4_new w (.slice c len cap) (.int .i64 at') (.string st) (.int .i64 ct) 47) k1); obtain ⟨hc1, hf1, hz1⟩ := kcell k1 (w.heap.size + 1) (by simp); clear k1) | (go_at_call 95; refine (nonceDoes_any c len cap at' st ct b k _ (hik (htb.out.keep G1.out)) p4 (by have := HB.out; omega) (by have := HK.out; omega)).mono ?_; rintro e W3 ⟨rfl, k3⟩; have G3 := hik (G1.out.trans k3); clear k3))
      go_ret2
      exact ⟨rfl, G3.out⟩
    · rw [(cn_out (st := st) hcd hn).1, (cn_out hcd hn).2]
      by_cases h0 : nonce < 0
      · have b0 : decide (nonce < 0) = true := decide_eq_true h0
        clear hb hcd h2 hn p1 p2 p3 p5
        go_enter Tryd.func49, Tryd.ntmps49
        go_wp2_with (go_at_call 94; refine (grindCode_any c len cap f g at' st ct (b : Int) _ (hik (h.out.keep ((Chg.refl nob w).alloc _))) hl hs).mono ?_; rintro e W1 ⟨he, k1⟩; rw [HCD.out] at he; subst he; have G1 := hik (((Chg.refl nob w).alloc (.cells #[.slice c len cap, .int .i64 at', .string st, .int .i64 ct] 47)).trans k1); have R1 := hik (rowIs_keep (row4_new w (.slice c len cap) (.int .i64 at') (.string st) (.int .i64 ct) 47) k1); obtain ⟨hc1, hf1, hz1⟩ := kcell k1 (w.heap.size + 1) (by simp); clear k1)
        go_ret2
        exact ⟨rfl, G1.out⟩
      · have b0 : decide (nonce < 0) = false := decide_eq_false h0
        have b1 : decide ((65536 : Int) ≤ nonce) = true := decide_eq_true (by omega)
        clear hb hcd h2 hn p1 p2 p3 p5
        go_enter Tryd.func49, Tryd.ntmps49
        go_wp2_with (go_at_call 94; refine (grindCode_any c len cap f g at' st ct (b : Int) _ (hik (h.out.keep ((Chg.refl nob w).alloc _))) hl hs).mono ?_; rintro e W1 ⟨he, k1⟩; rw [HCD.out] at he; subst he; have G1 := hik (((Chg.refl nob w).alloc (.cells #[.slice c len cap, .int .i64 at', .string st, .int .i64 ct] 47)).trans k1); have R1 := hik (rowIs_keep (row4_new w (.slice c len cap) (.int .i64 at') (.string st) (.int .i64 ct) 47) k1); obtain ⟨hc1, hf1, hz1⟩ := kcell k1 (w.heap.size + 1) (by simp); clear k1)
        go_ret2
        exact ⟨rfl, G1.out⟩
  · obtain ⟨cd, hc⟩ : ∃ cd, cd = gcd5 (sokb f g len at' st ct) bits := ⟨_, rfl⟩
    have hb' : ¬ cd = 0 := by rw [hc]; exact hcd
    have HCD := hik hc.symm
    rw [(cn_no (st := st) hc.symm hb').1, (cn_no hc.symm hb').2]
    clear hc hcd
    go_enter Tryd.func49, Tryd.ntmps49
    go_wp2_with (go_at_call 94; refine (grindCode_any c len cap f g at' st ct bits _ (hik (h.out.keep ((Chg.refl nob w).alloc _))) hl hs).mono ?_; rintro e W1 ⟨he, k1⟩; rw [HCD.out] at he; subst he; have G1 := hik (((Chg.refl nob w).alloc (.cells #[.slice c len cap, .int .i64 at', .string st, .int .i64 ct] 47)).trans k1); have R1 := hik (rowIs_keep (row4_new w (.slice c len cap) (.int .i64 at') (.string st) (.int .i64 ct) 47) k1); obtain ⟨hc1, hf1, hz1⟩ := kcell k1 (w.heap.size + 1) (by simp); clear k1)
    go_ret2
    exact ⟨rfl, G1.out⟩

end Go.Proofs.YtmnakafplpmphabDoor
