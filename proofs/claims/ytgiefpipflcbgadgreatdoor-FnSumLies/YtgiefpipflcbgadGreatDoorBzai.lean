/- Several texts in one: What the program's allBound, cubesFrom and round answer: contracts. Conditions: tables of at most 64 elements of the greater field. · What the program's tablesOf answers: a contract. Conditions: lists of lists that can be read, of at most 2 to the 40. · What the model's DegreeOf and Combine answer: contracts. Conditions: lists that can be read, of at most 2 to the 40. -/
import Derived.Test.YtgiefpipflcbgadGreatDoorBzag
import Derived.Test.YtgiefpipflcbgadGreatDoorSumA
import Derived.Test.YtgiefpipflcbgadGreatDoorBzaf
namespace Go.Proofs.YtgiefpipflcbgadGreatDoor
open Go.ChangeShapes Go.WideShapes Go.ChangeAt Go.RowKit
set_option linter.unusedVariables false
set_option maxRecDepth 100000
set_option linter.unusedSimpArgs false

/-- j of n tables are told. -/
theorem told_put {j : Nat} {S : Nat → Nat} {T G : Nat → Nat → El} {M : Nat} (h : ∀ i, i < j → S i = M ∧ T i = G i) : ∀ i, i < j + 1 → (if i = j then M else S i) = M ∧ (if i = j then G j else T i) = G i := fun i hi => by
  by_cases q : i = j
  · rw [if_pos q, if_pos q, q]; exact ⟨rfl, rfl⟩
  · rw [if_neg q, if_neg q]; exact h i (by omega)

set_option maxHeartbeats 4000000 in
theorem cubes_any (c : Option Addr) (n N cap : Nat) (t : Nat → Nat → El) (w : World) (h : Hid (RowsE w c n N t)) (hn0 : 0 < n) (hn : n ≤ 4) (hN : N ≤ 64) :
    Calls Tryz.prog 62 #[.slice c n cap] w fun e w' => ∃ b, e = .returned (.slice (some ⟨b, 0, none⟩) n n) ∧ Cbs w' b n (fun _ => N) (fun i => fitE (t i) N zE) ∧ w.heap.size ≤ b ∧ Chg nob w w' := by
  obtain ⟨xb, xo, A, Cp, ec, hxb, _, _⟩ := h.out 0 hn0
  subst ec
  go_enter Tryz.func62, Tryz.ntmps62
  go_wp2_with (at_make; refine wpList_make_cubes _ rfl (.tmp 7) (.tmp 7) rfl n _ _ rfl rfl rfl rfl (by omega) ?_)
  intro W1 r1 k1
  have R1 := hik r1
  have K1 := hik k1
  clear r1 k1
  go_wp2
  go_loopw [11] (fun i W => ∃ (j : Nat) (S : Nat → Nat) (T : Nat → Nat → El), j ≤ n ∧ i = .int .i64 (j : Int) ∧ Hid (∀ i, i < j → S i = N ∧ T i = fitE (t i) N zE) ∧ Hid (Cbs W w.heap.size n S T) ∧ Hid (Chg nob w W)) (fun i _ => n - (intOf i).toNat)
  case atStart => exact ⟨0, _, _, Nat.zero_le _, rfl, hik (fun i hi => absurd hi (by omega)), R1, K1⟩
  case round =>
    clear R1 K1
    obtain ⟨j, S, T, hj, rfl, HT, HC, HG⟩ := hrel
    rename World => wi
    by_cases hlt : j < n
    · have hj1 : (j : Int) < (n : Int) := by omega
      have hj0 : (0 : Int) ≤ (j : Int) := by omega
      obtain ⟨xb', xo', A', C', ec, _, hc, hP⟩ := (RowsE.keep h.out HG.out) j hlt
      cases ec
      have PJ := hik hP
      clear hP
      go_wp2_with (first
        | (go_at_call 46; refine (cubeFrom_any A' N C' (t j) _ PJ hN).mono ?_; rintro e W2 ⟨rfl, k2⟩; have C2 := hik (HC.out.keep k2); have G2 := hik (HG.out.trans k2); clear k2)
        | ((with_reducible refine wpList_store_cbs (.tmp 20) (.tmp 19) rfl rfl w.heap.size n j N (fitE (t j) N zE) S T ?hx ?hy C2.out hlt ?_); (case hx => rfl); (case hy => rfl); intro W3 r3 g3; have R3 := hik r3; have G3 := hik (Chg.near G2.out g3 (fun i e => by omega)); clear r3 g3))
      go_roundw
      case rel => exact ⟨j + 1, _, _, hlt, by go_num, hik (told_put (G := fun i => fitE (t i) N zE) HT.out), R3, G3⟩
      case measure => simp [intOf]; omega
    · obtain rfl : j = n := by omega
      go_wp2
      go_ret
      exact ⟨w.heap.size, rfl, HC.out.congr (fun i hi => (HT.out i hi).1) (fun i hi q _ => by rw [(HT.out i hi).2]), Nat.le_refl _, HG.out⟩

set_option maxHeartbeats 4000000 in
theorem bounds_any (b n N : Nat) (r : El) (hn : n ≤ 4) (hN : N ≤ 64) (T : Nat → Nat → El) (w : World) (hC : Hid (Cbs w b n (fun _ => N) T)) :
    Calls Tryz.prog 33 #[.slice (some ⟨b, 0, none⟩) n n, .agg #[.int .i64 r.v.1, .int .i64 r.v.2]] w fun e w' => ∃ b', e = .returned (.slice (some ⟨b', 0, none⟩) n n) ∧ Cbs w' b' n (fun _ => N / 2) (fun i => bdE (T i) r (N / 2)) ∧ w.heap.size ≤ b' ∧ Chg nob w w' := by
  have QB := hik (fun (t : Nat → El) (W : World) => bound_any N t r W hN)
  obtain ⟨M, hM⟩ : ∃ M, M = N / 2 := ⟨_, rfl⟩
  rw [← hM] at QB ⊢
  clear hM
  have E0 := hik (ElB.new w r)
  have G0 := hik ((Chg.refl nob w).alloc (.cells #[.int .i64 r.v.1, .int .i64 r.v.2] 31))
  have s0 : (w.alloc (.cells #[.int .i64 r.v.1, .int .i64 r.v.2] 31)).heap.size = w.heap.size + 1 := by simp
  go_enter Tryz.func33, Tryz.ntmps33
  go_wp2_with (at_make; refine wpList_make_cubes _ rfl (.tmp 8) (.tmp 8) rfl n _ _ rfl rfl rfl rfl (by omega) ?_)
  intro W1 r1 k1
  have R1 := hik (show Cbs W1 (w.heap.size + 1) n (fun _ => 0) (fun _ => zE) from by simpa using r1)
  have K1 := hik (G0.out.trans k1)
  have E1 := hik (E0.out.keep k1)
  clear r1 k1 E0 G0 s0
  go_wp2
  go_loopw [12] (fun i W => ∃ (j : Nat) (S : Nat → Nat) (U : Nat → Nat → El), j ≤ n ∧ i = .int .i64 (j : Int) ∧ Hid (∀ i, i < j → S i = M ∧ U i = bdE (T i) r M) ∧ Hid (Cbs W (w.heap.size + 1) n S U) ∧ Hid (ElB W w.heap.size r) ∧ Hid (Chg nob w W)) (fun i _ => n - (intOf i).toNat)
  case atStart => exact ⟨0, _, _, Nat.zero_le _, by rfl, hik (fun i hi => absurd hi (by omega)), R1, E1, K1⟩
  case round =>
    clear R1 K1 E1
    obtain ⟨j, S, U, hj, rfl, HT, HB, HE, HG⟩ := hrel
    rename World => wi
    by_cases hlt : j < n
    · have hj1 : (j : Int) < (n : Int) := by omega
      have hj0 : (0 : Int) ≤ (j : Int) := by omega
      have HC2 := hik (hC.out.keep HG.out)
      have y0 := HE.out.c0
      have y1 := HE.out.c1
      have hyl : w.heap.size < wi.heap.size := HE.out.lt
      go_wp2
      have KW := hik ((Chg.refl nob wi).drew1)
      have SA := hik (fun (WW : World) (kW : Chg nob wi WW) => (show (WW.cell? ⟨w.heap.size, 0, none⟩ = some (.int .i64 r.v.1) ∧ WW.cell? ⟨w.heap.size, 1, none⟩ = some (.int .i64 r.v.2) ∧ World.rangeAt WW b (j * 129) (cb N (T j)).toList) from ⟨kW.see y0, kW.see y1, ((HC2.out.keep kW).range hlt)⟩))
      refine wp_regionL (L := 9) (S := fun w' => w'.cell? ⟨w.heap.size, 0, none⟩ = some (.int .i64 r.v.1) ∧ w'.cell? ⟨w.heap.size, 1, none⟩ = some (.int .i64 r.v.2) ∧ World.rangeAt w' b (j * 129) (cb N (T j)).toList) (by kernel_rfl) ⟨y0, y1, (HC2.out.range hlt)⟩ (fun hHeld => ?_)
      refine wpAnyL_take (i := 0) (v := ?_) rfl (by kernel_rfl) (by kernel_rfl) (by kernel_rfl) (fun _ _ _ h => h) (by rfl) (by kernel_rfl) (by kernel_rfl) (Or.inl ⟨by rfl, ?_⟩) (by assumption) ?_
      rotate_left 1
      · (intro w' hSw; (try dsimp only at hSw); go_simp; try with_reducible rfl)
      try simp only [Act.put, List.setIfInBounds_toArray, List.set_cons_zero, List.set_cons_succ, List.getElem_toArray, List.getElem_cons_zero, List.getElem_cons_succ]
      refine wpAnyL_take (i := 1) (v := ?_) rfl (by kernel_rfl) (by kernel_rfl) (by kernel_rfl) (fun _ _ _ h => h) (by rfl) (by kernel_rfl) (by kernel_rfl) (Or.inl ⟨by rfl, ?_⟩) (by assumption) ?_
      rotate_left 1
      · (intro w' hSw; (try dsimp only at hSw); go_simp; try with_reducible rfl)
      try simp only [Act.put, List.setIfInBounds_toArray, List.set_cons_zero, List.set_cons_succ, List.getElem_toArray, List.getElem_cons_zero, List.getElem_cons_succ]
      refine wpAnyL_take (i := 2) (v := ?_) rfl (by kernel_rfl) (by kernel_rfl) (by kernel_rfl) (fun _ _ _ h => h) (by rfl) (by kernel_rfl) (by kernel_rfl) (Or.inl ⟨by rfl, ?_⟩) (by assumption) ?_
      rotate_left 1
      · (intro w' hSw; (try dsimp only at hSw); go_simp; try with_reducible rfl)
      try simp only [Act.put, List.setIfInBounds_toArray, List.set_cons_zero, List.set_cons_succ, List.getElem_toArray, List.getElem_cons_zero, List.getElem_cons_succ]
      refine wpAnyL_take (i := 3) (v := ?_) rfl (by kernel_rfl) (by kernel_rfl) (by kernel_rfl) (fun _ _ _ h => h) (by rfl) (by kernel_rfl) (by kernel_rfl) (Or.inl ⟨by rfl, ?_⟩) (by assumption) ?_
      rotate_left 1
      · (intro w' hSw; (try dsimp only at hSw); go_simp; try with_reducible rfl)
      try simp only [Act.put, List.setIfInBounds_toArray, List.set_cons_zero, List.set_cons_succ, List.getElem_toArray, List.getElem_cons_zero, List.getElem_cons_succ]
      refine wpAnyL_take (i := 4) (v := ?_) rfl (by kernel_rfl) (by kernel_rfl) (by kernel_rfl) (fun _ _ _ h => h) (by rfl) (by kernel_rfl) (by kernel_rfl) (Or.inl ⟨by rfl, ?_⟩) (by assumption) ?_
      rotate_left 1
      · (intro w' hSw; (try dsimp only at hSw); go_simp; try with_reducible rfl)
      try simp only [Act.put, List.setIfInBounds_toArray, List.set_cons_zero, List.set_cons_succ, List.getElem_toArray, List.getElem_cons_zero, List.getElem_cons_succ]
      refine wpAnyL_take (i := 5) (v := .agg (cb N (T j))) rfl (by kernel_rfl) (by kernel_rfl) (by kernel_rfl) (fun _ _ _ h => h) (by rfl) (by kernel_rfl) (by kernel_rfl) (yields_load_cbs (by rfl) (.tmp 19) rfl b j N (T j) (by rfl) (fun W hW => hW.2.2)) (by assumption) ?_
      try simp only [Act.put, List.setIfInBounds_toArray, List.set_cons_zero, List.set_cons_succ, List.getElem_toArray, List.getElem_cons_zero, List.getElem_cons_succ]
      refine wpAnyL_take (i := 6) (v := ?_) rfl (by kernel_rfl) (by kernel_rfl) (by kernel_rfl) (fun _ _ _ h => h) (by rfl) (by kernel_rfl) (by kernel_rfl) (Or.inl ⟨by rfl, ?_⟩) (by assumption) ?_
      rotate_left 1
      · (intro w' hSw; (try dsimp only at hSw); go_simp; try with_reducible rfl)
      try simp only [Act.put, List.setIfInBounds_toArray, List.set_cons_zero, List.set_cons_succ, List.getElem_toArray, List.getElem_cons_zero, List.getElem_cons_succ]
      refine wpAnyL_ready (rs := [7]) (by kernel_rfl) (by simp) ?_
      refine AllReadyL.cons rfl (fun K hK => ?_) AllReadyL.nil
      refine stepL_callN 70 #[.tmp 20, .tmp 21] #[66, 31] (by rfl) (by rfl) #[.agg (cb N (T j)), .agg #[.int .i64 r.v.1, .int .i64 r.v.2]] (by simp only [List.map_toArray, List.map_cons, List.map_nil] <;> rfl) (run_go Tryz.func70 (by kernel_rfl) (by kernel_rfl) _ _) (QB.out (T j) _) ?_
      rintro e U1 ⟨he, kk⟩
      refine ⟨_, he, ?_⟩
      replace KW := hik (KW.out.trans kk)
      refine hK.out _ _ (SA.out _ KW.out) (fun hHeld => ?_)
      clear hK K
      try simp only [Act.put, List.setIfInBounds_toArray, List.set_cons_zero, List.set_cons_succ, List.getElem_toArray, List.getElem_cons_zero, List.getElem_cons_succ]
      clear he kk
      refine wpAnyL_take (i := 8) (v := ?_) rfl (by kernel_rfl) (by kernel_rfl) (by kernel_rfl) (fun _ _ _ h => h) (by rfl) (by kernel_rfl) (by kernel_rfl) (Or.inl ⟨by rfl, ?_⟩) (by assumption) ?_
      rotate_left 1
      · (intro w' hSw; (try dsimp only at hSw); go_simp; try with_reducible rfl)
      try simp only [Act.put, List.setIfInBounds_toArray, List.set_cons_zero, List.set_cons_succ, List.getElem_toArray, List.getElem_cons_zero, List.getElem_cons_succ]
      refine wpAnyL_ready (rs := [9]) (by kernel_rfl) (by simp) ?_
      refine AllReadyL.last rfl (by kernel_rfl) (fun K hK => ?_)
      refine stepL_store_cbs (.tmp 23) (.tmp 22) (by rfl) (by rfl) (w.heap.size + 1) n j M (bdE (T j) r M) S U (by rfl) (by rfl) (HB.out.keep KW.out) hlt (fun WN rN gN => ?_)
      have RN := hik rN
      have GN := hik (Chg.near (HG.out.trans KW.out) gN (fun i (e : i = w.heap.size + 1) => by omega))
      have EN := hik ((HE.out.keep KW.out).chg gN (by omega))
      clear rN gN
      refine hK.out _ _ ?_
      clear hK K
      try simp only [Act.put, List.setIfInBounds_toArray, List.set_cons_zero, List.set_cons_succ, List.getElem_toArray, List.getElem_cons_zero, List.getElem_cons_succ]
      refine wpAnyL_done (by kernel_rfl) ?_ _
      clear SA KW
      go_wp2
      go_roundw
      case rel => exact ⟨j + 1, _, _, hlt, by go_num, hik (told_put (G := fun i => bdE (T i) r M) HT.out), RN, EN, GN⟩
      case measure => simp [intOf]; omega
    · obtain rfl : j = n := by omega
      go_wp2
      go_ret
      exact ⟨w.heap.size + 1, rfl, HB.out.congr (fun i hi => (HT.out i hi).1) (fun i hi q _ => by rw [(HT.out i hi).2]), by omega, HG.out⟩
theorem boundsN_any (b n N j : Nat) (hj : j ≤ 100) (hn : n ≤ 4) (hN : N ≤ 64) (T : Nat → Nat → El) (w : World) (hC : Hid (Cbs w b n (fun _ => N) T)) :
    Calls Tryz.prog 33 #[.slice (some ⟨b, 0, none⟩) n n, .agg #[.int .i64 (j : Int), .int .i64 0]] w fun e w' => ∃ b', e = .returned (.slice (some ⟨b', 0, none⟩) n n) ∧ Cbs w' b' n (fun _ => N / 2) (fun i => bdE (T i) (El.nb j) (N / 2)) ∧ w.heap.size ≤ b' ∧ Chg nob w w' := by
  have q := bounds_any b n N (El.nb j) hn hN T w hC
  rw [nbv8 (by omega), show (El.nb j).v.2 = 0 from rfl] at q
  exact q
/-- A round's values, as the program sums them. -/
def rdX (k : Nat) (T : Nat → Nat → El) (M x : Nat) : El := sms k (fun i => bdE (T i) (El.nb x) M) M
theorem rdX_rd {k : Nat} (hk : k = 1 ∨ k = 2) {T t : Nat → Nat → El} {M : Nat} (h : ∀ j i, j < 2 * k → i < 2 * M → T j i = t j i) (x : Nat) : rdX k T M x = rdE k t M x := by
  unfold rdX rdE
  refine sms_congr hk (fun j i hj hi => ?_)
  unfold bdE bdT El.fldE
  rw [if_pos hi, h j _ hj (by omega), h j _ hj (by omega)]

set_option maxHeartbeats 4000000 in
theorem round_any {k : Nat} {t d : Int} {f : Nat} (h : KD k t d f) (b n N : Nat) (hn : n = 2 * k) (hN : N ≤ 64) (T : Nat → Nat → El) (w : World) (hC : Hid (Cbs w b n (fun _ => N) T)) :
    Calls Tryz.prog 31 #[.agg #[.int .i64 t, .int .i64 d, .func (.func f) #[] #[]], .slice (some ⟨b, 0, none⟩) n n] w fun e w' => ∃ g, e = .returned (.slice (some ⟨g, 0, none⟩) (k + 2) (k + 2)) ∧ RowE w' g (k + 2) (rdX k T (N / 2)) ∧ w.heap.size ≤ g ∧ Chg nob w w' := by
  obtain ⟨i0, hi, hz0, hz1, hz2⟩ := info_parts infoExt
  have HI := hik hi
  have HZ0 := hik hz0
  have HZ1 := hik hz1
  have HK := hik h
  have HN := hik hn
  have hn4 : n ≤ 4 := by rcases h with ⟨rfl, _⟩ | ⟨rfl, _⟩ <;> omega
  obtain ⟨m, hm⟩ : ∃ m, m = k + 2 := ⟨_, rfl⟩
  have hm4 : m ≤ 4 := by rcases h with ⟨rfl, _⟩ | ⟨rfl, _⟩ <;> omega
  have hd : IntKind.i64.wrap (d + 1) = (m : Int) := by rw [IntKind.wrap_i64]; rcases h with ⟨rfl, _, rfl, _⟩ | ⟨rfl, _, rfl, _⟩ <;> omega
  have hb16 : i0.bytes * m ≤ 281474976710656 := by rw [hz2]; omega
  have HB16 := hik hb16
  obtain ⟨F, hF⟩ : ∃ F, F = rdX k T (N / 2) := ⟨_, rfl⟩
  have QS := hik (fun (x b2 : Nat) (W : World) (hw : Hid (Cbs W b2 n (fun _ => N / 2) (fun i => bdE (T i) (El.nb x) (N / 2)))) => sum_any h b2 n (N / 2) hn (by omega) (fun i => bdE (T i) (El.nb x) (N / 2)) W hw)
  have HF := hik (show ∀ x, sms k (fun i => bdE (T i) (El.nb x) (N / 2)) (N / 2) = F x from fun x => by rw [hF]; rfl)
  rw [← hm, ← hF]
  have QB := hik (fun (x : Nat) (W : World) (hx : x ≤ 100) (hw : Hid (Cbs W b n (fun _ => N) T)) => boundsN_any b n N x hx hn4 hN T W hw)
  obtain ⟨M, hM⟩ : ∃ M, M = N / 2 := ⟨_, rfl⟩
  rw [← hM] at QS QB HF
  simp only [HF.out] at QS
  clear hi hz0 hz1 hz2 hb16 h hn hm hM hF HF
  have E0 := hik (CmB.new w t d (.func (.func f) #[] #[]))
  have G0 := hik ((Chg.refl nob w).alloc (.cells #[.int .i64 t, .int .i64 d, .func (.func f) #[] #[]] 55))
  have s0 : (w.alloc (.cells #[.int .i64 t, .int .i64 d, .func (.func f) #[] #[]] 55)).heap.size = w.heap.size + 1 := by simp
  go_enter Tryz.func31, Tryz.ntmps31
  go_wp2_with (at_make; refine wpList_make_pairs _ rfl (.tmp 9) (.tmp 9) 26 rfl 31 i0 Tryz.underlying26 HI.out HZ0.out HZ1.out .i64 .i64 _ _ m rfl rfl rfl rfl HB16.out (by omega) ?_)
  intro W1 r1 k1
  have R1 := hik (show RowE W1 (w.heap.size + 1) m zE from r1)
  have K1 := hik (G0.out.trans k1)
  have E1 := hik (E0.out.keep k1)
  clear r1 k1 E0 G0 s0
  go_wp2
  go_loopw [13] (fun i W => ∃ (j : Nat) (V : Nat → El), j ≤ m ∧ i = .int .i64 (j : Int) ∧ Hid (∀ i, i < j → V i = F i) ∧ Hid (RowE W (w.heap.size + 1) m V) ∧ Hid (CmB W w.heap.size t d (.func (.func f) #[] #[])) ∧ Hid (Chg nob w W)) (fun i _ => m - (intOf i).toNat)
  case atStart => exact ⟨0, _, Nat.zero_le _, by rfl, hik (fun i hi => absurd hi (by omega)), R1, E1, K1⟩
  case round =>
    clear R1 K1 E1
    obtain ⟨j, V, hj, rfl, HV, HR, HE, HG⟩ := hrel
    rename World => wi
    by_cases hlt : j < m
    · have hj1 : (j : Int) < (m : Int) := by omega
      have hj0 : (0 : Int) ≤ (j : Int) := by omega
      have m0 := HE.out.c0
      have m1 := HE.out.c1
      have m2 := HE.out.c2
      go_wp2
      have KW := hik ((Chg.refl nob wi).drew1)
      have SA := hik (fun (WW : World) (kW : Chg nob wi WW) => (show (WW.cell? ⟨w.heap.size, 0, none⟩ = some (.int .i64 t) ∧ WW.cell? ⟨w.heap.size, 1, none⟩ = some (.int .i64 d) ∧ WW.cell? ⟨w.heap.size, 2, none⟩ = some (.func (.func f) #[] #[])) from ⟨kW.see m0, kW.see m1, kW.see m2⟩))
      refine wp_regionL (L := 9) (S := fun w' => w'.cell? ⟨w.heap.size, 0, none⟩ = some (.int .i64 t) ∧ w'.cell? ⟨w.heap.size, 1, none⟩ = some (.int .i64 d) ∧ w'.cell? ⟨w.heap.size, 2, none⟩ = some (.func (.func f) #[] #[])) (by kernel_rfl) ⟨m0, m1, m2⟩ (fun hHeld => ?_)
      refine wpAnyL_take (i := 0) (v := ?_) rfl (by kernel_rfl) (by kernel_rfl) (by kernel_rfl) (fun _ _ _ h => h) (by rfl) (by kernel_rfl) (by kernel_rfl) (Or.inl ⟨by rfl, ?_⟩) (by assumption) ?_
      rotate_left 1
      · (intro w' hSw; (try dsimp only at hSw); go_simp; try with_reducible rfl)
      try simp only [Act.put, List.setIfInBounds_toArray, List.set_cons_zero, List.set_cons_succ, List.getElem_toArray, List.getElem_cons_zero, List.getElem_cons_succ]
      refine wpAnyL_take (i := 1) (v := ?_) rfl (by kernel_rfl) (by kernel_rfl) (by kernel_rfl) (fun _ _ _ h => h) (by rfl) (by kernel_rfl) (by kernel_rfl) (Or.inl ⟨by rfl, ?_⟩) (by assumption) ?_
      rotate_left 1
      · (intro w' hSw; (try dsimp only at hSw); go_simp; try with_reducible rfl)
      try simp only [Act.put, List.setIfInBounds_toArray, List.set_cons_zero, List.set_cons_succ, List.getElem_toArray, List.getElem_cons_zero, List.getElem_cons_succ]
      refine wpAnyL_take (i := 2) (v := ?_) rfl (by kernel_rfl) (by kernel_rfl) (by kernel_rfl) (fun _ _ _ h => h) (by rfl) (by kernel_rfl) (by kernel_rfl) (Or.inl ⟨by rfl, ?_⟩) (by assumption) ?_
      rotate_left 1
      · (intro w' hSw; (try dsimp only at hSw); go_simp; try with_reducible rfl)
      try simp only [Act.put, List.setIfInBounds_toArray, List.set_cons_zero, List.set_cons_succ, List.getElem_toArray, List.getElem_cons_zero, List.getElem_cons_succ]
      refine wpAnyL_take (i := 3) (v := ?_) rfl (by kernel_rfl) (by kernel_rfl) (by kernel_rfl) (fun _ _ _ h => h) (by rfl) (by kernel_rfl) (by kernel_rfl) (Or.inl ⟨by rfl, ?_⟩) (by assumption) ?_
      rotate_left 1
      · (intro w' hSw; (try dsimp only at hSw); go_simp; try with_reducible rfl)
      try simp only [Act.put, List.setIfInBounds_toArray, List.set_cons_zero, List.set_cons_succ, List.getElem_toArray, List.getElem_cons_zero, List.getElem_cons_succ]
      refine wpAnyL_take (i := 4) (v := ?_) rfl (by kernel_rfl) (by kernel_rfl) (by kernel_rfl) (fun _ _ _ h => h) (by rfl) (by kernel_rfl) (by kernel_rfl) (Or.inl ⟨by rfl, ?_⟩) (by assumption) ?_
      rotate_left 1
      · (intro w' hSw; (try dsimp only at hSw); go_simp; try with_reducible rfl)
      try simp only [Act.put, List.setIfInBounds_toArray, List.set_cons_zero, List.set_cons_succ, List.getElem_toArray, List.getElem_cons_zero, List.getElem_cons_succ]
      refine wpAnyL_take (i := 5) (v := ?_) rfl (by kernel_rfl) (by kernel_rfl) (by kernel_rfl) (fun _ _ _ h => h) (by rfl) (by kernel_rfl) (by kernel_rfl) (Or.inl ⟨by rfl, ?_⟩) (by assumption) ?_
      rotate_left 1
      · (intro w' hSw; (try dsimp only at hSw); go_simp; try with_reducible rfl)
      try simp only [Act.put, List.setIfInBounds_toArray, List.set_cons_zero, List.set_cons_succ, List.getElem_toArray, List.getElem_cons_zero, List.getElem_cons_succ]
      refine wpAnyL_ready (rs := [6]) (by kernel_rfl) (by simp) ?_
      refine AllReadyL.cons rfl (fun K hK => ?_) AllReadyL.nil
      refine stepL_callN 33 #[.tmp 19, .tmp 21] #[56, 31] (by rfl) (by rfl) #[.slice (some ⟨b, 0, none⟩) n n, .agg #[.int .i64 (j : Int), .int .i64 0]] (by simp only [List.map_toArray, List.map_cons, List.map_nil] <;> rfl) (run_go Tryz.func33 (by kernel_rfl) (by kernel_rfl) _ _) (QB.out j _ (by omega) (hik (hC.out.keep (HG.out.trans KW.out)))) ?_
      rintro e U1 ⟨b2, he, hC2, hb2, kk⟩
      have C2 := hik hC2
      clear hC2 hb2
      refine ⟨_, he, ?_⟩
      replace KW := hik (KW.out.trans kk)
      refine hK.out _ _ (SA.out _ KW.out) (fun hHeld => ?_)
      clear hK K
      try simp only [Act.put, List.setIfInBounds_toArray, List.set_cons_zero, List.set_cons_succ, List.getElem_toArray, List.getElem_cons_zero, List.getElem_cons_succ]
      clear he kk
      refine wpAnyL_ready (rs := [7]) (by kernel_rfl) (by simp) ?_
      refine AllReadyL.cons rfl (fun K hK => ?_) AllReadyL.nil
      refine stepL_callN 26 #[.tmp 18, .tmp 22] #[55, 56] (by rfl) (by rfl) #[.agg #[.int .i64 t, .int .i64 d, .func (.func f) #[] #[]], .slice (some ⟨b2, 0, none⟩) n n] (by simp only [List.map_toArray, List.map_cons, List.map_nil] <;> rfl) (run_go Tryz.func26 (by kernel_rfl) (by kernel_rfl) _ _) (QS.out j b2 _ C2) ?_
      rintro e U2 ⟨he, kk⟩
      refine ⟨_, he, ?_⟩
      replace KW := hik (KW.out.trans kk)
      refine hK.out _ _ (SA.out _ KW.out) (fun hHeld => ?_)
      clear hK K
      try simp only [Act.put, List.setIfInBounds_toArray, List.set_cons_zero, List.set_cons_succ, List.getElem_toArray, List.getElem_cons_zero, List.getElem_cons_succ]
      clear he kk
      refine wpAnyL_take (i := 8) (v := ?_) rfl (by kernel_rfl) (by kernel_rfl) (by kernel_rfl) (fun _ _ _ h => h) (by rfl) (by kernel_rfl) (by kernel_rfl) (Or.inl ⟨by rfl, ?_⟩) (by assumption) ?_
      rotate_left 1
      · (intro w' hSw; (try dsimp only at hSw); go_simp; try with_reducible rfl)
      try simp only [Act.put, List.setIfInBounds_toArray, List.set_cons_zero, List.set_cons_succ, List.getElem_toArray, List.getElem_cons_zero, List.getElem_cons_succ]
      refine wpAnyL_ready (rs := [9]) (by kernel_rfl) (by simp) ?_
      refine AllReadyL.last rfl (by kernel_rfl) (fun K hK => ?_)
      have RN := hik (HR.out.keep KW.out)
      have g0 : U2.cell? ⟨w.heap.size + 1, j * 2, none⟩ = some (.int .i64 (V j).v.1) := RN.out.c0 hlt
      have g1 : U2.cell? ⟨w.heap.size + 1, j * 2 + 1, none⟩ = some (.int .i64 (V j).v.2) := RN.out.c1 hlt
      have f0 := RN.out.fz (j * 2)
      have f1 := RN.out.fz (j * 2 + 1)
      have ln : w.heap.size + 1 < U2.heap.size := RN.out.lt
      simp only [List.getElem_toArray, List.getElem_cons_zero, List.getElem_cons_succ]
      go_simp
      refine hK.out _ _ ?_
      clear hK K
      try simp only [Act.put, List.setIfInBounds_toArray, List.set_cons_zero, List.set_cons_succ, List.getElem_toArray, List.getElem_cons_zero, List.getElem_cons_succ]
      clear g0 g1 f0 f1 ln
      refine wpAnyL_done (by kernel_rfl) ?_ _
      have q := chg2_at (Chg.refl (fun x => x = w.heap.size + 1) U2) (w.heap.size + 1) (fun _ => rfl) (j * 2) (j * 2 + 1) (.int .i64 (F j).v.1) (.int .i64 (F j).v.2)
      have EN := hik ((HE.out.keep KW.out).chg q (by omega))
      clear q
      go_wp2
      go_roundw
      case rel => exact ⟨j + 1, _, hlt, by go_num, hik (upE_fill HV.out), hik (RN.out.set j (F j)), EN, hik (chg2_at (HG.out.trans KW.out) (w.heap.size + 1) (fun l => absurd l (by omega)) _ _ _ _)⟩
      case measure => simp [intOf]; omega
    · obtain rfl : j = m := by omega
      go_wp2
      go_ret
      exact ⟨w.heap.size + 1, rfl, HR.out.congr HV.out, by omega, HG.out⟩

end Go.Proofs.YtgiefpipflcbgadGreatDoor

namespace Go.Proofs.YtgiefpipflcbgadGreatDoor
open Go.ChangeShapes Go.WideShapes Go.ChangeAt Go.RowKit
set_option linter.unusedVariables false
set_option maxRecDepth 100000
set_option linter.unusedSimpArgs false

theorem KD.eq {k : Nat} {t d t' d' : Int} {f f' : Nat} (h : KD k t d f) (h' : KD k t' d' f') : t = t' ∧ d = d' ∧ f = f' := by
  rcases h with ⟨rfl, rfl, rfl, rfl⟩ | ⟨rfl, rfl, rfl, rfl⟩
  · rcases h' with ⟨_, rfl, rfl, rfl⟩ | ⟨h, _⟩
    · exact ⟨rfl, rfl, rfl⟩
    · omega
  · rcases h' with ⟨h, _⟩ | ⟨_, rfl, rfl, rfl⟩
    · omega
    · exact ⟨rfl, rfl, rfl⟩
/-- What tablesOf answers: the kind's combination and the tables, or a code. -/
def TaAns (w : World) (K : Int) (n : Nat) (L : Nat → Nat) (f g : Nat → Nat → Int) (e : Ending) (w' : World) : Prop :=
  (∃ q, ac8 K n L f g = q ∧ ¬ q = 0 ∧ e = .returned (.tuple #[.agg #[.int .i64 0, .int .i64 0, .nilFunc], .slice none 0 0, .int .i64 q]) ∧ Chg nob w w') ∨
  (ac8 K n L f g = 0 ∧ ∃ (k : Nat) (t d : Int) (ff b : Nat), K = (k : Int) ∧ KD k t d ff ∧ e = .returned (.tuple #[.agg #[.int .i64 t, .int .i64 d, .func (.func ff) #[] #[]], .slice (some ⟨b, 0, none⟩) n n, .int .i64 0]) ∧ Cbs w' b n (fun _ => L 0) (fun i => fitE (elF (f i) (g i)) (L 0) zE) ∧ w.heap.size ≤ b ∧ Chg nob w w')
theorem TaAns.no {w w' : World} {K q : Int} {n : Nat} {L : Nat → Nat} {f g : Nat → Nat → Int} (hq : ac8 K n L f g = q) (h0 : ¬ q = 0) (k : Chg nob w w') : TaAns w K n L f g (.returned (.tuple #[.agg #[.int .i64 0, .int .i64 0, .nilFunc], .slice none 0 0, .int .i64 q])) w' := .inl ⟨q, hq, h0, rfl, k⟩

set_option maxHeartbeats 4000000 in
theorem tabs_any (K : Int) (c : Option Addr) (n cap : Nat) (A : Nat → Option Addr) (L C : Nat → Nat) (f g : Nat → Nat → Int) (w : World) (h : Hid (RowsV w c n A L C f g)) (hL : Hid (∀ i, i < n → L i ≤ 1099511627776)) (hn : n ≤ 1099511627776) :
    Calls Tryz.prog 25 #[.int .i64 K, .slice c n cap] w fun e w' => TaAns w K n L f g e w' := by
  have E0 := hik (CmB.new w 0 0 .nilFunc)
  have G0 := hik ((Chg.refl nob w).alloc (.cells #[.int .i64 0, .int .i64 0, .nilFunc] 55))
  by_cases hl : 4096 < n
  · have hl' : 4096 < (n : Int) := by omega
    have HC := hik (show ac8 K n L f g = 2 by unfold ac8; rw [if_pos hl])
    have f0 := E0.out.fz 0
    have f1 := E0.out.fz 1
    have f2 := E0.out.fz 2
    go_enter Tryz.func25, Tryz.ntmps25
    go_wp2
    exact bodyPost_ret (v := .tuple #[.agg #[.int .i64 0, .int .i64 0, .nilFunc], .slice none 0 0, .int .i64 2]) (by simp [results, Tryz.results25, go_sem]) rfl (TaAns.no HC.out (by decide) G0.out)
  have hl' : ¬ 4096 < (n : Int) := by omega
  cases hk : kdb K
  · have HC := hik (show ac8 K n L f g = 4 by unfold ac8; rw [if_neg hl, if_neg (fun q => by rw [hk] at q; cases q.1)])
    go_enter Tryz.func25, Tryz.ntmps25
    go_wp2_with fail
    generalize hE : w.alloc (.cells #[.int .i64 0, .int .i64 0, .nilFunc] 55) = W0 at E0 G0 ⊢
    clear hE
    refine (co_no K hk _).mono ?_
    rintro e W1 ⟨rfl, k1⟩
    have E2 := hik ((E0.out.keep k1).keep ((Chg.refl nob W1).alloc (.cells #[.int .i64 0, .int .i64 0, .nilFunc] 55)))
    have G2 := hik ((G0.out.trans k1).alloc (.cells #[.int .i64 0, .int .i64 0, .nilFunc] 55))
    clear k1 E0 G0
    go_upto_region 4 with fail
    generalize hE : W1.alloc (.cells #[.int .i64 0, .int .i64 0, .nilFunc] 55) = W2 at E2 G2 ⊢
    clear hE
    have c0 : W2.cell? ⟨w.heap.size, 0, none⟩ = some (.int .i64 0) := E2.out.c0
    have c1 : W2.cell? ⟨w.heap.size, 1, none⟩ = some (.int .i64 0) := E2.out.c1
    have c2 : W2.cell? ⟨w.heap.size, 2, none⟩ = some .nilFunc := E2.out.c2
    have f0 := E2.out.fz 0
    have f1 := E2.out.fz 1
    have f2 := E2.out.fz 2
    go_wp2
    have u := hik (E2.out.set 0 0 .nilFunc)
    have u0 := u.out.c0
    have u1 := u.out.c1
    have u2 := u.out.c2
    exact bodyPost_ret (v := .tuple #[.agg #[.int .i64 0, .int .i64 0, .nilFunc], .slice none 0 0, .int .i64 4]) (by simp [results, Tryz.results25, go_sem, u0, u1, u2]) rfl (TaAns.no HC.out (by decide) (chg3_set G2.out w.heap.size (fun l => absurd l (by omega)) _ _ _))
  obtain ⟨k, hKk, hk12⟩ := kdb_nat hk
  subst hKk
  obtain ⟨t, d, ff, hKD, ht, hd⟩ := KD.ex hk12
  have HKD := hik hKD
  have hn4 : (n : Int) = t → n ≤ 4 ∧ 0 < n := fun e => by rcases hk12 with rfl | rfl <;> omega
  have HN4 := hik hn4
  by_cases hnt : (n : Int) = t
  · have HC := hik (show ac8 (k : Int) n L f g = tqc L f g 0 n by unfold ac8; rw [if_neg hl, if_pos ⟨hk, by omega⟩])
    have hbz : ((n : Int) != t) = false := by rw [hnt]; simp
    obtain ⟨hn4', hn0⟩ := hn4 hnt
    have hn0' : (0 : Int) < (n : Int) := by omega
    have HN' := hik hn4'
    have HNT := hik hnt
    have HH := hik hKD
    clear hnt ht hd hKD hn4 hk12 hn4' HN4 hk
    obtain ⟨xb, xo, ec, hxb, _, _⟩ := h.out 0 hn0
    subst ec
    go_enter Tryz.func25, Tryz.ntmps25
    go_wp2_with fail
    generalize hE : w.alloc (.cells #[.int .i64 0, .int .i64 0, .nilFunc] 55) = W0 at E0 G0 ⊢
    clear hE
    refine (co_ok HKD.out _).mono ?_
    rintro e W1 ⟨rfl, k1⟩
    obtain ⟨bc, hbc⟩ : ∃ bc, bc = W1.heap.size := ⟨_, rfl⟩
    have E2 := hik ((E0.out.keep k1).keep ((Chg.refl nob W1).alloc (.cells #[.int .i64 t, .int .i64 d, .func (.func ff) #[] #[]] 55)))
    have C2 := hik (show CmB (W1.alloc (.cells #[.int .i64 t, .int .i64 d, .func (.func ff) #[] #[]] 55)) bc t d (.func (.func ff) #[] #[]) from by rw [hbc]; exact CmB.new W1 t d _)
    have G2 := hik ((G0.out.trans k1).alloc (.cells #[.int .i64 t, .int .i64 d, .func (.func ff) #[] #[]] 55))
    clear k1 E0 G0
    go_upto_region 4 with fail
    rw [← hbc]
    generalize hE : W1.alloc (.cells #[.int .i64 t, .int .i64 d, .func (.func ff) #[] #[]] 55) = W2 at E2 G2 C2 ⊢
    clear hE hbc
    have m0 : W2.cell? ⟨bc, 0, none⟩ = some (.int .i64 t) := C2.out.c0
    go_wp2
    clear m0
    go_loopw [32] (fun i W => ∃ j m : Nat, j + m = n ∧ i = .int .i64 (j : Int) ∧ Hid (tqc L f g 0 n = tqc L f g j m) ∧ Hid (Chg nob W2 W)) (fun i _ => n - (intOf i).toNat)
    case atStart => exact ⟨0, n, by omega, rfl, hik rfl, hik (Chg.refl _ _)⟩
    case round =>
      obtain ⟨j, m, hjm, rfl, HT, HG⟩ := hrel
      rename World => wi
      have E3 := hik (E2.out.keep HG.out)
      have C3 := hik (C2.out.keep HG.out)
      have G3 := hik (G2.out.trans HG.out)
      have HU := hik (RowsV.keep h.out G3.out)
      by_cases hlt : j < n
      · obtain ⟨m', rfl⟩ : ∃ m', m = m' + 1 := ⟨m - 1, by omega⟩
        have hj1 : (j : Int) < (n : Int) := by omega
        have hj0 : (0 : Int) ≤ (j : Int) := by omega
        obtain ⟨xb', xo', ec, _, hc, hP⟩ := HU.out j hlt
        cases ec
        have PJ := hik hP
        clear hP
        cases ht : tok (f j) (g j) (L j)
        · have HQ := hik (show ac8 (k : Int) n L f g = 1 by rw [HC.out, HT.out, tqc, ht]; rfl)
          go_wp2_with fail
          refine (tableOK_any (A j) (L j) (C j) (f j) (g j) _ PJ (hL.out j hlt)).mono ?_
          rintro e W4 ⟨he, k4⟩
          rw [ht] at he
          subst he
          have E4 := hik (E3.out.keep k4)
          have G4 := hik (G3.out.trans k4)
          clear k4 hc
          have c0 : W4.cell? ⟨w.heap.size, 0, none⟩ = some (.int .i64 0) := E4.out.c0
          have c1 : W4.cell? ⟨w.heap.size, 1, none⟩ = some (.int .i64 0) := E4.out.c1
          have c2 : W4.cell? ⟨w.heap.size, 2, none⟩ = some .nilFunc := E4.out.c2
          have f0 := E4.out.fz 0
          have f1 := E4.out.fz 1
          have f2 := E4.out.fz 2
          go_wp2
          have u := hik (E4.out.set 0 0 .nilFunc)
          have u0 := u.out.c0
          have u1 := u.out.c1
          have u2 := u.out.c2
          exact bodyPost_ret (v := .tuple #[.agg #[.int .i64 0, .int .i64 0, .nilFunc], .slice none 0 0, .int .i64 1]) (by simp [results, Tryz.results25, go_sem, u0, u1, u2]) rfl (TaAns.no HQ.out (by decide) (chg3_set G4.out w.heap.size (fun l => absurd l (by omega)) _ _ _))
        · go_wp2_with fail
          refine (tableOK_any (A j) (L j) (C j) (f j) (g j) _ PJ (hL.out j hlt)).mono ?_
          rintro e W4 ⟨he, k4⟩
          rw [ht] at he
          subst he
          have HU4 := hik (RowsV.keep HU.out k4)
          have HG4 := hik (HG.out.trans k4)
          have E4 := hik (E3.out.keep k4)
          have G4 := hik (G3.out.trans k4)
          clear k4 hc HU HG PJ E3 C3 G3
          obtain ⟨xb', xo', ec, _, hc, _⟩ := HU4.out j hlt
          cases ec
          obtain ⟨xb', xo', ec, _, hc0', _⟩ := HU4.out 0 hn0
          cases ec
          have hc0 : W4.cell? ⟨xb, xo, none⟩ = some (.slice (A 0) (L 0) (C 0)) := by simpa using hc0'
          clear hc0'
          by_cases hLL : L j = L 0
          · have HQ := hik (show tqc L f g 0 n = tqc L f g (j + 1) m' by rw [HT.out, tqc, ht, if_pos rfl, if_pos hLL])
            have hbL : ((L j : Int) != (L 0 : Int)) = false := by rw [hLL]; simp
            have HLL := hik hLL
            clear hLL
            go_wp2
            go_roundw
            case rel => exact ⟨j + 1, m', by omega, by go_num, HQ, HG4⟩
            case measure => simp [intOf]; omega
          · have HQ := hik (show ac8 (k : Int) n L f g = 8 by rw [HC.out, HT.out, tqc, ht, if_pos rfl, if_neg hLL])
            have hbL : ((L j : Int) != (L 0 : Int)) = true := by simp only [bne_iff_ne]; omega
            have HLL := hik hLL
            clear hLL
            have c0 : W4.cell? ⟨w.heap.size, 0, none⟩ = some (.int .i64 0) := E4.out.c0
            have c1 : W4.cell? ⟨w.heap.size, 1, none⟩ = some (.int .i64 0) := E4.out.c1
            have c2 : W4.cell? ⟨w.heap.size, 2, none⟩ = some .nilFunc := E4.out.c2
            have f0 := E4.out.fz 0
            have f1 := E4.out.fz 1
            have f2 := E4.out.fz 2
            go_wp2
            have u := hik (E4.out.set 0 0 .nilFunc)
            have u0 := u.out.c0
            have u1 := u.out.c1
            have u2 := u.out.c2
            exact bodyPost_ret (v := .tuple #[.agg #[.int .i64 0, .int .i64 0, .nilFunc], .slice none 0 0, .int .i64 8]) (by simp [results, Tryz.results25, go_sem, u0, u1, u2]) rfl (TaAns.no HQ.out (by decide) (chg3_set G4.out w.heap.size (fun l => absurd l (by omega)) _ _ _))
      · obtain rfl : m = 0 := by omega
        obtain rfl : n = j := by omega
        have HQ := hik (show ac8 (k : Int) n L f g = 0 by rw [HC.out, HT.out]; rfl)
        have hcc : ¬ (n : Int) < (n : Int) := by omega
        have HTK := hik (ac8_ok HQ.out)
        have HR := hik (show RowsE wi (some ⟨xb, xo, none⟩) n (L 0) (fun i => elF (f i) (g i)) from by
          obtain ⟨_, _, _, _, htk⟩ := HTK.out
          exact rows_ok HU.out htk)
        have h64 : L 0 ≤ 64 := by
          obtain ⟨_, _, _, _, htk⟩ := HTK.out
          obtain ⟨i, hi, e⟩ := p6_ex (tok_p6 (htk 0 hn0).1).1
          rw [e]; exact pow_le6 hi
        have m0 := C3.out.c0
        have m1 := C3.out.c1
        have m2 := C3.out.c2
        have QC := hik (fun (W : World) (hw : Hid (RowsE W (some ⟨xb, xo, none⟩) n (L 0) (fun i => elF (f i) (g i)))) => cubes_any (some ⟨xb, xo, none⟩) n (L 0) cap (fun i => elF (f i) (g i)) W hw hn0 HN'.out h64)
        have s3 := G3.out.size
        go_upto_region 16 with fail
        have KW := hik ((Chg.refl nob wi).drew1)
        have SA := hik (fun (WW : World) (kW : Chg nob wi WW) => (show (WW.cell? ⟨bc, 0, none⟩ = some (.int .i64 t) ∧ WW.cell? ⟨bc, 1, none⟩ = some (.int .i64 d) ∧ WW.cell? ⟨bc, 2, none⟩ = some (.func (.func ff) #[] #[])) from ⟨kW.see m0, kW.see m1, kW.see m2⟩))
        refine wp_regionL (L := 3) (S := fun w' => w'.cell? ⟨bc, 0, none⟩ = some (.int .i64 t) ∧ w'.cell? ⟨bc, 1, none⟩ = some (.int .i64 d) ∧ w'.cell? ⟨bc, 2, none⟩ = some (.func (.func ff) #[] #[])) (by kernel_rfl) ⟨m0, m1, m2⟩ (fun hHeld => ?_)
        refine wpAnyL_take (i := 0) (v := ?_) rfl (by kernel_rfl) (by kernel_rfl) (by kernel_rfl) (fun _ _ _ h => h) (by rfl) (by kernel_rfl) (by kernel_rfl) (Or.inl ⟨by rfl, ?_⟩) (by assumption) ?_
        rotate_left 1
        · (intro w' hSw; (try dsimp only at hSw); go_simp; try with_reducible rfl)
        try simp only [Act.put, List.setIfInBounds_toArray, List.set_cons_zero, List.set_cons_succ, List.getElem_toArray, List.getElem_cons_zero, List.getElem_cons_succ]
        refine wpAnyL_take0 (i := 1) (v := ?_) rfl (by kernel_rfl) (by kernel_rfl) (by kernel_rfl) (fun _ _ _ h => h) (by rfl) (Or.inl ⟨by rfl, ?_⟩) (by assumption) ?_
        rotate_left 1
        · (intro w' hSw; (try dsimp only at hSw); go_simp; try with_reducible rfl)
        try simp only [Act.put, List.setIfInBounds_toArray, List.set_cons_zero, List.set_cons_succ, List.getElem_toArray, List.getElem_cons_zero, List.getElem_cons_succ]
        refine wpAnyL_ready (rs := [2]) (by kernel_rfl) (by simp) ?_
        refine AllReadyL.cons rfl (fun K hK => ?_) AllReadyL.nil
        refine stepL_callN 62 #[.tmp 50] #[24] (by rfl) (by rfl) #[.slice (some ⟨xb, xo, none⟩) n cap] (by simp only [List.map_toArray, List.map_cons, List.map_nil] <;> rfl) (run_go Tryz.func62 (by kernel_rfl) (by kernel_rfl) _ _) (QC.out _ (hik (HR.out.keep KW.out))) ?_
        rintro e U1 ⟨b, he, hCb, hbl, kk⟩
        have CB := hik hCb
        have hbl2 : w.heap.size ≤ b := Nat.le_trans s3 (Nat.le_trans KW.out.size hbl)
        clear hCb hbl
        refine ⟨_, he, ?_⟩
        replace KW := hik (KW.out.trans kk)
        refine hK.out _ _ (SA.out _ KW.out) (fun hHeld => ?_)
        clear hK K
        try simp only [Act.put, List.setIfInBounds_toArray, List.set_cons_zero, List.set_cons_succ, List.getElem_toArray, List.getElem_cons_zero, List.getElem_cons_succ]
        clear he kk
        refine wpAnyL_ready (rs := [3]) (by kernel_rfl) (by simp) ?_
        refine AllReadyL.last rfl (by kernel_rfl) (fun K hK => ?_)
        have EN := hik (E3.out.keep KW.out)
        have g0 : U1.cell? ⟨w.heap.size, 0, none⟩ = some (.int .i64 0) := EN.out.c0
        have g1 : U1.cell? ⟨w.heap.size, 1, none⟩ = some (.int .i64 0) := EN.out.c1
        have g2 : U1.cell? ⟨w.heap.size, 2, none⟩ = some .nilFunc := EN.out.c2
        have f0 := EN.out.fz 0
        have f1 := EN.out.fz 1
        have f2 := EN.out.fz 2
        have ln : w.heap.size < U1.heap.size := EN.out.lt
        simp only [List.getElem_toArray, List.getElem_cons_zero, List.getElem_cons_succ]
        go_simp
        refine hK.out _ _ ?_
        clear hK K
        try simp only [Act.put, List.setIfInBounds_toArray, List.set_cons_zero, List.set_cons_succ, List.getElem_toArray, List.getElem_cons_zero, List.getElem_cons_succ]
        clear g0 g1 g2 f0 f1 f2 ln
        refine wpAnyL_take1 (i := 4) (v := ?_) rfl (by kernel_rfl) (by kernel_rfl) (by kernel_rfl) (fun _ _ _ h => h) (by rfl) (by rfl) (Or.inl ⟨by rfl, ?_⟩) ?_
        rotate_left 1
        · (intro w' hSw; (try dsimp only at hSw); go_simp; try with_reducible rfl)
        try simp only [Act.put, List.setIfInBounds_toArray, List.set_cons_zero, List.set_cons_succ, List.getElem_toArray, List.getElem_cons_zero, List.getElem_cons_succ]
        refine wpAnyL_take1 (i := 5) (v := ?_) rfl (by kernel_rfl) (by kernel_rfl) (by kernel_rfl) (fun _ _ _ h => h) (by rfl) (by rfl) (Or.inl ⟨by rfl, ?_⟩) ?_
        rotate_left 1
        · (intro w' hSw; (try dsimp only at hSw); go_simp; try with_reducible rfl)
        try simp only [Act.put, List.setIfInBounds_toArray, List.set_cons_zero, List.set_cons_succ, List.getElem_toArray, List.getElem_cons_zero, List.getElem_cons_succ]
        refine wpAnyL_done (by kernel_rfl) ?_ _
        have u := hik (EN.out.set t d (.func (.func ff) #[] #[]))
        have q := chg3_set (Chg.refl (fun x => x = w.heap.size) U1) w.heap.size (fun _ => rfl) (.int .i64 t) (.int .i64 d) (.func (.func ff) #[] #[])
        have CB2 := hik (CB.out.chg q (fun e => absurd (rowIs_kind (e ▸ CB.out) EN.out) (by decide)))
        have GE := hik (chg3_set (G3.out.trans KW.out) w.heap.size (fun l => absurd l (by omega)) (.int .i64 t) (.int .i64 d) (.func (.func ff) #[] #[]))
        have u0 := u.out.c0
        have u1 := u.out.c1
        have u2 := u.out.c2
        clear q
        go_wp2
        exact bodyPost_ret (v := .tuple #[.agg #[.int .i64 t, .int .i64 d, .func (.func ff) #[] #[]], .slice (some ⟨b, 0, none⟩) n n, .int .i64 0]) (by simp [results, Tryz.results25, go_sem, u0, u1, u2]) rfl (.inr ⟨HQ.out, k, t, d, ff, b, rfl, HH.out, rfl, CB2.out, hbl2, GE.out⟩)
  · have HC := hik (show ac8 (k : Int) n L f g = 4 by unfold ac8; rw [if_neg hl, if_neg (fun q => hnt (by have := q.2; omega))])
    have hbz : ((n : Int) != t) = true := by simp only [bne_iff_ne]; omega
    have HNT := hik hnt
    clear hnt ht hd hKD hn4 hk12 HN4 hk
    go_enter Tryz.func25, Tryz.ntmps25
    go_wp2_with fail
    generalize hE : w.alloc (.cells #[.int .i64 0, .int .i64 0, .nilFunc] 55) = W0 at E0 G0 ⊢
    clear hE
    refine (co_ok HKD.out _).mono ?_
    rintro e W1 ⟨rfl, k1⟩
    obtain ⟨bc, hbc⟩ : ∃ bc, bc = W1.heap.size := ⟨_, rfl⟩
    have E2 := hik ((E0.out.keep k1).keep ((Chg.refl nob W1).alloc (.cells #[.int .i64 t, .int .i64 d, .func (.func ff) #[] #[]] 55)))
    have C2 := hik (show CmB (W1.alloc (.cells #[.int .i64 t, .int .i64 d, .func (.func ff) #[] #[]] 55)) bc t d (.func (.func ff) #[] #[]) from by rw [hbc]; exact CmB.new W1 t d _)
    have G2 := hik ((G0.out.trans k1).alloc (.cells #[.int .i64 t, .int .i64 d, .func (.func ff) #[] #[]] 55))
    clear k1 E0 G0
    go_upto_region 4 with fail
    rw [← hbc]
    generalize hE : W1.alloc (.cells #[.int .i64 t, .int .i64 d, .func (.func ff) #[] #[]] 55) = W2 at E2 G2 C2 ⊢
    clear hE hbc
    have m0 : W2.cell? ⟨bc, 0, none⟩ = some (.int .i64 t) := C2.out.c0
    have c0 : W2.cell? ⟨w.heap.size, 0, none⟩ = some (.int .i64 0) := E2.out.c0
    have c1 : W2.cell? ⟨w.heap.size, 1, none⟩ = some (.int .i64 0) := E2.out.c1
    have c2 : W2.cell? ⟨w.heap.size, 2, none⟩ = some .nilFunc := E2.out.c2
    have f0 := E2.out.fz 0
    have f1 := E2.out.fz 1
    have f2 := E2.out.fz 2
    go_wp2
    have u := hik (E2.out.set 0 0 .nilFunc)
    have u0 := u.out.c0
    have u1 := u.out.c1
    have u2 := u.out.c2
    exact bodyPost_ret (v := .tuple #[.agg #[.int .i64 0, .int .i64 0, .nilFunc], .slice none 0 0, .int .i64 4]) (by simp [results, Tryz.results25, go_sem, u0, u1, u2]) rfl (TaAns.no HC.out (by decide) (chg3_set G2.out w.heap.size (fun l => absurd l (by omega)) _ _ _))

end Go.Proofs.YtgiefpipflcbgadGreatDoor

namespace Go.Proofs.YtgiefpipflcbgadGreatDoor
open Go.ChangeShapes Go.WideShapes Go.ChangeAt Go.RowKit
set_option linter.unusedVariables false
set_option maxRecDepth 100000
set_option linter.unusedSimpArgs false

end Go.Proofs.YtgiefpipflcbgadGreatDoor
