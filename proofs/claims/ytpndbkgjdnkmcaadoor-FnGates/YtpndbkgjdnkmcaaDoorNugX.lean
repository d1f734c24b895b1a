/- Numbers of any sign in a text, the program's side: contracts. Conditions: what the library's variables hold as the program's text lays it. -/
import Derived.Shelf.Strconv.ErrVarAll
import Derived.Test.YtpndbkgjdnkmcaaDoorBzaz
import Derived.Test.YtpndbkgjdnkmcaaDoorBzau
namespace Go.Proofs.YtpndbkgjdnkmcaaDoor
open Go.ChangeShapes Go.WideShapes Go.ChangeAt Go.RowKit
set_option linter.unusedVariables false
set_option maxRecDepth 100000
set_option linter.unusedSimpArgs false

/-- The library's error of texts that are no number. -/
def Ers (w : World) : Prop := ∃ te pe, w.var? Tryd.prog "strconv.ErrSyntax" = some #[.iface te pe]
theorem Ers.keep {w w' : World} (h : Ers w) (k : Chg nob w w') : Ers w' := by
  obtain ⟨te, pe, c⟩ := h
  have hg : Tryd.prog.globalNamed "strconv.ErrSyntax" = some 2 := by kernel_rfl
  have hl : 2 < w.heap.size := World.block_lt_of_cell? w _ (World.var?_cell hg c 0)
  refine ⟨te, pe, ?_⟩
  unfold World.var? at c ⊢
  simp only [hg, Option.bind_some] at c ⊢
  rw [k.block _ hl (fun x => x)]
  exact c
theorem itoa_int (n : Int) (w : World) (h : Hid (Pw10 w)) (h0 : -9223372036854775808 ≤ n) (h1 : n ≤ 9223372036854775807) : Calls Tryd.prog 38 #[.int .i64 n] w fun e w' => e = .returned (.string ⟨(Go.Lib.itoa n).toArray⟩) ∧ Chg nob w w' := by
  refine (Any.strconv_Itoa itoE n (by omega) (by omega) w h.out).mono ?_
  rintro e w' ⟨rfl, k, os, rfl⟩
  have b := Go.Lib.below_grow w.heap.size w (Nat.le_refl _) k os
  exact ⟨rfl, chg_bl b⟩
theorem atoi_err (l : List UInt8) (hl : l.length ≤ 1000000) (h : ∀ v, Go.Lib.atoiAll l ≠ .ok v) (w : World) (he : Hid (Erg w)) (hy : Hid (Ers w)) : Calls Tryd.prog 42 #[.string ⟨l.toArray⟩] w fun e w' => ∃ (v : Int) (t : TypeId) (p : Value), e = .returned (.tuple #[.int .i64 v, .iface t p]) ∧ Chg nob w w' := by
  rcases ha : Go.Lib.atoiAll l with v | _ | _
  · exact absurd ha (h v)
  · obtain ⟨te, pe, hc⟩ := hy.out
    refine (Any.strconv_Atoi_syntax_var atoE ⟨l.toArray⟩ (by show l.toArray.size ≤ _; simp; omega) (by show Go.Lib.atoiAll l.toArray.toList = _; rw [List.toList_toArray]; exact ha) te pe w hc).mono ?_
    rintro e w' ⟨N, rfl, _, _, b⟩
    exact ⟨_, _, _, rfl, chg_bl b⟩
  · exact atoi_big l hl ha w he
theorem nmv_no {l : List UInt8} (h : nmb l = false) : nmv l = 0 := by
  unfold nmv
  rw [if_neg (by rw [h]; decide)]
theorem nzv_next (ws : List (List UInt8)) (k : Nat) (z : Int) (e : z = nzv ws k) : ∀ i, i < k + 1 → (if i = k then z else nzv ws i) = nzv ws i := fun i _ => by
  by_cases h : i = k
  · subst h
    rw [if_pos rfl, e]
  · rw [if_neg h]
set_option maxHeartbeats 2000000 in
theorem numberFromG_any (l : List UInt8) (hne : l ≠ []) (hl : l.length ≤ 1000000) (w : World) (hp : Hid (Pw10 w)) (he : Hid (Erg w)) (hy : Hid (Ers w)) :
    Calls Tryd.prog 31 #[.string ⟨l.toArray⟩] w fun e w' => e = .returned (.tuple #[.int .i64 (nmv l), .bool (nmb l)]) ∧ Chg nob w w' := by
  by_cases hok : ∃ v, Go.Lib.atoiAll l = .ok v
  · obtain ⟨v, ha⟩ := hok
    have hat := atoi_ok l hl v ha w
    obtain ⟨b0, b1⟩ := Go.Lib.atoiAll_bounds ha
    have HI := hik (fun w' (k : Chg nob w w') => itoa_int v w' (hik (hp.out.keep k)) b0 b1)
    obtain ⟨k1, k2⟩ := nm_ok hne ha
    have HK := hik k1
    have HV2 := hik k2
    have HV3 := hik (fun (h : nmb l = false) => nmv_no h)
    clear k1 k2 b0 b1
    generalize nmv l = V at HV2 HV3 ⊢
    have HSE := hik (show (⟨(Go.Lib.itoa v).toArray⟩ : ByteArray).toList = (⟨l.toArray⟩ : ByteArray).toList ↔ Go.Lib.itoa v = l by
      rw [ByteArray.toList_eq, ByteArray.toList_eq])
    have HSS := hik (fun (h : Go.Lib.itoa v = l) => (show (⟨(Go.Lib.itoa v).toArray⟩ : ByteArray) = ⟨l.toArray⟩ by rw [h]))
    clear ha
    cases hb : nmb l
    · have HB0 := hik (HV3.out hb)
      rw [HB0.out]
      have hn : ¬ atk l v := fun e => by
        have := HK.out.2 e
        rw [hb] at this
        cases this
      clear HK HV2 HV3 hb HB0
      unfold atk at hn
      by_cases hs : Go.Lib.itoa v = l
      · have es := HSS.out hs
        rw [es] at HI
        have hb2 : v ≤ -1000000000000000000 ∨ (¬ v ≤ -1000000000000000000 ∧ 1000000000000000000 ≤ v) := by
          by_cases x : v ≤ -1000000000000000000
          · exact .inl x
          · refine .inr ⟨x, ?_⟩
            by_cases y : 1000000000000000000 ≤ v
            · exact y
            · exact absurd ⟨hs, by omega, by omega⟩ hn
        clear hn hs es HSE HSS
        generalize (⟨l.toArray⟩ : ByteArray) = Y at hat HI ⊢
        rcases hb2 with hb2 | ⟨hb3, hb2⟩
        · go_enter Tryd.func31, Tryd.ntmps31
          go_wp2_with (first | (go_at_call 42; refine hat.mono ?_; rintro e W1 ⟨rfl, k1⟩; have K1 := hik k1; clear k1) | (go_at_call 38; refine (HI.out _ K1.out).mono ?_; rintro e W2 ⟨rfl, k2⟩; have K2 := hik (K1.out.trans k2); clear k2))
          go_ret2
          exact ⟨rfl, K2.out⟩
        · go_enter Tryd.func31, Tryd.ntmps31
          go_wp2_with (first | (go_at_call 42; refine hat.mono ?_; rintro e W1 ⟨rfl, k1⟩; have K1 := hik k1; clear k1) | (go_at_call 38; refine (HI.out _ K1.out).mono ?_; rintro e W2 ⟨rfl, k2⟩; have K2 := hik (K1.out.trans k2); clear k2))
          go_ret2
          exact ⟨rfl, K2.out⟩
      · have hns := fun e => hs (HSE.out.1 e)
        clear hn hs HSE HSS
        generalize (⟨(Go.Lib.itoa v).toArray⟩ : ByteArray) = X at HI hns
        generalize (⟨l.toArray⟩ : ByteArray) = Y at hat hns ⊢
        have hns : ¬ X.toList = Y.toList := hns
        go_enter Tryd.func31, Tryd.ntmps31
        go_wp2_with (first | (go_at_call 42; refine hat.mono ?_; rintro e W1 ⟨rfl, k1⟩; have K1 := hik k1; clear k1) | (go_at_call 38; refine (HI.out _ K1.out).mono ?_; rintro e W2 ⟨rfl, k2⟩; have K2 := hik (K1.out.trans k2); clear k2))
        all_goals (go_ret2; exact ⟨rfl, K2.out⟩)
    · obtain ⟨hs, h1, h2⟩ := HK.out.1 hb
      have HVV := hik (HV2.out hb)
      rw [HVV.out]
      have es := HSS.out hs
      rw [es] at HI
      have h1' : ¬ v ≤ -1000000000000000000 := by omega
      have h2' : ¬ 1000000000000000000 ≤ v := by omega
      clear HK HV2 HV3 hb hs es HSE HSS h1 h2 HVV
      generalize (⟨l.toArray⟩ : ByteArray) = Y at hat HI ⊢
      go_enter Tryd.func31, Tryd.ntmps31
      go_wp2_with (first | (go_at_call 42; refine hat.mono ?_; rintro e W1 ⟨rfl, k1⟩; have K1 := hik k1; clear k1) | (go_at_call 38; refine (HI.out _ K1.out).mono ?_; rintro e W2 ⟨rfl, k2⟩; have K2 := hik (K1.out.trans k2); clear k2))
      go_ret2
      exact ⟨rfl, K2.out⟩
  · have hno : ∀ v, Go.Lib.atoiAll l ≠ .ok v := fun v e => hok ⟨v, e⟩
    have hat := atoi_err l hl hno w he hy
    have hb := nm_bad hne hno
    rw [nmv_no hb, hb]
    clear hno hok hb
    generalize (⟨l.toArray⟩ : ByteArray) = Y at hat ⊢
    go_enter Tryd.func31, Tryd.ntmps31
    go_wp2_with (go_at_call 42; refine hat.mono ?_; rintro e W1 ⟨x, t, p, rfl, k1⟩; have K1 := hik k1; clear k1)
    go_ret2
    exact ⟨rfl, K1.out⟩
set_option maxHeartbeats 2000000 in
theorem numbersFromG_any (ws : List (List UInt8)) (c : Option Addr) (cap : Nat) (w : World) (h : Hid (RowV w c ws.length (tvs ws))) (hw : Hid (∀ x ∈ ws, x ≠ [] ∧ x.length ≤ 1000000)) (hn : ws.length ≤ 100000) (hp : Hid (Pw10 w)) (he : Hid (Erg w)) (hy : Hid (Ers w)) :
    Calls Tryd.prog 14 #[.slice c ws.length cap] w fun e w' => RnB w ws.length (nzv ws) (ws.all nmb) e w' := by
  go_enter Tryd.func14, Tryd.ntmps14
  go_wp2_with fail
  go_loopw [4, 11] (fun vn vi W => ∃ k : Nat, k ≤ ws.length ∧ vi = .int .i64 k ∧ Hid (IGr W w.heap.size vn k (nzv ws)) ∧ Hid (∀ j, j < k → nmb (ws.getD j []) = true) ∧ Hid (Chg nob w W)) (fun _ vi _ => ws.length - (intOf vi).toNat)
  case atStart => exact ⟨0, Nat.zero_le _, rfl, hik (IGr.nil _ _ _), hik (fun j hj => absurd hj (by omega)), hik (Chg.refl nob w)⟩
  case round =>
    obtain ⟨k, hk, rfl, IA, HA, KA⟩ := hrel
    rename World => wi
    by_cases hlt : k < ws.length
    · have hkn : ((k : Nat) : Int) < (ws.length : Int) := by omega
      obtain ⟨yb, yo, rfl, hyb, d0⟩ := (h.out.keep KA.out) k hlt
      have hx := hw.out _ (mem_getD hlt)
      have hnf := numberFromG_any (ws.getD k []) hx.1 hx.2 wi (hik (hp.out.keep KA.out)) (hik (he.out.keep KA.out)) (hik (hy.out.keep KA.out))
      have d1 : wi.cell? ⟨yb, yo + k, none⟩ = some (.string ⟨(ws.getD k []).toArray⟩) := d0
      clear d0 hx
      have HL := hik hlt
      cases hb : nmb (ws.getD k []) with
      | false =>
        have HB := hik (all_no hlt hb)
        rw [hb] at hnf
        generalize nmv (ws.getD k []) = z at hnf
        clear hb
        generalize (⟨(ws.getD k []).toArray⟩ : ByteArray) = T at hnf d1
        go_wp2_with (go_at_call 31; refine hnf.mono ?_; rintro e W1 ⟨rfl, k1⟩; have K1 := hik (KA.out.trans k1); clear k1)
        go_ret2
        rw [HB.out]
        exact ⟨_, rfl, IGr.nil _ _ _, K1.out⟩
      | true =>
        have HB := hik hb
        have EV := hik (show nmv (ws.getD k []) = nzv ws k from rfl)
        rw [hb] at hnf
        clear hb
        generalize (⟨(ws.getD k []).toArray⟩ : ByteArray) = T at hnf d1
        generalize nmv (ws.getD k []) = z at hnf EV
        go_wp2_with fail
        refine hnf.mono ?_
        rintro e W2 ⟨rfl, k1⟩
        have K1 := hik (KA.out.trans k1)
        have IB := hik ((IA.out.keep k1).keep ((Chg.refl nob W2).alloc (.cells #[.int .i64 z] 3)))
        have CB := hik (show World.cell? (W2.alloc (.cells #[.int .i64 z] 3)) ⟨W2.heap.size, 0, none⟩ = some (.int .i64 z) by go_simp)
        have LB := hik (show w.heap.size ≤ (W2.alloc (.cells #[.int .i64 z] 3)).heap.size from Nat.le_trans K1.out.size ((Chg.refl nob W2).alloc (.cells #[.int .i64 z] 3)).size)
        have KQ := hik (K1.out.alloc (.cells #[.int .i64 z] 3))
        clear k1 IA KA d1
        go_wp2_with (at_builtin; refine wpList_app1 (by rfl) (.tmp 22) (.tmp 24) (by rfl) w.heap.size k W2.heap.size _ _ z (by rfl) (by rfl) IB.out CB.out (by omega) LB.out ?b6)
        case b6 =>
          intro v7 w7 hg7 k7
          have HI7 := hik (hg7.congr (nzv_next ws k z EV.out))
          have KZ := hik (KQ.out.near k7 (fun i q => by have q : w.heap.size ≤ i := q; omega))
          have HA7 := hik (show ∀ j, j < k + 1 → nmb (ws.getD j []) = true from fun j hj => by
            by_cases e : j = k
            · rw [e]; exact HB.out
            · exact HA.out j (by omega))
          clear hg7 k7 IB CB LB KQ HA
          go_wp2
          go_roundw
          case rel => exact ⟨k + 1, HL.out, by go_num, HI7, HA7, KZ⟩
          case measure => simp [intOf]; have := HL.out; omega
    · obtain rfl : ws.length = k := by omega
      have HB := hik (all_yes HA.out)
      go_wp2
      go_ret2
      rw [HB.out]
      exact ⟨_, rfl, IA.out, KA.out⟩

end Go.Proofs.YtpndbkgjdnkmcaaDoor
