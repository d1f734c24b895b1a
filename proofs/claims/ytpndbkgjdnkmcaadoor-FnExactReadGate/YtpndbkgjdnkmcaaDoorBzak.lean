/- Several texts in one: Numbers of any sign in a text, the program's side: contracts. Conditions: what the library's variables hold as the program's text lays it. · A gate read out of a text, the program's side: contracts. Conditions: the table of shapes and what the library's variables hold as the program's text lays them. -/
import Derived.Shelf.Strconv.ErrVarAll
import Derived.Test.YtpndbkgjdnkmcaaDoorBzag
import Derived.Test.YtpndbkgjdnkmcaaDoorBzaj
import Derived.Test.YtpndbkgjdnkmcaaDoorBzah
import Derived.Test.YtpndbkgjdnkmcaaDoorBzal
import Derived.Test.YtpndbkgjdnkmcaaDoorBzao
import Derived.Test.YtpndbkgjdnkmcaaDoorBzau
import Derived.Test.YtpndbkgjdnkmcaaDoorRowN
namespace Go.Proofs.YtpndbkgjdnkmcaaDoor
open Go.ChangeShapes Go.WideShapes Go.ChangeAt Go.RowKit
set_option linter.unusedVariables false
set_option maxRecDepth 100000
set_option linter.unusedSimpArgs false

/-- The library's error of texts that are no number. -/
def Ers (w : World) : Prop := ∃ te pe, w.var? Tryd.prog "strconv.ErrSyntax" = some #[.iface te pe]
theorem Ers.keep {w w' : World} (h : Ers w) (k : Chg nob w w') : Ers w' := by
  obtain ⟨te, pe, c⟩ := h
  have hg : Tryd.prog.globalNamed "strconv.ErrSyntax" = some 2 := by kernel_rfl
  have hl : 2 < w.heap.size := World.block_lt_of_cell? w _ (World.var?_cell hg c 0)
  refine ⟨te, pe, ?_⟩
  unfold World.var? at c ⊢
  simp only [hg, Option.bind_some] at c ⊢
  rw [k.block _ hl (fun x => x)]
  exact c
theorem itoa_int (n : Int) (w : World) (h : Hid (Pw10 w)) (h0 : -9223372036854775808 ≤ n) (h1 : n ≤ 9223372036854775807) : Calls Tryd.prog 38 #[.int .i64 n] w fun e w' => e = .returned (.string ⟨(Go.Lib.itoa n).toArray⟩) ∧ Chg nob w w' := by
  refine (Any.strconv_Itoa itoE n (by omega) (by omega) w h.out).mono ?_
  rintro e w' ⟨rfl, k, os, rfl⟩
  have b := Go.Lib.below_grow w.heap.size w (Nat.le_refl _) k os
  exact ⟨rfl, chg_bl b⟩
theorem atoi_err (l : List UInt8) (hl : l.length ≤ 1000000) (h : ∀ v, Go.Lib.atoiAll l ≠ .ok v) (w : World) (he : Hid (Erg w)) (hy : Hid (Ers w)) : Calls Tryd.prog 42 #[.string ⟨l.toArray⟩] w fun e w' => ∃ (v : Int) (t : TypeId) (p : Value), e = .returned (.tuple #[.int .i64 v, .iface t p]) ∧ Chg nob w w' := by
  rcases ha : Go.Lib.atoiAll l with v | _ | _
  · exact absurd ha (h v)
  · obtain ⟨te, pe, hc⟩ := hy.out
    refine (Any.strconv_Atoi_syntax_var atoE ⟨l.toArray⟩ (by show l.toArray.size ≤ _; simp; omega) (by show Go.Lib.atoiAll l.toArray.toList = _; rw [List.toList_toArray]; exact ha) te pe w hc).mono ?_
    rintro e w' ⟨N, rfl, _, _, b⟩
    exact ⟨_, _, _, rfl, chg_bl b⟩
  · exact atoi_big l hl ha w he
theorem nmv_no {l : List UInt8} (h : nmb l = false) : nmv l = 0 := by
  unfold nmv
  rw [if_neg (by rw [h]; decide)]
theorem nzv_next (ws : List (List UInt8)) (k : Nat) (z : Int) (e : z = nzv ws k) : ∀ i, i < k + 1 → (if i = k then z else nzv ws i) = nzv ws i := fun i _ => by
  by_cases h : i = k
  · subst h
    rw [if_pos rfl, e]
  · rw [if_neg h]
set_option maxHeartbeats 2000000 in
theorem numberFromG_any (l : List UInt8) (hne : l ≠ []) (hl : l.length ≤ 1000000) (w : World) (hp : Hid (Pw10 w)) (he : Hid (Erg w)) (hy : Hid (Ers w)) :
    Calls Tryd.prog 31 #[.string ⟨l.toArray⟩] w fun e w' => e = .returned (.tuple #[.int .i64 (nmv l), .bool (nmb l)]) ∧ Chg nob w w' := by
  by_cases hok : ∃ v, Go.Lib.atoiAll l = .ok v
  · obtain ⟨v, ha⟩ := hok
    have hat := atoi_ok l hl v ha w
    obtain ⟨b0, b1⟩ := Go.Lib.atoiAll_bounds ha
    have HI := hik (fun w' (k : Chg nob w w') => itoa_int v w' (hik (hp.out.keep k)) b0 b1)
    obtain ⟨k1, k2⟩ := nm_ok hne ha
    have HK := hik k1
    have HV2 := hik k2
    have HV3 := hik (fun (h : nmb l = false) => nmv_no h)
    clear k1 k2 b0 b1
    generalize nmv l = V at HV2 HV3 ⊢
    have HSE := hik (show (⟨(Go.Lib.itoa v).toArray⟩ : ByteArray).toList = (⟨l.toArray⟩ : ByteArray).toList ↔ Go.Lib.itoa v = l by
      rw [ByteArray.toList_eq, ByteArray.toList_eq])
    have HSS := hik (fun (h : Go.Lib.itoa v = l) => (show (⟨(Go.Lib.itoa v).toArray⟩ : ByteArray) = ⟨l.toArray⟩ by rw [h]))
    clear ha
    cases hb : nmb l
    · have HB0 := hik (HV3.out hb)
      rw [HB0.out]
      have hn : ¬ atk l v := fun e => by
        have := HK.out.2 e
        rw [hb] at this
        cases this
      clear HK HV2 HV3 hb HB0
      unfold atk at hn
      by_cases hs : Go.Lib.itoa v = l
      · have es := HSS.out hs
        rw [es] at HI
        have hb2 : v ≤ -1000000000000000000 ∨ (¬ v ≤ -1000000000000000000 ∧ 1000000000000000000 ≤ v) := by
          by_cases x : v ≤ -1000000000000000000
          · exact .inl x
          · refine .inr ⟨x, ?_⟩
            by_cases y : 1000000000000000000 ≤ v
            · exact y
            · exact absurd ⟨hs, by omega, by omega⟩ hn
        clear hn hs es HSE HSS
        generalize (⟨l.toArray⟩ : ByteArray) = Y at hat HI ⊢
        rcases hb2 with hb2 | ⟨hb3, hb2⟩
        · go_enter Tryd.func31, Tryd.ntmps31
          go_wp2_with (first | (go_at_call 42; refine hat.mono ?_; rintro e W1 ⟨rfl, k1⟩; have K1 := hik k1; clear k1) | (go_at_call 38; refine (HI.out _ K1.out).mono ?_; rintro e W2 ⟨rfl, k2⟩; have K2 := hik (K1.out.trans k2); clear k2))
          go_ret2
          exact ⟨rfl, K2.out⟩
        · go_enter Tryd.func31, Tryd.ntmps31
          go_wp2_with (first | (go_at_call 42; refine hat.mono ?_; rintro e W1 ⟨rfl, k1⟩; have K1 := hik k1; clear k1) | (go_at_call 38; refine (HI.out _ K1.out).mono ?_; rintro e W2 ⟨rfl, k2⟩; have K2 := hik (K1.out.trans k2); clear k2))
          go_ret2
          exact ⟨rfl, K2.out⟩
      · have hns := fun e => hs (HSE.out.1 e)
        clear hn hs HSE HSS
        generalize (⟨(Go.Lib.itoa v).toArray⟩ : ByteArray) = X at HI hns
        generalize (⟨l.toArray⟩ : ByteArray) = Y at hat hns ⊢
        have hns : ¬ X.toList = Y.toList := hns
        go_enter Tryd.func31, Tryd.ntmps31
        go_wp2_with (first | (go_at_call 42; refine hat.mono ?_; rintro e W1 ⟨rfl, k1⟩; have K1 := hik k1; clear k1) | (go_at_call 38; refine (HI.out _ K1.out).mono ?_; rintro e W2 ⟨rfl, k2⟩; have K2 := hik (K1.out.trans k2); clear k2))
        all_goals (go_ret2; exact ⟨rfl, K2.out⟩)
    · obtain ⟨hs, h1, h2⟩ := HK.out.1 hb
      have HVV := hik (HV2.out hb)
      rw [HVV.out]
      have es := HSS.out hs
      rw [es] at HI
      have h1' : ¬ v ≤ -1000000000000000000 := by omega
      have h2' : ¬ 1000000000000000000 ≤ v := by omega
      clear HK HV2 HV3 hb hs es HSE HSS h1 h2 HVV
      generalize (⟨l.toArray⟩ : ByteArray) = Y at hat HI ⊢
      go_enter Tryd.func31, Tryd.ntmps31
      go_wp2_with (first | (go_at_call 42; refine hat.mono ?_; rintro e W1 ⟨rfl, k1⟩; have K1 := hik k1; clear k1) | (go_at_call 38; refine (HI.out _ K1.out).mono ?_; rintro e W2 ⟨rfl, k2⟩; have K2 := hik (K1.out.trans k2); clear k2))
      go_ret2
      exact ⟨rfl, K2.out⟩
  · have hno : ∀ v, Go.Lib.atoiAll l ≠ .ok v := fun v e => hok ⟨v, e⟩
    have hat := atoi_err l hl hno w he hy
    have hb := nm_bad hne hno
    rw [nmv_no hb, hb]
    clear hno hok hb
    generalize (⟨l.toArray⟩ : ByteArray) = Y at hat ⊢
    go_enter Tryd.func31, Tryd.ntmps31
    go_wp2_with (go_at_call 42; refine hat.mono ?_; rintro e W1 ⟨x, t, p, rfl, k1⟩; have K1 := hik k1; clear k1)
    go_ret2
    exact ⟨rfl, K1.out⟩
set_option maxHeartbeats 2000000 in
theorem numbersFromG_any (ws : List (List UInt8)) (c : Option Addr) (cap : Nat) (w : World) (h : Hid (RowV w c ws.length (tvs ws))) (hw : Hid (∀ x ∈ ws, x ≠ [] ∧ x.length ≤ 1000000)) (hn : ws.length ≤ 100000) (hp : Hid (Pw10 w)) (he : Hid (Erg w)) (hy : Hid (Ers w)) :
    Calls Tryd.prog 14 #[.slice c ws.length cap] w fun e w' => RnB w ws.length (nzv ws) (ws.all nmb) e w' := by
  go_enter Tryd.func14, Tryd.ntmps14
  go_wp2_with fail
  go_loopw [4, 11] (fun vn vi W => ∃ k : Nat, k ≤ ws.length ∧ vi = .int .i64 k ∧ Hid (IGr W w.heap.size vn k (nzv ws)) ∧ Hid (∀ j, j < k → nmb (ws.getD j []) = true) ∧ Hid (Chg nob w W)) (fun _ vi _ => ws.length - (intOf vi).toNat)
  case atStart => exact ⟨0, Nat.zero_le _, rfl, hik (IGr.nil _ _ _), hik (fun j hj => absurd hj (by omega)), hik (Chg.refl nob w)⟩
  case round =>
    obtain ⟨k, hk, rfl, IA, HA, KA⟩ := hrel
    rename World => wi
    by_cases hlt : k < ws.length
    · have hkn : ((k : Nat) : Int) < (ws.length : Int) := by omega
      obtain ⟨yb, yo, rfl, hyb, d0⟩ := (h.out.keep KA.out) k hlt
      have hx := hw.out _ (mem_getD hlt)
      have hnf := numberFromG_any (ws.getD k []) hx.1 hx.2 wi (hik (hp.out.keep KA.out)) (hik (he.out.keep KA.out)) (hik (hy.out.keep KA.out))
      have d1 : wi.cell? ⟨yb, yo + k, none⟩ = some (.string ⟨(ws.getD k []).toArray⟩) := d0
      clear d0 hx
      have HL := hik hlt
      cases hb : nmb (ws.getD k []) with
      | false =>
        have HB := hik (all_no hlt hb)
        rw [hb] at hnf
        generalize nmv (ws.getD k []) = z at hnf
        clear hb
        generalize (⟨(ws.getD k []).toArray⟩ : ByteArray) = T at hnf d1
        go_wp2_with (go_at_call 31; refine hnf.mono ?_; rintro e W1 ⟨rfl, k1⟩; have K1 := hik (KA.out.trans k1); clear k1)
        go_ret2
        rw [HB.out]
        exact ⟨_, rfl, IGr.nil _ _ _, K1.out⟩
      | true =>
        have HB := hik hb
        have EV := hik (show nmv (ws.getD k []) = nzv ws k from rfl)
        rw [hb] at hnf
        clear hb
        generalize (⟨(ws.getD k []).toArray⟩ : ByteArray) = T at hnf d1
        generalize nmv (ws.getD k []) = z at hnf EV
        go_wp2_with fail
        refine hnf.mono ?_
        rintro e W2 ⟨rfl, k1⟩
        have K1 := hik (KA.out.trans k1)
        have IB := hik ((IA.out.keep k1).keep ((Chg.refl nob W2).alloc (.cells #[.int .i64 z] 3)))
        have CB := hik (show World.cell? (W2.alloc (.cells #[.int .i64 z] 3)) ⟨W2.heap.size, 0, none⟩ = some (.int .i64 z) by go_simp)
        have LB := hik (show w.heap.size ≤ (W2.alloc (.cells #[.int .i64 z] 3)).heap.size from Nat.le_trans K1.out.size ((Chg.refl nob W2).alloc (.cells #[.int .i64 z] 3)).size)
        have KQ := hik (K1.out.alloc (.cells #[.int .i64 z] 3))
        clear k1 IA KA d1
        go_wp2_with (at_builtin; refine wpList_app1 (by rfl) (.tmp 22) (.tmp 24) (by rfl) w.heap.size k W2.heap.size _ _ z (by rfl) (by rfl) IB.out CB.out (by omega) LB.out ?b6)
        case b6 =>
          intro v7 w7 hg7 k7
          have HI7 := hik (hg7.congr (nzv_next ws k z EV.out))
          have KZ := hik (KQ.out.near k7 (fun i q => by have q : w.heap.size ≤ i := q; omega))
          have HA7 := hik (show ∀ j, j < k + 1 → nmb (ws.getD j []) = true from fun j hj => by
            by_cases e : j = k
            · rw [e]; exact HB.out
            · exact HA.out j (by omega))
          clear hg7 k7 IB CB LB KQ HA
          go_wp2
          go_roundw
          case rel => exact ⟨k + 1, HL.out, by go_num, HI7, HA7, KZ⟩
          case measure => simp [intOf]; have := HL.out; omega
    · obtain rfl : ws.length = k := by omega
      have HB := hik (all_yes HA.out)
      go_wp2
      go_ret2
      rw [HB.out]
      exact ⟨_, rfl, IA.out, KA.out⟩

end Go.Proofs.YtpndbkgjdnkmcaaDoor

namespace Go.Proofs.YtpndbkgjdnkmcaaDoor
open Go.ChangeShapes Go.WideShapes Go.ChangeAt Go.RowKit
set_option linter.unusedVariables false
set_option maxRecDepth 100000
set_option linter.unusedSimpArgs false

theorem SGr.nil (W : World) (B : Nat) : SGr W B (.slice Option.none 0 0) [] := ⟨rfl, .inl ⟨rfl, rfl⟩⟩
theorem SGr.low {W : World} {B B' : Nat} {v : Value} {ws : List (List UInt8)} (h : SGr W B v ws) (hb : B' ≤ B) : SGr W B' v ws := by
  obtain ⟨hl, h0 | ⟨g, cap, cur, e, hg, r⟩⟩ := h
  · exact ⟨hl, .inl h0⟩
  · exact ⟨hl, .inr ⟨g, cap, cur, e, Nat.le_trans hb hg, r⟩⟩
theorem SGr.row2 {W : World} {B : Nat} {v : Value} {ws : List (List UInt8)} (h : SGr W B v ws) : ∃ c cap, v = .slice c ws.length cap ∧ ws.length ≤ cap ∧ RowV W c ws.length (tvs ws) := by
  have h1 := h.row
  obtain ⟨hl, ⟨rfl, h0⟩ | ⟨g, cap, cur, rfl, hb, hg, hc, hm, hs, ht⟩⟩ := h
  · exact ⟨Option.none, 0, by rw [h0], by omega, fun i hi => absurd hi (by omega)⟩
  · obtain ⟨c, cap', e, r⟩ := h1
    injection e with e1 e2 e3
    subst e1 e3
    exact ⟨_, _, rfl, hc, r⟩
theorem getD_at {ps : List (List UInt8)} {k : Nat} (hk : k < ps.length) : ps.getD k [] = ps[k] := by
  rw [List.getD_eq_getElem?_getD, List.getElem?_eq_getElem hk]
  rfl
theorem take_next {ps : List (List UInt8)} {k : Nat} (hk : k < ps.length) : ps.take (k + 1) = ps.take k ++ [ps.getD k []] := by
  rw [List.take_succ_eq_append_getElem hk, List.getD_eq_getElem?_getD, List.getElem?_eq_getElem hk]
  rfl
set_option maxHeartbeats 2000000 in
theorem wordsOf_any (s : ByteArray) (hs : s.size ≤ 65536) (w : World) (hm : Hid (Mxl w)) :
    Calls Tryd.prog 12 #[.string s] w fun e w' => ∃ v, e = .returned v ∧ SGr w' w.heap.size v (wds s.data.toList) ∧ Chg nob w w' := by
  have hsp := split_any s (by omega) w hm
  go_enter Tryd.func12, Tryd.ntmps12
  go_wp2_with fail
  refine hsp.mono ?_
  rintro e W1 ⟨b, ps, rfl, hrow, hlen, hf, k1⟩
  have hl9 : ps.length ≤ 65537 := by omega
  have HR := hik hrow
  have HF := hik hf
  have HL := hik hlen
  have K1 := hik k1
  have HS1 := hik k1.size
  have HBL := hik (fun (i : Nat) (hi : i < ps.length) => (show b < W1.heap.size by obtain ⟨yb, yo, ee, hyb, _⟩ := hrow i hi; cases ee; exact hyb))
  clear hrow hf hlen k1 hsp
  go_wp2_with fail
  go_loopw [3, 9] (fun vo vi W => ∃ k : Nat, k ≤ ps.length ∧ vi = .int .i64 k ∧ Hid (SGr W W1.heap.size vo ((ps.take k).filter (fun x => !x.isEmpty))) ∧ Hid (Chg nob w W) ∧ Hid (RowV W (some ⟨b, 0, none⟩) ps.length (tvs ps)) ∧ Hid (W1.heap.size ≤ W.heap.size)) (fun _ vi _ => ps.length - (intOf vi).toNat)
  case atStart => exact ⟨0, Nat.zero_le _, rfl, hik (SGr.nil _ _), K1, HR, hik (Nat.le_refl _)⟩
  case round =>
    clear K1 HR
    obtain ⟨k, hk, rfl, SA, KA, HR, HW1⟩ := hrel
    rename World => wi
    by_cases hlt : k < ps.length
    · have hkn : ((k : Nat) : Int) < (ps.length : Int) := by omega
      obtain ⟨yb, yo, ee, hyb, d0⟩ := HR.out k hlt
      cases ee
      have d1 : wi.cell? ⟨b, k, none⟩ = some (.string ⟨(ps.getD k []).toArray⟩) := by simpa [tvs, tv] using d0
      clear d0
      have HLT := hik hlt
      by_cases he : ps.getD k [] = []
      · have HN := hik (show (ps.take (k + 1)).filter (fun x => !x.isEmpty) = (ps.take k).filter (fun x => !x.isEmpty) by rw [take_next HLT.out, List.filter_append, he]; simp)
        rw [he] at d1
        clear he
        go_wp2
        go_roundw
        case rel => exact ⟨k + 1, HLT.out, by go_num, by rw [HN.out]; exact SA, KA, HR, HW1⟩
        case measure => simp [intOf]; have := HLT.out; omega
      · have HN := hik (show (ps.take (k + 1)).filter (fun x => !x.isEmpty) = (ps.take k).filter (fun x => !x.isEmpty) ++ [ps.getD k []] by
          rw [take_next HLT.out, List.filter_append]
          congr 1
          rw [List.filter_cons, if_pos (by rw [List.isEmpty_eq_false_iff.2 he]; rfl), List.filter_nil])
        have hne : ¬ (⟨(ps.getD k []).toArray⟩ : ByteArray).toList = [] := fun e => by
          rw [ByteArray.toList_eq] at e
          exact he (by simpa using e)
        have hne2 : (⟨(ps.getD k []).toArray⟩ : ByteArray).toList.isEmpty = false := List.isEmpty_eq_false_iff.2 hne
        have HPC := hik (show (.string ⟨(ps.getD k []).toArray⟩ : Value) = tv (ps.getD k []) from rfl)
        have HCN := hik (show ((ps.take k).filter (fun x => !x.isEmpty)).length ≤ 100000 from by
          have h1 := List.length_filter_le (fun x : List UInt8 => !x.isEmpty) (ps.take k)
          rw [List.length_take] at h1
          have := HL.out
          omega)
        generalize hT : (⟨(ps.getD k []).toArray⟩ : ByteArray) = Tx at d1 hne hne2 HPC
        have KB := hik (KA.out.alloc (.cells #[.string Tx] 9))
        have SB := hik (SA.out.keep ((Chg.refl nob wi).alloc (.cells #[.string Tx] 9)))
        have RB := hik (HR.out.keep ((Chg.refl nob wi).alloc (.cells #[.string Tx] 9)))
        have CB := hik (show World.cell? (wi.alloc (.cells #[.string Tx] 9)) ⟨wi.heap.size, 0, none⟩ = some (tv (ps.getD k [])) by rw [← HPC.out]; go_simp)
        have LB := hik (show W1.heap.size ≤ (wi.alloc (.cells #[.string Tx] 9)).heap.size from Nat.le_trans HW1.out ((Chg.refl nob wi).alloc (.cells #[.string Tx] 9)).size)
        have HBW := hik hyb
        clear he hT
        go_wp2_with (at_builtin; refine wpList_appS (by rfl) (.tmp 15) (.tmp 17) (by rfl) W1.heap.size wi.heap.size _ _ _ (by rfl) (by rfl) SB.out CB.out (by have := HCN.out; omega) LB.out ?b6)
        case b6 =>
          intro v7 w7 hg7 k7
          have SZ := hik (show SGr w7 W1.heap.size v7 ((ps.take (k + 1)).filter (fun x => !x.isEmpty)) by rw [HN.out, getD_at HLT.out]; exact hg7)
          have KZ := hik (KB.out.near k7 (fun i q => by have q : W1.heap.size ≤ i := q; have := HS1.out; omega))
          have RZ := hik (RB.out.chg k7 (fun xb xo e l q => by cases e; have q : W1.heap.size ≤ b := q; have := HBL.out k HLT.out; omega))
          have LZ := hik (Nat.le_trans LB.out k7.size)
          clear hg7 k7 SB CB LB KB RB HR
          go_wp2
          go_roundw
          case rel => exact ⟨k + 1, HLT.out, by go_num, SZ, KZ, RZ, LZ⟩
          case measure => simp [intOf]; have := HLT.out; omega
    · obtain rfl : ps.length = k := by omega
      go_wp2
      go_ret
      refine ⟨_, rfl, ?_, KA.out⟩
      rw [← HF.out]
      have h := SA.out
      rw [List.take_length] at h
      exact h.low HS1.out
theorem field_sh2 (x : ByteArray) (n : Int) (b : Bool) (W : World) : (Instr.field 45 (.agg #[.string x, .int .i64 n, .bool b]) 2).run Tryd.prog W = .ok (.bool b) W := by
  first | kernel_rfl | (simp [Instr.field, Tryd.underlying45]; rfl)
theorem shw_opl (i : Nat) : shw i = ⟨(opl.getD i []).toArray⟩ := rfl
set_option maxHeartbeats 2000000 in
theorem opOf_any (l : List UInt8) (w : World) (h : Hid (Shp w)) : Calls Tryd.prog 13 #[.string ⟨l.toArray⟩] w fun e w' => e = .returned (.int .i64 ((opw l : Nat) : Int)) ∧ Chg nob w w' := by
  obtain ⟨o, ho⟩ : ∃ o : Int, o = ((opw l : Nat) : Int) := ⟨_, rfl⟩
  rw [← ho]
  have HO := hik ho
  clear ho
  go_enter Tryd.func13, Tryd.ntmps13
  go_wp2_with fail
  go_loopw [3] (fun v W => ∃ k : Nat, k ≤ 8 ∧ v = .int .i64 ((k : Int) + 1) ∧ Hid (∀ i, i < k → opl.getD i [] ≠ l) ∧ Hid (Chg nob w W)) (fun v _ => 10 - (intOf v).toNat)
  case atStart => exact ⟨0, by omega, rfl, hik (fun i hi => absurd hi (by omega)), hik (Chg.refl nob w)⟩
  case round =>
    obtain ⟨k, hk, rfl, HA, KA⟩ := hrel
    rename World => wi
    by_cases hlt : k < 8
    · have hk8 : ((k : Nat) : Int) + 1 ≤ 8 := by omega
      have hsh := shapeOf_any k hlt wi (hik (h.out.keep KA.out))
      have hfl := fun W => field_sh0 (shw k) (shp k) (shn k) W
      have HLT := hik hlt
      by_cases he : opl.getD k [] = l
      · have HV := hik (show o = ((k : Nat) : Int) + 1 by rw [HO.out, opw_at HLT.out he]; omega)
        rw [shw_opl, he] at hsh hfl
        clear he
        generalize shp k = S at hsh hfl
        generalize shn k = N at hsh hfl
        generalize (⟨l.toArray⟩ : ByteArray) = Y at hsh hfl ⊢
        go_wp2_with (go_at_call 15; refine hsh.mono ?_; rintro e W1 ⟨rfl, k1⟩; have K1 := hik (KA.out.trans k1); clear k1)
        go_ret
        rw [HV.out]
        exact ⟨rfl, K1.out⟩
      · have hne : ¬ (shw k).toList = (⟨l.toArray⟩ : ByteArray).toList := fun e => by
          rw [shw_opl, ByteArray.toList_eq, ByteArray.toList_eq] at e
          exact he (by simpa using e)
        have HN := hik (show ∀ i, i < k + 1 → opl.getD i [] ≠ l from fun i hi => by
          by_cases e : i = k
          · rw [e]; exact he
          · exact HA.out i (by omega))
        clear he
        generalize shp k = S at hsh hfl
        generalize shn k = N at hsh hfl
        generalize shw k = X at hsh hfl hne
        generalize (⟨l.toArray⟩ : ByteArray) = Y at hne ⊢
        have hne1 : (X.toList == Y.toList) = false := beq_eq_false_iff_ne.2 hne
        go_wp2_with (go_at_call 15; refine hsh.mono ?_; rintro e W1 ⟨rfl, k1⟩; have K1 := hik (KA.out.trans k1); clear k1)
        go_roundw
        case rel => exact ⟨k + 1, HLT.out, by go_num, HN, K1⟩
        case measure => simp [intOf] <;> have := HLT.out <;> omega
    · have hk8 : ¬ ((k : Nat) : Int) + 1 ≤ 8 := by omega
      have HV := hik (show o = 0 by rw [HO.out, opw_no (fun i hi => HA.out i (by omega))]; rfl)
      go_wp2
      go_ret
      rw [HV.out]
      exact ⟨rfl, KA.out⟩
section
variable {ops : Array Oper} {rest : List Oper} {o : Oper} {a : Act} {Q : Exit → Act → World → Prop} {w : World}
/-- Numbers copied into a row of numbers, from off on. -/
theorem wpList_copy_intsT (d x : Operand) (hgd : o.guard = none) (ho : o.op = .call { callee := .builtin .copy, args := #[d, x], argTypes := #[41, 41] })
    (g off dl dc : Nat) (c : Option Addr) (n cap : Nat) (hd : a.eval d = .slice (some ⟨g, off, none⟩) dl dc) (hs : a.eval x = .slice c n cap) {N : Nat} {tt : TypeId} {u t : Nat → Int} (hr : w.rowIs g tt N (iv u)) (hv : RowV w c n (iv t)) (hl : n ≤ dl) (hf : off + dl ≤ N)
    (h : ∀ w', w'.rowIs g tt N (iv (spl off n t u)) → Chg (fun b => b = g) w w' → wpList Tryd.prog ops Q rest (a.put o.dst (goInt n)) w') : wpList Tryd.prog ops Q (o :: rest) a w := by
  have hu : Tryd.prog.underlying 41 = some (.slice 3) := Tryd.underlying41
  obtain ⟨i, hi, _, hz1, _⟩ := info_parts infoInt
  have hsz : (Tryd.prog.info? 3).map (·.size) = some 1 := by rw [hi]; simp [hz1]
  by_cases h0 : n = 0
  · subst h0
    refine wpList_copy_nothing hgd d x _ _ ho 3 hu hsz _ _ dl dc 0 cap hd hs (Nat.zero_min _) ?_
    exact h w (hr.congr (fun i _ => by simp only [iv, spl]; rw [if_neg (by omega)])) (Chg.refl _ _)
  · obtain ⟨xb, xo, rfl, hxb, _⟩ := hv 0 (by omega)
    have hsrc : ∀ j v, ((List.range n).map (iv t))[j]? = some v → w.cell? ((⟨xb, xo, none⟩ : Addr).add j) = some v := by
      intro j v hj
      by_cases hjr : j < n
      · rw [List.getElem?_map, List.getElem?_range hjr] at hj
        simp at hj
        subst hj
        obtain ⟨yb, yo, e, _, hy⟩ := hv j hjr
        cases e
        rw [Go.WideShapes.add_plain]
        exact hy
      · rw [List.getElem?_eq_none (by simp; omega)] at hj
        cases hj
    have hlen : ((List.range n).map (iv t)).length = n := by simp
    refine wpList_copy_own hgd d x _ _ ho 3 hu hsz g off dl dc ⟨xb, xo, none⟩ n cap hd hs (rowA N (iv u)) tt (rowA_of hr) ((List.range n).map (iv t)) (by rw [hlen]; exact (Nat.min_eq_left hl).symm) hsrc (by rw [hlen, rowA_size]; omega) (by intro v hv; simp at hv; obtain ⟨j, _, rfl⟩ := hv; rfl) ?_
    rw [hlen]
    refine h _ ⟨_, setRow_heap w g _ _ tt _ (rowA_of hr), ?_, fun i hi => ?_⟩ ⟨rfl, rfl, rfl, by simp [World.setRow], fun k hk hp => ?_⟩
    · simp [rowA_size]; omega
    · rw [List.getElem?_toArray]
      exact row_spl N off n t u (by omega) i hi
    · simp only [World.setRow, Array.getElem?_modify]
      rw [if_neg (fun e => hp e.symm)]
end
set_option maxHeartbeats 1000000 in
theorem shapeSize_any (x : ByteArray) (p : Int) (b : Bool) (w : World) : Calls Tryd.prog 16 #[.agg #[.string x, .int .i64 p, .bool b]] w fun e w' => e = .returned (.int .i64 (if b = true then 1 else p)) ∧ Chg nob w w' := by
  have KB := hik ((Chg.refl nob w).alloc (.cells #[.string x, .int .i64 p, .bool b] 45))
  have c1 : World.cell? (w.alloc (.cells #[.string x, .int .i64 p, .bool b] 45)) ⟨w.heap.size, 1, none⟩ = some (.int .i64 p) := by go_simp
  have c2 : World.cell? (w.alloc (.cells #[.string x, .int .i64 p, .bool b] 45)) ⟨w.heap.size, 2, none⟩ = some (.bool b) := by go_simp
  cases b
  · go_enter Tryd.func16, Tryd.ntmps16
    go_wp2
    go_ret
    exact ⟨rfl, KB.out⟩
  · go_enter Tryd.func16, Tryd.ntmps16
    go_wp2
    go_ret
    exact ⟨rfl, KB.out⟩
theorem gof_num (z : Nat → Int) : gof 3 z = (3, 0, 0, z 0) := rfl
theorem gof_oth {i n : Nat} (hi : i < 8) (h2 : i ≠ 2) (hn : n = gnn ((i : Int) + 1)) (z : Nat → Int) : n ≤ 2 ∧ gof (i + 1) z = ((i : Int) + 1, spl 0 n z (fun _ => 0) 0, spl 0 n z (fun _ => 0) 1, 0) := by
  subst hn
  rcases (show i = 0 ∨ i = 1 ∨ i = 3 ∨ i = 4 ∨ i = 5 ∨ i = 6 ∨ i = 7 by omega) with rfl | rfl | rfl | rfl | rfl | rfl | rfl <;> exact ⟨by decide, rfl⟩
set_option maxHeartbeats 4000000 in
theorem gateOf_any (i : Nat) (hi : i < 8) (c : Option Addr) (n cap : Nat) (z : Nat → Int) (w : World) (h : Hid (Shp w)) (hn : n = gnn ((i : Int) + 1)) (hr : Hid (RowV w c n (iv z))) :
    Calls Tryd.prog 17 #[.int .i64 ((i : Int) + 1), .slice c n cap] w fun e w' => e = .returned (.agg #[.int .i64 (gof (i + 1) z).1, .int .i64 (gof (i + 1) z).2.1, .int .i64 (gof (i + 1) z).2.2.1, .int .i64 (gof (i + 1) z).2.2.2]) ∧ Chg nob w w' := by
  have K0 := hik ((Chg.refl nob w).alloc (.cells #[.int .i64 0, .int .i64 0, .int .i64 0, .int .i64 0] 23))
  have RB := hik (rowN_new w 4 #[.int .i64 0, .int .i64 0, .int .i64 0, .int .i64 0] 23 rfl)
  have hsh := shapeOf_any i hi (w.alloc (.cells #[.int .i64 0, .int .i64 0, .int .i64 0, .int .i64 0] 23)) (hik (h.out.keep K0.out))
  have hfl := fun W => field_sh2 (shw i) (shp i) (shn i) W
  by_cases h2 : i = 2
  · subst h2
    have hn1 : n = 1 := hn
    subst hn1
    rw [gof_num]
    obtain ⟨yb, yo, rfl, hyb, d0⟩ := hr.out 0 (by omega)
    have D0 := hik (show w.cell? ⟨yb, yo, none⟩ = some (.int .i64 (z 0)) by simpa [iv] using d0)
    clear d0 hn
    generalize z 0 = z0 at D0 ⊢
    rw [show shn 2 = true from rfl] at hsh hfl
    generalize shw 2 = X at hsh hfl
    generalize shp 2 = S at hsh hfl
    go_enter Tryd.func17, Tryd.ntmps17
    go_wp2_with fail
    refine hsh.mono ?_
    rintro e W1 ⟨rfl, k1⟩
    have K1 := hik (K0.out.trans k1)
    have RB1 := hik (rowIs_keep RB.out k1)
    have d1 := K1.out.see D0.out
    have c0 : W1.cell? ⟨w.heap.size, 0, none⟩ = some (.int .i64 0) := RB1.out.cell (i := 0) (by omega)
    have c1 : W1.cell? ⟨w.heap.size, 1, none⟩ = some (.int .i64 0) := RB1.out.cell (i := 1) (by omega)
    have c2 : W1.cell? ⟨w.heap.size, 2, none⟩ = some (.int .i64 0) := RB1.out.cell (i := 2) (by omega)
    have c3 : W1.cell? ⟨w.heap.size, 3, none⟩ = some (.int .i64 0) := RB1.out.cell (i := 3) (by omega)
    have f0 := RB1.out.frozen 0
    have f1 := RB1.out.frozen 1
    have f2 := RB1.out.frozen 2
    have f3 := RB1.out.frozen 3
    have lw := RB1.out.lt
    clear k1
    go_wp2
    have RE := (((((RB1.out.set 0 (.int .i64 3)).set 1 (.int .i64 0)).set 2 (.int .i64 0)).set 3 (.int .i64 z0)).congr (g := fun i => (#[.int .i64 3, .int .i64 0, .int .i64 0, .int .i64 z0] : Array Value).getD i undef) (fun i hi => by rcases (show i = 0 ∨ i = 1 ∨ i = 2 ∨ i = 3 by omega) with rfl | rfl | rfl | rfl <;> rfl))
    have KF := ((((K1.out.setCell (p := ⟨w.heap.size, 0, none⟩) (fun l => absurd (show w.heap.size < w.heap.size from l) (by omega)) (.int .i64 3)).setCell (p := ⟨w.heap.size, 1, none⟩) (fun l => absurd (show w.heap.size < w.heap.size from l) (by omega)) (.int .i64 0)).setCell (p := ⟨w.heap.size, 2, none⟩) (fun l => absurd (show w.heap.size < w.heap.size from l) (by omega)) (.int .i64 0)).setCell (p := ⟨w.heap.size, 3, none⟩) (fun l => absurd (show w.heap.size < w.heap.size from l) (by omega)) (.int .i64 z0))
    exact bodyPost_ret (results_cell_row Tryd.results17 _ _ w.heap.size 23 #[.int .i64 3, .int .i64 0, .int .i64 0, .int .i64 z0] (0, 0) _ rfl (rowA_of RE) Tryd.underlying23 rfl (by kernel_rfl)) rfl ⟨rfl, KF⟩
  · obtain ⟨hn2, hg⟩ := gof_oth hi h2 hn z
    rw [hg]
    have HNS := hik (show shn i = false from by unfold shn; simp [h2])
    rw [HNS.out] at hsh hfl
    have HOI := hik (show (((i : Int) + 1, spl 0 n z (fun _ => 0) 0, spl 0 n z (fun _ => 0) 1, 0) : Gt).1 = (i : Int) + 1 from rfl)
    generalize (i : Int) + 1 = o at hsh ⊢
    generalize shw i = X at hsh hfl
    generalize shp i = S at hsh hfl
    clear hg HNS HOI hn h2
    show Calls Tryd.prog 17 #[.int .i64 o, .slice c n cap] w fun e w' => e = .returned (.agg #[.int .i64 o, .int .i64 (spl 0 n z (fun _ => 0) 0), .int .i64 (spl 0 n z (fun _ => 0) 1), .int .i64 0]) ∧ Chg nob w w'
    go_enter Tryd.func17, Tryd.ntmps17
    go_wp2_with fail
    refine hsh.mono ?_
    rintro e W1 ⟨rfl, k1⟩
    have K1 := hik ((K0.out.trans k1).alloc (.cells #[.int .i64 0, .int .i64 0] 64))
    have RB1 := hik (rowIs_keep (rowIs_keep RB.out k1) ((Chg.refl nob W1).alloc (.cells #[.int .i64 0, .int .i64 0] 64)))
    have RP := hik ((rowN_new W1 2 #[.int .i64 0, .int .i64 0] 64 rfl).congr (g := iv (fun _ => 0)) (fun i hi => by rcases (show i = 0 ∨ i = 1 by omega) with rfl | rfl <;> rfl))
    have HR1 := hik (hr.out.keep ((Chg.refl nob w).trans (K1.out)))
    have HLW := hik (show w.heap.size < W1.heap.size from (rowIs_keep RB.out k1).lt)
    clear k1
    go_wp2_with ((with_reducible refine wpList_copy_intsT (.tmp 14) (.tmp 15) rfl rfl W1.heap.size 0 2 2 c n cap ?hd ?hs RP.out HR1.out hn2 (by omega) ?_); (case hd => rfl); (case hs => rfl); intro W9 r9 k9; (have R9 := hik r9; have K9 := hik (K1.out.near k9 (fun b e => by have e' : b = W1.heap.size := e; have := HLW.out; omega)); have RB9 := hik (rowIs_chg RB1.out k9 (fun e => by have e' : w.heap.size = W1.heap.size := e; have := HLW.out; omega)); have p0 : W9.cell? ⟨W1.heap.size, 0, none⟩ = some (.int .i64 (spl 0 n z (fun _ => 0) 0)) := R9.out.cell (i := 0) (by omega); have p1 : W9.cell? ⟨W1.heap.size, 1, none⟩ = some (.int .i64 (spl 0 n z (fun _ => 0) 1)) := R9.out.cell (i := 1) (by omega); have c0 : W9.cell? ⟨w.heap.size, 0, none⟩ = some (.int .i64 0) := RB9.out.cell (i := 0) (by omega); have c1 : W9.cell? ⟨w.heap.size, 1, none⟩ = some (.int .i64 0) := RB9.out.cell (i := 1) (by omega); have c2 : W9.cell? ⟨w.heap.size, 2, none⟩ = some (.int .i64 0) := RB9.out.cell (i := 2) (by omega); have c3 : W9.cell? ⟨w.heap.size, 3, none⟩ = some (.int .i64 0) := RB9.out.cell (i := 3) (by omega); have f0 := RB9.out.frozen 0; have f1 := RB9.out.frozen 1; have f2 := RB9.out.frozen 2; have f3 := RB9.out.frozen 3; have lw := RB9.out.lt; clear r9 k9 K1 RB1 RP HR1))
    have RE := (((((RB9.out.set 0 (.int .i64 o)).set 1 (.int .i64 (spl 0 n z (fun _ => 0) 0))).set 2 (.int .i64 (spl 0 n z (fun _ => 0) 1))).set 3 (.int .i64 0)).congr (g := fun i => (#[.int .i64 o, .int .i64 (spl 0 n z (fun _ => 0) 0), .int .i64 (spl 0 n z (fun _ => 0) 1), .int .i64 0] : Array Value).getD i undef) (fun i hi => by rcases (show i = 0 ∨ i = 1 ∨ i = 2 ∨ i = 3 by omega) with rfl | rfl | rfl | rfl <;> rfl))
    have KF := ((((K9.out.setCell (p := ⟨w.heap.size, 0, none⟩) (fun l => absurd (show w.heap.size < w.heap.size from l) (by omega)) (.int .i64 o)).setCell (p := ⟨w.heap.size, 1, none⟩) (fun l => absurd (show w.heap.size < w.heap.size from l) (by omega)) (.int .i64 (spl 0 n z (fun _ => 0) 0))).setCell (p := ⟨w.heap.size, 2, none⟩) (fun l => absurd (show w.heap.size < w.heap.size from l) (by omega)) (.int .i64 (spl 0 n z (fun _ => 0) 1))).setCell (p := ⟨w.heap.size, 3, none⟩) (fun l => absurd (show w.heap.size < w.heap.size from l) (by omega)) (.int .i64 0))
    exact bodyPost_ret (results_cell_row Tryd.results17 _ _ w.heap.size 23 #[.int .i64 o, .int .i64 (spl 0 n z (fun _ => 0) 0), .int .i64 (spl 0 n z (fun _ => 0) 1), .int .i64 0] (0, 0) _ rfl (rowA_of RE) Tryd.underlying23 rfl (by kernel_rfl)) rfl ⟨rfl, KF⟩

end Go.Proofs.YtpndbkgjdnkmcaaDoor
