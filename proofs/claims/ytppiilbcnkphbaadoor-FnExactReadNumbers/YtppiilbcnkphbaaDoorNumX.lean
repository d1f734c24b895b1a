/- Numbers in a line, the program's side: contracts. Conditions: what the library's variables hold as the program's text lays it. -/
import Derived.Test.YtppiilbcnkphbaaDoorNumM
import Derived.Test.YtppiilbcnkphbaaDoorSGro
import Derived.Test.YtppiilbcnkphbaaDoorItoX
import Derived.Test.YtppiilbcnkphbaaDoorAtoL
import Derived.Test.YtppiilbcnkphbaaDoorFldL
import Derived.Test.YtppiilbcnkphbaaDoorNokX
import Derived.Test.YtppiilbcnkphbaaDoorRowA
namespace Go.Proofs.YtppiilbcnkphbaaDoor
open Go.ChangeShapes Go.WideShapes Go.ChangeAt Go.RowKit
set_option linter.unusedVariables false
set_option maxRecDepth 100000
set_option linter.unusedSimpArgs false

theorem chg_bl {w w' : World} (b : Below w.heap.size w w') : Chg nob w w' := ⟨b.os, b.tape, b.output, b.size, fun i hi _ => b.block i hi⟩
/-- The library's table of white space. -/
def Asp (w : World) : Prop := ∀ c : Nat, c < 256 → w.cell? ⟨1, c, none⟩ = some (.int .u8 (if Go.Lib.isSp (UInt8.ofNat c) then 1 else 0))
theorem Asp.keep {w w' : World} (h : Asp w) (k : Chg nob w w') : Asp w' := fun c hc => k.see (h c hc)
/-- The library's error of numbers that are too great. -/
def Erg (w : World) : Prop := ∃ te pe, w.cell? ⟨5, 0, none⟩ = some (.iface te pe)
theorem Erg.keep {w w' : World} (h : Erg w) (k : Chg nob w w') : Erg w' := by
  obtain ⟨te, pe, c⟩ := h
  exact ⟨te, pe, k.see c⟩
theorem itoa_all (n : Int) (w : World) (h : Hid (Pw10 w)) (h0 : 0 ≤ n) (h1 : n ≤ 9223372036854775807) : Calls Tryd.prog 33 #[.int .i64 n] w fun e w' => e = .returned (.string ⟨(Go.Lib.itoa n).toArray⟩) ∧ Chg nob w w' := by
  refine (Any.strconv_Itoa itoE n (by omega) (by omega) w h.out).mono ?_
  rintro e w' ⟨rfl, k, os, rfl⟩
  have b := Go.Lib.below_grow w.heap.size w (Nat.le_refl _) k os
  exact ⟨rfl, chg_bl b⟩
theorem atoi_ok (l : List UInt8) (hl : l.length ≤ 1000000) (v : Int) (h : Go.Lib.atoiAll l = .ok v) (w : World) : Calls Tryd.prog 39 #[.string ⟨l.toArray⟩] w fun e w' => e = .returned (.tuple #[.int .i64 v, .nilIface]) ∧ Chg nob w w' := by
  refine (Any.strconv_Atoi_ok atoE ⟨l.toArray⟩ (by show l.toArray.size ≤ _; simp; omega) v (by show Go.Lib.atoiAll l.toArray.toList = _; rw [List.toList_toArray]; exact h) w).mono ?_
  rintro e w' ⟨rfl, rfl | ⟨t, rfl⟩⟩
  · exact ⟨rfl, Chg.refl _ _⟩
  · exact ⟨rfl, chg_bl (Go.Lib.bytesWorld_below w _ t)⟩
theorem atoi_big (l : List UInt8) (hl : l.length ≤ 1000000) (h : Go.Lib.atoiAll l = .range) (w : World) (he : Hid (Erg w)) : Calls Tryd.prog 39 #[.string ⟨l.toArray⟩] w fun e w' => ∃ (v : Int) (t : TypeId) (p : Value), e = .returned (.tuple #[.int .i64 v, .iface t p]) ∧ Chg nob w w' := by
  obtain ⟨te, pe, hc⟩ := he.out
  refine (Any.strconv_Atoi_range atoE ⟨l.toArray⟩ (by show l.toArray.size ≤ _; simp; omega) (by show Go.Lib.atoiAll l.toArray.toList = _; rw [List.toList_toArray]; exact h) (.iface te pe) w hc (.inr ⟨te, pe, rfl⟩)).mono ?_
  rintro e w' ⟨N, rfl, _, _, b⟩
  exact ⟨_, _, _, rfl, chg_bl b⟩
theorem fields_any (l : List UInt8) (hl : l.length ≤ 1000000) (ha : ∀ b ∈ l, dgb b = true ∨ b = 32) (w : World) (h : Hid (Asp w)) : Calls Tryd.prog 28 #[.string ⟨l.toArray⟩] w fun e w' => ∃ b, e = .returned (.slice (some ⟨b, 0, none⟩) (wds l).length (wds l).length) ∧ RowV w' (some ⟨b, 0, none⟩) (wds l).length (tvs (wds l)) ∧ Chg nob w w' := by
  have el : (⟨l.toArray⟩ : ByteArray).data.toList = l := by simp
  have hf : Go.Lib.fields l = wds l := fieldsGo_wdG l [] ha
  refine (Any.strings_Fields_core fldE (by kernel_rfl) ⟨l.toArray⟩ w (by show l.toArray.size < _; simp; omega) (fun j b hb => ?_) h.out).mono ?_
  · rw [el] at hb
    rcases ha b (List.mem_of_getElem? hb) with x | x
    · have := of_decide_eq_true x
      omega
    · rw [x]
      decide
  · rintro e w' ⟨rfl, rfl⟩
    rw [el, hf]
    have e : ((wds l).map fun x => Value.string ⟨x.toArray⟩).toArray = rowA (wds l).length (tvs (wds l)) := by
      unfold rowA
      rw [← tvs_map]
      rfl
    refine ⟨w.heap.size, rfl, RowV.of_row (rowIs_of (t := 9) (by rw [e]; exact Go.Deep.blk_alloc_new _ _)) (Nat.le_refl _), (Chg.refl nob w).alloc _⟩
set_option maxHeartbeats 2000000 in
theorem isDigit_any (x : Nat) (w : World) : Calls Tryd.prog 26 #[.int .u8 (x : Int)] w fun e w' => e = .returned (.bool (decide (48 ≤ x ∧ x ≤ 57))) ∧ w' = w := by
  by_cases h0 : (48 : Int) ≤ (x : Int)
  · by_cases h1 : (x : Int) ≤ 57
    · go_enter Tryd.func26, Tryd.ntmps26
      go_wp2
      go_ret
      exact ⟨ret_bool (by simp; omega), rfl⟩
    · go_enter Tryd.func26, Tryd.ntmps26
      go_wp2
      go_ret
      exact ⟨ret_bool (by simp; omega), rfl⟩
  · go_enter Tryd.func26, Tryd.ntmps26
    go_wp2
    go_ret
    exact ⟨ret_bool (by simp; omega), rfl⟩
set_option maxHeartbeats 2000000 in
theorem numberFrom_any (l : List UInt8) (hne : l ≠ []) (hd : l.all dgb = true) (hl : l.length ≤ 1000000) (w : World) (hp : Hid (Pw10 w)) (he : Hid (Erg w)) :
    Calls Tryd.prog 34 #[.string ⟨l.toArray⟩] w fun e w' => e = .returned (.tuple #[.int .i64 (if nfb l = true then (dvl 0 l : Int) else 0), .bool (nfb l)]) ∧ Chg nob w w' := by
  have ha := atoi_dig hne hd
  by_cases hb : dvl 0 l < 9223372036854775808
  · rw [if_pos hb] at ha
    have hat := atoi_ok l hl _ ha w
    have HI := hik (fun w' (k : Chg nob w w') => itoa_all (dvl 0 l : Int) w' (hik (hp.out.keep k)) (by omega) (by omega))
    have HZ := hik (itoa_dig hne hd)
    have HN := hik (show nfb l = (nlz l && decide (dvl 0 l < 1000000000000000000)) from rfl)
    generalize nfb l = B at HN ⊢
    obtain ⟨v, hv⟩ : ∃ v : Int, v = (dvl 0 l : Int) := ⟨_, rfl⟩
    have HV := hik (show 0 ≤ v ∧ (dvl 0 l < 1000000000000000000 ↔ v < 1000000000000000000) by omega)
    rw [← hv] at hat HI HZ ⊢
    clear ha hb hv
    have v0 : ¬ v ≤ -1000000000000000000 := by have := HV.out.1; omega
    cases hz : nlz l
    · have HB := hik (show B = false by rw [HN.out, hz]; rfl)
      have hns : ¬ (⟨(Go.Lib.itoa v).toArray⟩ : ByteArray).toList = (⟨l.toArray⟩ : ByteArray).toList := fun e => by
        rw [ByteArray.toList_eq, ByteArray.toList_eq] at e
        have e2 : Go.Lib.itoa v = l := by simpa using e
        have e3 := HZ.out.1 e2
        rw [hz] at e3
        cases e3
      rw [HB.out]
      clear HZ HN hz
      generalize (⟨(Go.Lib.itoa v).toArray⟩ : ByteArray) = X at HI hns
      generalize (⟨l.toArray⟩ : ByteArray) = Y at hat hns ⊢
      go_enter Tryd.func34, Tryd.ntmps34
      go_wp2_with (first | (go_at_call 39; refine hat.mono ?_; rintro e W1 ⟨rfl, k1⟩; have K1 := hik k1; clear k1) | (go_at_call 33; refine (HI.out _ K1.out).mono ?_; rintro e W2 ⟨rfl, k2⟩; have K2 := hik (K1.out.trans k2); clear k2))
      go_ret2
      exact ⟨rfl, K2.out⟩
    · have es : Go.Lib.itoa v = l := HZ.out.2 hz
      rw [es] at HI
      clear HZ
      generalize (⟨l.toArray⟩ : ByteArray) = Y at hat HI ⊢
      by_cases hlt : v < 1000000000000000000
      · have HB := hik (show B = true by rw [HN.out, hz, decide_eq_true (HV.out.2.2 hlt)]; rfl)
        rw [HB.out, if_pos rfl]
        clear HN hz
        have hge : ¬ 1000000000000000000 ≤ v := by omega
        go_enter Tryd.func34, Tryd.ntmps34
        go_wp2_with (first | (go_at_call 39; refine hat.mono ?_; rintro e W1 ⟨rfl, k1⟩; have K1 := hik k1; clear k1) | (go_at_call 33; refine (HI.out _ K1.out).mono ?_; rintro e W2 ⟨rfl, k2⟩; have K2 := hik (K1.out.trans k2); clear k2))
        go_ret2
        exact ⟨rfl, K2.out⟩
      · have HB := hik (show B = false by rw [HN.out, hz, decide_eq_false (fun u => hlt (HV.out.2.1 u))]; rfl)
        rw [HB.out]
        clear HN hz
        have hge : 1000000000000000000 ≤ v := by omega
        go_enter Tryd.func34, Tryd.ntmps34
        go_wp2_with (first | (go_at_call 39; refine hat.mono ?_; rintro e W1 ⟨rfl, k1⟩; have K1 := hik k1; clear k1) | (go_at_call 33; refine (HI.out _ K1.out).mono ?_; rintro e W2 ⟨rfl, k2⟩; have K2 := hik (K1.out.trans k2); clear k2))
        go_ret2
        exact ⟨rfl, K2.out⟩
  · rw [if_neg hb] at ha
    have hat := atoi_big l hl ha w he
    have hn : nfb l = false := by unfold nfb; simp; omega
    rw [hn]
    clear hn ha hb
    generalize (⟨l.toArray⟩ : ByteArray) = Y at hat ⊢
    go_enter Tryd.func34, Tryd.ntmps34
    go_wp2_with (go_at_call 39; refine hat.mono ?_; rintro e W1 ⟨x, t, p, rfl, k1⟩; have K1 := hik k1; clear k1)
    go_ret2
    exact ⟨rfl, K1.out⟩
/-- The words' values. -/
def rvs (ws : List (List UInt8)) (i : Nat) : Int := (dvl 0 (ws.getD i []) : Int)
theorem rvs_next (ws : List (List UInt8)) (k : Nat) (z : Int) (e : z = rvs ws k) : ∀ i, i < k + 1 → (if i = k then z else rvs ws i) = rvs ws i := fun i _ => by
  by_cases h : i = k
  · subst h
    rw [if_pos rfl, e]
  · rw [if_neg h]
theorem all_no {ws : List (List UInt8)} {p : List UInt8 → Bool} {k : Nat} (hk : k < ws.length) (h : p (ws.getD k []) = false) : ws.all p = false := by
  rw [List.getD_eq_getElem?_getD, List.getElem?_eq_getElem hk] at h
  simp only [Option.getD_some] at h
  rw [List.all_eq_false]
  exact ⟨_, List.getElem_mem hk, by rw [h]; decide⟩
theorem all_yes {ws : List (List UInt8)} {p : List UInt8 → Bool} (h : ∀ k, k < ws.length → p (ws.getD k []) = true) : ws.all p = true := by
  rw [List.all_eq_true]
  intro x hx
  obtain ⟨k, hk, rfl⟩ := List.getElem_of_mem hx
  have := h k hk
  rw [List.getD_eq_getElem?_getD, List.getElem?_eq_getElem hk] at this
  simpa using this
theorem mem_getD {ws : List (List UInt8)} {k : Nat} (hk : k < ws.length) : ws.getD k [] ∈ ws := by
  rw [List.getD_eq_getElem?_getD, List.getElem?_eq_getElem hk]
  exact List.getElem_mem hk
theorem IGr.low {W : World} {B B' : Nat} {v : Value} {k : Nat} {f : Nat → Int} (h : IGr W B v k f) (hb : B' ≤ B) : IGr W B' v k f := by
  obtain ⟨hl, h0 | ⟨g, cap, cur, e, hg, r⟩⟩ := h
  · exact ⟨hl, .inl h0⟩
  · exact ⟨hl, .inr ⟨g, cap, cur, e, Nat.le_trans hb hg, r⟩⟩
/-- Ints that a call made, and a bool. -/
def RnB (w : World) (n : Nat) (f : Nat → Int) (b : Bool) (e : Ending) (w' : World) : Prop := ∃ v, e = .returned (.tuple #[v, .bool b]) ∧ IGr w' w.heap.size v (if b = true then n else 0) f ∧ Chg nob w w'
set_option maxHeartbeats 2000000 in
theorem numbersFrom_any (ws : List (List UInt8)) (c : Option Addr) (cap : Nat) (w : World) (h : Hid (RowV w c ws.length (tvs ws))) (hw : Hid (∀ x ∈ ws, x ≠ [] ∧ x.all dgb = true ∧ x.length ≤ 1000000)) (hn : ws.length ≤ 100000) (hp : Hid (Pw10 w)) (he : Hid (Erg w)) :
    Calls Tryd.prog 27 #[.slice c ws.length cap] w fun e w' => RnB w ws.length (rvs ws) (ws.all nfb) e w' := by
  go_enter Tryd.func27, Tryd.ntmps27
  go_wp2_with fail
  go_loopw [4, 11] (fun vn vi W => ∃ k : Nat, k ≤ ws.length ∧ vi = .int .i64 k ∧ Hid (IGr W w.heap.size vn k (rvs ws)) ∧ Hid (∀ j, j < k → nfb (ws.getD j []) = true) ∧ Hid (Chg nob w W)) (fun _ vi _ => ws.length - (intOf vi).toNat)
  case atStart => exact ⟨0, Nat.zero_le _, rfl, hik (IGr.nil _ _ _), hik (fun j hj => absurd hj (by omega)), hik (Chg.refl nob w)⟩
  case round =>
    obtain ⟨k, hk, rfl, IA, HA, KA⟩ := hrel
    rename World => wi
    by_cases hlt : k < ws.length
    · have hkn : ((k : Nat) : Int) < (ws.length : Int) := by omega
      obtain ⟨yb, yo, rfl, hyb, d0⟩ := (h.out.keep KA.out) k hlt
      have hx := hw.out _ (mem_getD hlt)
      have hnf := numberFrom_any (ws.getD k []) hx.1 hx.2.1 hx.2.2 wi (hik (hp.out.keep KA.out)) (hik (he.out.keep KA.out))
      have d1 : wi.cell? ⟨yb, yo + k, none⟩ = some (.string ⟨(ws.getD k []).toArray⟩) := d0
      clear d0 hx
      have HL := hik hlt
      cases hb : nfb (ws.getD k []) with
      | false =>
        have HB := hik (all_no hlt hb)
        rw [hb, if_neg (by decide)] at hnf
        clear hb
        generalize (⟨(ws.getD k []).toArray⟩ : ByteArray) = T at hnf d1
        go_wp2_with (go_at_call 34; refine hnf.mono ?_; rintro e W1 ⟨rfl, k1⟩; have K1 := hik (KA.out.trans k1); clear k1)
        go_ret2
        rw [HB.out]
        exact ⟨_, rfl, IGr.nil _ _ _, K1.out⟩
      | true =>
        have HB := hik hb
        have EV := hik (show ((dvl 0 (ws.getD k []) : Nat) : Int) = rvs ws k from rfl)
        rw [hb, if_pos rfl] at hnf
        clear hb
        generalize (⟨(ws.getD k []).toArray⟩ : ByteArray) = T at hnf d1
        generalize ((dvl 0 (ws.getD k []) : Nat) : Int) = z at hnf EV
        go_wp2_with fail
        refine hnf.mono ?_
        rintro e W2 ⟨rfl, k1⟩
        have K1 := hik (KA.out.trans k1)
        have IB := hik ((IA.out.keep k1).keep ((Chg.refl nob W2).alloc (.cells #[.int .i64 z] 3)))
        have CB := hik (show World.cell? (W2.alloc (.cells #[.int .i64 z] 3)) ⟨W2.heap.size, 0, none⟩ = some (.int .i64 z) by go_simp)
        have LB := hik (show w.heap.size ≤ (W2.alloc (.cells #[.int .i64 z] 3)).heap.size from Nat.le_trans K1.out.size ((Chg.refl nob W2).alloc (.cells #[.int .i64 z] 3)).size)
        have KQ := hik (K1.out.alloc (.cells #[.int .i64 z] 3))
        clear k1 IA KA d1
        go_wp2_with (at_builtin; refine wpList_app1 (by rfl) (.tmp 22) (.tmp 24) (by rfl) w.heap.size k W2.heap.size _ _ z (by rfl) (by rfl) IB.out CB.out (by omega) LB.out ?b6)
        case b6 =>
          intro v7 w7 hg7 k7
          have HI7 := hik (hg7.congr (rvs_next ws k z EV.out))
          have KZ := hik (KQ.out.near k7 (fun i q => by have q : w.heap.size ≤ i := q; omega))
          have HA7 := hik (show ∀ j, j < k + 1 → nfb (ws.getD j []) = true from fun j hj => by
            by_cases e : j = k
            · rw [e]; exact HB.out
            · exact HA.out j (by omega))
          clear hg7 k7 IB CB LB KQ HA
          go_wp2
          go_roundw
          case rel => exact ⟨k + 1, HL.out, by go_num, HI7, HA7, KZ⟩
          case measure => simp [intOf]; have := HL.out; omega
    · obtain rfl : ws.length = k := by omega
      have HB := hik (all_yes HA.out)
      go_wp2
      go_ret2
      rw [HB.out]
      exact ⟨_, rfl, IA.out, KA.out⟩
theorem rn_words {s : List UInt8} (h : ∀ b ∈ s, dgb b = true ∨ b = 32) : ∀ x ∈ wds s, x ≠ [] ∧ x.all dgb = true ∧ x.length ≤ s.length := fun x hx =>
  ⟨wdG_ne s [] x hx, (wdG_dig s []).2 ⟨rfl, h⟩ x hx, by have := wdG_size s [] x hx; simpa using this⟩
/-- Numbers are right just where the library reads them, and all are below the prime. -/
theorem rnb_dig {s : List UInt8} (h : ∀ b ∈ s, dgb b = true ∨ b = 32) : rnb s = ((wds s).all nfb && fds9 (wds s).length (rvs (wds s))) := by
  have hw := rn_words h
  cases hb : rnb s
  · cases ha : (wds s).all nfb
    · rfl
    · refine (Bool.eq_false_iff.2 (fun hf => ?_)).symm
      have hf' : fds9 (wds s).length (rvs (wds s)) = true := by simpa using hf
      have : rnb s = true := all_yes (fun k hk => by
        rw [nok_nfb (hw _ (mem_getD hk)).2.1, (List.all_eq_true.1 ha) _ (mem_getD hk)]
        have h1 := (List.all_eq_true.1 (show (List.range (wds s).length).all (fun i => fok (rvs (wds s) i)) = true from hf')) k (List.mem_range.2 hk)
        have h2 : fok ((dvl 0 ((wds s).getD k []) : Nat) : Int) = true := h1
        simp only [fok, Bool.and_eq_true, decide_eq_true_eq] at h2
        rw [Bool.true_and]
        exact decide_eq_true (by omega))
      rw [hb] at this
      cases this
  · have ha : (wds s).all nfb = true := by
      rw [List.all_eq_true]
      intro x hx
      have h1 := (List.all_eq_true.1 (show (wds s).all nokb = true from hb)) x hx
      rw [nok_nfb (hw x hx).2.1] at h1
      simp only [Bool.and_eq_true] at h1
      exact h1.1
    rw [ha, Bool.true_and]
    refine (show fds9 (wds s).length (rvs (wds s)) = true from ?_).symm
    unfold fds9
    rw [List.all_eq_true]
    intro k hk
    have h1 := (List.all_eq_true.1 (show (wds s).all nokb = true from hb)) _ (mem_getD (List.mem_range.1 hk))
    unfold nokb at h1
    simp only [Bool.and_eq_true, decide_eq_true_eq] at h1
    obtain ⟨_, h3⟩ := h1
    show fok ((dvl 0 ((wds s).getD k []) : Nat) : Int) = true
    generalize dvl 0 ((wds s).getD k []) = y at h3
    unfold fok
    simp
    omega
theorem rnb_bad {s : List UInt8} {b : UInt8} (hb : b ∈ s) (h1 : dgb b = false) (h2 : b ≠ 32) : rnb s = false := by
  refine Bool.eq_false_iff.2 (fun hf => ?_)
  have : ∀ x ∈ wds s, x.all dgb = true := fun x hx => by
    have := (List.all_eq_true.1 (show (wds s).all nokb = true from hf)) x hx
    unfold nokb at this
    simp only [Bool.and_eq_true] at this
    exact this.1.1
  rcases ((wdG_dig s []).1 this).2 b hb with h | h
  · rw [h] at h1
    cases h1
  · exact h2 h
set_option maxHeartbeats 4000000 in
theorem lineNumbers_any (s : ByteArray) (hs : s.size ≤ 65536) (w : World) (hp : Hid (Pw10 w)) (he : Hid (Erg w)) (ha : Hid (Asp w)) :
    Calls Tryd.prog 15 #[.string s] w fun e w' => RnB w (rnn s.data.toList) (rvs (wds s.data.toList)) (rnb s.data.toList) e w' := by
  show Calls Tryd.prog 15 #[.string s] w fun e w' => RnB w (wds s.data.toList).length (rvs (wds s.data.toList)) (rnb s.data.toList) e w'
  obtain ⟨ws, hws⟩ : ∃ x, x = wds s.data.toList := ⟨_, rfl⟩
  obtain ⟨RB, hRB⟩ : ∃ x, x = rnb s.data.toList := ⟨_, rfl⟩
  rw [← hws, ← hRB]
  have HWS := hik hws
  have HRE := hik hRB
  clear hws hRB
  go_enter Tryd.func15, Tryd.ntmps15
  go_wp2_with fail
  go_loopw [4] (fun vi W => ∃ k : Nat, k ≤ s.size ∧ vi = .int .i64 k ∧ Hid (∀ (j : Nat) (h : j < s.size), j < k → dgb s[j] = true ∨ s[j] = 32) ∧ Hid (Chg nob w W)) (fun vi _ => s.size - (intOf vi).toNat)
  case atStart => exact ⟨0, Nat.zero_le _, rfl, hik (fun j _ hj => absurd hj (by omega)), hik (Chg.refl nob w)⟩
  case round =>
    obtain ⟨k, hk, rfl, HA, KA⟩ := hrel
    rename World => wi
    by_cases hlt : k < s.size
    · have hkn : ((k : Nat) : Int) < (s.size : Int) := by omega
      have hdg := isDigit_any s[k].toNat wi
      have HD := hik (show dgb s[k] = decide (48 ≤ s[k].toNat ∧ s[k].toNat ≤ 57) from rfl)
      have HM := hik (show s[k] ∈ s.data.toList from List.getElem_mem (l := s.data.toList) (by rw [Array.length_toList]; exact hlt))
      cases hb : decide (48 ≤ s[k].toNat ∧ s[k].toNat ≤ 57)
      · rw [hb] at hdg HD
        by_cases h32 : s[k].toNat = 32
        · have H32 := hik (show s[k] = 32 from UInt8.toNat_inj.1 h32)
          have hc : ((s[k].toNat : Nat) : Int) = 32 := by omega
          rw [h32] at hdg
          clear hb h32
          go_wp2_with (go_at_call 26; refine hdg.mono ?_; rintro e W1 ⟨rfl, rfl⟩)
          go_roundw
          case rel => exact ⟨k + 1, by omega, by go_num, hik (fun j h hj => by
            by_cases e : j = k
            · subst e; exact .inr H32.out
            · exact HA.out j h (by omega)), KA⟩
          case measure => simp [intOf]; omega
        · have HB := hik (show RB = false by rw [HRE.out]; exact rnb_bad HM.out HD.out (fun e => h32 (by rw [e]; rfl)))
          have hc : ¬ ((s[k].toNat : Nat) : Int) = 32 := by omega
          clear hb h32
          go_wp2_with (go_at_call 26; refine hdg.mono ?_; rintro e W1 ⟨rfl, rfl⟩)
          go_ret2
          rw [HB.out]
          exact ⟨_, rfl, IGr.nil _ _ _, KA.out⟩
      · rw [hb] at hdg HD
        clear hb
        go_wp2_with (go_at_call 26; refine hdg.mono ?_; rintro e W1 ⟨rfl, rfl⟩)
        go_roundw
        case rel => exact ⟨k + 1, by omega, by go_num, hik (fun j h hj => by
          by_cases e : j = k
          · subst e; exact .inl HD.out
          · exact HA.out j h (by omega)), KA⟩
        case measure => simp [intOf]; omega
    · obtain rfl : s.size = k := by omega
      have HAA := hik (show ∀ b ∈ s.data.toList, dgb b = true ∨ b = 32 from fun b hb => by
        obtain ⟨j, hj, rfl⟩ := List.getElem_of_mem hb
        have hj' : j < s.size := by rw [Array.length_toList] at hj; exact hj
        exact HA.out j hj' hj')
      have HRB := hik (show RB = (ws.all nfb && fds9 ws.length (rvs ws)) by rw [HRE.out, HWS.out]; exact rnb_dig HAA.out)
      have hln : s.data.toList.length = s.size := Array.length_toList
      have hcl := wdG_len s.data.toList []
      have HCL := hik (show ws.length ≤ 65537 from by rw [HWS.out]; have e : (wds s.data.toList).length = (wdG [] s.data.toList).length := rfl; omega)
      have HWW := hik (show ∀ x ∈ ws, x ≠ [] ∧ x.all dgb = true ∧ x.length ≤ 1000000 from fun x hx => by
        rw [HWS.out] at hx
        have := rn_words HAA.out x hx
        exact ⟨this.1, this.2.1, by omega⟩)
      have hfl := fields_any s.data.toList (by omega) HAA.out wi (hik (ha.out.keep KA.out))
      rw [show (⟨s.data.toList.toArray⟩ : ByteArray) = s from by apply ByteArray.ext; simp, ← HWS.out] at hfl
      clear hcl hln HAA HA
      go_wp2_with fail
      refine hfl.mono ?_
      rintro e W1 ⟨b, rfl, rw1, k1⟩
      have K1 := hik (KA.out.trans k1)
      clear k1
      go_wp2_with fail
      refine (numbersFrom_any ws (some ⟨b, 0, none⟩) ws.length W1 (hik rw1) HWW (by have := HCL.out; omega) (hik (hp.out.keep K1.out)) (hik (he.out.keep K1.out))).mono ?_
      rintro e W2 ⟨v, rfl, ig, k2⟩
      have IG := hik ig
      have K2 := hik (K1.out.trans k2)
      have HS12 := hik K1.out.size
      clear ig k2 rw1
      cases hb : ws.all nfb
      · have HB := hik (show RB = false by rw [HRB.out, hb]; rfl)
        go_wp2
        go_ret2
        rw [HB.out]
        exact ⟨_, rfl, IGr.nil _ _ _, K2.out⟩
      · rw [hb, if_pos rfl] at IG
        have HB := hik hb
        obtain ⟨cv, pv, ev, hpv, _, hrv⟩ := IG.out.row
        subst ev
        have hno := numsOK9_any cv ws.length pv (rvs ws) W2 (hik hrv) (by have := HCL.out; omega)
        clear hpv hrv
        cases hf : fds9 ws.length (rvs ws)
        · rw [hf] at hno
          have HB2 := hik (show RB = false by rw [HRB.out, HB.out, hf]; rfl)
          go_wp2_with (go_at_call 29; refine hno.mono ?_; rintro e W3 ⟨rfl, rfl⟩)
          go_ret2
          rw [HB2.out]
          exact ⟨_, rfl, IGr.nil _ _ _, K2.out⟩
        · rw [hf] at hno
          have HB2 := hik (show RB = true by rw [HRB.out, HB.out, hf]; rfl)
          go_wp2_with (go_at_call 29; refine hno.mono ?_; rintro e W3 ⟨rfl, rfl⟩)
          go_ret2
          rw [HB2.out]
          exact ⟨_, rfl, IG.out.low HS12.out, K2.out⟩
def RnA9 (w : World) (n : Nat) (f : Nat → Int) (cd : Int) (e : Ending) (w' : World) : Prop := ∃ v, e = .returned (.tuple #[v, .int .i64 cd]) ∧ IGr w' w.heap.size v (if cd = 0 then n else 0) f ∧ Chg nob w w'
/-- ReadNumbers' answer: a code, ints that the call made. -/
def RnAns (w : World) (s : List UInt8) (e : Ending) (w' : World) : Prop := ∃ v, e = .returned (.tuple #[v, .int .i64 (rnc s)]) ∧ IGr w' w.heap.size v (if rnc s = 0 then rnn s else 0) (rvs (wds s)) ∧ Chg nob w w'
set_option maxHeartbeats 4000000 in
theorem readNumbers_any (s : ByteArray) (hs : s.size ≤ 1000000000) (w : World) (hp : Hid (Pw10 w)) (he : Hid (Erg w)) (ha : Hid (Asp w)) :
    Calls Tryd.prog 6 #[.string s] w fun e w' => RnAns w s.data.toList e w' := by
  have hln : s.data.toList.length = s.size := Array.length_toList
  by_cases hl : 65536 < s.size
  · have HC := hik (show rnc s.data.toList = 2 by unfold rnc; rw [if_pos (by omega)])
    have hl' : (65536 : Int) < (s.size : Int) := by omega
    go_enter Tryd.func6, Tryd.ntmps6
    go_wp2
    go_ret2
    unfold RnAns
    rw [HC.out]
    exact ⟨_, rfl, IGr.nil _ _ _, Chg.refl _ _⟩
  · have hl' : ¬ (65536 : Int) < (s.size : Int) := by omega
    have hln2 := lineNumbers_any s (by omega) w hp he ha
    have HC := hik (show rnc s.data.toList = if rnb s.data.toList = true then (if 4096 < rnn s.data.toList then 6 else 0) else 3 by unfold rnc; rw [if_neg (by omega)])
    have hcl := wdG_len s.data.toList []
    have HCL := hik (show rnn s.data.toList ≤ 65537 from by have e : rnn s.data.toList = (wdG [] s.data.toList).length := rfl; omega)
    unfold RnAns
    clear hln hcl
    generalize rnb s.data.toList = B at hln2 HC
    generalize rnn s.data.toList = n at hln2 HC HCL ⊢
    generalize rvs (wds s.data.toList) = f at hln2 ⊢
    show Calls Tryd.prog 6 #[.string s] w fun e w' => RnA9 w n f (rnc s.data.toList) e w'
    generalize rnc s.data.toList = cd at HC ⊢
    unfold RnB at hln2
    go_enter Tryd.func6, Tryd.ntmps6
    go_wp2_with fail
    refine hln2.mono ?_
    rintro e W1 ⟨v, rfl, ig, k1⟩
    have IG := hik ig
    have K1 := hik k1
    clear ig k1
    cases B
    · have HC3 := hik (show cd = 3 by rw [HC.out, if_neg (by decide)])
      go_wp2
      go_ret2
      rw [HC3.out]
      exact ⟨_, rfl, IGr.nil _ _ _, K1.out⟩
    · rw [if_pos rfl] at IG
      obtain ⟨cv, pv, ev, hpv, _, hrv⟩ := IG.out.row
      subst ev
      clear hpv hrv
      by_cases hm : 4096 < n
      · have HC3 := hik (show cd = 6 by rw [HC.out, if_pos rfl, if_pos hm])
        have hm' : (4096 : Int) < (n : Int) := by omega
        go_wp2
        go_ret2
        rw [HC3.out]
        exact ⟨_, rfl, IGr.nil _ _ _, K1.out⟩
      · have HC3 := hik (show cd = 0 by rw [HC.out, if_pos rfl, if_neg hm])
        have hm' : ¬ (4096 : Int) < (n : Int) := by omega
        go_wp2
        go_ret2
        rw [HC3.out]
        exact ⟨_, rfl, by rw [if_pos rfl]; exact IG.out, K1.out⟩

end Go.Proofs.YtppiilbcnkphbaaDoor
