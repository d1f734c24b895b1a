/- Several texts in one: Openings that are the same part by part: words. No condition but those that each theorem states. · What the model's ReadOpening answers: a contract. Conditions: bytes that can be read, numbers from 0 to 255, of at most 2 to the 40. -/
import Derived.Test.YtfgnhaoonpknlaaBzay
import Derived.Test.YtfgnhaoonpknlaaBzau
import Derived.Test.YtfgnhaoonpknlaaOokS
import Derived.Deep.DeepCutAuto
namespace Go.Proofs.Ytfgnhaoonpknlaa
open Go.ChangeShapes Go.WideShapes Go.ChangeAt Go.RowKit
set_option linter.unusedVariables false
set_option maxRecDepth 100000
set_option linter.unusedSimpArgs false

theorem exF_eq {n n' : Nat} {f g f' g' : Nat → Int} (hn : n = n') (e : ∀ i, i < n' → f i = f' i ∧ g i = g' i) {w : World} {S M : Nat → Prop} {v : Value} (h : (exF n f g).Own w S M v) : (exF n' f' g').Own w S M v := by
  subst hn
  obtain ⟨hs, c, cap, ev, h0 | ⟨b, ec, hb, ho⟩⟩ := h
  · exact ⟨hs, c, cap, ev, .inl h0⟩
  · exact ⟨hs, c, cap, ev, .inr ⟨b, ec, hb, ho.congr e⟩⟩
theorem txF_eq {n n' : Nat} {L M' : Nat → ByteArray} (hn : n = n') (e : ∀ i, i < n' → L i = M' i) {w : World} {S M : Nat → Prop} {v : Value} (h : (txF n L).Own w S M v) : (txF n' M').Own w S M v := by
  subst hn
  obtain ⟨hs, c, cap, ev, h0 | ⟨b, ec, hb, ho⟩⟩ := h
  · exact ⟨hs, c, cap, ev, .inl h0⟩
  · exact ⟨hs, c, cap, ev, .inr ⟨b, ec, hb, ho.lt, fun i hi => by rw [ho.cell i hi]; unfold sb; rw [e i hi], ho.fro⟩⟩
theorem liF_eq {n n' m : Nat} {x y : Nat → Nat → Df} (hn : n = n') (e : ∀ i j, i < n' → j < m → ∀ w S M u, (x i j).Own w S M u → (y i j).Own w S M u) {w : World} {S M : Nat → Prop} {v : Value} (h : (liF n m x).Own w S M v) : (liF n' m y).Own w S M v := by
  subst hn
  obtain ⟨hs, c, cap, ev, h0 | ⟨b, Si, Mi, ec, hb, o, hS, hM⟩⟩ := h
  · exact ⟨hs, c, cap, ev, .inl h0⟩
  · refine ⟨hs, c, cap, ev, .inr ⟨b, Si, Mi, ec, hb, ⟨o.lt, fun i j hi hj => ?_, o.top, o.dis⟩, hS, hM⟩⟩
    obtain ⟨u, hc, hr⟩ := o.cell i j hi hj
    exact ⟨u, hc, e i j hi hj _ _ _ _ hr⟩
theorem OpF.eq9 {w : World} {S : Nat → Prop} {a b : OD} {cR : Option Addr} {pR : Nat} {cT : Option Addr} {pT : Nat} {cQ : Option Addr} {pQ : Nat} (h : OE9 a b) (o : OpF w S a cR pR cT pT cQ pQ) : OpF w S b cR pR cT pT cQ pQ := by
  obtain ⟨h1, h2, h3, h4, h5, h6, h7, h8, h9⟩ := h
  obtain ⟨SR, MR, ST, MT, SQ, MQ, oR, oT, oQ, q⟩ := o
  rw [h1] at oR
  rw [h3] at oT
  rw [h8] at oQ
  refine ⟨SR, MR, ST, MT, SQ, MQ, liF_eq rfl (fun i j hi hj w S M u x => exF_eq (h2 i hi).1 (h2 i hi).2 x) oR, txF_eq rfl h4 oT, liF_eq rfl (fun i j hi hj w S M u x => ?_) oQ, q⟩
  obtain ⟨k1, k2, k3, k4⟩ := h9 i hi
  rcases (show j = 0 ∨ j = 1 by omega) with rfl | rfl
  · exact exF_eq (f := (a.q i).f) (g := (a.q i).g) k1 k2 x
  · exact liF_eq (x := fun y _ => txF ((a.q i).l y) ((a.q i).T y)) (y := fun y _ => txF ((b.q i).l y) ((b.q i).T y)) k3 (fun y _ hy _ w S M u z => txF_eq (k4 y hy).1 (k4 y hy).2 z) x
theorem RdG_of {n v r q : Nat} {g : Int} {z : Nat → Int} (hn : osN v r q ≤ n) (h : ook (rdO z v r q 0) v r q g = true) : RdG n 0 v r q z := by
  unfold ook at h
  simp only [Bool.and_eq_true, decide_eq_true_eq] at h
  obtain ⟨_, _, hr, _, _, he, _, _, hq⟩ := h
  refine ⟨by omega, fun i hi => ?_, ?_, fun i hi => ?_⟩
  · unfold rnB at hr
    simp only [Bool.and_eq_true] at hr
    have a := allN_at hr.2 (show i < (rdO z v r q 0).nr from hi)
    unfold r1B at a
    simp only [Bool.and_eq_true] at a
    exact a.2
  · refine okP_of _ _ 1 (fun i hi => ?_)
    obtain rfl : i = 0 := by omega
    have e1 : rf (zk z (0 + oL9 v)) 0 = w4 z (0 + oL9 v) := by
      show w4 (zk z (0 + oL9 v)) (0 * 8) = _
      rw [zk_w4, Nat.zero_mul, Nat.add_zero]
    have e2 : rg (zk z (0 + oL9 v)) 0 = w4 z (0 + oL9 v + 4) := by
      show w4 (zk z (0 + oL9 v)) (0 * 8 + 4) = _
      rw [zk_w4, Nat.zero_mul, Nat.zero_add]
    rw [e1, e2]
    exact he
  · unfold qsB at hq
    simp only [Bool.and_eq_true] at hq
    have a := allN_at hq.2 (show i < (rdO z v r q 0).nq from hi)
    unfold qrB at a
    simp only [Bool.and_eq_true] at a
    exact a.1.1.2

end Go.Proofs.Ytfgnhaoonpknlaa

namespace Go.Proofs.Ytfgnhaoonpknlaa
open Go.ChangeShapes Go.WideShapes Go.ChangeAt Go.RowKit
set_option linter.unusedVariables false
set_option maxRecDepth 100000
set_option linter.unusedSimpArgs false

set_option maxHeartbeats 8000000 in
theorem sReadOpening_any (c : Option Addr) (n cap : Nat) (z : Nat → Int) (v r q g : Int) (w : World) (h : Hid (RowV w c n (bw z))) (hz : Hid (∀ j, 0 ≤ z j ∧ z j < 256)) (hn : n ≤ 1099511627776) :
    Calls Try.prog 4 #[.slice c n cap, .int .i64 v, .agg #[.int .i64 r, .int .i64 q, .int .i64 g]] w fun e w' => RoAns w (rov n z v r q g) (roc n z v r q g) e w' := by
  have K0 := hik (((Chg.refl nob w).alloc (.cells #[.int .i64 r, .int .i64 q, .int .i64 g] 35)).alloc (.cells #[.slice none 0 0, .slice none 0 0, .int .i64 0, .int .i64 0, .int .i64 0, .slice none 0 0] 31))
  have RT := hik (rowIs_keep (rowN_new w 3 #[.int .i64 r, .int .i64 q, .int .i64 g] 35 rfl) ((Chg.refl nob _).alloc (.cells #[.slice none 0 0, .slice none 0 0, .int .i64 0, .int .i64 0, .int .i64 0, .slice none 0 0] 31)))
  have RX := hik (rowN_new (w.alloc (.cells #[.int .i64 r, .int .i64 q, .int .i64 g] 35)) 6 #[.slice none 0 0, .slice none 0 0, .int .i64 0, .int .i64 0, .int .i64 0, .slice none 0 0] 31 rfl)
  rw [asz] at RX
  by_cases hlen : 65536 < n
  · have HB := hik (show roc n z v r q g = 2 by unfold roc; rw [if_pos hlen])
    have hl2 : (65536 : Int) < (n : Int) := by omega
    go_enter Try.func4, Try.ntmps4
    go_upto_region 1 with fail
    generalize hW : (w.alloc (.cells #[.int .i64 r, .int .i64 q, .int .i64 g] 35)).alloc (.cells #[.slice none 0 0, .slice none 0 0, .int .i64 0, .int .i64 0, .int .i64 0, .slice none 0 0] 31) = W0 at K0 RT RX ⊢
    clear hW
    have y0 : W0.cell? ⟨w.heap.size + 1, 0, none⟩ = some (.slice none 0 0) := RX.out.cell (i := 0) (by omega)
    have u0 := RX.out.frozen 0
    have y1 : W0.cell? ⟨w.heap.size + 1, 1, none⟩ = some (.slice none 0 0) := RX.out.cell (i := 1) (by omega)
    have u1 := RX.out.frozen 1
    have y2 : W0.cell? ⟨w.heap.size + 1, 2, none⟩ = some (.int .i64 0) := RX.out.cell (i := 2) (by omega)
    have u2 := RX.out.frozen 2
    have y3 : W0.cell? ⟨w.heap.size + 1, 3, none⟩ = some (.int .i64 0) := RX.out.cell (i := 3) (by omega)
    have u3 := RX.out.frozen 3
    have y4 : W0.cell? ⟨w.heap.size + 1, 4, none⟩ = some (.int .i64 0) := RX.out.cell (i := 4) (by omega)
    have u4 := RX.out.frozen 4
    have y5 : W0.cell? ⟨w.heap.size + 1, 5, none⟩ = some (.slice none 0 0) := RX.out.cell (i := 5) (by omega)
    have u5 := RX.out.frozen 5
    have lx := RX.out.lt
    go_wp2
    exact bodyPost_ret (v := .tuple #[.agg #[.slice none 0 0, .slice none 0 0, .int .i64 0, .int .i64 0, .int .i64 0, .slice none 0 0], .int .i64 2]) (by simp [results, Try.results4, go_sem, *]) rfl (RoAns.no HB.out (by decide) rfl ((((((K0.out.setCell (p := ⟨w.heap.size + 1, 0, none⟩) (fun l => absurd (show w.heap.size + 1 < w.heap.size from l) (by omega)) (.slice none 0 0)).setCell (p := ⟨w.heap.size + 1, 1, none⟩) (fun l => absurd (show w.heap.size + 1 < w.heap.size from l) (by omega)) (.slice none 0 0)).setCell (p := ⟨w.heap.size + 1, 2, none⟩) (fun l => absurd (show w.heap.size + 1 < w.heap.size from l) (by omega)) (.int .i64 0)).setCell (p := ⟨w.heap.size + 1, 3, none⟩) (fun l => absurd (show w.heap.size + 1 < w.heap.size from l) (by omega)) (.int .i64 0)).setCell (p := ⟨w.heap.size + 1, 4, none⟩) (fun l => absurd (show w.heap.size + 1 < w.heap.size from l) (by omega)) (.int .i64 0)).setCell (p := ⟨w.heap.size + 1, 5, none⟩) (fun l => absurd (show w.heap.size + 1 < w.heap.size from l) (by omega)) (.slice none 0 0)))
  have hl2 : ¬ (65536 : Int) < (n : Int) := by omega
  cases b1 : stb r q g
  · have HB := hik (show roc n z v r q g = 1 by unfold roc; rw [if_neg hlen, b1]; rfl)
    have HB1 := hik b1
    clear b1
    go_enter Try.func4, Try.ntmps4
    go_upto_region 1 with fail
    generalize hW : (w.alloc (.cells #[.int .i64 r, .int .i64 q, .int .i64 g] 35)).alloc (.cells #[.slice none 0 0, .slice none 0 0, .int .i64 0, .int .i64 0, .int .i64 0, .slice none 0 0] 31) = W0 at K0 RT RX ⊢
    clear hW
    have t0 : W0.cell? ⟨w.heap.size, 0, none⟩ = some (.int .i64 r) := RT.out.cell (i := 0) (by omega)
    have t1 : W0.cell? ⟨w.heap.size, 1, none⟩ = some (.int .i64 q) := RT.out.cell (i := 1) (by omega)
    have t2 : W0.cell? ⟨w.heap.size, 2, none⟩ = some (.int .i64 g) := RT.out.cell (i := 2) (by omega)
    go_wp2_with fail
    clear t0 t1 t2
    refine (sSettingOK_any r q g _).mono ?_
    rintro e W1 ⟨rfl, kk⟩
    replace K0 := hik (K0.out.trans kk)
    replace RT := hik (rowIs_keep RT.out kk)
    replace RX := hik (rowIs_keep RX.out kk)
    clear kk
    rw [HB1.out]
    have y0 : W1.cell? ⟨w.heap.size + 1, 0, none⟩ = some (.slice none 0 0) := RX.out.cell (i := 0) (by omega)
    have u0 := RX.out.frozen 0
    have y1 : W1.cell? ⟨w.heap.size + 1, 1, none⟩ = some (.slice none 0 0) := RX.out.cell (i := 1) (by omega)
    have u1 := RX.out.frozen 1
    have y2 : W1.cell? ⟨w.heap.size + 1, 2, none⟩ = some (.int .i64 0) := RX.out.cell (i := 2) (by omega)
    have u2 := RX.out.frozen 2
    have y3 : W1.cell? ⟨w.heap.size + 1, 3, none⟩ = some (.int .i64 0) := RX.out.cell (i := 3) (by omega)
    have u3 := RX.out.frozen 3
    have y4 : W1.cell? ⟨w.heap.size + 1, 4, none⟩ = some (.int .i64 0) := RX.out.cell (i := 4) (by omega)
    have u4 := RX.out.frozen 4
    have y5 : W1.cell? ⟨w.heap.size + 1, 5, none⟩ = some (.slice none 0 0) := RX.out.cell (i := 5) (by omega)
    have u5 := RX.out.frozen 5
    have lx := RX.out.lt
    go_wp2
    exact bodyPost_ret (v := .tuple #[.agg #[.slice none 0 0, .slice none 0 0, .int .i64 0, .int .i64 0, .int .i64 0, .slice none 0 0], .int .i64 1]) (by simp [results, Try.results4, go_sem, *]) rfl (RoAns.no HB.out (by decide) rfl ((((((K0.out.setCell (p := ⟨w.heap.size + 1, 0, none⟩) (fun l => absurd (show w.heap.size + 1 < w.heap.size from l) (by omega)) (.slice none 0 0)).setCell (p := ⟨w.heap.size + 1, 1, none⟩) (fun l => absurd (show w.heap.size + 1 < w.heap.size from l) (by omega)) (.slice none 0 0)).setCell (p := ⟨w.heap.size + 1, 2, none⟩) (fun l => absurd (show w.heap.size + 1 < w.heap.size from l) (by omega)) (.int .i64 0)).setCell (p := ⟨w.heap.size + 1, 3, none⟩) (fun l => absurd (show w.heap.size + 1 < w.heap.size from l) (by omega)) (.int .i64 0)).setCell (p := ⟨w.heap.size + 1, 4, none⟩) (fun l => absurd (show w.heap.size + 1 < w.heap.size from l) (by omega)) (.int .i64 0)).setCell (p := ⟨w.heap.size + 1, 5, none⟩) (fun l => absurd (show w.heap.size + 1 < w.heap.size from l) (by omega)) (.slice none 0 0)))
  cases b2 : vrB v
  · have HB := hik (show roc n z v r q g = 4 by unfold roc; rw [if_neg hlen, b1, b2]; rfl)
    have HB1 := hik b1
    have HB2 := hik b2
    clear b1 b2
    go_enter Try.func4, Try.ntmps4
    go_upto_region 1 with fail
    generalize hW : (w.alloc (.cells #[.int .i64 r, .int .i64 q, .int .i64 g] 35)).alloc (.cells #[.slice none 0 0, .slice none 0 0, .int .i64 0, .int .i64 0, .int .i64 0, .slice none 0 0] 31) = W0 at K0 RT RX ⊢
    clear hW
    have t0 : W0.cell? ⟨w.heap.size, 0, none⟩ = some (.int .i64 r) := RT.out.cell (i := 0) (by omega)
    have t1 : W0.cell? ⟨w.heap.size, 1, none⟩ = some (.int .i64 q) := RT.out.cell (i := 1) (by omega)
    have t2 : W0.cell? ⟨w.heap.size, 2, none⟩ = some (.int .i64 g) := RT.out.cell (i := 2) (by omega)
    go_wp2_with fail
    clear t0 t1 t2
    refine (sSettingOK_any r q g _).mono ?_
    rintro e W1 ⟨rfl, kk⟩
    replace K0 := hik (K0.out.trans kk)
    replace RT := hik (rowIs_keep RT.out kk)
    replace RX := hik (rowIs_keep RX.out kk)
    clear kk
    rw [HB1.out]
    go_wp2_with fail
    refine (l01In_any v 1 6 _).mono ?_
    rintro e W2 ⟨rfl, hw⟩
    have hw := hw.symm
    subst hw
    rw [show inW v 1 6 = false from HB2.out]
    have y0 : W1.cell? ⟨w.heap.size + 1, 0, none⟩ = some (.slice none 0 0) := RX.out.cell (i := 0) (by omega)
    have u0 := RX.out.frozen 0
    have y1 : W1.cell? ⟨w.heap.size + 1, 1, none⟩ = some (.slice none 0 0) := RX.out.cell (i := 1) (by omega)
    have u1 := RX.out.frozen 1
    have y2 : W1.cell? ⟨w.heap.size + 1, 2, none⟩ = some (.int .i64 0) := RX.out.cell (i := 2) (by omega)
    have u2 := RX.out.frozen 2
    have y3 : W1.cell? ⟨w.heap.size + 1, 3, none⟩ = some (.int .i64 0) := RX.out.cell (i := 3) (by omega)
    have u3 := RX.out.frozen 3
    have y4 : W1.cell? ⟨w.heap.size + 1, 4, none⟩ = some (.int .i64 0) := RX.out.cell (i := 4) (by omega)
    have u4 := RX.out.frozen 4
    have y5 : W1.cell? ⟨w.heap.size + 1, 5, none⟩ = some (.slice none 0 0) := RX.out.cell (i := 5) (by omega)
    have u5 := RX.out.frozen 5
    have lx := RX.out.lt
    go_wp2
    exact bodyPost_ret (v := .tuple #[.agg #[.slice none 0 0, .slice none 0 0, .int .i64 0, .int .i64 0, .int .i64 0, .slice none 0 0], .int .i64 4]) (by simp [results, Try.results4, go_sem, *]) rfl (RoAns.no HB.out (by decide) rfl ((((((K0.out.setCell (p := ⟨w.heap.size + 1, 0, none⟩) (fun l => absurd (show w.heap.size + 1 < w.heap.size from l) (by omega)) (.slice none 0 0)).setCell (p := ⟨w.heap.size + 1, 1, none⟩) (fun l => absurd (show w.heap.size + 1 < w.heap.size from l) (by omega)) (.slice none 0 0)).setCell (p := ⟨w.heap.size + 1, 2, none⟩) (fun l => absurd (show w.heap.size + 1 < w.heap.size from l) (by omega)) (.int .i64 0)).setCell (p := ⟨w.heap.size + 1, 3, none⟩) (fun l => absurd (show w.heap.size + 1 < w.heap.size from l) (by omega)) (.int .i64 0)).setCell (p := ⟨w.heap.size + 1, 4, none⟩) (fun l => absurd (show w.heap.size + 1 < w.heap.size from l) (by omega)) (.int .i64 0)).setCell (p := ⟨w.heap.size + 1, 5, none⟩) (fun l => absurd (show w.heap.size + 1 < w.heap.size from l) (by omega)) (.slice none 0 0)))
  obtain ⟨⟨r0, r1⟩, ⟨q0, q1⟩, g0, g1⟩ := stb_parts b1
  obtain ⟨v0, v1⟩ := vrB_parts b2
  have HB1 := hik b1
  have HB2 := hik b2
  have HRC := hik (show roc n z v r q g = if (n : Int) = osn v r q ∧ ook (rdO z v.toNat r.toNat q.toNat 0) v r q g = true then 0 else 3 by unfold roc; rw [if_neg hlen, b1, b2]; rfl)
  clear b1 b2
  obtain ⟨v, rfl⟩ : ∃ x : Nat, v = x := ⟨v.toNat, by omega⟩
  obtain ⟨r, rfl⟩ : ∃ x : Nat, r = x := ⟨r.toNat, by omega⟩
  obtain ⟨q, rfl⟩ : ∃ x : Nat, q = x := ⟨q.toNat, by omega⟩
  simp only [Int.toNat_natCast] at HRC
  rw [← osN_osn v r q (by omega) (by omega)] at HRC
  go_enter Try.func4, Try.ntmps4
  go_upto_region 1 with fail
  generalize hW : (w.alloc (.cells #[.int .i64 r, .int .i64 q, .int .i64 g] 35)).alloc (.cells #[.slice none 0 0, .slice none 0 0, .int .i64 0, .int .i64 0, .int .i64 0, .slice none 0 0] 31) = W0 at K0 RT RX ⊢
  clear hW
  have t0 : W0.cell? ⟨w.heap.size, 0, none⟩ = some (.int .i64 r) := RT.out.cell (i := 0) (by omega)
  have t1 : W0.cell? ⟨w.heap.size, 1, none⟩ = some (.int .i64 q) := RT.out.cell (i := 1) (by omega)
  have t2 : W0.cell? ⟨w.heap.size, 2, none⟩ = some (.int .i64 g) := RT.out.cell (i := 2) (by omega)
  go_wp2_with fail
  clear t0 t1 t2
  refine (sSettingOK_any r q g _).mono ?_
  rintro e W1 ⟨rfl, kk⟩
  replace K0 := hik (K0.out.trans kk)
  replace RT := hik (rowIs_keep RT.out kk)
  replace RX := hik (rowIs_keep RX.out kk)
  clear kk
  rw [HB1.out]
  go_wp2_with fail
  refine (l01In_any v 1 6 _).mono ?_
  rintro e W2 ⟨rfl, hw⟩
  have hw := hw.symm
  subst hw
  rw [show inW v 1 6 = true from HB2.out]
  obtain ⟨tx, hcv, htx, hsz⟩ : ∃ t : ByteArray, (∀ W : World, Chg nob w W → (convert 22 9 (.slice c n cap)).run Try.prog W = .ok (.string t) W) ∧ t.size = n ∧ ∀ i, i < n → sz t i = z i :=
    ⟨_, fun W k => conv_bytes c n cap z W (h.out.keep k), by rw [strOfNums_size]; simp, fun i hi => sz_nums z n i hi (hz.out i).1 (hz.out i).2⟩
  have HTX := hik htx
  have HSZ := hik hsz
  have hcv1 := hcv W1 K0.out
  clear htx hsz hcv
  go_upto_region 8 with fail
  clear hcv1
  have hgx := hik (rowN_new W1 2 #[.string tx, .bool true] 46 rfl)
  have kk := (Chg.refl nob W1).alloc (.cells #[.string tx, .bool true] 46)
  have hl1 := RX.out.lt
  replace K0 := hik (K0.out.trans kk)
  replace RT := hik (rowIs_keep RT.out kk)
  replace RX := hik (rowIs_keep RX.out kk)
  clear kk
  generalize hE : W1.alloc (.cells #[.string tx, .bool true] 46) = W2 at K0 RT RX hgx ⊢
  generalize hg_ : W1.heap.size = gx at hgx hl1 ⊢
  clear hE hg_
  have HCI := hik (show CtI W2 gx n 0 z ((n = osN v r q) ∧ ook (rdO z v r q 0) v r q g = true) true from ⟨tx, hgx.out.congr (fun i hi => by rcases (show i = 0 ∨ i = 1 by omega) with rfl | rfl <;> rfl), by rw [HTX.out]; omega, fun _ => ⟨by omega, by rw [HTX.out, Nat.sub_zero], fun i hi => by rw [Nat.zero_add]; exact HSZ.out i (by omega)⟩, fun _ => rfl⟩)
  clear hgx
  have t0 : W2.cell? ⟨w.heap.size, 0, none⟩ = some (.int .i64 r) := RT.out.cell (i := 0) (by omega)
  have t1 : W2.cell? ⟨w.heap.size, 1, none⟩ = some (.int .i64 q) := RT.out.cell (i := 1) (by omega)
  have t2 : W2.cell? ⟨w.heap.size, 2, none⟩ = some (.int .i64 g) := RT.out.cell (i := 2) (by omega)
  go_wp2_with fail
  clear t0 t1 t2
  refine (l09Read_any gx n 0 v r q g z _ true W2 HCI (hik (fun u => RdG_of (by omega) u.2)) (by omega) (by omega) (by omega) (by omega) (by omega) (by omega)).mono ?_
  rintro e W3 ⟨d, a, ok, rfl, hop, hci, k3, hok, hnr, hnt, hnq⟩
  have kG : Chg nob w W3 := K0.out.near k3 (fun i e => by have e' : i = gx := e; omega)
  have HOP := hik hop
  obtain ⟨t, hrow, ht, hk1, hk2⟩ := hci
  have HRW := hik hrow
  have HK1 := hik hk1
  have HK2 := hik hk2
  have HOK := hik hok
  replace RT := hik (rowIs_chg RT.out k3 (fun e => by have e' : w.heap.size = gx := e; omega))
  replace RX := hik (rowIs_chg RX.out k3 (fun e => by have e' : w.heap.size + 1 = gx := e; omega))
  replace K0 := hik kG
  have hs23 := k3.size
  have hlw2 : w.heap.size + 1 < W2.heap.size := by have := HCI.out.lt; omega
  clear hop hrow hk1 hk2 hok k3 kG HCI hnr hnt hnq
  go_upto_region 9 with fail
  have RB := hik (rowN_new W3 6 #[.slice a.cR d.nr a.pR, .slice a.cT d.nt a.pT, .int .i64 d.la, .int .i64 d.lb, .int .i64 d.no, .slice a.cQ d.nq a.pQ] 31 rfl)
  have kk := (Chg.refl nob W3).alloc (.cells #[.slice a.cR d.nr a.pR, .slice a.cT d.nt a.pT, .int .i64 d.la, .int .i64 d.lb, .int .i64 d.no, .slice a.cQ d.nq a.pQ] 31)
  replace HRW := hik (rowIs_keep HRW.out kk)
  replace HOP := hik (HOP.out.keep kk)
  have hlw3 : w.heap.size + 1 < W3.heap.size := RX.out.lt
  have HS34 := hik kk.size
  have HW2 := hik (show w.heap.size + 1 < W2.heap.size ∧ W2.heap.size ≤ W3.heap.size from ⟨by omega, hs23⟩)
  replace K0 := hik (K0.out.trans kk)
  replace RT := hik (rowIs_keep RT.out kk)
  replace RX := hik (rowIs_keep RX.out kk)
  clear kk
  generalize hE : W3.alloc (.cells #[.slice a.cR d.nr a.pR, .slice a.cT d.nt a.pT, .int .i64 d.la, .int .i64 d.lb, .int .i64 d.no, .slice a.cQ d.nq a.pQ] 31) = W4 at K0 RT RX HRW HOP RB HS34 ⊢
  obtain ⟨go, hgo⟩ : ∃ x, x = W3.heap.size := ⟨_, rfl⟩
  rw [← hgo] at RB hlw3
  rw [← hgo]
  clear hE hgo
  have x0 : W4.cell? ⟨gx, 0, none⟩ = some (.string t) := HRW.out.cell (i := 0) (by omega)
  have x1 : W4.cell? ⟨gx, 1, none⟩ = some (.bool ok) := HRW.out.cell (i := 1) (by omega)
  cases ok with
  | false =>
    have HB := hik (show roc n z v r q g = 3 by rw [HRC.out, if_neg (fun u => by have := HK2.out ⟨by have := u.1; omega, u.2⟩; cases this)])
    have y0 : W4.cell? ⟨w.heap.size + 1, 0, none⟩ = some (.slice none 0 0) := RX.out.cell (i := 0) (by omega)
    have u0 := RX.out.frozen 0
    have y1 : W4.cell? ⟨w.heap.size + 1, 1, none⟩ = some (.slice none 0 0) := RX.out.cell (i := 1) (by omega)
    have u1 := RX.out.frozen 1
    have y2 : W4.cell? ⟨w.heap.size + 1, 2, none⟩ = some (.int .i64 0) := RX.out.cell (i := 2) (by omega)
    have u2 := RX.out.frozen 2
    have y3 : W4.cell? ⟨w.heap.size + 1, 3, none⟩ = some (.int .i64 0) := RX.out.cell (i := 3) (by omega)
    have u3 := RX.out.frozen 3
    have y4 : W4.cell? ⟨w.heap.size + 1, 4, none⟩ = some (.int .i64 0) := RX.out.cell (i := 4) (by omega)
    have u4 := RX.out.frozen 4
    have y5 : W4.cell? ⟨w.heap.size + 1, 5, none⟩ = some (.slice none 0 0) := RX.out.cell (i := 5) (by omega)
    have u5 := RX.out.frozen 5
    have lx := RX.out.lt
    go_wp2
    exact bodyPost_ret (v := .tuple #[.agg #[.slice none 0 0, .slice none 0 0, .int .i64 0, .int .i64 0, .int .i64 0, .slice none 0 0], .int .i64 3]) (by simp [results, Try.results4, go_sem, *]) rfl (RoAns.no HB.out (by decide) rfl ((((((K0.out.setCell (p := ⟨w.heap.size + 1, 0, none⟩) (fun l => absurd (show w.heap.size + 1 < w.heap.size from l) (by omega)) (.slice none 0 0)).setCell (p := ⟨w.heap.size + 1, 1, none⟩) (fun l => absurd (show w.heap.size + 1 < w.heap.size from l) (by omega)) (.slice none 0 0)).setCell (p := ⟨w.heap.size + 1, 2, none⟩) (fun l => absurd (show w.heap.size + 1 < w.heap.size from l) (by omega)) (.int .i64 0)).setCell (p := ⟨w.heap.size + 1, 3, none⟩) (fun l => absurd (show w.heap.size + 1 < w.heap.size from l) (by omega)) (.int .i64 0)).setCell (p := ⟨w.heap.size + 1, 4, none⟩) (fun l => absurd (show w.heap.size + 1 < w.heap.size from l) (by omega)) (.int .i64 0)).setCell (p := ⟨w.heap.size + 1, 5, none⟩) (fun l => absurd (show w.heap.size + 1 < w.heap.size from l) (by omega)) (.slice none 0 0)))
  | true =>
    clear HK2
    by_cases ht0 : t.size = 0
    · obtain rfl : t = ⟨#[]⟩ := by
        have hd : t.data.size = 0 := ht0
        exact ByteArray.ext (Array.eq_empty_of_size_eq_zero hd)
      have a1 := HK1.out rfl
      have H33 := hik (show (n : Int) = (osN v r q : Nat) by have a2 := a1.2.1; have a3 : (0 : Nat) = n - (0 + osN v r q) := a2; omega)
      have hOE := (HOK.out rfl).2
      replace HOP := hik (OpF.eq9 hOE HOP.out)
      have HSM := hik (rd_small z v r q 0 (by omega) (by omega) (by omega))
      obtain ⟨h1, _, h3, _, h5, h6, h7, h8, _⟩ := hOE
      rw [h1, h3, h5, h6, h7, h8] at RB
      rw [h1, h3, h5, h6, h7, h8]
      clear h1 h3 h5 h6 h7 h8 a1 HK1 HOK ht ht0
      have HRV := hik (show roc n z v r q g = 0 → rov n z v r q g = rdO z v r q 0 from fun u => by unfold rov; rw [if_pos u]; rfl)
      have HRT := hik (show ook (rdO z v r q 0) (v : Int) (r : Int) (q : Int) g = true → roc n z v r q g = 0 from fun u => by rw [HRC.out, if_pos ⟨H33.out, u⟩])
      have HRF := hik (show ook (rdO z v r q 0) (v : Int) (r : Int) (q : Int) g = false → roc n z v r q g = 3 from fun u => by rw [HRC.out, if_neg (fun x => by rw [u] at x; exact absurd x.2 (by decide))])
      clear HRC
      generalize rdO z v r q 0 = D at HRT HRF RB HOP HSM HRV ⊢
      have b0 : W4.cell? ⟨go, 0, none⟩ = some (.slice a.cR D.nr a.pR) := RB.out.cell (i := 0) (by omega)
      have b1 : W4.cell? ⟨go, 1, none⟩ = some (.slice a.cT D.nt a.pT) := RB.out.cell (i := 1) (by omega)
      have b2 : W4.cell? ⟨go, 2, none⟩ = some (.int .i64 D.la) := RB.out.cell (i := 2) (by omega)
      have b3 : W4.cell? ⟨go, 3, none⟩ = some (.int .i64 D.lb) := RB.out.cell (i := 3) (by omega)
      have b4 : W4.cell? ⟨go, 4, none⟩ = some (.int .i64 D.no) := RB.out.cell (i := 4) (by omega)
      have b5 : W4.cell? ⟨go, 5, none⟩ = some (.slice a.cQ D.nq a.pQ) := RB.out.cell (i := 5) (by omega)
      have t0 : W4.cell? ⟨w.heap.size, 0, none⟩ = some (.int .i64 (r : Int)) := RT.out.cell (i := 0) (by omega)
      have t1 : W4.cell? ⟨w.heap.size, 1, none⟩ = some (.int .i64 q) := RT.out.cell (i := 1) (by omega)
      have t2 : W4.cell? ⟨w.heap.size, 2, none⟩ = some (.int .i64 g) := RT.out.cell (i := 2) (by omega)
      go_wp2_with fail
      clear b0 b1 b2 b3 b4 b5 t0 t1 t2 x0 x1
      refine (sOpeningOK_any D a.cR a.pR a.cT a.pT a.cQ a.pQ v r q g W4 (hik HOP.out.rep) HSM).mono ?_
      rintro e W5 ⟨rfl, kk⟩
      replace HOP := hik (HOP.out.keep kk)
      replace RB := hik (rowIs_keep RB.out kk)
      have HTOP := hik (Nat.le_trans (show W3.heap.size ≤ W4.heap.size from HS34.out) kk.size)
      replace K0 := hik (K0.out.trans kk)
      replace RT := hik (rowIs_keep RT.out kk)
      replace RX := hik (rowIs_keep RX.out kk)
      clear kk
      cases hk : ook D (v : Int) (r : Int) (q : Int) g with
      | false =>
        have HB := hik (HRF.out hk)
        have y0 : W5.cell? ⟨w.heap.size + 1, 0, none⟩ = some (.slice none 0 0) := RX.out.cell (i := 0) (by omega)
        have u0 := RX.out.frozen 0
        have y1 : W5.cell? ⟨w.heap.size + 1, 1, none⟩ = some (.slice none 0 0) := RX.out.cell (i := 1) (by omega)
        have u1 := RX.out.frozen 1
        have y2 : W5.cell? ⟨w.heap.size + 1, 2, none⟩ = some (.int .i64 0) := RX.out.cell (i := 2) (by omega)
        have u2 := RX.out.frozen 2
        have y3 : W5.cell? ⟨w.heap.size + 1, 3, none⟩ = some (.int .i64 0) := RX.out.cell (i := 3) (by omega)
        have u3 := RX.out.frozen 3
        have y4 : W5.cell? ⟨w.heap.size + 1, 4, none⟩ = some (.int .i64 0) := RX.out.cell (i := 4) (by omega)
        have u4 := RX.out.frozen 4
        have y5 : W5.cell? ⟨w.heap.size + 1, 5, none⟩ = some (.slice none 0 0) := RX.out.cell (i := 5) (by omega)
        have u5 := RX.out.frozen 5
        have lx := RX.out.lt
        go_wp2
        exact bodyPost_ret (v := .tuple #[.agg #[.slice none 0 0, .slice none 0 0, .int .i64 0, .int .i64 0, .int .i64 0, .slice none 0 0], .int .i64 3]) (by simp [results, Try.results4, go_sem, *]) rfl (RoAns.no HB.out (by decide) rfl ((((((K0.out.setCell (p := ⟨w.heap.size + 1, 0, none⟩) (fun l => absurd (show w.heap.size + 1 < w.heap.size from l) (by omega)) (.slice none 0 0)).setCell (p := ⟨w.heap.size + 1, 1, none⟩) (fun l => absurd (show w.heap.size + 1 < w.heap.size from l) (by omega)) (.slice none 0 0)).setCell (p := ⟨w.heap.size + 1, 2, none⟩) (fun l => absurd (show w.heap.size + 1 < w.heap.size from l) (by omega)) (.int .i64 0)).setCell (p := ⟨w.heap.size + 1, 3, none⟩) (fun l => absurd (show w.heap.size + 1 < w.heap.size from l) (by omega)) (.int .i64 0)).setCell (p := ⟨w.heap.size + 1, 4, none⟩) (fun l => absurd (show w.heap.size + 1 < w.heap.size from l) (by omega)) (.int .i64 0)).setCell (p := ⟨w.heap.size + 1, 5, none⟩) (fun l => absurd (show w.heap.size + 1 < w.heap.size from l) (by omega)) (.slice none 0 0)))
      | true =>
        have HB := hik (HRT.out hk)
        have HV := hik (HRV.out HB.out)
        clear HRV
        have xo0 : W5.cell? ⟨go, 0, none⟩ = some (.slice a.cR D.nr a.pR) := RB.out.cell (i := 0) (by omega)
        have xo1 : W5.cell? ⟨go, 1, none⟩ = some (.slice a.cT D.nt a.pT) := RB.out.cell (i := 1) (by omega)
        have xo2 : W5.cell? ⟨go, 2, none⟩ = some (.int .i64 D.la) := RB.out.cell (i := 2) (by omega)
        have xo3 : W5.cell? ⟨go, 3, none⟩ = some (.int .i64 D.lb) := RB.out.cell (i := 3) (by omega)
        have xo4 : W5.cell? ⟨go, 4, none⟩ = some (.int .i64 D.no) := RB.out.cell (i := 4) (by omega)
        have xo5 : W5.cell? ⟨go, 5, none⟩ = some (.slice a.cQ D.nq a.pQ) := RB.out.cell (i := 5) (by omega)
        have y0 : W5.cell? ⟨w.heap.size + 1, 0, none⟩ = some (.slice none 0 0) := RX.out.cell (i := 0) (by omega)
        have u0 := RX.out.frozen 0
        have y1 : W5.cell? ⟨w.heap.size + 1, 1, none⟩ = some (.slice none 0 0) := RX.out.cell (i := 1) (by omega)
        have u1 := RX.out.frozen 1
        have y2 : W5.cell? ⟨w.heap.size + 1, 2, none⟩ = some (.int .i64 0) := RX.out.cell (i := 2) (by omega)
        have u2 := RX.out.frozen 2
        have y3 : W5.cell? ⟨w.heap.size + 1, 3, none⟩ = some (.int .i64 0) := RX.out.cell (i := 3) (by omega)
        have u3 := RX.out.frozen 3
        have y4 : W5.cell? ⟨w.heap.size + 1, 4, none⟩ = some (.int .i64 0) := RX.out.cell (i := 4) (by omega)
        have u4 := RX.out.frozen 4
        have y5 : W5.cell? ⟨w.heap.size + 1, 5, none⟩ = some (.slice none 0 0) := RX.out.cell (i := 5) (by omega)
        have u5 := RX.out.frozen 5
        have lx := RX.out.lt
        have kE := (((((((Chg.refl (fun b => b = w.heap.size + 1) W5).setCell (p := ⟨w.heap.size + 1, 0, none⟩) (fun _ => rfl) (.slice a.cR D.nr a.pR)).setCell (p := ⟨w.heap.size + 1, 1, none⟩) (fun _ => rfl) (.slice a.cT D.nt a.pT)).setCell (p := ⟨w.heap.size + 1, 2, none⟩) (fun _ => rfl) (.int .i64 D.la)).setCell (p := ⟨w.heap.size + 1, 3, none⟩) (fun _ => rfl) (.int .i64 D.lb)).setCell (p := ⟨w.heap.size + 1, 4, none⟩) (fun _ => rfl) (.int .i64 D.no)).setCell (p := ⟨w.heap.size + 1, 5, none⟩) (fun _ => rfl) (.slice a.cQ D.nq a.pQ))
        have HFO := hik (HOP.out.chg kE (fun c hc e => by have e' : c = w.heap.size + 1 := e; unfold Iv at hc; have := HW2.out; omega))
        have RE := hik (((((((RX.out.set 0 (.slice a.cR D.nr a.pR)).set 1 (.slice a.cT D.nt a.pT)).set 2 (.int .i64 D.la)).set 3 (.int .i64 D.lb)).set 4 (.int .i64 D.no)).set 5 (.slice a.cQ D.nq a.pQ)).congr (g := fun i => (#[.slice a.cR D.nr a.pR, .slice a.cT D.nt a.pT, .int .i64 D.la, .int .i64 D.lb, .int .i64 D.no, .slice a.cQ D.nq a.pQ] : Array Value).getD i undef) (fun i hi => by rcases (show i = 0 ∨ i = 1 ∨ i = 2 ∨ i = 3 ∨ i = 4 ∨ i = 5 by omega) with rfl | rfl | rfl | rfl | rfl | rfl <;> rfl))
        have KF := hik ((((((K0.out.setCell (p := ⟨w.heap.size + 1, 0, none⟩) (fun l => absurd (show w.heap.size + 1 < w.heap.size from l) (by omega)) (.slice a.cR D.nr a.pR)).setCell (p := ⟨w.heap.size + 1, 1, none⟩) (fun l => absurd (show w.heap.size + 1 < w.heap.size from l) (by omega)) (.slice a.cT D.nt a.pT)).setCell (p := ⟨w.heap.size + 1, 2, none⟩) (fun l => absurd (show w.heap.size + 1 < w.heap.size from l) (by omega)) (.int .i64 D.la)).setCell (p := ⟨w.heap.size + 1, 3, none⟩) (fun l => absurd (show w.heap.size + 1 < w.heap.size from l) (by omega)) (.int .i64 D.lb)).setCell (p := ⟨w.heap.size + 1, 4, none⟩) (fun l => absurd (show w.heap.size + 1 < w.heap.size from l) (by omega)) (.int .i64 D.no)).setCell (p := ⟨w.heap.size + 1, 5, none⟩) (fun l => absurd (show w.heap.size + 1 < w.heap.size from l) (by omega)) (.slice a.cQ D.nq a.pQ))
        have hsz : (((((((W5.setCell ⟨w.heap.size + 1, 0, none⟩ (.slice a.cR D.nr a.pR)).setCell ⟨w.heap.size + 1, 1, none⟩ (.slice a.cT D.nt a.pT)).setCell ⟨w.heap.size + 1, 2, none⟩ (.int .i64 D.la)).setCell ⟨w.heap.size + 1, 3, none⟩ (.int .i64 D.lb)).setCell ⟨w.heap.size + 1, 4, none⟩ (.int .i64 D.no)).setCell ⟨w.heap.size + 1, 5, none⟩ (.slice a.cQ D.nq a.pQ))).heap.size = W5.heap.size := by simp
        clear kE HOP RX
        go_wp2
        have d0 := RE.out.cell (i := 0) (by omega)
        have d1 := RE.out.cell (i := 1) (by omega)
        have d2 := RE.out.cell (i := 2) (by omega)
        have d3 := RE.out.cell (i := 3) (by omega)
        have d4 := RE.out.cell (i := 4) (by omega)
        have d5 := RE.out.cell (i := 5) (by omega)
        simp at d0 d1 d2 d3 d4 d5
        refine bodyPost_ret (v := .tuple #[.agg #[.slice a.cR D.nr a.pR, .slice a.cT D.nt a.pT, .int .i64 D.la, .int .i64 D.lb, .int .i64 D.no, .slice a.cQ D.nq a.pQ], .int .i64 0]) (by simp [results, Try.results4, go_sem, d0, d1, d2, d3, d4, d5]) rfl ?_
        rw [HV.out, HB.out]
        refine ⟨a, rfl, ?_, KF.out⟩
        have q := HFO.out
        obtain ⟨SR, MR, ST, MT, SQ, MQ, oR, oT, oQ, hs, qq⟩ := q
        exact ⟨SR, MR, ST, MT, SQ, MQ, oR, oT, oQ, fun c hc => by have h1 := hs c hc; have h2 := HTOP.out; have h3 := HW2.out; unfold Iv at h1 ⊢; rw [hsz]; omega, qq⟩
    · have hne : ¬ t.toList = [] := fun e => ht0 (by rw [ByteArray.toList_eq] at e; show t.data.size = 0; rw [← Array.length_toList, e]; rfl)
      have hie : t.toList.isEmpty = false := by cases hx : t.toList with
        | nil => exact absurd hx hne
        | cons _ _ => rfl
      have HB := hik (show roc n z v r q g = 3 by rw [HRC.out, if_neg (fun u => by have a1 := (HK1.out rfl).2.1; have a2 := u.1; omega)])
      have y0 : W4.cell? ⟨w.heap.size + 1, 0, none⟩ = some (.slice none 0 0) := RX.out.cell (i := 0) (by omega)
      have u0 := RX.out.frozen 0
      have y1 : W4.cell? ⟨w.heap.size + 1, 1, none⟩ = some (.slice none 0 0) := RX.out.cell (i := 1) (by omega)
      have u1 := RX.out.frozen 1
      have y2 : W4.cell? ⟨w.heap.size + 1, 2, none⟩ = some (.int .i64 0) := RX.out.cell (i := 2) (by omega)
      have u2 := RX.out.frozen 2
      have y3 : W4.cell? ⟨w.heap.size + 1, 3, none⟩ = some (.int .i64 0) := RX.out.cell (i := 3) (by omega)
      have u3 := RX.out.frozen 3
      have y4 : W4.cell? ⟨w.heap.size + 1, 4, none⟩ = some (.int .i64 0) := RX.out.cell (i := 4) (by omega)
      have u4 := RX.out.frozen 4
      have y5 : W4.cell? ⟨w.heap.size + 1, 5, none⟩ = some (.slice none 0 0) := RX.out.cell (i := 5) (by omega)
      have u5 := RX.out.frozen 5
      have lx := RX.out.lt
      go_wp2
      exact bodyPost_ret (v := .tuple #[.agg #[.slice none 0 0, .slice none 0 0, .int .i64 0, .int .i64 0, .int .i64 0, .slice none 0 0], .int .i64 3]) (by simp [results, Try.results4, go_sem, *]) rfl (RoAns.no HB.out (by decide) rfl ((((((K0.out.setCell (p := ⟨w.heap.size + 1, 0, none⟩) (fun l => absurd (show w.heap.size + 1 < w.heap.size from l) (by omega)) (.slice none 0 0)).setCell (p := ⟨w.heap.size + 1, 1, none⟩) (fun l => absurd (show w.heap.size + 1 < w.heap.size from l) (by omega)) (.slice none 0 0)).setCell (p := ⟨w.heap.size + 1, 2, none⟩) (fun l => absurd (show w.heap.size + 1 < w.heap.size from l) (by omega)) (.int .i64 0)).setCell (p := ⟨w.heap.size + 1, 3, none⟩) (fun l => absurd (show w.heap.size + 1 < w.heap.size from l) (by omega)) (.int .i64 0)).setCell (p := ⟨w.heap.size + 1, 4, none⟩) (fun l => absurd (show w.heap.size + 1 < w.heap.size from l) (by omega)) (.int .i64 0)).setCell (p := ⟨w.heap.size + 1, 5, none⟩) (fun l => absurd (show w.heap.size + 1 < w.heap.size from l) (by omega)) (.slice none 0 0)))

end Go.Proofs.Ytfgnhaoonpknlaa
