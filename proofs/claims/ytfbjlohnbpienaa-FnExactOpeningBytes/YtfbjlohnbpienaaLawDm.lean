/- What the laws' marks of lists of lists, queries and openings are, and that they are found again: contracts. Conditions: lists of a call's own, of at most 2 to the 20 items; marks from 1 to 2 to the 39. -/
import Derived.Test.YtfbjlohnbpienaaBzap
import Derived.Test.YtfbjlohnbpienaaLawDz
namespace Go.Proofs.Ytfbjlohnbpienaa
open Go.ChangeShapes Go.WideShapes Go.ChangeAt Go.RowKit
set_option linter.unusedVariables false
set_option maxRecDepth 100000
set_option linter.unusedSimpArgs false

/-- The marks of texts, from k on. -/
def mvq (k i : Nat) : ByteArray := mt (k + i)
theorem ret_i {a b : Int} (h : a = b) : Ending.returned (.int .i64 a) = .returned (.int .i64 b) := by rw [h]

set_option maxHeartbeats 1000000 in
theorem markNone (c : Option Addr) (cap q : Nat) (w : World) : Calls Try.prog 68 #[.slice c 0 cap, .int .i64 (q : Int)] w fun e w' => e = .returned (.int .i64 (q : Int)) ∧ Chg nob w w' := by
  go_enter Try.func68, Try.ntmps68
  go_wp2
  go_loopw [1, 5] (fun v i W => i = .int .i64 0 ∧ v = .int .i64 (q : Int) ∧ Hid (Chg nob w W)) (fun _ _ _ => 0)
  case atStart => exact ⟨rfl, rfl, hik (Chg.refl _ _)⟩
  case round =>
    obtain ⟨rfl, rfl, HC⟩ := hrel
    go_wp2
    go_ret
    exact ⟨rfl, HC.out⟩
theorem markExtS_d (lo hi : Nat) (c : Option Addr) (n cap : Nat) (f g : Nat → Int) (q : Nat) (w : World) (h : Hid ((Dt.exts n f g).Own w lo hi (.slice c n cap))) (hn : n ≤ 549755813888) (q1 : q ≤ 549755813888) :
    Calls Try.prog 68 #[.slice c n cap, .int .i64 (q : Int)] w fun e w' => e = .returned (.int .i64 ((q + 2 * n : Nat) : Int)) ∧ (Dt.exts n (mka (q : Int)) (mkd (q : Int))).Own w' lo hi (.slice c n cap) ∧ Chg (fun b => lo ≤ b ∧ b < hi) w w' := by
  obtain ⟨c', cap', e', h0⟩ := h.out
  cases e'
  rcases h0 with rfl | ⟨ho, b, rfl, hb⟩
  · refine (markNone c cap q w).mono ?_
    rintro e w' ⟨rfl, k⟩
    exact ⟨rfl, ⟨_, _, rfl, .inl rfl⟩, k.wide⟩
  · refine (markExtS_own lo (some ⟨b, 0, none⟩) n cap f g (q : Int) w (hik ho) (by omega) (by omega) (by omega)).mono ?_
    rintro e w' ⟨rfl, ho', k⟩
    refine ⟨by rw [show (q : Int) + 2 * (n : Int) = ((q + 2 * n : Nat) : Int) by omega], ⟨_, _, rfl, .inr ⟨ho', b, rfl, hb⟩⟩, k.mono (fun i _ m => ?_)⟩
    obtain ⟨m1, m2, _⟩ := m
    cases m2
    exact ⟨m1, hb⟩

set_option maxHeartbeats 1000000 in
theorem markText_row (g n cap : Nat) (f : Nat → Value) (q : Nat) (w : World) (h : Hid (WRow w g n f)) (hn : n ≤ 549755813888) (q0 : 1 ≤ q) (q1 : q + n ≤ 1099511627775) :
    Calls Try.prog 39 #[.slice (some ⟨g, 0, none⟩) n cap, .int .i64 (q : Int)] w fun e w' => e = .returned (.int .i64 ((q + n : Nat) : Int)) ∧ WRow w' g n (sb (mvq q)) ∧ Chg (fun b => b = g) w w' := by
  have hgl := h.out.lt
  go_enter Try.func39, Try.ntmps39
  go_wp2
  go_loopw [1, 5] (fun v i W => ∃ k m : Nat, k ≤ n ∧ i = .int .i64 k ∧ v = .int .i64 m ∧ Hid (m = q + k) ∧ Hid (WRow W g n (fun j => if j < k then sb (mvq q) j else f j)) ∧ Hid (Chg (fun b => b = g) w W)) (fun _ i _ => n - (intOf i).toNat)
  case atStart => exact ⟨0, q, Nat.zero_le _, rfl, rfl, hik rfl, hik (by simpa using h.out), hik (Chg.refl _ _)⟩
  case round =>
    obtain ⟨k, m, hk, rfl, rfl, HM, HR, HC⟩ := hrel
    by_cases hlt : k < n
    · have hm1 : 1 ≤ m := by have := HM.out; omega
      have hm3 : m ≤ 1099511627776 := by have := HM.out; omega
      go_wp2_with (go_at_call 69; refine (markText_any m _ hm1 hm3).mono ?_; rintro e W1 ⟨rfl, k1⟩; have R1 := hik (HR.out.keep k1); have C1 := hik (HC.out.trans (k1.mono (fun _ _ x => x.elim))); clear k1; have hg := R1.out.cell k hlt; have hf := R1.out.fro k hlt; simp only [Nat.lt_irrefl, if_false] at hg)
      have HR2 := hik (show _ from (R1.out.set k hlt (.string (mt m))).congr (f' := fun j => if j < k + 1 then sb (mvq q) j else f j) (fun i _ => by
        by_cases e : i = k
        · subst e; rw [if_pos rfl, if_pos (by omega)]; unfold sb mvq; rw [HM.out]
        · rw [if_neg e]
          by_cases e2 : i < k
          · rw [if_pos e2, if_pos (by omega)]
          · rw [if_neg e2, if_neg (by omega)]))
      have HC2 := hik (C1.out.setCell (p := ⟨g, k, none⟩) (fun _ => rfl) (.string (mt m)))
      go_roundw
      case rel => exact ⟨k + 1, m + 1, by omega, by go_num, by go_num, hik (by rw [HM.out]; omega), HR2, HC2⟩
      case measure => simp [intOf]; omega
    · obtain rfl : k = n := by omega
      have E := hik (show (m : Int) = ((q + k : Nat) : Int) by have := HM.out; omega)
      go_wp2
      go_ret
      exact ⟨by rw [← E.out]; rfl, ⟨HR.out.lt, fun i hi => by rw [HR.out.cell i hi, if_pos hi], HR.out.fro⟩, HC.out⟩

set_option maxHeartbeats 1000000 in
theorem markTextNone (c : Option Addr) (cap q : Nat) (w : World) : Calls Try.prog 39 #[.slice c 0 cap, .int .i64 (q : Int)] w fun e w' => e = .returned (.int .i64 (q : Int)) ∧ Chg nob w w' := by
  go_enter Try.func39, Try.ntmps39
  go_wp2
  go_loopw [1, 5] (fun v i W => i = .int .i64 0 ∧ v = .int .i64 (q : Int) ∧ Hid (Chg nob w W)) (fun _ _ _ => 0)
  case atStart => exact ⟨rfl, rfl, hik (Chg.refl _ _)⟩
  case round =>
    obtain ⟨rfl, rfl, HC⟩ := hrel
    go_wp2
    go_ret
    exact ⟨rfl, HC.out⟩
theorem markStringS_d (lo hi : Nat) (c : Option Addr) (n cap : Nat) (L : Nat → ByteArray) (q : Nat) (w : World) (h : Hid ((Dt.texts n L).Own w lo hi (.slice c n cap))) (q0 : 1 ≤ q) (q1 : q + n ≤ 1099511627775) (hn : n ≤ 549755813888) :
    Calls Try.prog 39 #[.slice c n cap, .int .i64 (q : Int)] w fun e w' => e = .returned (.int .i64 ((q + n : Nat) : Int)) ∧ (Dt.texts n (mvq q)).Own w' lo hi (.slice c n cap) ∧ Chg (fun b => lo ≤ b ∧ b < hi) w w' := by
  obtain ⟨c', cap', e', h0⟩ := h.out
  cases e'
  rcases h0 with rfl | ⟨b, rfl, hb, hb', hw⟩
  · refine (markTextNone c cap q w).mono ?_
    rintro e w' ⟨rfl, k⟩
    exact ⟨rfl, ⟨_, _, rfl, .inl rfl⟩, k.wide⟩
  · refine (markText_row b n cap (sb L) q w (hik hw) hn q0 q1).mono ?_
    rintro e w' ⟨rfl, hw', k⟩
    exact ⟨rfl, ⟨_, _, rfl, .inr ⟨b, rfl, hb, hb', hw'⟩⟩, k.mono (fun i _ e => by rw [e]; exact ⟨hb, hb'⟩)⟩

/-- The inner blocks of a list. -/
def InX (n m : Nat) (L H : Nat → Nat → Nat) (y : Nat) : Prop := ∃ i j, i < n ∧ j < m ∧ L i j ≤ y ∧ y < H i j
theorem OwnL.inx {w : World} {n m : Nat} {P : Nat → Nat → Nat → Nat → Value → Prop} {lo hi b : Nat} {L H : Nat → Nat → Nat} (o : OwnL w n m P lo hi b L H) (y : Nat) (h : InX n m L H y) : lo ≤ y ∧ y < hi := by
  obtain ⟨i, j, hi', hj, h1, h2⟩ := h
  exact ⟨Nat.le_trans (o.lol i j hi' hj) h1, Nat.lt_of_lt_of_le h2 (o.hih i j hi' hj)⟩
/-- Marked lists. -/
def mEE (n : Nat) (l : Nat → Nat) (q : Nat) : Dt := dEE n l (fun i => mka ((q + 2 * sumN l i : Nat) : Int)) (fun i => mkd ((q + 2 * sumN l i : Nat) : Int))
def mSS (n : Nat) (l : Nat → Nat) (q : Nat) : Dt := dSS n l (fun i => mvq (q + 1 * sumN l i))
set_option maxHeartbeats 2000000 in
theorem markExtSS_x (lo hi b n cap : Nat) (l : Nat → Nat) (f g : Nat → Nat → Int) (L H : Nat → Nat → Nat) (q : Nat) (w : World) (h : Hid (OwnL w n 1 (fun i j lo hi u => ((Dt.exts (l i) (f i) (g i)) : Dt).Own w lo hi u) lo hi b L H)) (hn : n ≤ 1048576) (q0 : 1 ≤ q) (q1 : q + 2 * sumN l n ≤ 549755813888) :
    Calls Try.prog 38 #[.slice (some ⟨b, 0, none⟩) n cap, .int .i64 (q : Int)] w fun e w' => e = .returned (.int .i64 ((q + 2 * sumN l n : Nat) : Int)) ∧ OwnL w' n 1 (fun i j lo hi u => ((Dt.exts (l i) (mka ((q + 2 * sumN l i : Nat) : Int)) (mkd ((q + 2 * sumN l i : Nat) : Int))) : Dt).Own w' lo hi u) lo hi b L H ∧ Chg (InX n 1 L H) w w' := by
  have HB := hik h.out.lt
  have HO0 := h
  clear h
  go_enter Try.func38, Try.ntmps38
  go_wp2
  go_loopw [1, 5] (fun v i W => ∃ k m : Nat, k ≤ n ∧ i = .int .i64 (k : Int) ∧ v = .int .i64 (m : Int) ∧ Hid (m = q + 2 * sumN l k) ∧ Hid (OwnL W n 1 (fun i j lo hi u => (if i < k then (Dt.exts (l i) (mka ((q + 2 * sumN l i : Nat) : Int)) (mkd ((q + 2 * sumN l i : Nat) : Int))) else (Dt.exts (l i) (f i) (g i)) : Dt).Own W lo hi u) lo hi b L H) ∧ Hid (Chg (InX n 1 L H) w W)) (fun _ i _ => n - (intOf i).toNat)
  case atStart => exact ⟨0, q, Nat.zero_le _, rfl, rfl, hik (by simp [sumN]), hik (HO0.out.congr (y := fun i j => if i < 0 then (Dt.exts (l i) (mka ((q + 2 * sumN l i : Nat) : Int)) (mkd ((q + 2 * sumN l i : Nat) : Int))) else (Dt.exts (l i) (f i) (g i))) (fun i j _ _ => if_neg (by omega))), hik (Chg.refl _ _)⟩
  case round =>
    clear HO0
    obtain ⟨k, m, hk, rfl, rfl, HM, HO, HG⟩ := hrel
    rename World => wi
    by_cases hlt : k < n
    · have hk1 : (k : Int) < (n : Int) := by omega
      have hk0 : (0 : Int) ≤ (k : Int) := by omega
      obtain ⟨u, hc, hr⟩ := HO.out.cell k 0 hlt (by omega)
      have hr' : ((Dt.exts (l k) (f k) (g k))).Own wi (L k 0) (H k 0) u := by simpa using hr
      have hr0 := hr'
      obtain ⟨c1, p1, rfl, _⟩ := hr'
      have RK := hik hr0
      have HCC := hik hc
      rw [Nat.mul_one, Nat.add_zero] at hc
      have hbl := HO.out.lt
      have hlk : sumN l k + l k ≤ sumN l n := sumN_le l (i := k + 1) (by omega)
      have hm0 : 1 ≤ m := by have := HM.out; omega
      have hm1 : m + 2 * l k ≤ 549755813888 := by have := HM.out; omega
      clear hr hr0
      go_wp2_with fail
      refine (markExtS_d (L k 0) (H k 0) c1 (l k) p1 (f k) (g k) m _ RK (by omega) (by omega)).mono ?_
      rintro e W1 ⟨rfl, o1, k1⟩
      have HO2 := hik (OwnL.step HO.out (y := fun i j => if i < k + 1 then (Dt.exts (l i) (mka ((q + 2 * sumN l i : Nat) : Int)) (mkd ((q + 2 * sumN l i : Nat) : Int))) else (Dt.exts (l i) (f i) (g i))) hlt (by omega) HCC.out k1 (by
        show (if k < k + 1 then _ else _ : Dt).Own _ _ _ _
        rw [if_pos (by omega), ← HM.out]
        exact o1) (fun i j hi' hj hne => by
        have e9 : i ≠ k := fun e => hne ⟨e, by omega⟩
        show (if i < k + 1 then (Dt.exts (l i) (mka ((q + 2 * sumN l i : Nat) : Int)) (mkd ((q + 2 * sumN l i : Nat) : Int))) else (Dt.exts (l i) (f i) (g i)) : Dt) = if i < k then (Dt.exts (l i) (mka ((q + 2 * sumN l i : Nat) : Int)) (mkd ((q + 2 * sumN l i : Nat) : Int))) else (Dt.exts (l i) (f i) (g i))
        by_cases e2 : i < k
        · rw [if_pos e2, if_pos (by omega)]
        · rw [if_neg e2, if_neg (by omega)]))
      have HG2 := hik (HG.out.trans (k1.mono (Q := InX n 1 L H) (fun y _ e => ⟨k, 0, hlt, by omega, e.1, e.2⟩)))
      have HM2 := hik (show m + 2 * l k = q + 2 * sumN l (k + 1) by rw [HM.out]; simp only [sumN]; omega)
      clear o1 k1 hc RK HCC
      generalize m + 2 * l k = m2 at HM2 hm1 ⊢
      go_wp2
      go_roundw
      case rel => exact ⟨k + 1, m2, by omega, by go_num, rfl, HM2, HO2, HG2⟩
      case measure => simp [intOf]; omega
    · obtain rfl : n = k := by omega
      have hcc : ¬ (n : Int) < (n : Int) := by omega
      go_wp2
      go_ret
      have HOZ := HO.out.congr (y := fun i _ => (Dt.exts (l i) (mka ((q + 2 * sumN l i : Nat) : Int)) (mkd ((q + 2 * sumN l i : Nat) : Int)))) (fun i j hi' _ => (if_pos hi').symm)
      exact ⟨ret_i (by have := HM.out; omega), (by first | exact HOZ | simpa using HOZ), HG.out⟩

set_option maxHeartbeats 2000000 in
theorem markExtSS_d (lo hi : Nat) (c : Option Addr) (n cap : Nat) (l : Nat → Nat) (f g : Nat → Nat → Int) (q : Nat) (w : World) (h : Hid ((dEE n l f g).Own w lo hi (.slice c n cap))) (hn : n ≤ 1048576) (q0 : 1 ≤ q) (q1 : q + 2 * sumN l n ≤ 549755813888) :
    Calls Try.prog 38 #[.slice c n cap, .int .i64 (q : Int)] w fun e w' => e = .returned (.int .i64 ((q + 2 * sumN l n : Nat) : Int)) ∧ (mEE n l q).Own w' lo hi (.slice c n cap) ∧ Chg (fun b => lo ≤ b ∧ b < hi) w w' := by
  obtain ⟨c', cap', e', h0⟩ := h.out
  cases e'
  rcases h0 with rfl | ⟨b, L, H, rfl, ho⟩
  · clear h
    go_enter Try.func38, Try.ntmps38
    go_wp2
    go_loopw [1, 5] (fun v i W => i = .int .i64 0 ∧ v = .int .i64 (q : Int) ∧ Hid (Chg nob w W)) (fun _ _ _ => 0)
    case atStart => exact ⟨rfl, rfl, hik (Chg.refl _ _)⟩
    case round =>
      obtain ⟨rfl, rfl, HC⟩ := hrel
      go_wp2
      go_ret
      exact ⟨by simp [sumN], ⟨_, _, rfl, .inl rfl⟩, HC.out.wide⟩
  · have HL := hik ho.inx
    refine (markExtSS_x lo hi b n cap l f g L H q w (hik ho) hn q0 q1).mono ?_
    rintro e w' ⟨rfl, o', k⟩
    exact ⟨rfl, ⟨_, _, rfl, .inr ⟨b, L, H, rfl, o'⟩⟩, k.mono (fun y _ e => HL.out y e)⟩

set_option maxHeartbeats 2000000 in
theorem markStringSS_x (lo hi b n cap : Nat) (l : Nat → Nat) (T : Nat → Nat → ByteArray) (L H : Nat → Nat → Nat) (q : Nat) (w : World) (h : Hid (OwnL w n 1 (fun i j lo hi u => ((Dt.texts (l i) (T i)) : Dt).Own w lo hi u) lo hi b L H)) (hn : n ≤ 1048576) (q0 : 1 ≤ q) (q1 : q + 1 * sumN l n ≤ 549755813888) :
    Calls Try.prog 70 #[.slice (some ⟨b, 0, none⟩) n cap, .int .i64 (q : Int)] w fun e w' => e = .returned (.int .i64 ((q + 1 * sumN l n : Nat) : Int)) ∧ OwnL w' n 1 (fun i j lo hi u => ((Dt.texts (l i) (mvq (q + 1 * sumN l i))) : Dt).Own w' lo hi u) lo hi b L H ∧ Chg (InX n 1 L H) w w' := by
  have HB := hik h.out.lt
  have HO0 := h
  clear h
  go_enter Try.func70, Try.ntmps70
  go_wp2
  go_loopw [1, 5] (fun v i W => ∃ k m : Nat, k ≤ n ∧ i = .int .i64 (k : Int) ∧ v = .int .i64 (m : Int) ∧ Hid (m = q + 1 * sumN l k) ∧ Hid (OwnL W n 1 (fun i j lo hi u => (if i < k then (Dt.texts (l i) (mvq (q + 1 * sumN l i))) else (Dt.texts (l i) (T i)) : Dt).Own W lo hi u) lo hi b L H) ∧ Hid (Chg (InX n 1 L H) w W)) (fun _ i _ => n - (intOf i).toNat)
  case atStart => exact ⟨0, q, Nat.zero_le _, rfl, rfl, hik (by simp [sumN]), hik (HO0.out.congr (y := fun i j => if i < 0 then (Dt.texts (l i) (mvq (q + 1 * sumN l i))) else (Dt.texts (l i) (T i))) (fun i j _ _ => if_neg (by omega))), hik (Chg.refl _ _)⟩
  case round =>
    clear HO0
    obtain ⟨k, m, hk, rfl, rfl, HM, HO, HG⟩ := hrel
    rename World => wi
    by_cases hlt : k < n
    · have hk1 : (k : Int) < (n : Int) := by omega
      have hk0 : (0 : Int) ≤ (k : Int) := by omega
      obtain ⟨u, hc, hr⟩ := HO.out.cell k 0 hlt (by omega)
      have hr' : ((Dt.texts (l k) (T k))).Own wi (L k 0) (H k 0) u := by simpa using hr
      have hr0 := hr'
      obtain ⟨c1, p1, rfl, _⟩ := hr'
      have RK := hik hr0
      have HCC := hik hc
      rw [Nat.mul_one, Nat.add_zero] at hc
      have hbl := HO.out.lt
      have hlk : sumN l k + l k ≤ sumN l n := sumN_le l (i := k + 1) (by omega)
      have hm0 : 1 ≤ m := by have := HM.out; omega
      have hm1 : m + l k ≤ 549755813888 := by have := HM.out; omega
      clear hr hr0
      go_wp2_with fail
      refine (markStringS_d (L k 0) (H k 0) c1 (l k) p1 (T k) m _ RK hm0 (by omega) (by omega)).mono ?_
      rintro e W1 ⟨rfl, o1, k1⟩
      have HO2 := hik (OwnL.step HO.out (y := fun i j => if i < k + 1 then (Dt.texts (l i) (mvq (q + 1 * sumN l i))) else (Dt.texts (l i) (T i))) hlt (by omega) HCC.out k1 (by
        show (if k < k + 1 then _ else _ : Dt).Own _ _ _ _
        rw [if_pos (by omega), ← HM.out]
        exact o1) (fun i j hi' hj hne => by
        have e9 : i ≠ k := fun e => hne ⟨e, by omega⟩
        show (if i < k + 1 then (Dt.texts (l i) (mvq (q + 1 * sumN l i))) else (Dt.texts (l i) (T i)) : Dt) = if i < k then (Dt.texts (l i) (mvq (q + 1 * sumN l i))) else (Dt.texts (l i) (T i))
        by_cases e2 : i < k
        · rw [if_pos e2, if_pos (by omega)]
        · rw [if_neg e2, if_neg (by omega)]))
      have HG2 := hik (HG.out.trans (k1.mono (Q := InX n 1 L H) (fun y _ e => ⟨k, 0, hlt, by omega, e.1, e.2⟩)))
      have HM2 := hik (show m + l k = q + 1 * sumN l (k + 1) by rw [HM.out]; simp only [sumN]; omega)
      clear o1 k1 hc RK HCC
      generalize m + l k = m2 at HM2 hm1 ⊢
      go_wp2
      go_roundw
      case rel => exact ⟨k + 1, m2, by omega, by go_num, rfl, HM2, HO2, HG2⟩
      case measure => simp [intOf]; omega
    · obtain rfl : n = k := by omega
      have hcc : ¬ (n : Int) < (n : Int) := by omega
      go_wp2
      go_ret
      have HOZ := HO.out.congr (y := fun i _ => (Dt.texts (l i) (mvq (q + 1 * sumN l i)))) (fun i j hi' _ => (if_pos hi').symm)
      exact ⟨ret_i (by have := HM.out; omega), (by first | exact HOZ | simpa using HOZ), HG.out⟩

set_option maxHeartbeats 2000000 in
theorem markStringSS_d (lo hi : Nat) (c : Option Addr) (n cap : Nat) (l : Nat → Nat) (T : Nat → Nat → ByteArray) (q : Nat) (w : World) (h : Hid ((dSS n l T).Own w lo hi (.slice c n cap))) (hn : n ≤ 1048576) (q0 : 1 ≤ q) (q1 : q + 1 * sumN l n ≤ 549755813888) :
    Calls Try.prog 70 #[.slice c n cap, .int .i64 (q : Int)] w fun e w' => e = .returned (.int .i64 ((q + 1 * sumN l n : Nat) : Int)) ∧ (mSS n l q).Own w' lo hi (.slice c n cap) ∧ Chg (fun b => lo ≤ b ∧ b < hi) w w' := by
  obtain ⟨c', cap', e', h0⟩ := h.out
  cases e'
  rcases h0 with rfl | ⟨b, L, H, rfl, ho⟩
  · clear h
    go_enter Try.func70, Try.ntmps70
    go_wp2
    go_loopw [1, 5] (fun v i W => i = .int .i64 0 ∧ v = .int .i64 (q : Int) ∧ Hid (Chg nob w W)) (fun _ _ _ => 0)
    case atStart => exact ⟨rfl, rfl, hik (Chg.refl _ _)⟩
    case round =>
      obtain ⟨rfl, rfl, HC⟩ := hrel
      go_wp2
      go_ret
      exact ⟨by simp [sumN], ⟨_, _, rfl, .inl rfl⟩, HC.out.wide⟩
  · have HL := hik ho.inx
    refine (markStringSS_x lo hi b n cap l T L H q w (hik ho) hn q0 q1).mono ?_
    rintro e w' ⟨rfl, o', k⟩
    exact ⟨rfl, ⟨_, _, rfl, .inr ⟨b, L, H, rfl, o'⟩⟩, k.mono (fun y _ e => HL.out y e)⟩

/-- A marked query, and how many marks it has. -/
def QD.mk9 (x : QD) (q : Nat) : QD := { x with f := mka (q : Int), g := mkd (q : Int), T := fun i => mvq (q + 2 * x.np + 1 * sumN x.l i) }
def QD.mc (x : QD) : Nat := 2 * x.np + 1 * sumN x.l x.nq
def mQs (n : Nat) (x : Nat → QD) (q : Nat) : Dt := dQs n (fun i => (x i).mk9 (q + sumN (fun i => (x i).mc) i))
/-- Cells of queries, the first ones marked. -/
def qx (x : Nat → QD) (q k p : Nat) (i j : Nat) : Dt :=
  if i < k ∨ (i = k ∧ j < p) then (if j = 0 then ((x i).mk9 (q + sumN (fun i => (x i).mc) i)).P else ((x i).mk9 (q + sumN (fun i => (x i).mc) i)).S) else (if j = 0 then (x i).P else (x i).S)
theorem qx_new {x : Nat → QD} {q k p i j : Nat} (h : i < k ∨ (i = k ∧ j < p)) : qx x q k p i j = (if j = 0 then ((x i).mk9 (q + sumN (fun i => (x i).mc) i)).P else ((x i).mk9 (q + sumN (fun i => (x i).mc) i)).S) := if_pos h
theorem qx_old {x : Nat → QD} {q k p i j : Nat} (h : ¬ (i < k ∨ (i = k ∧ j < p))) : qx x q k p i j = (if j = 0 then (x i).P else (x i).S) := if_neg h
theorem qx_ne {x : Nat → QD} {q k p k' p' i j : Nat} (h : (i < k ∨ (i = k ∧ j < p)) ↔ (i < k' ∨ (i = k' ∧ j < p'))) : qx x q k p i j = qx x q k' p' i j := by
  by_cases e : i < k ∨ (i = k ∧ j < p)
  · rw [qx_new e, qx_new (h.1 e)]
  · rw [qx_old e, qx_old (fun y => e (h.2 y))]

set_option maxHeartbeats 2000000 in
theorem markQueryS_x (lo hi b n cap : Nat) (x : Nat → QD) (L H : Nat → Nat → Nat) (q : Nat) (w : World) (h : Hid (OwnL w n 2 (fun i j lo hi u => (if j = 0 then (x i).P else (x i).S : Dt).Own w lo hi u) lo hi b L H)) (hn : n ≤ 1048576) (hq : Hid (∀ i, i < n → (x i).np ≤ 1048576 ∧ (x i).nq ≤ 1048576)) (q0 : 1 ≤ q) (q1 : q + sumN (fun i => (x i).mc) n ≤ 549755813888) :
    Calls Try.prog 40 #[.slice (some ⟨b, 0, none⟩) n cap, .int .i64 (q : Int)] w fun e w' => e = .returned (.int .i64 ((q + sumN (fun i => (x i).mc) n : Nat) : Int)) ∧ OwnL w' n 2 (fun i j lo hi u => (if j = 0 then ((x i).mk9 (q + sumN (fun i => (x i).mc) i)).P else ((x i).mk9 (q + sumN (fun i => (x i).mc) i)).S : Dt).Own w' lo hi u) lo hi b L H ∧ Chg (InX n 2 L H) w w' := by
  have HO0 := hik (show OwnL w n 2 (fun i j lo hi u => (qx x q 0 0 i j).Own w lo hi u) lo hi b L H from h.out.congr (fun i j _ _ => qx_old (by omega)))
  clear h
  go_enter Try.func40, Try.ntmps40
  go_wp2
  go_loopw [1, 5] (fun v i W => ∃ k m : Nat, k ≤ n ∧ i = .int .i64 (k : Int) ∧ v = .int .i64 (m : Int) ∧ Hid (m = q + sumN (fun i => (x i).mc) k) ∧ Hid (OwnL W n 2 (fun i j lo hi u => (qx x q k 0 i j).Own W lo hi u) lo hi b L H) ∧ Hid (Chg (InX n 2 L H) w W)) (fun _ i _ => n - (intOf i).toNat)
  case atStart => exact ⟨0, q, Nat.zero_le _, rfl, rfl, hik (by simp [sumN]), HO0, hik (Chg.refl _ _)⟩
  case round =>
    clear HO0
    obtain ⟨k, m, hk, rfl, rfl, HM, HO, HG⟩ := hrel
    rename World => wi
    by_cases hlt : k < n
    · have hk1 : (k : Int) < (n : Int) := by omega
      have hk0 : (0 : Int) ≤ (k : Int) := by omega
      have hmc : sumN (fun i => (x i).mc) k + (x k).mc ≤ sumN (fun i => (x i).mc) n := sumN_le (fun i => (x i).mc) (i := k + 1) (by omega)
      have hmd : (x k).mc = 2 * (x k).np + 1 * sumN (x k).l (x k).nq := rfl
      have hm0 : 1 ≤ m := by have := HM.out; omega
      have hm1 : m + 2 * (x k).np + 1 * sumN (x k).l (x k).nq ≤ 549755813888 := by have := HM.out; omega
      have hqk := hq.out k hlt
      obtain ⟨u, hc, hr⟩ := HO.out.cell k 0 hlt (by omega)
      have hr' : (x k).P.Own wi (L k 0) (H k 0) u := by rw [qx_old (by omega)] at hr; exact hr
      have hr0 := hr'
      obtain ⟨c1, p1, rfl, _⟩ := hr'
      have RK := hik hr0
      have HCC := hik hc
      rw [Nat.add_zero] at hc
      have hbl := HO.out.lt
      clear hr hr0 hmc hmd
      go_wp2_with fail
      refine (markExtS_d (L k 0) (H k 0) c1 (x k).np p1 (x k).f (x k).g m _ RK (by omega) (by omega)).mono ?_
      rintro e W1 ⟨rfl, o1, k1⟩
      have HO2 := hik (OwnL.step HO.out (y := qx x q k 1) hlt (by omega) HCC.out k1 (by
        show (qx x q k 1 k 0).Own _ _ _ _
        rw [qx_new (by omega), ← HM.out]
        exact o1) (fun i j hi' hj hne => qx_ne (by omega)))
      have HG2 := hik (HG.out.trans (k1.mono (Q := InX n 2 L H) (fun y _ e => ⟨k, 0, hlt, by omega, e.1, e.2⟩)))
      clear o1 k1 hc RK HCC
      have HM1 := hik (show m + 2 * (x k).np = q + sumN (fun i => (x i).mc) k + 2 * (x k).np by rw [HM.out])
      generalize m + 2 * (x k).np = m1 at HM1 hm1 ⊢
      have hm2 : 1 ≤ m1 := by have := HM1.out; omega
      obtain ⟨u, hc, hr⟩ := HO2.out.cell k 1 hlt (by omega)
      have hr' : (x k).S.Own W1 (L k 1) (H k 1) u := by rw [qx_old (by omega)] at hr; exact hr
      have hr0 := hr'
      obtain ⟨c2, p2, rfl, _⟩ := hr'
      have RK := hik hr0
      have HCC := hik hc
      have hbl2 := HO2.out.lt
      clear hr hr0
      go_wp2_with fail
      refine (markStringSS_d (L k 1) (H k 1) c2 (x k).nq p2 (x k).l (x k).T m1 _ RK (by omega) (by omega) (by omega)).mono ?_
      rintro e W2 ⟨rfl, o2, k2⟩
      have HO3 := hik (OwnL.step HO2.out (y := qx x q (k + 1) 0) hlt (by omega) HCC.out k2 (by
        show (qx x q (k + 1) 0 k 1).Own _ _ _ _
        rw [qx_new (by omega)]
        rw [HM1.out] at o2
        exact o2) (fun i j hi' hj hne => qx_ne (by omega)))
      have HG3 := hik (HG2.out.trans (k2.mono (Q := InX n 2 L H) (fun y _ e => ⟨k, 1, hlt, by omega, e.1, e.2⟩)))
      have HM2 := hik (show m1 + 1 * sumN (x k).l (x k).nq = q + sumN (fun i => (x i).mc) (k + 1) by rw [HM1.out]; simp only [sumN, QD.mc]; omega)
      clear o2 k2 hc RK HCC
      generalize m1 + 1 * sumN (x k).l (x k).nq = m2 at HM2 hm1 ⊢
      go_wp2
      go_roundw
      case rel => exact ⟨k + 1, m2, by omega, by go_num, rfl, HM2, HO3, HG3⟩
      case measure => simp [intOf]; omega
    · obtain rfl : n = k := by omega
      have hcc : ¬ (n : Int) < (n : Int) := by omega
      go_wp2
      go_ret
      exact ⟨ret_i (by have := HM.out; omega), HO.out.congr (fun i j hi' _ => (qx_new (.inl hi')).symm), HG.out⟩

set_option maxHeartbeats 2000000 in
theorem markQueryS_d (lo hi : Nat) (c : Option Addr) (n cap : Nat) (x : Nat → QD) (q : Nat) (w : World) (h : Hid ((dQs n x).Own w lo hi (.slice c n cap))) (hn : n ≤ 1048576) (hq : Hid (∀ i, i < n → (x i).np ≤ 1048576 ∧ (x i).nq ≤ 1048576)) (q0 : 1 ≤ q) (q1 : q + sumN (fun i => (x i).mc) n ≤ 549755813888) :
    Calls Try.prog 40 #[.slice c n cap, .int .i64 (q : Int)] w fun e w' => e = .returned (.int .i64 ((q + sumN (fun i => (x i).mc) n : Nat) : Int)) ∧ (mQs n x q).Own w' lo hi (.slice c n cap) ∧ Chg (fun b => lo ≤ b ∧ b < hi) w w' := by
  obtain ⟨c', cap', e', h0⟩ := h.out
  cases e'
  rcases h0 with rfl | ⟨b, L, H, rfl, ho⟩
  · clear h
    go_enter Try.func40, Try.ntmps40
    go_wp2
    go_loopw [1, 5] (fun v i W => i = .int .i64 0 ∧ v = .int .i64 (q : Int) ∧ Hid (Chg nob w W)) (fun _ _ _ => 0)
    case atStart => exact ⟨rfl, rfl, hik (Chg.refl _ _)⟩
    case round =>
      obtain ⟨rfl, rfl, HC⟩ := hrel
      go_wp2
      go_ret
      exact ⟨by simp [sumN], ⟨_, _, rfl, .inl rfl⟩, HC.out.wide⟩
  · have HL := hik ho.inx
    refine (markQueryS_x lo hi b n cap x L H q w (hik ho) hn hq q0 q1).mono ?_
    rintro e w' ⟨rfl, o', k⟩
    exact ⟨rfl, ⟨_, _, rfl, .inr ⟨b, L, H, rfl, o'⟩⟩, k.mono (fun y _ e => HL.out y e)⟩

/-- A marked opening, and how many marks it has. -/
def OD.mk9 (o : OD) (q : Nat) : OD := { o with rf := fun i => mka ((q + 2 * sumN o.rl i : Nat) : Int), rg := fun i => mkd ((q + 2 * sumN o.rl i : Nat) : Int), ts := mvq (q + 2 * sumN o.rl o.nr), q := fun i => (o.q i).mk9 (q + 2 * sumN o.rl o.nr + o.nt + sumN (fun i => (o.q i).mc) i) }
def OD.mc (o : OD) : Nat := 2 * sumN o.rl o.nr + o.nt + sumN (fun i => (o.q i).mc) o.nq
theorem sumN_mono {f g : Nat → Nat} (h : ∀ i, f i ≤ g i) : ∀ n, sumN f n ≤ sumN g n
  | 0 => Nat.le_refl _
  | n + 1 => Nat.add_le_add (sumN_mono h n) (h n)
theorem sumN_mul (f : Nat → Nat) : ∀ n, sumN (fun i => 2 * f i) n = 2 * sumN f n
  | 0 => rfl
  | n + 1 => by simp only [sumN]; rw [sumN_mul f n]; omega
theorem mc_le (o : OD) : o.mc ≤ 2 * o.cnt := by
  have h : ∀ i, (o.q i).mc ≤ 2 * (o.q i).cnt := fun i => by unfold QD.mc QD.cnt; show 2 * (o.q i).np + 1 * sumN (o.q i).l (o.q i).nq ≤ 2 * ((o.q i).np + sumN (o.q i).l (o.q i).nq); omega
  have h1 := sumN_mono (f := fun i => (o.q i).mc) (g := fun i => 2 * (o.q i).cnt) h o.nq
  have h2 := sumN_mul (fun i => (o.q i).cnt) o.nq
  unfold OD.mc OD.cnt
  show 2 * sumN o.rl o.nr + o.nt + sumN (fun i => (o.q i).mc) o.nq ≤ 2 * (sumN o.rl o.nr + o.nt + sumN (fun i => (o.q i).cnt) o.nq)
  omega
/-- An opening whose parts lie in blocks of their own. -/
def OpO (w : World) (lo m1 m2 hi : Nat) (o : OD) (cR : Option Addr) (pR : Nat) (cT : Option Addr) (pT : Nat) (cQ : Option Addr) (pQ : Nat) : Prop :=
  lo ≤ m1 ∧ m1 ≤ m2 ∧ m2 ≤ hi ∧ o.R.Own w lo m1 (.slice cR o.nr pR) ∧ o.S.Own w m1 m2 (.slice cT o.nt pT) ∧ o.Q.Own w m2 hi (.slice cQ o.nq pQ)
theorem OpO.chg {P : Nat → Prop} {w w' : World} {lo m1 m2 hi : Nat} {o : OD} {cR : Option Addr} {pR : Nat} {cT : Option Addr} {pT : Nat} {cQ : Option Addr} {pQ : Nat} (h : OpO w lo m1 m2 hi o cR pR cT pT cQ pQ) (k : Chg P w w') (hp : ∀ b, lo ≤ b → b < hi → ¬ P b) : OpO w' lo m1 m2 hi o cR pR cT pT cQ pQ :=
  ⟨h.1, h.2.1, h.2.2.1, h.2.2.2.1.chg k (fun b b1 b2 => hp b b1 (by have := h.2.1; have := h.2.2.1; omega)), h.2.2.2.2.1.chg k (fun b b1 b2 => hp b (by have := h.1; omega) (by have := h.2.2.1; omega)), h.2.2.2.2.2.chg k (fun b b1 b2 => hp b (by have := h.1; have := h.2.1; omega) b2)⟩
theorem OpO.keep {w w' : World} {lo m1 m2 hi : Nat} {o : OD} {cR : Option Addr} {pR : Nat} {cT : Option Addr} {pT : Nat} {cQ : Option Addr} {pQ : Nat} (h : OpO w lo m1 m2 hi o cR pR cT pT cQ pQ) (k : Chg nob w w') : OpO w' lo m1 m2 hi o cR pR cT pT cQ pQ := h.chg k (fun _ _ _ x => x)
theorem OpO.rep {w : World} {lo m1 m2 hi : Nat} {o : OD} {cR : Option Addr} {pR : Nat} {cT : Option Addr} {pT : Nat} {cQ : Option Addr} {pQ : Nat} (h : OpO w lo m1 m2 hi o cR pR cT pT cQ pQ) : OpV w o cR pR cT pT cQ pQ := ⟨h.2.2.2.1.rep, h.2.2.2.2.1.rep, h.2.2.2.2.2.rep⟩

set_option maxHeartbeats 2000000 in
theorem markOpening_d (lo m1 m2 hi : Nat) (o : OD) (cR : Option Addr) (pR : Nat) (cT : Option Addr) (pT : Nat) (cQ : Option Addr) (pQ : Nat) (q : Nat) (w : World) (h : Hid (OpO w lo m1 m2 hi o cR pR cT pT cQ pQ)) (hs : Hid o.small) (hw : hi ≤ w.heap.size) (q0 : 1 ≤ q) (q1 : q + o.mc ≤ 549755813888) :
    Calls Try.prog 12 #[.agg #[.slice cR o.nr pR, .slice cT o.nt pT, .int .i64 o.la, .int .i64 o.lb, .int .i64 o.no, .slice cQ o.nq pQ], .int .i64 (q : Int)] w fun e w' => e = .returned (.int .i64 ((q + o.mc : Nat) : Int)) ∧ OpO w' lo m1 m2 hi (o.mk9 q) cR pR cT pT cQ pQ ∧ Chg (fun b => lo ≤ b ∧ b < hi) w w' := by
  have hnr : o.nr ≤ 1048576 := hs.out.1.1
  have hnt : o.nt ≤ 1048576 := hs.out.2.1.1
  have hnq : o.nq ≤ 1048576 := hs.out.2.2.1
  have hmd : o.mc = 2 * sumN o.rl o.nr + o.nt + sumN (fun i => (o.q i).mc) o.nq := rfl
  have HQN := hik (show ∀ i, i < o.nq → (o.q i).np ≤ 1048576 ∧ (o.q i).nq ≤ 1048576 from fun i hi => ⟨hs.out.2.2.2 i 0 hi (by omega), (show (o.q i).S.small 1048576 from hs.out.2.2.2 i 1 hi (by omega)).1⟩)
  obtain ⟨b1, b2, b3, oR, oS, oQ⟩ := h.out
  have KA := hik ((Chg.refl (fun b => lo ≤ b ∧ b < hi) w).alloc (.cells #[.slice cR o.nr pR, .slice cT o.nt pT, .int .i64 o.la, .int .i64 o.lb, .int .i64 o.no, .slice cQ o.nq pQ] 39))
  have KN := hik ((Chg.refl nob w).alloc (.cells #[.slice cR o.nr pR, .slice cT o.nt pT, .int .i64 o.la, .int .i64 o.lb, .int .i64 o.no, .slice cQ o.nq pQ] 39))
  have RA := hik (rowN_new w 6 #[.slice cR o.nr pR, .slice cT o.nt pT, .int .i64 o.la, .int .i64 o.lb, .int .i64 o.no, .slice cQ o.nq pQ] 39 rfl)
  have OR := hik (oR.keep KN.out)
  have OS := hik (oS.keep KN.out)
  have OQ := hik (oQ.keep KN.out)
  clear oR oS oQ h
  go_enter Try.func12, Try.ntmps12
  go_wp2_with fail
  generalize hW : w.alloc (.cells #[.slice cR o.nr pR, .slice cT o.nt pT, .int .i64 o.la, .int .i64 o.lb, .int .i64 o.no, .slice cQ o.nq pQ] 39) = W0 at RA KA OR OS OQ ⊢
  clear hW KN
  refine (markExtSS_d lo m1 cR o.nr pR o.rl o.rf o.rg q _ OR hnr q0 (by omega)).mono ?_
  rintro e W1 ⟨rfl, o1, k1⟩
  replace RA := hik (rowIs_chg RA.out k1 (fun e => by omega))
  replace OS := hik (OS.out.chg k1 (fun b h1 h2 e => by omega))
  replace OQ := hik (OQ.out.chg k1 (fun b h1 h2 e => by omega))
  replace KA := hik (KA.out.trans (k1.mono (Q := (fun b => lo ≤ b ∧ b < hi)) (fun y _ e => ⟨e.1, by omega⟩)))
  have O1 := hik o1
  have HM1 := hik (show q + 2 * sumN o.rl o.nr = q + 2 * sumN o.rl o.nr from rfl)
  clear o1 k1 OR
  generalize hn1 : q + 2 * sumN o.rl o.nr = n1 at HM1 ⊢
  have hn1' : 1 ≤ n1 := by omega
  have x1 : _ = some (.slice cT o.nt pT : Value) := RA.out.cell (i := 1) (by omega)
  have raz := RA.out.lt
  go_wp2_with fail
  refine (markStringS_d m1 m2 cT o.nt pT o.ts n1 _ OS hn1' (by omega) (by omega)).mono ?_
  rintro e W2 ⟨rfl, o2, k2⟩
  replace RA := hik (rowIs_chg RA.out k2 (fun e => by omega))
  replace O1 := hik (O1.out.chg k2 (fun b h1 h2 e => by omega))
  replace OQ := hik (OQ.out.chg k2 (fun b h1 h2 e => by omega))
  replace KA := hik (KA.out.trans (k2.mono (Q := (fun b => lo ≤ b ∧ b < hi)) (fun y _ e => ⟨by omega, by omega⟩)))
  have O2 := hik o2
  clear o2 k2 OS x1 raz
  generalize hn2 : n1 + o.nt = n2
  have hn2' : 1 ≤ n2 := by omega
  have x5 : _ = some (.slice cQ o.nq pQ : Value) := RA.out.cell (i := 5) (by omega)
  have raz := RA.out.lt
  go_wp2_with fail
  refine (markQueryS_d m2 hi cQ o.nq pQ o.q n2 _ OQ hnq HQN hn2' (by omega)).mono ?_
  rintro e W3 ⟨rfl, o3, k3⟩
  replace O1 := hik (O1.out.chg k3 (fun b h1 h2 e => by omega))
  replace O2 := hik (O2.out.chg k3 (fun b h1 h2 e => by omega))
  replace KA := hik (KA.out.trans (k3.mono (Q := (fun b => lo ≤ b ∧ b < hi)) (fun y _ e => ⟨by omega, e.2⟩)))
  have O3 := hik o3
  clear o3 k3 OQ x5 raz
  go_wp2
  go_ret
  refine ⟨ret_i (by omega), ⟨b1, b2, b3, O1.out, ?_, ?_⟩, KA.out⟩
  · have q := O2.out
    rw [← hn1] at q
    exact q
  · have q := O3.out
    rw [← hn2, ← hn1] at q
    exact q


end Go.Proofs.Ytfbjlohnbpienaa
