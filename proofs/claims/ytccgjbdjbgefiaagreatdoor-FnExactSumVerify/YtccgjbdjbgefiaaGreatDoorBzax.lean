/- Several texts in one: What the model's look at rounds answers, and whether a source has draws left: contracts. Conditions: lists that can be read, of at most 2 to the 40. · What the program's Source.answering and drawsLeft answer: contracts. Conditions: a right source with a draw left, a right list that can be read. -/
import Derived.Test.YtccgjbdjbgefiaaGreatDoorBzaf
import Derived.Test.YtccgjbdjbgefiaaGreatDoorBzab
import Derived.Test.YtccgjbdjbgefiaaGreatDoorBzbi
import Derived.Test.YtccgjbdjbgefiaaGreatDoorBzbj
import Derived.Test.YtccgjbdjbgefiaaGreatDoorBzak
import Derived.Test.YtccgjbdjbgefiaaGreatDoorBzaw
import Derived.Test.YtccgjbdjbgefiaaGreatDoorBzai
namespace Go.Proofs.YtccgjbdjbgefiaaGreatDoor
open Go.ChangeShapes Go.WideShapes Go.ChangeAt Go.RowKit
set_option linter.unusedVariables false
set_option maxRecDepth 100000
set_option linter.unusedSimpArgs false

/-- Rounds from i on, m of them: at most 8 elements each, numbers of the field. -/
def rkb (L : Nat → Nat) (f g : Nat → Nat → Int) : Nat → Nat → Bool
  | _, 0 => true
  | i, m + 1 => (decide (L i ≤ 8) && okP (f i) (g i) (L i)) && rkb L f g (i + 1) m
theorem rkb_all {L : Nat → Nat} {f g : Nat → Nat → Int} : ∀ (m i : Nat), rkb L f g i m = true → ∀ j, j < m → L (i + j) ≤ 8 ∧ okP (f (i + j)) (g (i + j)) (L (i + j)) = true
  | 0, i, _, j, hj => absurd hj (by omega)
  | m + 1, i, h, j, hj => by
    rw [rkb] at h
    simp only [Bool.and_eq_true, decide_eq_true_eq] at h
    cases j with
    | zero => exact h.1
    | succ j =>
      have q := rkb_all m (i + 1) h.2 j (by omega)
      rw [show i + 1 + j = i + (j + 1) by omega] at q
      exact q
/-- The code of rounds. -/
def rkc (n : Nat) (L : Nat → Nat) (f g : Nat → Nat → Int) : Int := if 4096 < n then 2 else if rkb L f g 0 n = true then 0 else 1
theorem rkc_ok {n : Nat} {L : Nat → Nat} {f g : Nat → Nat → Int} (h : rkc n L f g = 0) : n ≤ 4096 ∧ ∀ j, j < n → L j ≤ 8 ∧ okP (f j) (g j) (L j) = true := by
  unfold rkc at h
  by_cases h1 : 4096 < n
  · rw [if_pos h1] at h; omega
  · rw [if_neg h1] at h
    by_cases h2 : rkb L f g 0 n = true
    · exact ⟨by omega, fun j hj => by have q := rkb_all n 0 h2 j hj; rwa [Nat.zero_add] at q⟩
    · rw [if_neg h2] at h; omega

set_option maxHeartbeats 2000000 in
theorem sRnds_any (c : Option Addr) (n cap : Nat) (A : Nat → Option Addr) (L C : Nat → Nat) (f g : Nat → Nat → Int) (w : World) (h : Hid (RowsV w c n A L C f g)) (hL : Hid (∀ i, i < n → L i ≤ 1099511627776)) (hn : n ≤ 1099511627776) :
    Calls Tryz.prog 21 #[.slice c n cap] w fun e w' => e = .returned (.int .i64 (rkc n L f g)) ∧ Chg nob w w' := by
  by_cases hl : 4096 < n
  · have hl' : 4096 < (n : Int) := by omega
    have HC := hik (show rkc n L f g = 2 by unfold rkc; rw [if_pos hl])
    rw [HC.out]
    go_enter Tryz.func21, Tryz.ntmps21
    go_wp2
    go_ret
    exact ⟨rfl, Chg.refl _ _⟩
  have hl' : ¬ 4096 < (n : Int) := by omega
  obtain ⟨q, hq⟩ : ∃ q, q = rkc n L f g := ⟨_, rfl⟩
  have HQ := hik (show q = if rkb L f g 0 n = true then 0 else 1 by rw [hq]; unfold rkc; rw [if_neg hl])
  rw [← hq]
  clear hq
  go_enter Tryz.func21, Tryz.ntmps21
  go_wp2
  go_loopw [3] (fun i W => ∃ j m : Nat, j + m = n ∧ i = .int .i64 (j : Int) ∧ Hid (rkb L f g 0 n = rkb L f g j m) ∧ Hid (Chg nob w W)) (fun i _ => n - (intOf i).toNat)
  case atStart => exact ⟨0, n, by omega, rfl, hik rfl, hik (Chg.refl _ _)⟩
  case round =>
    obtain ⟨j, m, hjm, rfl, HT, HG⟩ := hrel
    rename World => wi
    by_cases hlt : j < n
    · obtain ⟨m', rfl⟩ : ∃ m', m = m' + 1 := ⟨m - 1, by omega⟩
      have hj1 : (j : Int) < (n : Int) := by omega
      have hj0 : (0 : Int) ≤ (j : Int) := by omega
      obtain ⟨xb, xo, ec, hxb, hc, hP⟩ := (RowsV.keep h.out HG.out) j hlt
      subst ec
      have PJ := hik hP
      clear hP
      by_cases h8 : 8 < L j
      · have h8' : 8 < (L j : Int) := by omega
        have HV := hik (show q = 1 by rw [HQ.out, HT.out, rkb, decide_eq_false (show ¬ L j ≤ 8 by omega)]; rfl)
        go_wp2
        go_ret
        exact ⟨by rw [HV.out]; rfl, HG.out⟩
      · have h8' : ¬ 8 < (L j : Int) := by omega
        cases ho : okP (f j) (g j) (L j)
        · have HV := hik (show q = 1 by rw [HQ.out, HT.out, rkb, ho, Bool.and_false]; rfl)
          go_wp2_with fail
          refine (l02List_any (A j) (L j) (C j) (f j) (g j) _ PJ (hL.out j hlt)).mono ?_
          rintro e W2 ⟨he, k2⟩
          rw [ho] at he
          subst he
          have G2 := hik (HG.out.trans k2)
          clear k2
          go_wp2
          go_ret
          exact ⟨by rw [HV.out]; rfl, G2.out⟩
        · have HN := hik (show rkb L f g 0 n = rkb L f g (j + 1) m' by rw [HT.out, rkb, ho, decide_eq_true (show L j ≤ 8 by omega)]; rfl)
          go_wp2_with fail
          refine (l02List_any (A j) (L j) (C j) (f j) (g j) _ PJ (hL.out j hlt)).mono ?_
          rintro e W2 ⟨he, k2⟩
          rw [ho] at he
          subst he
          have G2 := hik (HG.out.trans k2)
          clear k2
          go_wp2
          go_roundw
          case rel => exact ⟨j + 1, m', by omega, by go_num, HN, G2⟩
          case measure => simp [intOf]; omega
    · obtain rfl : m = 0 := by omega
      obtain rfl : j = n := by omega
      have hcc : ¬ (j : Int) < (j : Int) := by omega
      have HV := hik (show q = 0 by rw [HQ.out, HT.out]; rfl)
      go_wp2
      go_ret
      exact ⟨by rw [HV.out]; rfl, HG.out⟩

/-- A source has not n draws left. -/
def spb (at' ct : Int) (n : Nat) : Bool := decide (1000000 - (n : Int) < at') || decide (1000000 - (n : Int) < ct)
theorem spb_no {at' ct : Int} {n : Nat} (h : spb at' ct n = false) : at' + n ≤ 1000000 ∧ ct + n ≤ 1000000 := by
  unfold spb at h
  simp only [Bool.or_eq_false_iff, decide_eq_false_iff_not] at h
  omega

set_option maxHeartbeats 1000000 in
theorem sSpent_any (c : Option Addr) (len cap : Nat) (at' : Int) (st : ByteArray) (ct : Int) (n : Nat) (w : World) (hn : n ≤ 100) :
    Calls Tryz.prog 26 #[.agg #[.slice c len cap, .int .i64 at', .string st, .int .i64 ct], .int .i64 n] w fun e w' => e = .returned (.bool (spb at' ct n)) ∧ Chg nob w w' := by
  cases b1 : decide (1000000 - (n : Int) < at')
  · have HV := hik (show spb at' ct n = decide (1000000 - (n : Int) < ct) by unfold spb; rw [b1, Bool.false_or])
    rw [HV.out]
    cases b2 : decide (1000000 - (n : Int) < ct)
    · go_enter Tryz.func26, Tryz.ntmps26
      go_wp2
      go_ret
      exact ⟨by simp [b2], (Chg.refl _ _).alloc _⟩
    · go_enter Tryz.func26, Tryz.ntmps26
      go_wp2
      go_ret
      exact ⟨by simp [b2], (Chg.refl _ _).alloc _⟩
  · have HV := hik (show spb at' ct n = true by unfold spb; rw [b1, Bool.true_or])
    rw [HV.out]
    go_enter Tryz.func26, Tryz.ntmps26
    go_wp2
    go_ret
    exact ⟨by simp, (Chg.refl _ _).alloc _⟩

end Go.Proofs.YtccgjbdjbgefiaaGreatDoor

namespace Go.Proofs.YtccgjbdjbgefiaaGreatDoor
open Go.ChangeShapes Go.WideShapes Go.ChangeAt Go.RowKit
set_option linter.unusedVariables false
set_option maxRecDepth 100000
set_option linter.unusedSimpArgs false

theorem sokb_mk8 {f g : Nat → Int} {n : Nat} {at' : Int} {st : ByteArray} {ct : Int} (h1 : okP f g n = true) (h2 : n ≤ 64) (h3 : 0 ≤ at' ∧ at' ≤ 1000000) (h4 : st.size = 32) (h5 : 0 ≤ ct ∧ ct ≤ 1000000) : sokb f g n at' st ct = true := by
  unfold sokb inW
  simp [h1, h2, h3, h4, h5]

set_option maxHeartbeats 1000000 in
/-- Fewer than n draws are left just if one of the two numbers leaves fewer. -/
theorem left_any (c : Option Addr) (len cap : Nat) (at' : Int) (st : ByteArray) (ct : Int) (w : World) (a0 : 0 ≤ at') (a1 : at' ≤ 1000000) (c0 : 0 ≤ ct) (c1 : ct ≤ 1000000) :
    Calls Tryz.prog 46 #[.agg #[.slice c len cap, .int .i64 at', .string st, .int .i64 ct]] w fun e w' => ∃ lf : Int, e = .returned (.int .i64 lf) ∧ (∀ n : Nat, lf < (n : Int) ↔ spb at' ct n = true) ∧ Chg nob w w' := by
  go_enter Tryz.func46, Tryz.ntmps46
  go_wp2
  all_goals
    go_ret
    refine ⟨_, rfl, fun n => ?_, (Chg.refl _ _).alloc _⟩
    unfold spb
    simp only [Bool.or_eq_true, decide_eq_true_eq]
    omega

/-- A source behind a round and a draw, and what was drawn. -/
def AwAns (w : World) (len : Nat) (f g : Nat → Int) (a : Int) (s : ByteArray) (c x y : Int) (e : Ending) (w' : World) : Prop :=
  ∃ (c2 : Option Addr) (cap2 : Nat), e = .returned (.tuple #[.agg #[.slice c2 len cap2, .int .i64 a, .string s, .int .i64 c], .agg #[.int .i64 x, .int .i64 y]]) ∧ OwnE w' w.heap.size c2 len f g ∧ Chg nob w w'

set_option maxHeartbeats 4000000 in
theorem answering_any (c : Option Addr) (len cap : Nat) (f g : Nat → Int) (at' : Int) (st : ByteArray) (ct : Int) (c1 : Option Addr) (n1 cap1 : Nat) (f1 g1 : Nat → Int) (w : World) (htb : Hid (Tabs w)) (h : Hid (PairV w c len f g)) (h1 : Hid (PairV w c1 n1 f1 g1)) (hok : sokb f g len at' st ct = true) (ho1 : okP f1 g1 n1 = true) (hn1 : n1 ≤ 4096) (a1 : at' + 1 ≤ 1000000) :
    Calls Tryz.prog 33 #[.agg #[.slice c len cap, .int .i64 at', .string st, .int .i64 ct], .slice c1 n1 cap1] w fun e w' => AwAns w len f g (dnA len at' 1) (abS st (etx f1 g1 n1)) (dnC len 0 1) (drE f len at' (abS st (etx f1 g1 n1)) 0 0) (drF g len at' (abS st (etx f1 g1 n1)) 0 0) e w' := by
  obtain ⟨p1, p2, p3, p4, p5⟩ := sokb_parts hok
  have QA := hik (fun (W : World) (ht : Hid (Tabs W)) (hw : Hid (PairV W c len f g)) (hw1 : Hid (PairV W c1 n1 f1 g1)) => absorbExts_any c len cap f g at' st ct c1 n1 cap1 f1 g1 W ht hw hw1 (by omega) (by omega) (by omega))
  rw [show aec n1 (okP f1 g1 n1) (sokb f g len at' st ct) = 0 by unfold aec; rw [if_neg (by omega), ho1, hok]; rfl] at QA
  simp only [scn, scI, scS, if_true] at QA
  obtain ⟨ST, hST⟩ : ∃ ST, ST = abS st (etx f1 g1 n1) := ⟨_, rfl⟩
  have hS32 : ST.size = 32 := by rw [hST]; exact hsh_size _
  rw [← hST] at QA ⊢
  have QT := hik (fun (c2 : Option Addr) (cap2 : Nat) (W : World) (ht : Hid (Tabs W)) (hw : Hid (PairV W c2 len f g)) => takeOne_ok c2 len cap2 f g at' ST 0 W ht hw (sokb_mk8 p2 p1 p3 hS32 (by omega)) a1 (by omega))
  obtain ⟨a2, ha2⟩ : ∃ x, x = dnA len at' 1 := ⟨_, rfl⟩
  obtain ⟨q2, hq2⟩ : ∃ x, x = dnC len 0 1 := ⟨_, rfl⟩
  obtain ⟨X, hX⟩ : ∃ x, x = drE f len at' ST 0 0 := ⟨_, rfl⟩
  obtain ⟨Y, hY⟩ : ∃ x, x = drF g len at' ST 0 0 := ⟨_, rfl⟩
  rw [← ha2, ← hq2, ← hX, ← hY] at QT ⊢
  clear ha2 hq2 hX hY hST hS32 p1 p2 p3 p4 p5 hok ho1 a1
  have A0 : Hid ((((w.alloc (.cells #[.slice c len cap, .int .i64 at', .string st, .int .i64 ct] 33)).alloc (.cells #[.slice none 0 0, .int .i64 0, .string ⟨#[]⟩, .int .i64 0] 33)).alloc (.cells #[.int .i64 0, .int .i64 0] 31)).rowIs w.heap.size 33 4 (pv4 (.slice c len cap) (.int .i64 at') (.string st) (.int .i64 ct))) := hik (World.rowIs.alloc (World.rowIs.alloc (row4_new w _ _ _ _ _) _) _)
  have B0 : Hid ((((w.alloc (.cells #[.slice c len cap, .int .i64 at', .string st, .int .i64 ct] 33)).alloc (.cells #[.slice none 0 0, .int .i64 0, .string ⟨#[]⟩, .int .i64 0] 33)).alloc (.cells #[.int .i64 0, .int .i64 0] 31)).rowIs (w.heap.size + 1) 33 4 (pv4 (.slice none 0 0) (.int .i64 0) (.string ⟨#[]⟩) (.int .i64 0))) := hik (World.rowIs.alloc (by simpa using row4_new (w.alloc (.cells #[.slice c len cap, .int .i64 at', .string st, .int .i64 ct] 33)) (.slice none 0 0) (.int .i64 0) (.string ⟨#[]⟩) (.int .i64 0) 33) _)
  have E0 : Hid (ElB (((w.alloc (.cells #[.slice c len cap, .int .i64 at', .string st, .int .i64 ct] 33)).alloc (.cells #[.slice none 0 0, .int .i64 0, .string ⟨#[]⟩, .int .i64 0] 33)).alloc (.cells #[.int .i64 0, .int .i64 0] 31)) (w.heap.size + 1 + 1) El.zr) := hik (by simpa using ElB.zero ((w.alloc (.cells #[.slice c len cap, .int .i64 at', .string st, .int .i64 ct] 33)).alloc (.cells #[.slice none 0 0, .int .i64 0, .string ⟨#[]⟩, .int .i64 0] 33)))
  have G0 := hik ((((Chg.refl nob w).alloc (.cells #[.slice c len cap, .int .i64 at', .string st, .int .i64 ct] 33)).alloc (.cells #[.slice none 0 0, .int .i64 0, .string ⟨#[]⟩, .int .i64 0] 33)).alloc (.cells #[.int .i64 0, .int .i64 0] 31))
  go_enter Tryz.func33, Tryz.ntmps33
  go_wp2_with fail
  generalize hE : ((w.alloc (.cells #[.slice c len cap, .int .i64 at', .string st, .int .i64 ct] 33)).alloc (.cells #[.slice none 0 0, .int .i64 0, .string ⟨#[]⟩, .int .i64 0] 33)).alloc (.cells #[.int .i64 0, .int .i64 0] 31) = W0 at A0 B0 E0 G0 ⊢
  clear hE
  refine (QA.out _ (hik (htb.out.keep G0.out)) (hik (h.out.keep G0.out)) (hik (h1.out.keep G0.out))).mono ?_
  rintro e W1 ⟨c2, cap2, rfl, ho, k1⟩
  have O1 := hik ho
  have A1 := hik (rowIs_keep A0.out k1)
  have B1 := hik (rowIs_keep B0.out k1)
  have E1 := hik (E0.out.keep k1)
  have G1 := hik (G0.out.trans k1)
  have s1 : w.heap.size + 3 ≤ W0.heap.size := by have := E0.out.lt; omega
  clear ho k1 A0 B0 E0 G0
  have y0 : W1.cell? ⟨w.heap.size, 0, none⟩ = some (.slice c len cap) := A1.out.cell (by omega)
  have yf0 := A1.out.frozen 0
  have y1 : W1.cell? ⟨w.heap.size, 1, none⟩ = some (.int .i64 at') := A1.out.cell (by omega)
  have yf1 := A1.out.frozen 1
  have y2 : W1.cell? ⟨w.heap.size, 2, none⟩ = some (.string st) := A1.out.cell (by omega)
  have yf2 := A1.out.frozen 2
  have y3 : W1.cell? ⟨w.heap.size, 3, none⟩ = some (.int .i64 ct) := A1.out.cell (by omega)
  have yf3 := A1.out.frozen 3
  go_upto_region 2 with fail
  clear y0 yf0 y1 yf1 y2 yf2 y3 yf3
  have q := chg4_set (Chg.refl (fun x => x = w.heap.size) W1) w.heap.size (fun _ => rfl) (.slice c2 len cap2) (.int .i64 at') (.string ST) (.int .i64 0)
  have A2 := hik (row4_set A1.out (.slice c2 len cap2) (.int .i64 at') (.string ST) (.int .i64 0))
  have B2 := hik (rowIs_chg B1.out q (by omega))
  have E2 := hik (E1.out.chg q (by omega))
  have G2 := hik (Chg.near G1.out q (fun i (e : i = w.heap.size) => by omega))
  have O2 := hik (O1.out.chg q (fun b hb _ (e : b = w.heap.size) => by omega))
  generalize hE : ((((W1.setCell ⟨w.heap.size, 0, none⟩ (.slice c2 len cap2)).setCell ⟨w.heap.size, 1, none⟩ (.int .i64 at')).setCell ⟨w.heap.size, 2, none⟩ (.string ST)).setCell ⟨w.heap.size, 3, none⟩ (.int .i64 0)) = W2 at A2 B2 E2 G2 O2 ⊢
  clear hE q A1 B1 E1 G1 O1
  have y0 : W2.cell? ⟨w.heap.size, 0, none⟩ = some (.slice c2 len cap2) := A2.out.cell (by omega)
  have yf0 := A2.out.frozen 0
  have y1 : W2.cell? ⟨w.heap.size, 1, none⟩ = some (.int .i64 at') := A2.out.cell (by omega)
  have yf1 := A2.out.frozen 1
  have y2 : W2.cell? ⟨w.heap.size, 2, none⟩ = some (.string ST) := A2.out.cell (by omega)
  have yf2 := A2.out.frozen 2
  have y3 : W2.cell? ⟨w.heap.size, 3, none⟩ = some (.int .i64 0) := A2.out.cell (by omega)
  have yf3 := A2.out.frozen 3
  go_wp2_with fail
  clear y0 yf0 y1 yf1 y2 yf2 y3 yf3
  refine (QT.out c2 cap2 _ (hik (htb.out.keep G2.out)) (hik O2.out.pairs)).mono ?_
  rintro e W3 ⟨c3, cap3, rfl, ho, k3⟩
  have s3 : W2.heap.size ≤ W3.heap.size := k3.size
  have s2 : w.heap.size + 3 ≤ W2.heap.size := by have := E2.out.lt; omega
  have O3 := hik ho
  have A3 := hik (rowIs_keep A2.out k3)
  have B3 := hik (rowIs_keep B2.out k3)
  have E3 := hik (E2.out.keep k3)
  have G3 := hik (G2.out.trans k3)
  clear ho k3 A2 B2 E2 G2 O2
  have y0 : W3.cell? ⟨w.heap.size, 0, none⟩ = some (.slice c2 len cap2) := A3.out.cell (by omega)
  have yf0 := A3.out.frozen 0
  have y1 : W3.cell? ⟨w.heap.size, 1, none⟩ = some (.int .i64 at') := A3.out.cell (by omega)
  have yf1 := A3.out.frozen 1
  have y2 : W3.cell? ⟨w.heap.size, 2, none⟩ = some (.string ST) := A3.out.cell (by omega)
  have yf2 := A3.out.frozen 2
  have y3 : W3.cell? ⟨w.heap.size, 3, none⟩ = some (.int .i64 0) := A3.out.cell (by omega)
  have yf3 := A3.out.frozen 3
  have l3 : w.heap.size < W3.heap.size := by omega
  have n3 : ¬ w.heap.size = W3.heap.size := by omega
  have n4 : ¬ W3.heap.size = w.heap.size := by omega
  go_upto_region 3 with fail
  clear y0 yf0 y1 yf1 y2 yf2 y3 yf3
  have q := chg4_set (Chg.refl (fun x => x = w.heap.size) W3) w.heap.size (fun _ => rfl) (.slice c3 len cap3) (.int .i64 a2) (.string ST) (.int .i64 q2)
  have A4 := hik (World.rowIs.alloc (row4_set A3.out (.slice c3 len cap3) (.int .i64 a2) (.string ST) (.int .i64 q2)) (.cells #[.int .i64 X, .int .i64 Y] 31))
  have B4 := hik (World.rowIs.alloc (rowIs_chg B3.out q (by omega)) (.cells #[.int .i64 X, .int .i64 Y] 31))
  have E4 := hik (ElB.keep (E3.out.chg q (by omega)) ((Chg.refl nob _).alloc (.cells #[.int .i64 X, .int .i64 Y] 31)))
  have G4 := hik ((Chg.near G3.out q (fun i (e : i = w.heap.size) => by omega)).alloc (.cells #[.int .i64 X, .int .i64 Y] 31))
  have O4 := hik ((O3.out.chg q (fun b hb _ (e : b = w.heap.size) => by omega)).keep ((Chg.refl nob _).alloc (.cells #[.int .i64 X, .int .i64 Y] 31)))
  have X4 := hik (row2_new (((((W3.setCell ⟨w.heap.size, 0, none⟩ (.slice c3 len cap3)).setCell ⟨w.heap.size, 1, none⟩ (.int .i64 a2)).setCell ⟨w.heap.size, 2, none⟩ (.string ST)).setCell ⟨w.heap.size, 3, none⟩ (.int .i64 q2))) (.int .i64 X) (.int .i64 Y) 31)
  have zz : (((((W3.setCell ⟨w.heap.size, 0, none⟩ (.slice c3 len cap3)).setCell ⟨w.heap.size, 1, none⟩ (.int .i64 a2)).setCell ⟨w.heap.size, 2, none⟩ (.string ST)).setCell ⟨w.heap.size, 3, none⟩ (.int .i64 q2))).heap.size = W3.heap.size := by simp
  rw [zz] at X4
  generalize hE : (((((W3.setCell ⟨w.heap.size, 0, none⟩ (.slice c3 len cap3)).setCell ⟨w.heap.size, 1, none⟩ (.int .i64 a2)).setCell ⟨w.heap.size, 2, none⟩ (.string ST)).setCell ⟨w.heap.size, 3, none⟩ (.int .i64 q2))).alloc (.cells #[.int .i64 X, .int .i64 Y] 31) = W4 at A4 B4 E4 G4 O4 X4 ⊢
  clear hE q A3 B3 E3 G3 O3 zz
  have a0 := A4.out.cell (i := 0) (by omega)
  have a1 := A4.out.cell (i := 1) (by omega)
  have a2' := A4.out.cell (i := 2) (by omega)
  have a3 := A4.out.cell (i := 3) (by omega)
  have x0 := X4.out.cell (i := 0) (by omega)
  have x1 := X4.out.cell (i := 1) (by omega)
  have s4 : W3.heap.size < W4.heap.size := X4.out.lt
  have KW := hik ((Chg.refl (fun x => x = w.heap.size + 1) W4).drew1)
  have SA := hik (fun (WW : World) (kW : Chg (fun x => x = w.heap.size + 1) W4 WW) => (show (WW.cell? ⟨w.heap.size, 0, none⟩ = some (.slice c3 len cap3) ∧ WW.cell? ⟨w.heap.size, 1, none⟩ = some (.int .i64 a2) ∧ WW.cell? ⟨w.heap.size, 2, none⟩ = some (.string ST) ∧ WW.cell? ⟨w.heap.size, 3, none⟩ = some (.int .i64 q2) ∧ WW.cell? ⟨W3.heap.size, 0, none⟩ = some (.int .i64 X) ∧ WW.cell? ⟨W3.heap.size, 1, none⟩ = some (.int .i64 Y)) from ⟨kW.seeP a0 (by omega), kW.seeP a1 (by omega), kW.seeP a2' (by omega), kW.seeP a3 (by omega), kW.seeP x0 (by omega), kW.seeP x1 (by omega)⟩))
  refine wp_regionL (L := 3) (S := fun w' => w'.cell? ⟨w.heap.size, 0, none⟩ = some (.slice c3 len cap3) ∧ w'.cell? ⟨w.heap.size, 1, none⟩ = some (.int .i64 a2) ∧ w'.cell? ⟨w.heap.size, 2, none⟩ = some (.string ST) ∧ w'.cell? ⟨w.heap.size, 3, none⟩ = some (.int .i64 q2) ∧ w'.cell? ⟨W3.heap.size, 0, none⟩ = some (.int .i64 X) ∧ w'.cell? ⟨W3.heap.size, 1, none⟩ = some (.int .i64 Y)) (by kernel_rfl) (SA.out _ KW.out) (fun hHeld => ?_)
  refine wpAnyL_take (i := 0) (v := ?_) rfl (by kernel_rfl) (by kernel_rfl) (by kernel_rfl) (fun _ _ _ h => h) (by rfl) (by kernel_rfl) (by kernel_rfl) (Or.inl ⟨by rfl, ?_⟩) (by assumption) ?_
  rotate_left 1
  · (intro w' hSw; (try dsimp only at hSw); go_simp; try with_reducible rfl)
  try simp only [Act.put, List.setIfInBounds_toArray, List.set_cons_zero, List.set_cons_succ, List.getElem_toArray, List.getElem_cons_zero, List.getElem_cons_succ]
  refine wpAnyL_take (i := 1) (v := ?_) rfl (by kernel_rfl) (by kernel_rfl) (by kernel_rfl) (fun _ _ _ h => h) (by rfl) (by kernel_rfl) (by kernel_rfl) (Or.inl ⟨by rfl, ?_⟩) (by assumption) ?_
  rotate_left 1
  · (intro w' hSw; (try dsimp only at hSw); go_simp; try with_reducible rfl)
  try simp only [Act.put, List.setIfInBounds_toArray, List.set_cons_zero, List.set_cons_succ, List.getElem_toArray, List.getElem_cons_zero, List.getElem_cons_succ]
  refine wpAnyL_ready (rs := [2]) (by kernel_rfl) (by simp) ?_
  refine AllReadyL.cons rfl (fun K hK => ?_) AllReadyL.nil
  have z0 : W4.cell? ⟨w.heap.size + 1, 0, none⟩ = some (.slice none 0 0) := B4.out.cell (by omega)
  have zf0 := B4.out.frozen 0
  have z1 : W4.cell? ⟨w.heap.size + 1, 1, none⟩ = some (.int .i64 0) := B4.out.cell (by omega)
  have zf1 := B4.out.frozen 1
  have z2 : W4.cell? ⟨w.heap.size + 1, 2, none⟩ = some (.string ⟨#[]⟩) := B4.out.cell (by omega)
  have zf2 := B4.out.frozen 2
  have z3 : W4.cell? ⟨w.heap.size + 1, 3, none⟩ = some (.int .i64 0) := B4.out.cell (by omega)
  have zf3 := B4.out.frozen 3
  have BN := hik (rowIs_keep B4.out (Chg.refl nob W4).drew1)
  have t0 : W4.drew.cell? ⟨w.heap.size + 1, 0, none⟩ = some (.slice none 0 0) := BN.out.cell (by omega)
  have tf0 := BN.out.frozen 0
  have t1 : W4.drew.cell? ⟨w.heap.size + 1, 1, none⟩ = some (.int .i64 0) := BN.out.cell (by omega)
  have tf1 := BN.out.frozen 1
  have t2 : W4.drew.cell? ⟨w.heap.size + 1, 2, none⟩ = some (.string ⟨#[]⟩) := BN.out.cell (by omega)
  have tf2 := BN.out.frozen 2
  have t3 : W4.drew.cell? ⟨w.heap.size + 1, 3, none⟩ = some (.int .i64 0) := BN.out.cell (by omega)
  have tf3 := BN.out.frozen 3
  have lz : w.heap.size + 1 < W4.heap.size := B4.out.lt
  simp only [List.getElem_toArray, List.getElem_cons_zero, List.getElem_cons_succ]
  go_simp
  have RB := hik (row4_set B4.out (.slice c3 len cap3) (.int .i64 a2) (.string ST) (.int .i64 q2))
  have KX := hik (chg4_set (Chg.refl (fun x => x = w.heap.size + 1) W4) (w.heap.size + 1) (fun _ => rfl) (.slice c3 len cap3) (.int .i64 a2) (.string ST) (.int .i64 q2))
  replace KW := hik KX.out.drew1
  refine hK.out _ _ (SA.out _ KW.out) (fun hHeld => ?_)
  clear hK K
  try simp only [Act.put, List.setIfInBounds_toArray, List.set_cons_zero, List.set_cons_succ, List.getElem_toArray, List.getElem_cons_zero, List.getElem_cons_succ]
  clear z0 zf0 z1 zf1 z2 zf2 z3 zf3 lz BN
  clear t0 tf0 t1 tf1 t2 tf2 t3 tf3
  refine wpAnyL_ready (rs := [3]) (by kernel_rfl) (by simp) ?_
  refine AllReadyL.last rfl (by kernel_rfl) (fun K hK => ?_)
  have EX := hik (E4.out.chg KX.out (by omega))
  have EN := hik (E4.out.chg KW.out (by omega))
  have g00 := E4.out.c0
  have g01 := E4.out.c1
  have f00 := E4.out.fz 0
  have f01 := E4.out.fz 1
  have ln0 := E4.out.lt
  have g10 := EX.out.c0
  have g11 := EX.out.c1
  have f10 := EX.out.fz 0
  have f11 := EX.out.fz 1
  have ln1 := EX.out.lt
  have g20 := EN.out.c0
  have g21 := EN.out.c1
  have f20 := EN.out.fz 0
  have f21 := EN.out.fz 1
  have ln2 := EN.out.lt
  simp only [List.getElem_toArray, List.getElem_cons_zero, List.getElem_cons_succ]
  go_simp
  refine hK.out _ _ ?_
  clear hK K
  try simp only [Act.put, List.setIfInBounds_toArray, List.set_cons_zero, List.set_cons_succ, List.getElem_toArray, List.getElem_cons_zero, List.getElem_cons_succ]
  clear g00 g01 f00 f01 ln0 g10 g11 f10 f11 ln1 g20 g21 f20 f21 ln2
  refine wpAnyL_done (by kernel_rfl) ?_ _
  have q := chg2_set (Chg.refl (fun x => x = w.heap.size + 1 + 1) (((((W4.setCell ⟨w.heap.size + 1, 0, none⟩ (.slice c3 len cap3)).setCell ⟨w.heap.size + 1, 1, none⟩ (.int .i64 a2)).setCell ⟨w.heap.size + 1, 2, none⟩ (.string ST)).setCell ⟨w.heap.size + 1, 3, none⟩ (.int .i64 q2)))) (w.heap.size + 1 + 1) (fun _ => rfl) (.int .i64 X) (.int .i64 Y)
  have RC := hik (rowIs_chg RB.out q (by omega))
  have u0 := (row2_set EX.out (.int .i64 X) (.int .i64 Y)).cell (i := 0) (by omega)
  have u1 := (row2_set EX.out (.int .i64 X) (.int .i64 Y)).cell (i := 1) (by omega)
  have v0 := RC.out.cell (i := 0) (by omega)
  have v1 := RC.out.cell (i := 1) (by omega)
  have v2 := RC.out.cell (i := 2) (by omega)
  have v3 := RC.out.cell (i := 3) (by omega)
  have KE := hik ((chg2_set (KX.out.mono (Q := fun x => x = w.heap.size + 1 ∨ x = w.heap.size + 1 + 1) (fun i _ (e : i = w.heap.size + 1) => .inl e)) (w.heap.size + 1 + 1) (fun _ => .inr rfl) (.int .i64 X) (.int .i64 Y)).drew1)
  have OE := hik ((O4.out.chg KE.out (fun b hb _ (e : b = w.heap.size + 1 ∨ b = w.heap.size + 1 + 1) => by omega)).low (B' := w.heap.size) (by omega))
  have GE := hik (Chg.near G4.out KE.out (fun i (e : i = w.heap.size + 1 ∨ i = w.heap.size + 1 + 1) => by omega))
  clear q
  go_wp2
  exact bodyPost_ret (v := .tuple #[.agg #[.slice c3 len cap3, .int .i64 a2, .string ST, .int .i64 q2], .agg #[.int .i64 X, .int .i64 Y]]) (by simp [results, Tryz.results33, go_sem, u0, u1, v0, v1, v2, v3, pv4, pv2]) rfl ⟨c3, cap3, rfl, OE.out, GE.out⟩

end Go.Proofs.YtccgjbdjbgefiaaGreatDoor
