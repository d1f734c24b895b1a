/- Several texts in one: The model's four bytes of a number: a contract. Condition: a number of the field. · What the model's look at rounds answers, and whether a source has draws left: contracts. Conditions: lists that can be read, of at most 2 to the 40. -/
import Derived.Test.YtgiefpipflcbgaqGreatDoorBzay
import Derived.Test.YtgiefpipflcbgaqGreatDoorBzaf
import Derived.Test.YtgiefpipflcbgaqGreatDoorBzad
import Derived.Test.YtgiefpipflcbgaqGreatDoorBzae
namespace Go.Proofs.YtgiefpipflcbgaqGreatDoor
open Go.ChangeShapes Go.WideShapes Go.ChangeAt Go.RowKit
set_option linter.unusedVariables false
set_option linter.unusedSimpArgs false

/-! The model's. -/
theorem owns_none (w : World) (B : Nat) (t : TypeId) (z : Nat) (hB : B ≤ w.heap.size) : (w.alloc (.cells #[] t)).ownsRow B t z (.slice (some ⟨w.heap.size, 0, none⟩) 0 0) 0 [] :=
  ⟨by simp, .inr ⟨w.heap.size, 0, #[], rfl, hB, Array.getElem?_push_size, Nat.le_refl _, Nat.zero_le _, by simp, by simp⟩⟩
/-- Four bytes in new memory. -/
def Four (w : World) (a : Int) (e : Ending) (w' : World) : Prop :=
  ∃ b cap : Nat, w.heap.size ≤ b ∧ e = .returned (.slice (some ⟨b, 0, none⟩) 4 cap) ∧ (∀ j u, (wv a)[j]? = some u → w'.cell? ((⟨b, 0, none⟩ : Addr).add j) = some u) ∧ Chg nob w w'
theorem four_of {w w' : World} {a : Int} {v : Value} {t : TypeId} (h : w'.ownsRow w.heap.size t 1 v 4 (wv a)) (k : Chg nob w w') : Four w a (.returned v) w' := by
  have h' := h
  rcases h.2 with ⟨_, h0⟩ | ⟨g, cap, cur, rfl, hb, _⟩
  · cases h0
  · exact ⟨g, cap, hb, rfl, h'.cells rfl, k⟩

set_option maxHeartbeats 2000000 in
theorem l02Number_any (a : Int) (w : World) (a0 : 0 ≤ a) (a1 : a < 2130706433) :
    Calls Tryz.prog 80 #[.int .i64 a, .int .i64 4] w fun e w' => Four w a e w' := by
  obtain ⟨i0, hi, hz0, hz1, hz2⟩ := info_parts infoU8
  have HI := hide hi
  have HZ0 := hide hz0
  have HZ1 := hide hz1
  have HZ2 := hide hz2
  clear hi hz0 hz1 hz2
  go_enter Tryz.func80, Tryz.ntmps80
  go_wp2
  go_loopw [5, 6] (fun v i W => ∃ k : Nat, k ≤ 4 ∧ i = .int .i64 (3 - (k : Int)) ∧ Hid (W.ownsRow w.heap.size 5 1 v k ((wv a).take k)) ∧ Hid (Chg nob w W)) (fun _ i _ => (intOf i + 1).toNat)
  case atStart => exact ⟨0, by omega, rfl, hide (owns_none _ _ _ _ (Nat.le_refl _)), hide ((Chg.refl _ _).alloc _)⟩
  case round =>
    obtain ⟨k, hk, rfl, HW, HC⟩ := hrel
    have hsz := HC.out.size
    by_cases hlt : k < 4
    · have hd : k = 0 ∨ k = 1 ∨ k = 2 ∨ k = 3 := by omega
      rcases hd with rfl | rfl | rfl | rfl
      · go_wp2_with (at_builtin; refine wpList_append_own _ rfl (.tmp 14) (.tmp 21) 106 rfl w.heap.size 5 i0 (.int .u8 0) 1 1 Tryz.underlying106 HI.out HZ0.out HZ1.out HZ2.out rfl (by decide) _ 0 _ rfl (HW.out.alloc _) ⟨_, 0, none⟩ 1 1 [.int .u8 (wb a 0)] rfl rfl ?c1 ?c2 ?c3 ?c4 ?c5 ?c6)
        case c1 =>
          intro j u hj
          match j, hj with
          | 0, hj => simp [wb] at hj; subst hj; simp [Addr.add]; omega
          | j + 1, hj => simp at hj
        case c2 => intro u hu; simp at hu; subst hu; rfl
        case c3 => unfold maxLen; omega
        case c4 => omega
        case c5 => simp; omega
        case c6 =>
          intro v' w1 hown hgr _
          have HOW : Hid (w1.ownsRow w.heap.size 5 1 v' (0 + 1) ((wv a).take (0 + 1))) := hide hown
          have HGC := hide ((HC.out.alloc _).grown hgr (fun b e l => absurd (HW.out.lt b e).1 (by omega)))
          clear hown hgr
          go_wp2
          go_roundw
          case rel => exact ⟨0 + 1, by omega, by go_num, HOW, HGC⟩
          case measure => simp [intOf]
      · go_wp2_with (at_builtin; refine wpList_append_own _ rfl (.tmp 14) (.tmp 21) 106 rfl w.heap.size 5 i0 (.int .u8 0) 1 1 Tryz.underlying106 HI.out HZ0.out HZ1.out HZ2.out rfl (by decide) _ 1 _ rfl (HW.out.alloc _) ⟨_, 0, none⟩ 1 1 [.int .u8 (wb a 1)] rfl rfl ?c1 ?c2 ?c3 ?c4 ?c5 ?c6)
        case c1 =>
          intro j u hj
          match j, hj with
          | 0, hj => simp [wb] at hj; subst hj; simp [Addr.add]
          | j + 1, hj => simp at hj
        case c2 => intro u hu; simp at hu; subst hu; rfl
        case c3 => unfold maxLen; omega
        case c4 => omega
        case c5 => simp; omega
        case c6 =>
          intro v' w1 hown hgr _
          have HOW : Hid (w1.ownsRow w.heap.size 5 1 v' (1 + 1) ((wv a).take (1 + 1))) := hide hown
          have HGC := hide ((HC.out.alloc _).grown hgr (fun b e l => absurd (HW.out.lt b e).1 (by omega)))
          clear hown hgr
          go_wp2
          go_roundw
          case rel => exact ⟨1 + 1, by omega, by go_num, HOW, HGC⟩
          case measure => simp [intOf]
      · go_wp2_with (at_builtin; refine wpList_append_own _ rfl (.tmp 14) (.tmp 21) 106 rfl w.heap.size 5 i0 (.int .u8 0) 1 1 Tryz.underlying106 HI.out HZ0.out HZ1.out HZ2.out rfl (by decide) _ 2 _ rfl (HW.out.alloc _) ⟨_, 0, none⟩ 1 1 [.int .u8 (wb a 2)] rfl rfl ?c1 ?c2 ?c3 ?c4 ?c5 ?c6)
        case c1 =>
          intro j u hj
          match j, hj with
          | 0, hj => simp [wb] at hj; subst hj; simp [Addr.add]
          | j + 1, hj => simp at hj
        case c2 => intro u hu; simp at hu; subst hu; rfl
        case c3 => unfold maxLen; omega
        case c4 => omega
        case c5 => simp; omega
        case c6 =>
          intro v' w1 hown hgr _
          have HOW : Hid (w1.ownsRow w.heap.size 5 1 v' (2 + 1) ((wv a).take (2 + 1))) := hide hown
          have HGC := hide ((HC.out.alloc _).grown hgr (fun b e l => absurd (HW.out.lt b e).1 (by omega)))
          clear hown hgr
          go_wp2
          go_roundw
          case rel => exact ⟨2 + 1, by omega, by go_num, HOW, HGC⟩
          case measure => simp [intOf]
      · go_wp2_with (at_builtin; refine wpList_append_own _ rfl (.tmp 14) (.tmp 21) 106 rfl w.heap.size 5 i0 (.int .u8 0) 1 1 Tryz.underlying106 HI.out HZ0.out HZ1.out HZ2.out rfl (by decide) _ 3 _ rfl (HW.out.alloc _) ⟨_, 0, none⟩ 1 1 [.int .u8 (wb a 3)] rfl rfl ?c1 ?c2 ?c3 ?c4 ?c5 ?c6)
        case c1 =>
          intro j u hj
          match j, hj with
          | 0, hj => simp [wb] at hj; subst hj; simp [Addr.add]
          | j + 1, hj => simp at hj
        case c2 => intro u hu; simp at hu; subst hu; rfl
        case c3 => unfold maxLen; omega
        case c4 => omega
        case c5 => simp; omega
        case c6 =>
          intro v' w1 hown hgr _
          have HOW : Hid (w1.ownsRow w.heap.size 5 1 v' (3 + 1) ((wv a).take (3 + 1))) := hide hown
          have HGC := hide ((HC.out.alloc _).grown hgr (fun b e l => absurd (HW.out.lt b e).1 (by omega)))
          clear hown hgr
          go_wp2
          go_roundw
          case rel => exact ⟨3 + 1, by omega, by go_num, HOW, HGC⟩
          case measure => simp [intOf]
    · obtain rfl : k = 4 := by omega
      go_wp2
      go_ret
      exact four_of HW.out HC.out

end Go.Proofs.YtgiefpipflcbgaqGreatDoor

namespace Go.Proofs.YtgiefpipflcbgaqGreatDoor
open Go.ChangeShapes Go.WideShapes Go.ChangeAt Go.RowKit
set_option linter.unusedVariables false
set_option maxRecDepth 100000
set_option linter.unusedSimpArgs false

/-- Rounds from i on, m of them: at most 8 elements each, numbers of the field. -/
def rkb (L : Nat → Nat) (f g : Nat → Nat → Int) : Nat → Nat → Bool
  | _, 0 => true
  | i, m + 1 => (decide (L i ≤ 8) && okP (f i) (g i) (L i)) && rkb L f g (i + 1) m
theorem rkb_all {L : Nat → Nat} {f g : Nat → Nat → Int} : ∀ (m i : Nat), rkb L f g i m = true → ∀ j, j < m → L (i + j) ≤ 8 ∧ okP (f (i + j)) (g (i + j)) (L (i + j)) = true
  | 0, i, _, j, hj => absurd hj (by omega)
  | m + 1, i, h, j, hj => by
    rw [rkb] at h
    simp only [Bool.and_eq_true, decide_eq_true_eq] at h
    cases j with
    | zero => exact h.1
    | succ j =>
      have q := rkb_all m (i + 1) h.2 j (by omega)
      rw [show i + 1 + j = i + (j + 1) by omega] at q
      exact q
/-- The code of rounds. -/
def rkc (n : Nat) (L : Nat → Nat) (f g : Nat → Nat → Int) : Int := if 4096 < n then 2 else if rkb L f g 0 n = true then 0 else 1
theorem rkc_ok {n : Nat} {L : Nat → Nat} {f g : Nat → Nat → Int} (h : rkc n L f g = 0) : n ≤ 4096 ∧ ∀ j, j < n → L j ≤ 8 ∧ okP (f j) (g j) (L j) = true := by
  unfold rkc at h
  by_cases h1 : 4096 < n
  · rw [if_pos h1] at h; omega
  · rw [if_neg h1] at h
    by_cases h2 : rkb L f g 0 n = true
    · exact ⟨by omega, fun j hj => by have q := rkb_all n 0 h2 j hj; rwa [Nat.zero_add] at q⟩
    · rw [if_neg h2] at h; omega

set_option maxHeartbeats 2000000 in
theorem sRnds_any (c : Option Addr) (n cap : Nat) (A : Nat → Option Addr) (L C : Nat → Nat) (f g : Nat → Nat → Int) (w : World) (h : Hid (RowsV w c n A L C f g)) (hL : Hid (∀ i, i < n → L i ≤ 1099511627776)) (hn : n ≤ 1099511627776) :
    Calls Tryz.prog 38 #[.slice c n cap] w fun e w' => e = .returned (.int .i64 (rkc n L f g)) ∧ Chg nob w w' := by
  by_cases hl : 4096 < n
  · have hl' : 4096 < (n : Int) := by omega
    have HC := hik (show rkc n L f g = 2 by unfold rkc; rw [if_pos hl])
    rw [HC.out]
    go_enter Tryz.func38, Tryz.ntmps38
    go_wp2
    go_ret
    exact ⟨rfl, Chg.refl _ _⟩
  have hl' : ¬ 4096 < (n : Int) := by omega
  obtain ⟨q, hq⟩ : ∃ q, q = rkc n L f g := ⟨_, rfl⟩
  have HQ := hik (show q = if rkb L f g 0 n = true then 0 else 1 by rw [hq]; unfold rkc; rw [if_neg hl])
  rw [← hq]
  clear hq
  go_enter Tryz.func38, Tryz.ntmps38
  go_wp2
  go_loopw [3] (fun i W => ∃ j m : Nat, j + m = n ∧ i = .int .i64 (j : Int) ∧ Hid (rkb L f g 0 n = rkb L f g j m) ∧ Hid (Chg nob w W)) (fun i _ => n - (intOf i).toNat)
  case atStart => exact ⟨0, n, by omega, rfl, hik rfl, hik (Chg.refl _ _)⟩
  case round =>
    obtain ⟨j, m, hjm, rfl, HT, HG⟩ := hrel
    rename World => wi
    by_cases hlt : j < n
    · obtain ⟨m', rfl⟩ : ∃ m', m = m' + 1 := ⟨m - 1, by omega⟩
      have hj1 : (j : Int) < (n : Int) := by omega
      have hj0 : (0 : Int) ≤ (j : Int) := by omega
      obtain ⟨xb, xo, ec, hxb, hc, hP⟩ := (RowsV.keep h.out HG.out) j hlt
      subst ec
      have PJ := hik hP
      clear hP
      by_cases h8 : 8 < L j
      · have h8' : 8 < (L j : Int) := by omega
        have HV := hik (show q = 1 by rw [HQ.out, HT.out, rkb, decide_eq_false (show ¬ L j ≤ 8 by omega)]; rfl)
        go_wp2
        go_ret
        exact ⟨by rw [HV.out]; rfl, HG.out⟩
      · have h8' : ¬ 8 < (L j : Int) := by omega
        cases ho : okP (f j) (g j) (L j)
        · have HV := hik (show q = 1 by rw [HQ.out, HT.out, rkb, ho, Bool.and_false]; rfl)
          go_wp2_with fail
          refine (l02List_any (A j) (L j) (C j) (f j) (g j) _ PJ (hL.out j hlt)).mono ?_
          rintro e W2 ⟨he, k2⟩
          rw [ho] at he
          subst he
          have G2 := hik (HG.out.trans k2)
          clear k2
          go_wp2
          go_ret
          exact ⟨by rw [HV.out]; rfl, G2.out⟩
        · have HN := hik (show rkb L f g 0 n = rkb L f g (j + 1) m' by rw [HT.out, rkb, ho, decide_eq_true (show L j ≤ 8 by omega)]; rfl)
          go_wp2_with fail
          refine (l02List_any (A j) (L j) (C j) (f j) (g j) _ PJ (hL.out j hlt)).mono ?_
          rintro e W2 ⟨he, k2⟩
          rw [ho] at he
          subst he
          have G2 := hik (HG.out.trans k2)
          clear k2
          go_wp2
          go_roundw
          case rel => exact ⟨j + 1, m', by omega, by go_num, HN, G2⟩
          case measure => simp [intOf]; omega
    · obtain rfl : m = 0 := by omega
      obtain rfl : j = n := by omega
      have hcc : ¬ (j : Int) < (j : Int) := by omega
      have HV := hik (show q = 0 by rw [HQ.out, HT.out]; rfl)
      go_wp2
      go_ret
      exact ⟨by rw [HV.out]; rfl, HG.out⟩

/-- A source has not n draws left. -/
def spb (at' ct : Int) (n : Nat) : Bool := decide (1000000 - (n : Int) < at') || decide (1000000 - (n : Int) < ct)
theorem spb_no {at' ct : Int} {n : Nat} (h : spb at' ct n = false) : at' + n ≤ 1000000 ∧ ct + n ≤ 1000000 := by
  unfold spb at h
  simp only [Bool.or_eq_false_iff, decide_eq_false_iff_not] at h
  omega

set_option maxHeartbeats 1000000 in
theorem sSpent_any (c : Option Addr) (len cap : Nat) (at' : Int) (st : ByteArray) (ct : Int) (n : Nat) (w : World) (hn : n ≤ 100) :
    Calls Tryz.prog 27 #[.agg #[.slice c len cap, .int .i64 at', .string st, .int .i64 ct], .int .i64 n] w fun e w' => e = .returned (.bool (spb at' ct n)) ∧ Chg nob w w' := by
  cases b1 : decide (1000000 - (n : Int) < at')
  · have HV := hik (show spb at' ct n = decide (1000000 - (n : Int) < ct) by unfold spb; rw [b1, Bool.false_or])
    rw [HV.out]
    cases b2 : decide (1000000 - (n : Int) < ct)
    · go_enter Tryz.func27, Tryz.ntmps27
      go_wp2
      go_ret
      exact ⟨by simp [b2], (Chg.refl _ _).alloc _⟩
    · go_enter Tryz.func27, Tryz.ntmps27
      go_wp2
      go_ret
      exact ⟨by simp [b2], (Chg.refl _ _).alloc _⟩
  · have HV := hik (show spb at' ct n = true by unfold spb; rw [b1, Bool.true_or])
    rw [HV.out]
    go_enter Tryz.func27, Tryz.ntmps27
    go_wp2
    go_ret
    exact ⟨by simp, (Chg.refl _ _).alloc _⟩

end Go.Proofs.YtgiefpipflcbgaqGreatDoor
