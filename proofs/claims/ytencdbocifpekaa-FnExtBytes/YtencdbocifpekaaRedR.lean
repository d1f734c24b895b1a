/- What the model's reading of bytes answers: contracts. Conditions: bytes that can be read. -/
import Derived.Test.YtencdbocifpekaaRedS
import Derived.Test.YtencdbocifpekaaRedE
namespace Go.Proofs.Ytencdbocifpekaa
open Go.ChangeShapes Go.WideShapes Go.ChangeAt Go.RowKit
set_option linter.unusedVariables false
set_option linter.unusedSimpArgs false

theorem news2 (W : World) (a b : Int) (T : TypeId) : ∀ j u, ([.int .i64 a, .int .i64 b] : List Value)[j]? = some u → (W.alloc (.cells #[.int .i64 a, .int .i64 b] T)).cell? ((⟨W.heap.size, 0, none⟩ : Addr).add j) = some u := by
  intro j u hj
  match j, hj with
  | 0, hj => simp at hj; subst hj; simp [Addr.add]
  | 1, hj => simp at hj; subst hj; simp [Addr.add]
  | j + 2, hj => simp at hj
theorem one2 (a b : Int) : ∀ u ∈ ([.int .i64 a, .int .i64 b] : List Value), u.oneCell' = true := by
  intro u hu
  simp at hu
  rcases hu with rfl | rfl <;> rfl
/-- What the model's reading of a string gives. -/
def SRd (w : World) (s : ByteArray) (e : Ending) (w' : World) : Prop :=
  (¬ (s.size % 8 = 0 ∧ okP (rf (sz s)) (rg (sz s)) (s.size / 8) = true) ∧ ∃ (c0 : Option Addr) (cap0 : Nat), e = .returned (.tuple #[.slice c0 0 cap0, .bool false]) ∧ Chg nob w w') ∨
  ((s.size % 8 = 0 ∧ okP (rf (sz s)) (rg (sz s)) (s.size / 8) = true) ∧ ∃ (c0 : Option Addr) (cap0 : Nat), e = .returned (.tuple #[.slice c0 (s.size / 8) cap0, .bool true]) ∧ PairV w' c0 (s.size / 8) (rf (sz s)) (rg (sz s)) ∧ Chg nob w w')

set_option maxHeartbeats 2000000 in
theorem l02Read_any (s : ByteArray) (w : World) (hn : s.size ≤ 65536) :
    Calls Try.prog 71 #[.string s] w fun e w' => SRd w s e w' := by
  by_cases h8 : s.size % 8 = 0
  · obtain ⟨m, hm⟩ : ∃ m, s.size = m * 8 := ⟨s.size / 8, by omega⟩
    have hd : s.size / 8 = m := by omega
    have HM := hide hm
    have h8' : (s.size : Int) % 8 = 0 := by omega
    have hmi : (s.size : Int) = (m : Int) * 8 := by omega
    obtain ⟨i0, hi, hz0, hz1, hz2⟩ := info_parts infoExt
    have HI := hide hi
    have HZ0 := hide hz0
    have HZ1 := hide hz1
    have HZ2 := hide hz2
    clear hi hz0 hz1 hz2 hm
    have HMI := hide hmi
    have H8 := hide h8
    clear hmi h8
    go_enter Try.func71, Try.ntmps71
    go_wp2
    clear h8'
    go_loopw [4, 5] (fun v i W => ∃ k : Nat, k ≤ m ∧ i = .int .i64 ((k * 8 : Nat) : Int) ∧ Hid (W.ownsRow w.heap.size 37 2 v k ((List.range (k * 2)).map (pf (rf (sz s)) (rg (sz s))))) ∧ Hid (Chg nob w W)) (fun _ i _ => s.size - (intOf i).toNat)
    case atStart => exact ⟨0, Nat.zero_le _, rfl, hide (owns_none _ _ _ _ (Nat.le_refl _)), hide ((Chg.refl _ _).alloc _)⟩
    case round =>
      obtain ⟨k, hk, rfl, HW, HC⟩ := hrel
      have hsz := HC.out.size
      by_cases hlt : k < m
      · have q0 : ((k * 8 : Nat) : Int) < (s.size : Int) := by have := HM.out; omega
        have q1 : ((k * 8 : Nat) : Int) + 4 ≤ (s.size : Int) := by have := HM.out; omega
        have q2 : ((k * 8 : Nat) : Int) + 8 ≤ (s.size : Int) := by have := HM.out; omega
        have q3 : k * 8 + 8 ≤ s.size := by have := HM.out; omega
        have p0 : (0 : Int) ≤ (k : Int) * 8 := by omega
        have p1 : (k : Int) * 8 + 4 ≤ (s.size : Int) := by omega
        have p2 : (k : Int) * 8 + 8 ≤ (s.size : Int) := by omega
        have p3 : (k : Int) * 8 + 4 ≤ (k : Int) * 8 + 8 := by omega
        have p4 : (k : Int) * 8 ≤ (k : Int) * 8 + 4 := by omega
        have p5 : (0 : Int) ≤ (k : Int) * 8 + 4 := by omega
        have p6 : (0 : Int) ≤ (k : Int) * 8 + 8 := by omega
        have p7 : ¬ (k : Int) * 8 + 8 < (k : Int) * 8 + 4 := by omega
        have ws4 : IntKind.i64.wrap ((k : Int) * 8 + 4) = (k : Int) * 8 + 4 := by rw [IntKind.wrap_i64]; omega
        have ws8 : IntKind.i64.wrap ((k : Int) * 8 + 8) = (k : Int) * 8 + 8 := by rw [IntKind.wrap_i64]; omega
        go_wp2
        go_region_held3 (fun _ => True) (exact True.intro) (first | (go_at_call 80; refine (l02Four_any _ _ (by simp; omega)).mono ?_; rintro e w' ⟨rfl, rfl⟩) | (refine step_append_lies _ (by rfl) (.tmp 18) (.tmp 33) 45 (by rfl) w.heap.size 37 i0 (.agg #[.int .i64 0, .int .i64 0]) 2 16 Try.underlying45 HI.out HZ0.out HZ1.out HZ2.out rfl (by decide) _ k _ (by rfl) (HW.out.drew.alloc _) ⟨_, 0, none⟩ 1 1 [.int .i64 (w4 (sz (s.extract ((k : Int) * 8).toNat ((k : Int) * 8 + 4).toNat)) 0), .int .i64 (w4 (sz (s.extract ((k : Int) * 8 + 4).toNat ((k : Int) * 8 + 8).toNat)) 0)] (by rfl) rfl (news2 _ _ _ _) (one2 _ _) (by decide) (by unfold maxLen; omega) (by omega) (by simp; omega) _ rfl ?_; intro g6 cp6 w6 o6 hg6 hat6 hlt6))
        have EA : w4 (sz (s.extract ((k : Int) * 8).toNat ((k : Int) * 8 + 4).toNat)) 0 = rf (sz s) k := by
          rw [show ((k : Int) * 8).toNat = k * 8 by omega, show ((k : Int) * 8 + 4).toNat = k * 8 + 4 by omega]
          exact four_extract s (k * 8) (by omega)
        have EB : w4 (sz (s.extract ((k : Int) * 8 + 4).toNat ((k : Int) * 8 + 8).toNat)) 0 = rg (sz s) k := by
          rw [show ((k : Int) * 8 + 4).toNat = k * 8 + 4 by omega, show ((k : Int) * 8 + 8).toNat = k * 8 + 4 + 4 by omega]
          exact four_extract s (k * 8 + 4) (by omega)
        have HO : Hid (w6.ownsRow w.heap.size 37 2 (.slice (some ⟨g6, 0, none⟩) (k + 1) cp6) (k + 1) ((List.range ((k + 1) * 2)).map (pf (rf (sz s)) (rg (sz s))))) := hide (by rw [← range_pair, ← EA, ← EB]; exact o6)
        have HG := hide ((HC.out.alloc _).drew.grown hg6 (fun b e l => absurd (HW.out.lt b e).1 (by omega)))
        clear o6 hg6 hat6 EA EB
        go_wp2
        go_roundw
        case rel => exact ⟨k + 1, by omega, by go_num, HO, HG⟩
        case measure => simp [intOf]; omega
      · obtain rfl : k = m := by omega
        have q0 : ¬ ((k * 8 : Nat) : Int) < (s.size : Int) := by have := HM.out; omega
        obtain ⟨c1, cap1, rfl, hP⟩ := pairs_of_owns HW.out
        have HP := hide hP
        clear hP
        cases ho : okP (rf (sz s)) (rg (sz s)) k
        · have HN := hide ho
          clear ho
          go_wp2_with fail
          refine (l02List_any c1 k cap1 (rf (sz s)) (rg (sz s)) _ HP (by omega)).mono ?_
          rintro e w1 ⟨rfl, k1⟩
          have HC1 := hide (HC.out.trans k1)
          have ho := HN.out
          clear k1
          go_wp2
          go_ret2
          exact .inl ⟨fun hh => (by have h2 := hh.2; rw [hd, HN.out] at h2; cases h2), _, _, rfl, HC1.out.alloc _⟩
        · have HN := hide ho
          clear ho
          go_wp2_with fail
          refine (l02List_any c1 k cap1 (rf (sz s)) (rg (sz s)) _ HP (by omega)).mono ?_
          rintro e w1 ⟨rfl, k1⟩
          have HC1 := hide (HC.out.trans k1)
          have HP1 := hide (HP.out.keep k1)
          have ho := HN.out
          clear k1
          go_wp2
          go_ret2
          exact .inr ⟨⟨H8.out, by rw [hd]; exact HN.out⟩, c1, cap1, by rw [hd]; rfl, by rw [hd]; exact HP1.out, HC1.out⟩
  · have h8' : ¬ (s.size : Int) % 8 = 0 := by omega
    go_enter Try.func71, Try.ntmps71
    go_wp2
    go_ret2
    exact .inl ⟨fun h => h8 h.1, _, _, rfl, (Chg.refl _ _).alloc _⟩

end Go.Proofs.Ytencdbocifpekaa
