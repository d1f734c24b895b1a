/- Several texts in one: What the drawn source gives of elements, at a seat of any kind: contracts. Conditions: those of each theorem. · A function of the library: that this program's text of it is the shelf's. -/
import Derived.Test.YtpndbkgjdnkmcaaDoorBzag
import Derived.Test.YtpndbkgjdnkmcaaDoorBzad
import Derived.Test.YtpndbkgjdnkmcaaDoorBzai
import Derived.Test.YtpndbkgjdnkmcaaDoorBzaj
import Derived.Test.YtpndbkgjdnkmcaaDoorBzap
import Derived.Shelf.Strings.Split
import Derived.Test.YtpndbkgjdnkmcaaDoorProg
namespace Go.Proofs.YtpndbkgjdnkmcaaDoor
open Go.ChangeShapes Go.WideShapes Go.ChangeAt Go.RowKit
set_option linter.unusedVariables false
set_option maxRecDepth 100000
set_option linter.unusedSimpArgs false

set_option maxHeartbeats 2000000 in
theorem fieldC_any (n b : Nat) (w : World) (h : Src n w b) (hn : n ≤ 999999998000) :
    Calls Tryd.prog 37 #[.pointer (some ⟨b, 0, none⟩)] w fun e w' => DrawnC 0 2130706432 (n + 18) b w e w' := by
  have H := hide h
  clear h
  go_enter Tryd.func37, Tryd.ntmps37
  go_wp2_with fail
  refine (nextC_any 5 n b _ H.out (by omega) (by omega) (by omega)).mono ?_
  rintro e w1 ⟨r, rfl, r0, r1, hS, hB⟩
  have HS := hide hS
  have HB := hide hB
  clear hS H hB
  have hr : ((r == 0) = true) ∨ ((r == 0) = false ∧ (r == 1) = true) ∨ ((r == 0) = false ∧ (r == 1) = false) := by
    simp only [beq_iff_eq, beq_eq_false_iff_ne]
    omega
  rcases hr with g | ⟨g, g'⟩ | ⟨g, g'⟩
  · go_wp2_with fail
    refine (nextC_any 4 _ b _ HS.out (by omega) (by omega) (by omega)).mono ?_
    rintro e w2 ⟨s, rfl, s0, s1, hS2, hB2⟩
    have HS2 := hide hS2
    have HB2 := hide hB2
    clear hS2 hB2
    go_wp2
    go_ret
    exact ⟨s, rfl, s0, by omega, HS2.out.mono (by omega), HB.out.trans HB2.out⟩
  · go_wp2_with fail
    refine (nextC_any 3 _ b _ HS.out (by omega) (by omega) (by omega)).mono ?_
    rintro e w2 ⟨s, rfl, s0, s1, hS2, hB2⟩
    have HS2 := hide hS2
    have HB2 := hide hB2
    clear hS2 hB2
    go_wp2
    go_ret
    exact ⟨2130706432 - s, rfl, by omega, by omega, HS2.out.mono (by omega), HB.out.trans HB2.out⟩
  · go_wp2
    go_loopw [3, 4] (fun v i W => ∃ (k : Nat) (x : Int), k ≤ 5 ∧ i = .int .i64 k ∧ v = .int .i64 x ∧ 0 ≤ x ∧ x ≤ 2130706432 ∧ Hid (Src (n + 3 + 3 * k) W b) ∧ Hid (Chg (fun k => k = b) w W)) (fun _ i _ => 5 - (intOf i).toNat)
    case atStart => exact ⟨0, 0, by omega, rfl, rfl, by omega, by omega, HS, HB⟩
    case round =>
      obtain ⟨k, x, hk, rfl, rfl, x0, x1, GS, GB⟩ := hrel
      by_cases hlt : k < 5
      · go_wp2_with fail
        refine (nextC_any 256 _ b _ GS.out (by omega) (by omega) (by omega)).mono ?_
        rintro e w2 ⟨s, rfl, s0, s1, hS2, hB2⟩
        have HS2 := hide hS2
        have HB2 := hide hB2
        clear hS2 hB2
        go_wp2
        go_roundw
        case rel => exact ⟨k + 1, _, by omega, by go_num, rfl, by omega, by omega, hide (HS2.out.mono (by omega)), hide (GB.out.trans HB2.out)⟩
        case measure => simp [intOf]; omega
      · go_wp2
        go_ret
        exact ⟨x, rfl, x0, x1, GS.out.mono (by omega), GB.out⟩

/-- A drawn bool. -/
def DrawnB (n b : Nat) (w : World) (e : Ending) (w' : World) : Prop := ∃ r : Bool, e = .returned (.bool r) ∧ Src n w' b ∧ Chg (fun k => k = b) w w'

set_option maxHeartbeats 1000000 in
theorem chance_any (N : Int) (n b : Nat) (w : World) (h : Hid (Src n w b)) (hn : n ≤ 999999999000) (N1 : 1 < N) (N2 : N ≤ 1000000000) :
    Calls Tryd.prog 35 #[.pointer (some ⟨b, 0, none⟩), .int .i64 N] w fun e w' => DrawnB (n + 3) b w e w' := by
  go_enter Tryd.func35, Tryd.ntmps35
  go_wp2_with fail
  refine (nextC_any N n b _ h.out (by omega) N1 N2).mono ?_
  rintro e w' ⟨r, rfl, r0, r1, hS, hB⟩
  have HS := hide hS
  clear hS
  go_wp2
  go_ret
  exact ⟨_, rfl, HS.out, hB⟩


end Go.Proofs.YtpndbkgjdnkmcaaDoor

namespace Go.Proofs.YtpndbkgjdnkmcaaDoor
open Go.Shelf
def splE_ren : Go.Shelf.Ren := ⟨fun | 146 => 30 | 221 => 41 | 268 => 45 | 138 => 46 | 143 => 47 | 195 => 51 | 197 => 52 | 218 => 53 | 219 => 54 | 260 => 64 | 217 => 65 | 225 => 66 | 224 => 67 | 267 => 68 | 266 => 77 | 314 => 78 | n => n, fun | 9 => 9 | 31 => 38 | 3 => 3 | 4 => 4 | 0 => 0 | 105 => 79 | 21 => 21 | 5 => 5 | 46 => 94 | 119 => 105 | 139 => 108 | 138 => 107 | 146 => 109 | 51 => 102 | n => n, fun | 1 => 1 | 3 => 5 | 4 => 6 | n => n⟩
theorem splE : Go.Proofs.Lays.n146 Tryd.prog splE_ren := {
  mixed := by kernel_rfl
  f138 := Tryd.func46.trans (congrArg some (by kernel_rfl))
  f143 := Tryd.func47.trans (congrArg some (by kernel_rfl))
  f146 := Tryd.func30.trans (congrArg some (by kernel_rfl))
  f195 := Tryd.func51.trans (congrArg some (by kernel_rfl))
  f197 := Tryd.func52.trans (congrArg some (by kernel_rfl))
  f217 := Tryd.func65.trans (congrArg some (by kernel_rfl))
  f218 := Tryd.func53.trans (congrArg some (by kernel_rfl))
  f219 := Tryd.func54.trans (congrArg some (by kernel_rfl))
  f221 := Tryd.func41.trans (congrArg some (by kernel_rfl))
  f224 := Tryd.func67.trans (congrArg some (by kernel_rfl))
  f225 := Tryd.func66.trans (congrArg some (by kernel_rfl))
  f260 := Tryd.func64.trans (congrArg some (by kernel_rfl))
  f266 := Tryd.func77.trans (congrArg some (by kernel_rfl))
  f267 := Tryd.func68.trans (congrArg some (by kernel_rfl))
  f268 := Tryd.func45.trans (congrArg some (by kernel_rfl))
  f314 := Tryd.func78.trans (congrArg some (by kernel_rfl))
  t0 := Tryd.underlying0
  a0 := Tryd.isAgg0
  z0 := Tryd.sizeOf0
  v0 := Tryd.zeroValue0
  t3 := Tryd.underlying3
  a3 := Tryd.isAgg3
  z3 := Tryd.sizeOf3
  v3 := Tryd.zeroValue3
  t4 := Tryd.underlying4
  a4 := Tryd.isAgg4
  z4 := Tryd.sizeOf4
  v4 := Tryd.zeroValue4
  t5 := Tryd.underlying5
  a5 := Tryd.isAgg5
  z5 := Tryd.sizeOf5
  v5 := Tryd.zeroValue5
  t9 := Tryd.underlying9
  a9 := Tryd.isAgg9
  z9 := Tryd.sizeOf9
  v9 := Tryd.zeroValue9
  t21 := Tryd.underlying21
  a21 := Tryd.isAgg21
  z21 := Tryd.sizeOf21
  v21 := Tryd.zeroValue21
  t31 := Tryd.underlying38
  a31 := Tryd.isAgg38
  z31 := Tryd.sizeOf38
  v31 := Tryd.zeroValue38
  t46 := Tryd.underlying94
  a46 := Tryd.isAgg94
  z46 := Tryd.sizeOf94
  v46 := Tryd.zeroValue94
  t51 := Tryd.underlying102
  a51 := Tryd.isAgg102
  z51 := Tryd.sizeOf102
  v51 := Tryd.zeroValue102
  t105 := Tryd.underlying79
  a105 := Tryd.isAgg79
  z105 := Tryd.sizeOf79
  v105 := Tryd.zeroValue79
  t119 := Tryd.underlying105
  a119 := Tryd.isAgg105
  z119 := Tryd.sizeOf105
  t138 := Tryd.underlying107
  a138 := Tryd.isAgg107
  z138 := Tryd.sizeOf107
  v138 := Tryd.zeroValue107
  t139 := Tryd.underlying108
  a139 := Tryd.isAgg108
  z139 := Tryd.sizeOf108
  v139 := Tryd.zeroValue108
  t146 := Tryd.underlying109
  a146 := Tryd.isAgg109
  z146 := Tryd.sizeOf109
  v146 := Tryd.zeroValue109
  g1 := by kernel_rfl
  g3 := by kernel_rfl
  g4 := by kernel_rfl }

end Go.Proofs.YtpndbkgjdnkmcaaDoor
