/- Several texts in one: The library's sort and equality at entries, its comparison at ints: that this program's texts of them are the shelf's. · What the laws' likenesses of lists of lists, queries and openings are: contracts. Conditions: lists that can be read, lengths of at most 2 to the 20. -/
import Derived.Shelf.SlSortCmp.WholeK
import Derived.Shelf.SlicesQ.Equal
import Derived.Shelf.SlicesG.Cmp
import Derived.Test.YtppiilbcnkphbaaGreatProg
import Derived.Test.YtppiilbcnkphbaaGreatBzah
import Derived.Test.YtppiilbcnkphbaaGreatBzal
import Derived.Test.YtppiilbcnkphbaaGreatBzac
namespace Go.Proofs.YtppiilbcnkphbaaGreat
open Go.Shelf
def sortE_ren : Go.Shelf.Ren := ⟨fun | 6 => 100 | 15 => 105 | 14 => 104 | 28 => 118 | 29 => 119 | 20 => 110 | 21 => 111 | 22 => 112 | 23 => 113 | 24 => 114 | 25 => 115 | 26 => 116 | 27 => 117 | 46 => 121 | 47 => 122 | 48 => 123 | 49 => 124 | 50 => 125 | 57 => 126 | n => n, fun | 22 => 41 | 24 => 87 | 25 => 144 | 3 => 3 | 39 => 75 | 0 => 0 | 53 => 158 | 55 => 160 | 4 => 4 | 46 => 151 | 45 => 150 | 50 => 155 | 5 => 5 | 9 => 9 | 66 => 162 | 70 => 166 | 76 => 168 | 77 => 60 | n => n, fun | n => n⟩
theorem sortE : Go.Proofs.SlLaysF0.n6 Tryz.prog sortE_ren := {
  mixed := by kernel_rfl
  f6 := ⟨Tryz.f100.name, by decide, Tryz.func100.trans (congrArg some (by kernel_rfl))⟩
  f14 := ⟨Tryz.f104.name, by decide, Tryz.func104.trans (congrArg some (by kernel_rfl))⟩
  f15 := Tryz.func105.trans (congrArg some (by kernel_rfl))
  f20 := ⟨Tryz.f110.name, by decide, Tryz.func110.trans (congrArg some (by kernel_rfl))⟩
  f21 := ⟨Tryz.f111.name, by decide, Tryz.func111.trans (congrArg some (by kernel_rfl))⟩
  f22 := ⟨Tryz.f112.name, by decide, Tryz.func112.trans (congrArg some (by kernel_rfl))⟩
  f23 := ⟨Tryz.f113.name, by decide, Tryz.func113.trans (congrArg some (by kernel_rfl))⟩
  f24 := ⟨Tryz.f114.name, by decide, Tryz.func114.trans (congrArg some (by kernel_rfl))⟩
  f25 := ⟨Tryz.f115.name, by decide, Tryz.func115.trans (congrArg some (by kernel_rfl))⟩
  f26 := ⟨Tryz.f116.name, by decide, Tryz.func116.trans (congrArg some (by kernel_rfl))⟩
  f27 := ⟨Tryz.f117.name, by decide, Tryz.func117.trans (congrArg some (by kernel_rfl))⟩
  f28 := Tryz.func118.trans (congrArg some (by kernel_rfl))
  f29 := Tryz.func119.trans (congrArg some (by kernel_rfl))
  f46 := ⟨Tryz.f121.name, by decide, Tryz.func121.trans (congrArg some (by kernel_rfl))⟩
  f47 := Tryz.func122.trans (congrArg some (by kernel_rfl))
  f48 := Tryz.func123.trans (congrArg some (by kernel_rfl))
  f49 := ⟨Tryz.f124.name, by decide, Tryz.func124.trans (congrArg some (by kernel_rfl))⟩
  f50 := ⟨Tryz.f125.name, by decide, Tryz.func125.trans (congrArg some (by kernel_rfl))⟩
  f57 := ⟨Tryz.f126.name, by decide, Tryz.func126.trans (congrArg some (by kernel_rfl))⟩
  t0 := Tryz.underlying0
  a0 := Tryz.isAgg0
  z0 := Tryz.sizeOf0
  v0 := Tryz.zeroValue0
  t3 := Tryz.underlying3
  a3 := Tryz.isAgg3
  z3 := Tryz.sizeOf3
  v3 := Tryz.zeroValue3
  t4 := Tryz.underlying4
  a4 := Tryz.isAgg4
  z4 := Tryz.sizeOf4
  v4 := Tryz.zeroValue4
  t5 := Tryz.underlying5
  a5 := Tryz.isAgg5
  z5 := Tryz.sizeOf5
  v5 := Tryz.zeroValue5
  t9 := Tryz.underlying9
  a9 := Tryz.isAgg9
  z9 := Tryz.sizeOf9
  v9 := Tryz.zeroValue9
  t22 := Tryz.underlying41
  a22 := Tryz.isAgg41
  z22 := Tryz.sizeOf41
  v22 := Tryz.zeroValue41
  t25 := Tryz.underlying144
  a25 := Tryz.isAgg144
  z25 := Tryz.sizeOf144
  v25 := Tryz.zeroValue144
  t39 := Tryz.underlying75
  a39 := Tryz.isAgg75
  z39 := Tryz.sizeOf75
  v39 := Tryz.zeroValue75
  t45 := Tryz.underlying150
  a45 := Tryz.isAgg150
  z45 := Tryz.sizeOf150
  v45 := Tryz.zeroValue150
  t46 := Tryz.underlying151
  a46 := Tryz.isAgg151
  z46 := Tryz.sizeOf151
  v46 := Tryz.zeroValue151
  t50 := Tryz.underlying155
  a50 := Tryz.isAgg155
  z50 := Tryz.sizeOf155
  v50 := Tryz.zeroValue155
  t53 := Tryz.underlying158
  a53 := Tryz.isAgg158
  z53 := Tryz.sizeOf158
  v53 := Tryz.zeroValue158
  t55 := Tryz.underlying160
  a55 := Tryz.isAgg160
  z55 := Tryz.sizeOf160
  v55 := Tryz.zeroValue160
  t66 := Tryz.underlying162
  a66 := Tryz.isAgg162
  z66 := Tryz.sizeOf162
  v66 := Tryz.zeroValue162
  t70 := Tryz.underlying166
  a70 := Tryz.isAgg166
  z70 := Tryz.sizeOf166
  v70 := Tryz.zeroValue166
  t76 := Tryz.underlying168
  a76 := Tryz.isAgg168
  z76 := Tryz.sizeOf168
  v76 := Tryz.zeroValue168
  t77 := Tryz.underlying60
  a77 := Tryz.isAgg60
  z77 := Tryz.sizeOf60
  v77 := Tryz.zeroValue60 }
def cmpI_ren : Go.Shelf.Ren := ⟨fun | 5 => 107 | 7 => 120 | n => n, fun | 22 => 3 | 3 => 3 | 4 => 4 | n => n, fun | n => n⟩
theorem cmpI : Go.Proofs.SlLaysC2.n5 Tryz.prog cmpI_ren := {
  mixed := by kernel_rfl
  f5 := ⟨Tryz.f107.name, by decide, Tryz.func107.trans (congrArg some (by kernel_rfl))⟩
  f7 := ⟨Tryz.f120.name, by decide, Tryz.func120.trans (congrArg some (by kernel_rfl))⟩
  t3 := Tryz.underlying3
  a3 := Tryz.isAgg3
  z3 := Tryz.sizeOf3
  v3 := Tryz.zeroValue3
  t4 := Tryz.underlying4
  a4 := Tryz.isAgg4
  z4 := Tryz.sizeOf4
  v4 := Tryz.zeroValue4
  t22 := Tryz.underlying3
  a22 := Tryz.isAgg3
  z22 := Tryz.sizeOf3
  v22 := Tryz.zeroValue3 }
def equE_ren : Go.Shelf.Ren := ⟨fun | 8 => 96 | n => n, fun | 22 => 41 | 24 => 87 | 4 => 4 | 3 => 3 | 0 => 0 | n => n, fun | n => n⟩
theorem equE : Go.Proofs.SlLaysQ.n8 Tryz.prog equE_ren := {
  mixed := by kernel_rfl
  f8 := ⟨Tryz.f96.name, by decide, Tryz.func96.trans (congrArg some (by kernel_rfl))⟩
  t0 := Tryz.underlying0
  a0 := Tryz.isAgg0
  z0 := Tryz.sizeOf0
  v0 := Tryz.zeroValue0
  t3 := Tryz.underlying3
  a3 := Tryz.isAgg3
  z3 := Tryz.sizeOf3
  v3 := Tryz.zeroValue3
  t4 := Tryz.underlying4
  a4 := Tryz.isAgg4
  z4 := Tryz.sizeOf4
  v4 := Tryz.zeroValue4
  t22 := Tryz.underlying41
  a22 := Tryz.isAgg41
  z22 := Tryz.sizeOf41
  v22 := Tryz.zeroValue41 }

end Go.Proofs.YtppiilbcnkphbaaGreat

namespace Go.Proofs.YtppiilbcnkphbaaGreat
open Go.ChangeShapes Go.WideShapes Go.ChangeAt Go.RowKit
set_option linter.unusedVariables false
set_option maxRecDepth 100000
set_option linter.unusedSimpArgs false

theorem eqStringS_d (c d : Option Addr) (n cap cap' : Nat) (L : Nat → ByteArray) (w : World) (h : Hid ((Dt.texts n L).Rep w (.slice c n cap))) (h' : Hid ((Dt.texts n L).Rep w (.slice d n cap'))) (hn : n ≤ 1048576) :
    Calls Tryz.prog 52 #[.slice c n cap, .slice d n cap'] w fun e w' => e = .returned (.bool true) ∧ Chg nob w w' := by
  obtain ⟨_, _, e, h1⟩ := h.out
  cases e
  obtain ⟨_, _, e, h2⟩ := h'.out
  cases e
  exact eqStringB_any c d n n cap cap' L L w (hik h1) (hik h2) rfl (fun _ _ => rfl) (by omega)
theorem eqExtS_d (c d : Option Addr) (n cap cap' : Nat) (f g : Nat → Int) (w : World) (h : Hid ((Dt.exts n f g).Rep w (.slice c n cap))) (h' : Hid ((Dt.exts n f g).Rep w (.slice d n cap'))) (hn : n ≤ 1048576) :
    Calls Tryz.prog 51 #[.slice c n cap, .slice d n cap'] w fun e w' => e = .returned (.bool true) ∧ Chg nob w w' := by
  obtain ⟨_, _, e, h1⟩ := h.out
  cases e
  obtain ⟨_, _, e, h2⟩ := h'.out
  cases e
  exact eqExtS_any c d n n cap cap' f g f g w (hik h1) (hik h2) rfl (fun _ _ => ⟨rfl, rfl⟩) (by omega)

set_option maxHeartbeats 2000000 in
theorem eqStringSS_d (c d : Option Addr) (n cap cap' : Nat) (l : Nat → Nat) (T : Nat → Nat → ByteArray) (w : World) (h : Hid ((dSS n l T).Rep w (.slice c n cap))) (h' : Hid ((dSS n l T).Rep w (.slice d n cap'))) (hs : Hid ((dSS n l T).small 1048576)) :
    Calls Tryz.prog 93 #[.slice c n cap, .slice d n cap'] w fun e w' => e = .returned (.bool true) ∧ Chg nob w w' := by
  have hn : n ≤ 1048576 := hs.out.1
  go_enter Tryz.func93, Tryz.ntmps93
  go_wp2
  go_loopw [5] (fun i W => ∃ k : Nat, k ≤ n ∧ i = .int .i64 (k : Int) ∧ Hid (Chg nob w W)) (fun i _ => n - (intOf i).toNat)
  case atStart => exact ⟨0, Nat.zero_le _, rfl, hik (Chg.refl _ _)⟩
  case round =>
    obtain ⟨k, hk, rfl, HG⟩ := hrel
    rename World => wi
    by_cases hlt : k < n
    · have hk1 : (k : Int) < (n : Int) := by omega
      have hk0 : (0 : Int) ≤ (k : Int) := by omega
      obtain ⟨xb, xo, ec, hxb, hcc⟩ := (rep_list (h.out.keep HG.out)).2 k hlt
      obtain ⟨u, x0, hu⟩ := hcc 0 (by omega)
      have hux := hu
      obtain ⟨xc, xp, rfl, hP⟩ := hu
      subst ec
      rw [show xo + (k * 1 + 0) = xo + k by omega] at x0
      have Px := hik hux
      clear hP hcc hux
      obtain ⟨yb, yo, ec, hyb, hcc⟩ := (rep_list (h'.out.keep HG.out)).2 k hlt
      obtain ⟨u, y0, hu⟩ := hcc 0 (by omega)
      have huy := hu
      obtain ⟨yc, yp, rfl, hP⟩ := hu
      subst ec
      rw [show yo + (k * 1 + 0) = yo + k by omega] at y0
      have Py := hik huy
      clear hP hcc huy
      have SK := hik (show (Dt.texts (l k) (T k)).small 1048576 from hs.out.2 k 0 hlt (by omega))
      go_wp2
      have KW := hik ((Chg.refl nob wi).drew1)
      have SA := hik (fun (WW : World) (kW : Chg nob wi WW) => (show (WW.cell? ⟨xb, xo + k, none⟩ = some (.slice xc (l k) xp) ∧ WW.cell? ⟨yb, yo + k, none⟩ = some (.slice yc (l k) yp)) from ⟨kW.see x0, kW.see y0⟩))
      refine wp_region_held_drew (S := fun w' => w'.cell? ⟨xb, xo + k, none⟩ = some (.slice xc (l k) xp) ∧ w'.cell? ⟨yb, yo + k, none⟩ = some (.slice yc (l k) yp)) (by kernel_rfl) ⟨x0, y0⟩ (fun hHeld => ?_)
      refine wpAnyH_take (i := 0) (v := ?_) rfl (by kernel_rfl) (by kernel_rfl) (by kernel_rfl) (fun _ _ _ h => h) (Or.inl ⟨by rfl, ?_⟩) (by assumption) ?_
      rotate_left 1
      · (intro w' hSw; (try dsimp only at hSw); go_simp; try with_reducible rfl)
      try simp only [Act.put, List.setIfInBounds_toArray, List.set_cons_zero, List.set_cons_succ, List.getElem_toArray, List.getElem_cons_zero, List.getElem_cons_succ]
      refine wpAnyH_take (i := 1) (v := ?_) rfl (by kernel_rfl) (by kernel_rfl) (by kernel_rfl) (fun _ _ _ h => h) (Or.inl ⟨by rfl, ?_⟩) (by assumption) ?_
      rotate_left 1
      · (intro w' hSw; (try dsimp only at hSw); go_simp; try with_reducible rfl)
      try simp only [Act.put, List.setIfInBounds_toArray, List.set_cons_zero, List.set_cons_succ, List.getElem_toArray, List.getElem_cons_zero, List.getElem_cons_succ]
      refine wpAnyH_take (i := 2) (v := ?_) rfl (by kernel_rfl) (by kernel_rfl) (by kernel_rfl) (fun _ _ _ h => h) (Or.inl ⟨by rfl, ?_⟩) (by assumption) ?_
      rotate_left 1
      · (intro w' hSw; (try dsimp only at hSw); go_simp; try with_reducible rfl)
      try simp only [Act.put, List.setIfInBounds_toArray, List.set_cons_zero, List.set_cons_succ, List.getElem_toArray, List.getElem_cons_zero, List.getElem_cons_succ]
      refine wpAnyH_take (i := 3) (v := ?_) rfl (by kernel_rfl) (by kernel_rfl) (by kernel_rfl) (fun _ _ _ h => h) (Or.inl ⟨by rfl, ?_⟩) (by assumption) ?_
      rotate_left 1
      · (intro w' hSw; (try dsimp only at hSw); go_simp; try with_reducible rfl)
      try simp only [Act.put, List.setIfInBounds_toArray, List.set_cons_zero, List.set_cons_succ, List.getElem_toArray, List.getElem_cons_zero, List.getElem_cons_succ]
      refine wpAnyH_take (i := 4) (v := ?_) rfl (by kernel_rfl) (by kernel_rfl) (by kernel_rfl) (fun _ _ _ h => h) (Or.inl ⟨by rfl, ?_⟩) (by assumption) ?_
      rotate_left 1
      · (intro w' hSw; (try dsimp only at hSw); go_simp; try with_reducible rfl)
      try simp only [Act.put, List.setIfInBounds_toArray, List.set_cons_zero, List.set_cons_succ, List.getElem_toArray, List.getElem_cons_zero, List.getElem_cons_succ]
      refine wpAnyH_take (i := 5) (v := ?_) rfl (by kernel_rfl) (by kernel_rfl) (by kernel_rfl) (fun _ _ _ h => h) (Or.inl ⟨by rfl, ?_⟩) (by assumption) ?_
      rotate_left 1
      · (intro w' hSw; (try dsimp only at hSw); go_simp; try with_reducible rfl)
      try simp only [Act.put, List.setIfInBounds_toArray, List.set_cons_zero, List.set_cons_succ, List.getElem_toArray, List.getElem_cons_zero, List.getElem_cons_succ]
      refine wpAnyH_take (i := 6) (v := ?_) rfl (by kernel_rfl) (by kernel_rfl) (by kernel_rfl) (fun _ _ _ h => h) (Or.inl ⟨by rfl, ?_⟩) (by assumption) ?_
      rotate_left 1
      · (intro w' hSw; (try dsimp only at hSw); go_simp; try with_reducible rfl)
      try simp only [Act.put, List.setIfInBounds_toArray, List.set_cons_zero, List.set_cons_succ, List.getElem_toArray, List.getElem_cons_zero, List.getElem_cons_succ]
      refine wpAnyH_take (i := 7) (v := ?_) rfl (by kernel_rfl) (by kernel_rfl) (by kernel_rfl) (fun _ _ _ h => h) (Or.inl ⟨by rfl, ?_⟩) (by assumption) ?_
      rotate_left 1
      · (intro w' hSw; (try dsimp only at hSw); go_simp; try with_reducible rfl)
      try simp only [Act.put, List.setIfInBounds_toArray, List.set_cons_zero, List.set_cons_succ, List.getElem_toArray, List.getElem_cons_zero, List.getElem_cons_succ]
      refine wpAnyH_ready (rs := [8]) (by kernel_rfl) (by simp) ?_
      refine AllReadyH.cons rfl (fun K hK => ?_) AllReadyH.nil
      refine stepL_callN 52 #[.tmp 20, .tmp 24] #[32, 32] (by rfl) (by rfl) #[.slice xc (l k) xp, .slice yc (l k) yp] (by simp only [List.map_toArray, List.map_cons, List.map_nil] <;> rfl) (run_go Tryz.func52 (by kernel_rfl) (by kernel_rfl) _ _) (eqStringS_d xc yc (l k) xp yp (T k) _ (hik (Px.out.keep KW.out)) (hik (Py.out.keep KW.out)) SK.out.1) ?_
      rintro e U1 ⟨he, kk⟩
      refine ⟨_, he, ?_⟩
      replace KW := hik (KW.out.trans kk)
      refine hK.out _ _ (SA.out _ KW.out) (fun hHeld => ?_)
      clear hK K
      try simp only [Act.put, List.setIfInBounds_toArray, List.set_cons_zero, List.set_cons_succ, List.getElem_toArray, List.getElem_cons_zero, List.getElem_cons_succ]
      clear he kk
      refine wpAnyH_take (i := 9) (v := ?_) rfl (by kernel_rfl) (by kernel_rfl) (by kernel_rfl) (fun _ _ _ h => h) (Or.inl ⟨by rfl, ?_⟩) (by assumption) ?_
      rotate_left 1
      · (intro w' hSw; (try dsimp only at hSw); go_simp; try with_reducible rfl)
      try simp only [Act.put, List.setIfInBounds_toArray, List.set_cons_zero, List.set_cons_succ, List.getElem_toArray, List.getElem_cons_zero, List.getElem_cons_succ]
      refine wpAnyH_done (by kernel_rfl) ?_ _
      have GE := hik (HG.out.trans KW.out)
      clear KW SA hHeld x0 y0 HG
      go_wp2
      go_roundw
      case rel => exact ⟨k + 1, by omega, by go_num, GE⟩
      case measure => simp [intOf]; omega
    · obtain rfl : n = k := by omega
      have hcc : ¬ (n : Int) < (n : Int) := by omega
      go_wp2
      go_ret
      exact ⟨rfl, HG.out⟩

set_option maxHeartbeats 2000000 in
theorem eqExtSS_d (c d : Option Addr) (n cap cap' : Nat) (l : Nat → Nat) (f g : Nat → Nat → Int) (w : World) (h : Hid ((dEE n l f g).Rep w (.slice c n cap))) (h' : Hid ((dEE n l f g).Rep w (.slice d n cap'))) (hs : Hid ((dEE n l f g).small 1048576)) :
    Calls Tryz.prog 24 #[.slice c n cap, .slice d n cap'] w fun e w' => e = .returned (.bool true) ∧ Chg nob w w' := by
  have hn : n ≤ 1048576 := hs.out.1
  go_enter Tryz.func24, Tryz.ntmps24
  go_wp2
  go_loopw [5] (fun i W => ∃ k : Nat, k ≤ n ∧ i = .int .i64 (k : Int) ∧ Hid (Chg nob w W)) (fun i _ => n - (intOf i).toNat)
  case atStart => exact ⟨0, Nat.zero_le _, rfl, hik (Chg.refl _ _)⟩
  case round =>
    obtain ⟨k, hk, rfl, HG⟩ := hrel
    rename World => wi
    by_cases hlt : k < n
    · have hk1 : (k : Int) < (n : Int) := by omega
      have hk0 : (0 : Int) ≤ (k : Int) := by omega
      obtain ⟨xb, xo, ec, hxb, hcc⟩ := (rep_list (h.out.keep HG.out)).2 k hlt
      obtain ⟨u, x0, hu⟩ := hcc 0 (by omega)
      have hux := hu
      obtain ⟨xc, xp, rfl, hP⟩ := hu
      subst ec
      rw [show xo + (k * 1 + 0) = xo + k by omega] at x0
      have Px := hik hux
      clear hP hcc hux
      obtain ⟨yb, yo, ec, hyb, hcc⟩ := (rep_list (h'.out.keep HG.out)).2 k hlt
      obtain ⟨u, y0, hu⟩ := hcc 0 (by omega)
      have huy := hu
      obtain ⟨yc, yp, rfl, hP⟩ := hu
      subst ec
      rw [show yo + (k * 1 + 0) = yo + k by omega] at y0
      have Py := hik huy
      clear hP hcc huy
      have SK := hik (show (Dt.exts (l k) (f k) (g k)).small 1048576 from hs.out.2 k 0 hlt (by omega))
      go_wp2
      have KW := hik ((Chg.refl nob wi).drew1)
      have SA := hik (fun (WW : World) (kW : Chg nob wi WW) => (show (WW.cell? ⟨xb, xo + k, none⟩ = some (.slice xc (l k) xp) ∧ WW.cell? ⟨yb, yo + k, none⟩ = some (.slice yc (l k) yp)) from ⟨kW.see x0, kW.see y0⟩))
      refine wp_region_held_drew (S := fun w' => w'.cell? ⟨xb, xo + k, none⟩ = some (.slice xc (l k) xp) ∧ w'.cell? ⟨yb, yo + k, none⟩ = some (.slice yc (l k) yp)) (by kernel_rfl) ⟨x0, y0⟩ (fun hHeld => ?_)
      refine wpAnyH_take (i := 0) (v := ?_) rfl (by kernel_rfl) (by kernel_rfl) (by kernel_rfl) (fun _ _ _ h => h) (Or.inl ⟨by rfl, ?_⟩) (by assumption) ?_
      rotate_left 1
      · (intro w' hSw; (try dsimp only at hSw); go_simp; try with_reducible rfl)
      try simp only [Act.put, List.setIfInBounds_toArray, List.set_cons_zero, List.set_cons_succ, List.getElem_toArray, List.getElem_cons_zero, List.getElem_cons_succ]
      refine wpAnyH_take (i := 1) (v := ?_) rfl (by kernel_rfl) (by kernel_rfl) (by kernel_rfl) (fun _ _ _ h => h) (Or.inl ⟨by rfl, ?_⟩) (by assumption) ?_
      rotate_left 1
      · (intro w' hSw; (try dsimp only at hSw); go_simp; try with_reducible rfl)
      try simp only [Act.put, List.setIfInBounds_toArray, List.set_cons_zero, List.set_cons_succ, List.getElem_toArray, List.getElem_cons_zero, List.getElem_cons_succ]
      refine wpAnyH_take (i := 2) (v := ?_) rfl (by kernel_rfl) (by kernel_rfl) (by kernel_rfl) (fun _ _ _ h => h) (Or.inl ⟨by rfl, ?_⟩) (by assumption) ?_
      rotate_left 1
      · (intro w' hSw; (try dsimp only at hSw); go_simp; try with_reducible rfl)
      try simp only [Act.put, List.setIfInBounds_toArray, List.set_cons_zero, List.set_cons_succ, List.getElem_toArray, List.getElem_cons_zero, List.getElem_cons_succ]
      refine wpAnyH_take (i := 3) (v := ?_) rfl (by kernel_rfl) (by kernel_rfl) (by kernel_rfl) (fun _ _ _ h => h) (Or.inl ⟨by rfl, ?_⟩) (by assumption) ?_
      rotate_left 1
      · (intro w' hSw; (try dsimp only at hSw); go_simp; try with_reducible rfl)
      try simp only [Act.put, List.setIfInBounds_toArray, List.set_cons_zero, List.set_cons_succ, List.getElem_toArray, List.getElem_cons_zero, List.getElem_cons_succ]
      refine wpAnyH_take (i := 4) (v := ?_) rfl (by kernel_rfl) (by kernel_rfl) (by kernel_rfl) (fun _ _ _ h => h) (Or.inl ⟨by rfl, ?_⟩) (by assumption) ?_
      rotate_left 1
      · (intro w' hSw; (try dsimp only at hSw); go_simp; try with_reducible rfl)
      try simp only [Act.put, List.setIfInBounds_toArray, List.set_cons_zero, List.set_cons_succ, List.getElem_toArray, List.getElem_cons_zero, List.getElem_cons_succ]
      refine wpAnyH_take (i := 5) (v := ?_) rfl (by kernel_rfl) (by kernel_rfl) (by kernel_rfl) (fun _ _ _ h => h) (Or.inl ⟨by rfl, ?_⟩) (by assumption) ?_
      rotate_left 1
      · (intro w' hSw; (try dsimp only at hSw); go_simp; try with_reducible rfl)
      try simp only [Act.put, List.setIfInBounds_toArray, List.set_cons_zero, List.set_cons_succ, List.getElem_toArray, List.getElem_cons_zero, List.getElem_cons_succ]
      refine wpAnyH_take (i := 6) (v := ?_) rfl (by kernel_rfl) (by kernel_rfl) (by kernel_rfl) (fun _ _ _ h => h) (Or.inl ⟨by rfl, ?_⟩) (by assumption) ?_
      rotate_left 1
      · (intro w' hSw; (try dsimp only at hSw); go_simp; try with_reducible rfl)
      try simp only [Act.put, List.setIfInBounds_toArray, List.set_cons_zero, List.set_cons_succ, List.getElem_toArray, List.getElem_cons_zero, List.getElem_cons_succ]
      refine wpAnyH_take (i := 7) (v := ?_) rfl (by kernel_rfl) (by kernel_rfl) (by kernel_rfl) (fun _ _ _ h => h) (Or.inl ⟨by rfl, ?_⟩) (by assumption) ?_
      rotate_left 1
      · (intro w' hSw; (try dsimp only at hSw); go_simp; try with_reducible rfl)
      try simp only [Act.put, List.setIfInBounds_toArray, List.set_cons_zero, List.set_cons_succ, List.getElem_toArray, List.getElem_cons_zero, List.getElem_cons_succ]
      refine wpAnyH_ready (rs := [8]) (by kernel_rfl) (by simp) ?_
      refine AllReadyH.cons rfl (fun K hK => ?_) AllReadyH.nil
      refine stepL_callN 51 #[.tmp 20, .tmp 24] #[81, 81] (by rfl) (by rfl) #[.slice xc (l k) xp, .slice yc (l k) yp] (by simp only [List.map_toArray, List.map_cons, List.map_nil] <;> rfl) (run_go Tryz.func51 (by kernel_rfl) (by kernel_rfl) _ _) (eqExtS_d xc yc (l k) xp yp (f k) (g k) _ (hik (Px.out.keep KW.out)) (hik (Py.out.keep KW.out)) SK.out) ?_
      rintro e U1 ⟨he, kk⟩
      refine ⟨_, he, ?_⟩
      replace KW := hik (KW.out.trans kk)
      refine hK.out _ _ (SA.out _ KW.out) (fun hHeld => ?_)
      clear hK K
      try simp only [Act.put, List.setIfInBounds_toArray, List.set_cons_zero, List.set_cons_succ, List.getElem_toArray, List.getElem_cons_zero, List.getElem_cons_succ]
      clear he kk
      refine wpAnyH_take (i := 9) (v := ?_) rfl (by kernel_rfl) (by kernel_rfl) (by kernel_rfl) (fun _ _ _ h => h) (Or.inl ⟨by rfl, ?_⟩) (by assumption) ?_
      rotate_left 1
      · (intro w' hSw; (try dsimp only at hSw); go_simp; try with_reducible rfl)
      try simp only [Act.put, List.setIfInBounds_toArray, List.set_cons_zero, List.set_cons_succ, List.getElem_toArray, List.getElem_cons_zero, List.getElem_cons_succ]
      refine wpAnyH_done (by kernel_rfl) ?_ _
      have GE := hik (HG.out.trans KW.out)
      clear KW SA hHeld x0 y0 HG
      go_wp2
      go_roundw
      case rel => exact ⟨k + 1, by omega, by go_num, GE⟩
      case measure => simp [intOf]; omega
    · obtain rfl : n = k := by omega
      have hcc : ¬ (n : Int) < (n : Int) := by omega
      go_wp2
      go_ret
      exact ⟨rfl, HG.out⟩

set_option maxHeartbeats 2000000 in
theorem eqQuery_d (c d : Option Addr) (cap cap' : Nat) (c' d' : Option Addr) (p p' : Nat) (q : QD) (w : World) (h : Hid (q.P.Rep w (.slice c q.np cap))) (h' : Hid (q.S.Rep w (.slice d q.nq cap'))) (h2 : Hid (q.P.Rep w (.slice c' q.np p))) (h2' : Hid (q.S.Rep w (.slice d' q.nq p'))) (hs : Hid (q.P.small 1048576)) (hs' : Hid (q.S.small 1048576)) :
    Calls Tryz.prog 82 #[.agg #[.slice c q.np cap, .slice d q.nq cap'], .agg #[.slice c' q.np p, .slice d' q.nq p']] w fun e w' => e = .returned (.bool true) ∧ Chg nob w w' := by
  have R0 := hik (rowIs_keep (row2_new w (.slice c q.np cap) (.slice d q.nq cap') 110) ((Chg.refl nob _).alloc (.cells #[.slice c' q.np p, .slice d' q.nq p'] 110)))
  have R1 := hik (row2_new (w.alloc (.cells #[.slice c q.np cap, .slice d q.nq cap'] 110)) (.slice c' q.np p) (.slice d' q.nq p') 110)
  have K0 := hik (((Chg.refl nob w).alloc (.cells #[.slice c q.np cap, .slice d q.nq cap'] 110)).alloc (.cells #[.slice c' q.np p, .slice d' q.nq p'] 110))
  rw [asz] at R1
  go_enter Tryz.func82, Tryz.ntmps82
  go_wp2_with fail
  generalize hW : (w.alloc (.cells #[.slice c q.np cap, .slice d q.nq cap'] 110)).alloc (.cells #[.slice c' q.np p, .slice d' q.nq p'] 110) = W0 at R0 R1 K0 ⊢
  clear hW
  refine (eqExtS_d c c' q.np cap p q.f q.g _ (hik (h.out.keep K0.out)) (hik (h2.out.keep K0.out)) hs.out).mono ?_
  rintro e W1 ⟨rfl, k1⟩
  have G1 := hik (K0.out.trans k1)
  replace R0 := hik (rowIs_keep R0.out k1)
  replace R1 := hik (rowIs_keep R1.out k1)
  clear k1
  have x1 := row2_c1 R0.out
  have y1 := row2_c1 R1.out
  go_wp2_with fail
  refine (eqStringSS_d d d' q.nq cap' p' q.l q.T _ (hik (h'.out.keep G1.out)) (hik (h2'.out.keep G1.out)) hs').mono ?_
  rintro e W2 ⟨rfl, k2⟩
  have G2 := hik (G1.out.trans k2)
  clear k2 x1 y1
  go_wp2
  go_ret
  exact ⟨rfl, G2.out⟩

set_option maxHeartbeats 2000000 in
theorem eqQueryS_d (c d : Option Addr) (n cap cap' : Nat) (q : Nat → QD) (w : World) (h : Hid ((dQs n q).Rep w (.slice c n cap))) (h' : Hid ((dQs n q).Rep w (.slice d n cap'))) (hs : Hid ((dQs n q).small 1048576)) :
    Calls Tryz.prog 53 #[.slice c n cap, .slice d n cap'] w fun e w' => e = .returned (.bool true) ∧ Chg nob w w' := by
  have hn : n ≤ 1048576 := hs.out.1
  go_enter Tryz.func53, Tryz.ntmps53
  go_wp2
  go_loopw [5] (fun i W => ∃ k : Nat, k ≤ n ∧ i = .int .i64 (k : Int) ∧ Hid (Chg nob w W)) (fun i _ => n - (intOf i).toNat)
  case atStart => exact ⟨0, Nat.zero_le _, rfl, hik (Chg.refl _ _)⟩
  case round =>
    obtain ⟨k, hk, rfl, HG⟩ := hrel
    rename World => wi
    by_cases hlt : k < n
    · have hk1 : (k : Int) < (n : Int) := by omega
      have hk0 : (0 : Int) ≤ (k : Int) := by omega
      obtain ⟨xb, xo, xc, xp, xd, xq, ec, hxb, x0, x1, hP, hS⟩ := dQs_at (h.out.keep HG.out) hlt
      subst ec
      have Px := hik hP
      have Sx := hik hS
      clear hP hS
      obtain ⟨yb, yo, yc, yp, yd, yq, ec, hyb, y0, y1, hP, hS⟩ := dQs_at (h'.out.keep HG.out) hlt
      subst ec
      have Py := hik hP
      have Sy := hik hS
      clear hP hS
      have S0 := hik (show (q k).P.small 1048576 from hs.out.2 k 0 hlt (by omega))
      have S1 := hik (show (q k).S.small 1048576 from hs.out.2 k 1 hlt (by omega))
      go_wp2
      have KW := hik ((Chg.refl nob wi).drew1)
      have SA := hik (fun (WW : World) (kW : Chg nob wi WW) => (show (WW.cell? ⟨xb, xo + k * 2, none⟩ = some (.slice xc (q k).np xp) ∧ WW.cell? ⟨xb, xo + k * 2 + 1, none⟩ = some (.slice xd (q k).nq xq) ∧ WW.cell? ⟨yb, yo + k * 2, none⟩ = some (.slice yc (q k).np yp) ∧ WW.cell? ⟨yb, yo + k * 2 + 1, none⟩ = some (.slice yd (q k).nq yq)) from ⟨kW.see x0, kW.see x1, kW.see y0, kW.see y1⟩))
      refine wp_region_held_drew (S := fun w' => w'.cell? ⟨xb, xo + k * 2, none⟩ = some (.slice xc (q k).np xp) ∧ w'.cell? ⟨xb, xo + k * 2 + 1, none⟩ = some (.slice xd (q k).nq xq) ∧ w'.cell? ⟨yb, yo + k * 2, none⟩ = some (.slice yc (q k).np yp) ∧ w'.cell? ⟨yb, yo + k * 2 + 1, none⟩ = some (.slice yd (q k).nq yq)) (by kernel_rfl) ⟨x0, x1, y0, y1⟩ (fun hHeld => ?_)
      refine wpAnyH_take (i := 0) (v := ?_) rfl (by kernel_rfl) (by kernel_rfl) (by kernel_rfl) (fun _ _ _ h => h) (Or.inl ⟨by rfl, ?_⟩) (by assumption) ?_
      rotate_left 1
      · (intro w' hSw; (try dsimp only at hSw); go_simp; try with_reducible rfl)
      try simp only [Act.put, List.setIfInBounds_toArray, List.set_cons_zero, List.set_cons_succ, List.getElem_toArray, List.getElem_cons_zero, List.getElem_cons_succ]
      refine wpAnyH_take (i := 1) (v := ?_) rfl (by kernel_rfl) (by kernel_rfl) (by kernel_rfl) (fun _ _ _ h => h) (Or.inl ⟨by rfl, ?_⟩) (by assumption) ?_
      rotate_left 1
      · (intro w' hSw; (try dsimp only at hSw); go_simp; try with_reducible rfl)
      try simp only [Act.put, List.setIfInBounds_toArray, List.set_cons_zero, List.set_cons_succ, List.getElem_toArray, List.getElem_cons_zero, List.getElem_cons_succ]
      refine wpAnyH_take (i := 2) (v := ?_) rfl (by kernel_rfl) (by kernel_rfl) (by kernel_rfl) (fun _ _ _ h => h) (Or.inl ⟨by rfl, ?_⟩) (by assumption) ?_
      rotate_left 1
      · (intro w' hSw; (try dsimp only at hSw); go_simp; try with_reducible rfl)
      try simp only [Act.put, List.setIfInBounds_toArray, List.set_cons_zero, List.set_cons_succ, List.getElem_toArray, List.getElem_cons_zero, List.getElem_cons_succ]
      refine wpAnyH_take (i := 3) (v := ?_) rfl (by kernel_rfl) (by kernel_rfl) (by kernel_rfl) (fun _ _ _ h => h) (Or.inl ⟨by rfl, ?_⟩) (by assumption) ?_
      rotate_left 1
      · (intro w' hSw; (try dsimp only at hSw); go_simp; try with_reducible rfl)
      try simp only [Act.put, List.setIfInBounds_toArray, List.set_cons_zero, List.set_cons_succ, List.getElem_toArray, List.getElem_cons_zero, List.getElem_cons_succ]
      refine wpAnyH_take (i := 4) (v := ?_) rfl (by kernel_rfl) (by kernel_rfl) (by kernel_rfl) (fun _ _ _ h => h) (Or.inl ⟨by rfl, ?_⟩) (by assumption) ?_
      rotate_left 1
      · (intro w' hSw; (try dsimp only at hSw); go_simp; try with_reducible rfl)
      try simp only [Act.put, List.setIfInBounds_toArray, List.set_cons_zero, List.set_cons_succ, List.getElem_toArray, List.getElem_cons_zero, List.getElem_cons_succ]
      refine wpAnyH_take (i := 5) (v := ?_) rfl (by kernel_rfl) (by kernel_rfl) (by kernel_rfl) (fun _ _ _ h => h) (Or.inl ⟨by rfl, ?_⟩) (by assumption) ?_
      rotate_left 1
      · (intro w' hSw; (try dsimp only at hSw); go_simp; try with_reducible rfl)
      try simp only [Act.put, List.setIfInBounds_toArray, List.set_cons_zero, List.set_cons_succ, List.getElem_toArray, List.getElem_cons_zero, List.getElem_cons_succ]
      refine wpAnyH_take (i := 6) (v := ?_) rfl (by kernel_rfl) (by kernel_rfl) (by kernel_rfl) (fun _ _ _ h => h) (Or.inl ⟨by rfl, ?_⟩) (by assumption) ?_
      rotate_left 1
      · (intro w' hSw; (try dsimp only at hSw); go_simp; try with_reducible rfl)
      try simp only [Act.put, List.setIfInBounds_toArray, List.set_cons_zero, List.set_cons_succ, List.getElem_toArray, List.getElem_cons_zero, List.getElem_cons_succ]
      refine wpAnyH_take (i := 7) (v := ?_) rfl (by kernel_rfl) (by kernel_rfl) (by kernel_rfl) (fun _ _ _ h => h) (Or.inl ⟨by rfl, ?_⟩) (by assumption) ?_
      rotate_left 1
      · (intro w' hSw; (try dsimp only at hSw); go_simp; try with_reducible rfl)
      try simp only [Act.put, List.setIfInBounds_toArray, List.set_cons_zero, List.set_cons_succ, List.getElem_toArray, List.getElem_cons_zero, List.getElem_cons_succ]
      refine wpAnyH_ready (rs := [8]) (by kernel_rfl) (by simp) ?_
      refine AllReadyH.cons rfl (fun K hK => ?_) AllReadyH.nil
      refine stepL_callN 82 #[.tmp 20, .tmp 24] #[110, 110] (by rfl) (by rfl) #[.agg #[.slice xc (q k).np xp, .slice xd (q k).nq xq], .agg #[.slice yc (q k).np yp, .slice yd (q k).nq yq]] (by simp only [List.map_toArray, List.map_cons, List.map_nil] <;> rfl) (run_go Tryz.func82 (by kernel_rfl) (by kernel_rfl) _ _) (eqQuery_d xc xd xp xq yc yd yp yq (q k) _ (hik (Px.out.keep KW.out)) (hik (Sx.out.keep KW.out)) (hik (Py.out.keep KW.out)) (hik (Sy.out.keep KW.out)) S0 S1) ?_
      rintro e U1 ⟨he, kk⟩
      refine ⟨_, he, ?_⟩
      replace KW := hik (KW.out.trans kk)
      refine hK.out _ _ (SA.out _ KW.out) (fun hHeld => ?_)
      clear hK K
      try simp only [Act.put, List.setIfInBounds_toArray, List.set_cons_zero, List.set_cons_succ, List.getElem_toArray, List.getElem_cons_zero, List.getElem_cons_succ]
      clear he kk
      refine wpAnyH_take (i := 9) (v := ?_) rfl (by kernel_rfl) (by kernel_rfl) (by kernel_rfl) (fun _ _ _ h => h) (Or.inl ⟨by rfl, ?_⟩) (by assumption) ?_
      rotate_left 1
      · (intro w' hSw; (try dsimp only at hSw); go_simp; try with_reducible rfl)
      try simp only [Act.put, List.setIfInBounds_toArray, List.set_cons_zero, List.set_cons_succ, List.getElem_toArray, List.getElem_cons_zero, List.getElem_cons_succ]
      refine wpAnyH_done (by kernel_rfl) ?_ _
      have GE := hik (HG.out.trans KW.out)
      clear KW SA hHeld x0 x1 y0 y1 HG
      go_wp2
      go_roundw
      case rel => exact ⟨k + 1, by omega, by go_num, GE⟩
      case measure => simp [intOf]; omega
    · obtain rfl : n = k := by omega
      have hcc : ¬ (n : Int) < (n : Int) := by omega
      go_wp2
      go_ret
      exact ⟨rfl, HG.out⟩

set_option maxHeartbeats 4000000 in
theorem eqOpening_d (o : OD) (cR : Option Addr) (pR : Nat) (cT : Option Addr) (pT : Nat) (cQ : Option Addr) (pQ : Nat) (cR' : Option Addr) (pR' : Nat) (cT' : Option Addr) (pT' : Nat) (cQ' : Option Addr) (pQ' : Nat) (w : World) (h : Hid (OpV w o cR pR cT pT cQ pQ)) (h' : Hid (OpV w o cR' pR' cT' pT' cQ' pQ')) (hs : Hid o.small) :
    Calls Tryz.prog 26 #[.agg #[.slice cR o.nr pR, .slice cT o.nt pT, .int .i64 o.la, .int .i64 o.lb, .int .i64 o.no, .slice cQ o.nq pQ], .agg #[.slice cR' o.nr pR', .slice cT' o.nt pT', .int .i64 o.la, .int .i64 o.lb, .int .i64 o.no, .slice cQ' o.nq pQ']] w fun e w' => e = .returned (.bool true) ∧ Chg nob w w' := by
  have R0 := hik (rowIs_keep (rowN_new w 6 #[.slice cR o.nr pR, .slice cT o.nt pT, .int .i64 o.la, .int .i64 o.lb, .int .i64 o.no, .slice cQ o.nq pQ] 35 rfl) ((Chg.refl nob _).alloc (.cells #[.slice cR' o.nr pR', .slice cT' o.nt pT', .int .i64 o.la, .int .i64 o.lb, .int .i64 o.no, .slice cQ' o.nq pQ'] 35)))
  have R1 := hik (rowN_new (w.alloc (.cells #[.slice cR o.nr pR, .slice cT o.nt pT, .int .i64 o.la, .int .i64 o.lb, .int .i64 o.no, .slice cQ o.nq pQ] 35)) 6 #[.slice cR' o.nr pR', .slice cT' o.nt pT', .int .i64 o.la, .int .i64 o.lb, .int .i64 o.no, .slice cQ' o.nq pQ'] 35 rfl)
  have K0 := hik (((Chg.refl nob w).alloc (.cells #[.slice cR o.nr pR, .slice cT o.nt pT, .int .i64 o.la, .int .i64 o.lb, .int .i64 o.no, .slice cQ o.nq pQ] 35)).alloc (.cells #[.slice cR' o.nr pR', .slice cT' o.nt pT', .int .i64 o.la, .int .i64 o.lb, .int .i64 o.no, .slice cQ' o.nq pQ'] 35))
  rw [asz] at R1
  go_enter Tryz.func26, Tryz.ntmps26
  go_wp2_with fail
  generalize hW : (w.alloc (.cells #[.slice cR o.nr pR, .slice cT o.nt pT, .int .i64 o.la, .int .i64 o.lb, .int .i64 o.no, .slice cQ o.nq pQ] 35)).alloc (.cells #[.slice cR' o.nr pR', .slice cT' o.nt pT', .int .i64 o.la, .int .i64 o.lb, .int .i64 o.no, .slice cQ' o.nq pQ'] 35) = W0 at R0 R1 K0 ⊢
  clear hW
  refine (eqExtSS_d cR cR' o.nr pR pR' o.rl o.rf o.rg _ (hik (h.out.1.keep K0.out)) (hik (h'.out.1.keep K0.out)) (hik hs.out.1)).mono ?_
  rintro e W1 ⟨rfl, k1⟩
  have G1 := hik (K0.out.trans k1)
  replace R0 := hik (rowIs_keep R0.out k1)
  replace R1 := hik (rowIs_keep R1.out k1)
  clear k1
  have x1 : _ = some (.slice cT o.nt pT : Value) := R0.out.cell (i := 1) (by omega)
  have y1 : _ = some (.slice cT' o.nt pT' : Value) := R1.out.cell (i := 1) (by omega)
  go_wp2_with fail
  refine (eqStringS_d cT cT' o.nt pT pT' o.ts _ (hik (h.out.2.1.keep G1.out)) (hik (h'.out.2.1.keep G1.out)) hs.out.2.1.1).mono ?_
  rintro e W2 ⟨rfl, k2⟩
  have G2 := hik (G1.out.trans k2)
  replace R0 := hik (rowIs_keep R0.out k2)
  replace R1 := hik (rowIs_keep R1.out k2)
  clear k2 x1 y1
  have x2 : _ = some (.int .i64 o.la : Value) := R0.out.cell (i := 2) (by omega)
  have x3 : _ = some (.int .i64 o.lb : Value) := R0.out.cell (i := 3) (by omega)
  have y2 : _ = some (.int .i64 o.la : Value) := R1.out.cell (i := 2) (by omega)
  have y3 : _ = some (.int .i64 o.lb : Value) := R1.out.cell (i := 3) (by omega)
  go_wp2_with fail
  refine (eqExt_any o.la o.lb _).mono ?_
  rintro e W3 ⟨rfl, k3⟩
  have G3 := hik (G2.out.trans k3)
  replace R0 := hik (rowIs_keep R0.out k3)
  replace R1 := hik (rowIs_keep R1.out k3)
  clear k3 x2 x3 y2 y3
  have x4 : _ = some (.int .i64 o.no : Value) := R0.out.cell (i := 4) (by omega)
  have y4 : _ = some (.int .i64 o.no : Value) := R1.out.cell (i := 4) (by omega)
  have x5 : _ = some (.slice cQ o.nq pQ : Value) := R0.out.cell (i := 5) (by omega)
  have y5 : _ = some (.slice cQ' o.nq pQ' : Value) := R1.out.cell (i := 5) (by omega)
  go_wp2_with fail
  refine (eqQueryS_d cQ cQ' o.nq pQ pQ' o.q _ (hik (h.out.2.2.keep G3.out)) (hik (h'.out.2.2.keep G3.out)) (hik hs.out.2.2)).mono ?_
  rintro e W4 ⟨rfl, k4⟩
  have G4 := hik (G3.out.trans k4)
  clear k4 x4 y4 x5 y5
  go_wp2
  go_ret
  exact ⟨rfl, G4.out⟩

end Go.Proofs.YtppiilbcnkphbaaGreat
