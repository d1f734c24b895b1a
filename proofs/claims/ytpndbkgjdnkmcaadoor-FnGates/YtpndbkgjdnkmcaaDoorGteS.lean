/- A gate's text: the model's contracts. No condition. -/
import Derived.Test.YtpndbkgjdnkmcaaDoorRows
import Derived.Test.YtpndbkgjdnkmcaaDoorBzar
import Derived.Test.YtpndbkgjdnkmcaaDoorBzab
import Derived.Test.YtpndbkgjdnkmcaaDoorBzav
import Derived.Test.YtpndbkgjdnkmcaaDoorBzbd
import Derived.Laws.IdiomStrings
import Derived.Deep.DeepCutAuto
namespace Go.Proofs.YtpndbkgjdnkmcaaDoor
open Go.ChangeShapes Go.WideShapes Go.ChangeAt Go.RowKit
set_option linter.unusedVariables false
set_option maxRecDepth 100000
set_option linter.unusedSimpArgs false

set_option maxHeartbeats 1000000 in
theorem sNames_any (w : World) : Calls Tryd.prog 24 #[] w fun e w' => ∃ b : Nat, e = .returned (.slice (some ⟨b, 0, none⟩) 9 9) ∧ (∀ j : Nat, j < 9 → w'.cell? ⟨b, j, none⟩ = some (.string ⟨(gwd j).toArray⟩)) ∧ Chg nob w w' := by
  go_enter Tryd.func24, Tryd.ntmps24
  go_wp2
  go_ret
  refine ⟨w.heap.size, rfl, fun j hj => ?_, (Chg.refl nob w).alloc _⟩
  rcases (show j = 0 ∨ j = 1 ∨ j = 2 ∨ j = 3 ∨ j = 4 ∨ j = 5 ∨ j = 6 ∨ j = 7 ∨ j = 8 by omega) with rfl | rfl | rfl | rfl | rfl | rfl | rfl | rfl | rfl <;> first | rfl | (simp [gwd]; done)
theorem conv1 (w : World) (g d : Nat) (hd : d < 10) (h : w.cell? ⟨g, 0, none⟩ = some (.int .u8 (48 + (d : Int)))) : (convert 28 9 (.slice (some ⟨g, 0, none⟩) 1 1)).run Tryd.prog w = .ok (.string ⟨[UInt8.ofNat (48 + d)].toArray⟩) w := by
  refine run_convert_bytes_back w 28 9 5 ⟨g, 0, none⟩ 1 [UInt8.ofNat (48 + d)] Tryd.underlying28 Tryd.underlying5 Tryd.underlying9 (fun j hj => ?_)
  obtain rfl : j = 0 := by simpa using hj
  have e : ((UInt8.ofNat (48 + d)).toNat : Int) = 48 + (d : Int) := by
    rw [UInt8.toNat_ofNat_of_lt' (by show 48 + d < 256; omega)]
    omega
  show w.cell? _ = some (.int .u8 ((UInt8.ofNat (48 + d)).toNat : Int))
  rw [e]
  exact h
theorem conv8 (rn : Nat) (h : rn < 10) (W : World) : (convert 3 5 (.int .i64 (48 + (rn : Int)))).run Tryd.prog W = .ok (.int .u8 (48 + (rn : Int))) W := by
  go_simp
  rw [IntKind.wrap_u8]
  omega
set_option maxHeartbeats 1000000 in
theorem sDigits_any (n : Nat) : n ≤ 1099511627776 → ∀ w : World, Calls Tryd.prog 26 #[.int .i64 (n : Int)] w fun e w' => e = .returned (.string ⟨(Go.Lib.decDigits n).toArray⟩) ∧ Chg nob w w' := by
  induction n using Nat.strongRecOn with
  | _ n ih =>
  intro hn w
  have e1 : ((n : Int) == -9223372036854775808) = false := by first | (simp; done) | (simp; omega)
  have e2 : ¬ (n : Int) < 0 := by omega
  by_cases q : n < 10
  · have e3 : (n : Int) < 10 := by omega
    have HD := hik (dec_small q)
    have hcv := conv1 (w.alloc (.cells #[.int .u8 (48 + (n : Int))] 5)) w.heap.size n q (by go_simp)
    rw [HD.out]
    go_enter Tryd.func26, Tryd.ntmps26
    go_wp2
    go_ret
    exact ⟨rfl, (Chg.refl nob w).alloc _⟩
  · have e3 : ¬ (n : Int) < 10 := by omega
    have HD := hik (dec_big q)
    have hih := ih (n / 10) (by omega) (by omega)
    have HL := hik (dec_len 12 (n / 10) (by have : (10 : Nat) ^ (12 + 1) = 10000000000000 := rfl; omega))
    have EQ : Int.tdiv (n : Int) 10 = ((n / 10 : Nat) : Int) := by rw [Int.tdiv_eq_ediv_of_nonneg (by omega)]; omega
    have ER : Int.tmod (n : Int) 10 = ((n % 10 : Nat) : Int) := by rw [Int.tmod_eq_emod_of_nonneg (by omega)]; omega
    have hdm : n % 10 < 10 := by omega
    have hqn : n / 10 ≤ 1099511627776 := by omega
    have hsl : ¬ 9223372036854775807 < (Go.Lib.decDigits (n / 10)).length + 1 := by have := HL.out; omega
    rw [HD.out]
    have HN := hik hn
    generalize Go.Lib.decDigits (n / 10) = ds at hih HL hsl
    generalize n / 10 = qn at hih EQ hqn
    generalize n % 10 = rn at ER hdm
    clear ih HD
    go_enter Tryd.func26, Tryd.ntmps26
    go_upto_region 7 with fail
    have KW := hik ((Chg.refl nob w).drew1)
    have SA := hik (fun (WW : World) (kW : Chg nob w WW) => (show (True) from True.intro))
    refine wp_region_held_drew (S := fun w' => True) (by kernel_rfl) True.intro (fun hHeld => ?_)
    refine wpAnyH_take (i := 0) (v := ?_) rfl (by kernel_rfl) (by kernel_rfl) (by kernel_rfl) (fun _ _ _ h => h) (Or.inl ⟨by rfl, ?_⟩) (by assumption) ?_
    rotate_left 1
    · (intro w' hSw; (try dsimp only at hSw); go_simp; try with_reducible rfl)
    try simp only [Act.put, List.setIfInBounds_toArray, List.set_cons_zero, List.set_cons_succ, List.getElem_toArray, List.getElem_cons_zero, List.getElem_cons_succ]
    refine wpAnyH_take (i := 1) (v := .int .i64 (qn : Int)) rfl (by kernel_rfl) (by kernel_rfl) (by kernel_rfl) (fun _ _ _ h => h) (Or.inl ⟨by rfl, ?_⟩) (by assumption) ?_
    · (intro w' hSw; (try dsimp only at hSw); go_simp; first | done | go_num | (rw [IntKind.wrap_i64]; omega))
    try simp only [Act.put, List.setIfInBounds_toArray, List.set_cons_zero, List.set_cons_succ, List.getElem_toArray, List.getElem_cons_zero, List.getElem_cons_succ]
    refine wpAnyH_take (i := 3) (v := ?_) rfl (by kernel_rfl) (by kernel_rfl) (by kernel_rfl) (fun _ _ _ h => h) (Or.inl ⟨by rfl, ?_⟩) (by assumption) ?_
    rotate_left 1
    · (intro w' hSw; (try dsimp only at hSw); go_simp; try with_reducible rfl)
    try simp only [Act.put, List.setIfInBounds_toArray, List.set_cons_zero, List.set_cons_succ, List.getElem_toArray, List.getElem_cons_zero, List.getElem_cons_succ]
    refine wpAnyH_take (i := 4) (v := .int .i64 (rn : Int)) rfl (by kernel_rfl) (by kernel_rfl) (by kernel_rfl) (fun _ _ _ h => h) (Or.inl ⟨by rfl, ?_⟩) (by assumption) ?_
    · (intro w' hSw; (try dsimp only at hSw); go_simp; first | done | go_num | (rw [IntKind.wrap_i64]; omega))
    try simp only [Act.put, List.setIfInBounds_toArray, List.set_cons_zero, List.set_cons_succ, List.getElem_toArray, List.getElem_cons_zero, List.getElem_cons_succ]
    refine wpAnyH_take (i := 5) (v := .int .i64 (48 + (rn : Int))) rfl (by kernel_rfl) (by kernel_rfl) (by kernel_rfl) (fun _ _ _ h => h) (Or.inl ⟨by rfl, ?_⟩) (by assumption) ?_
    · (intro w' hSw; (try dsimp only at hSw); go_simp; first | done | go_num | (rw [IntKind.wrap_i64]; omega))
    try simp only [Act.put, List.setIfInBounds_toArray, List.set_cons_zero, List.set_cons_succ, List.getElem_toArray, List.getElem_cons_zero, List.getElem_cons_succ]
    refine wpAnyH_ready (rs := [2, 6]) (by kernel_rfl) (by simp) ?_
    refine AllReadyH.cons rfl (fun K hK => ?_) ?_
    · refine stepL_callN 26 #[.tmp 19] #[3] (by rfl) (by rfl) #[.int .i64 (qn : Int)] (by simp only [List.map_toArray, List.map_cons, List.map_nil] <;> rfl) (run_go Tryd.func26 (by kernel_rfl) (by kernel_rfl) _ _) (hih _) ?_
      rintro e U1 ⟨he, kk⟩
      refine ⟨_, he, ?_⟩
      replace KW := hik (KW.out.trans kk)
      refine hK.out _ _ (SA.out _ KW.out) (fun hHeld => ?_)
      clear hK K
      try simp only [Act.put, List.setIfInBounds_toArray, List.set_cons_zero, List.set_cons_succ, List.getElem_toArray, List.getElem_cons_zero, List.getElem_cons_succ]
      clear he kk
      refine wpAnyH_ready (rs := [6]) (by kernel_rfl) (by simp) ?_
      refine AllReadyH.cons rfl (fun K hK => ?_) AllReadyH.nil
      refine stepL_conv 3 5 (.tmp 23) (by rfl) (by rfl) (.int .i64 (48 + (rn : Int))) (.int .u8 (48 + (rn : Int))) _ (by rfl) (conv8 rn hdm _) ?_
      refine hK.out _ _ (SA.out _ KW.out) (fun hHeld => ?_)
      clear hK K
      try simp only [Act.put, List.setIfInBounds_toArray, List.set_cons_zero, List.set_cons_succ, List.getElem_toArray, List.getElem_cons_zero, List.getElem_cons_succ]
      refine wpAnyH_ready (rs := [7]) (by kernel_rfl) (by simp) ?_
      refine AllReadyH.cons rfl (fun K hK => ?_) AllReadyH.nil
      simp only [List.getElem_toArray, List.getElem_cons_zero, List.getElem_cons_succ]
      go_simp
      have CB : Hid (World.cell? (World.alloc U1 (.cells #[.int .u8 (48 + (rn : Int))] 5)) ⟨U1.heap.size, 0, none⟩ = some (.int .u8 (48 + (rn : Int)))) := hik (by go_simp)
      replace KW : Hid (Chg nob w (World.alloc U1 (.cells #[.int .u8 (48 + (rn : Int))] 5))) := hik (KW.out.alloc _)
      generalize hUA : (World.alloc U1 (.cells #[.int .u8 (48 + (rn : Int))] 5)) = UA at CB KW ⊢
      clear hUA
      generalize U1.heap.size = gA at CB ⊢
      refine hK.out _ _ (SA.out _ KW.out) (fun hHeld => ?_)
      clear hK K
      try simp only [Act.put, List.setIfInBounds_toArray, List.set_cons_zero, List.set_cons_succ, List.getElem_toArray, List.getElem_cons_zero, List.getElem_cons_succ]
      refine wpAnyH_ready (rs := [8]) (by kernel_rfl) (by simp) ?_
      refine AllReadyH.cons rfl (fun K hK => ?_) AllReadyH.nil
      refine stepL_conv 28 9 (.tmp 25) (by rfl) (by rfl) _ _ _ (by rfl) (conv1 _ gA rn hdm CB.out) ?_
      refine hK.out _ _ (SA.out _ KW.out) (fun hHeld => ?_)
      clear hK K
      try simp only [Act.put, List.setIfInBounds_toArray, List.set_cons_zero, List.set_cons_succ, List.getElem_toArray, List.getElem_cons_zero, List.getElem_cons_succ]
      refine wpAnyH_take (i := 9) (v := .string ⟨(ds ++ [UInt8.ofNat (48 + rn)]).toArray⟩) rfl (by kernel_rfl) (by kernel_rfl) (by kernel_rfl) (fun _ _ _ h => h) (Or.inl ⟨by rfl, ?_⟩) (by assumption) ?_
      · (intro w' hSw; (try dsimp only at hSw); go_simp; first | done | rfl | (rw [← ba_app]; rfl))
      try simp only [Act.put, List.setIfInBounds_toArray, List.set_cons_zero, List.set_cons_succ, List.getElem_toArray, List.getElem_cons_zero, List.getElem_cons_succ]
      refine wpAnyH_take (i := 10) (v := ?_) rfl (by kernel_rfl) (by kernel_rfl) (by kernel_rfl) (fun _ _ _ h => h) (Or.inl ⟨by rfl, ?_⟩) (by assumption) ?_
      rotate_left 1
      · (intro w' hSw; (try dsimp only at hSw); go_simp; try with_reducible rfl)
      try simp only [Act.put, List.setIfInBounds_toArray, List.set_cons_zero, List.set_cons_succ, List.getElem_toArray, List.getElem_cons_zero, List.getElem_cons_succ]
      refine wpAnyH_done (by kernel_rfl) ?_ _
      clear SA
      go_wp2
      go_ret
      exact ⟨by first | rfl | (rw [← ba_app]; done), KW.out⟩
    · refine AllReadyH.cons rfl (fun K hK => ?_) AllReadyH.nil
      refine stepL_conv 3 5 (.tmp 23) (by rfl) (by rfl) (.int .i64 (48 + (rn : Int))) (.int .u8 (48 + (rn : Int))) _ (by rfl) (conv8 rn hdm _) ?_
      refine hK.out _ _ (SA.out _ KW.out) (fun hHeld => ?_)
      clear hK K
      try simp only [Act.put, List.setIfInBounds_toArray, List.set_cons_zero, List.set_cons_succ, List.getElem_toArray, List.getElem_cons_zero, List.getElem_cons_succ]
      refine wpAnyH_ready (rs := [2, 7]) (by kernel_rfl) (by simp) ?_
      refine AllReadyH.cons rfl (fun K hK => ?_) ?_
      · refine stepL_callN 26 #[.tmp 19] #[3] (by rfl) (by rfl) #[.int .i64 (qn : Int)] (by simp only [List.map_toArray, List.map_cons, List.map_nil] <;> rfl) (run_go Tryd.func26 (by kernel_rfl) (by kernel_rfl) _ _) (hih _) ?_
        rintro e U1 ⟨he, kk⟩
        refine ⟨_, he, ?_⟩
        replace KW := hik (KW.out.trans kk)
        refine hK.out _ _ (SA.out _ KW.out) (fun hHeld => ?_)
        clear hK K
        try simp only [Act.put, List.setIfInBounds_toArray, List.set_cons_zero, List.set_cons_succ, List.getElem_toArray, List.getElem_cons_zero, List.getElem_cons_succ]
        clear he kk
        refine wpAnyH_ready (rs := [7]) (by kernel_rfl) (by simp) ?_
        refine AllReadyH.cons rfl (fun K hK => ?_) AllReadyH.nil
        simp only [List.getElem_toArray, List.getElem_cons_zero, List.getElem_cons_succ]
        go_simp
        have CB : Hid (World.cell? (World.alloc U1 (.cells #[.int .u8 (48 + (rn : Int))] 5)) ⟨U1.heap.size, 0, none⟩ = some (.int .u8 (48 + (rn : Int)))) := hik (by go_simp)
        replace KW : Hid (Chg nob w (World.alloc U1 (.cells #[.int .u8 (48 + (rn : Int))] 5))) := hik (KW.out.alloc _)
        generalize hUA : (World.alloc U1 (.cells #[.int .u8 (48 + (rn : Int))] 5)) = UA at CB KW ⊢
        clear hUA
        generalize U1.heap.size = gA at CB ⊢
        refine hK.out _ _ (SA.out _ KW.out) (fun hHeld => ?_)
        clear hK K
        try simp only [Act.put, List.setIfInBounds_toArray, List.set_cons_zero, List.set_cons_succ, List.getElem_toArray, List.getElem_cons_zero, List.getElem_cons_succ]
        refine wpAnyH_ready (rs := [8]) (by kernel_rfl) (by simp) ?_
        refine AllReadyH.cons rfl (fun K hK => ?_) AllReadyH.nil
        refine stepL_conv 28 9 (.tmp 25) (by rfl) (by rfl) _ _ _ (by rfl) (conv1 _ gA rn hdm CB.out) ?_
        refine hK.out _ _ (SA.out _ KW.out) (fun hHeld => ?_)
        clear hK K
        try simp only [Act.put, List.setIfInBounds_toArray, List.set_cons_zero, List.set_cons_succ, List.getElem_toArray, List.getElem_cons_zero, List.getElem_cons_succ]
        refine wpAnyH_take (i := 9) (v := .string ⟨(ds ++ [UInt8.ofNat (48 + rn)]).toArray⟩) rfl (by kernel_rfl) (by kernel_rfl) (by kernel_rfl) (fun _ _ _ h => h) (Or.inl ⟨by rfl, ?_⟩) (by assumption) ?_
        · (intro w' hSw; (try dsimp only at hSw); go_simp; first | done | rfl | (rw [← ba_app]; rfl))
        try simp only [Act.put, List.setIfInBounds_toArray, List.set_cons_zero, List.set_cons_succ, List.getElem_toArray, List.getElem_cons_zero, List.getElem_cons_succ]
        refine wpAnyH_take (i := 10) (v := ?_) rfl (by kernel_rfl) (by kernel_rfl) (by kernel_rfl) (fun _ _ _ h => h) (Or.inl ⟨by rfl, ?_⟩) (by assumption) ?_
        rotate_left 1
        · (intro w' hSw; (try dsimp only at hSw); go_simp; try with_reducible rfl)
        try simp only [Act.put, List.setIfInBounds_toArray, List.set_cons_zero, List.set_cons_succ, List.getElem_toArray, List.getElem_cons_zero, List.getElem_cons_succ]
        refine wpAnyH_done (by kernel_rfl) ?_ _
        clear SA
        go_wp2
        go_ret
        exact ⟨by first | rfl | (rw [← ba_app]; done), KW.out⟩
      · refine AllReadyH.cons rfl (fun K hK => ?_) AllReadyH.nil
        simp only [List.getElem_toArray, List.getElem_cons_zero, List.getElem_cons_succ]
        go_simp
        have CB : Hid (World.cell? (World.alloc w (.cells #[.int .u8 (48 + (rn : Int))] 5)).drew ⟨w.heap.size, 0, none⟩ = some (.int .u8 (48 + (rn : Int)))) := hik (by go_simp)
        replace KW : Hid (Chg nob w (World.alloc w (.cells #[.int .u8 (48 + (rn : Int))] 5)).drew) := hik (((Chg.refl nob w).alloc _).drew1)
        generalize hUA : (World.alloc w (.cells #[.int .u8 (48 + (rn : Int))] 5)).drew = UA at CB KW ⊢
        clear hUA
        generalize w.heap.size = gA at CB ⊢
        refine hK.out _ _ (SA.out _ KW.out) (fun hHeld => ?_)
        clear hK K
        try simp only [Act.put, List.setIfInBounds_toArray, List.set_cons_zero, List.set_cons_succ, List.getElem_toArray, List.getElem_cons_zero, List.getElem_cons_succ]
        refine wpAnyH_ready (rs := [2, 8]) (by kernel_rfl) (by simp) ?_
        refine AllReadyH.cons rfl (fun K hK => ?_) ?_
        · refine stepL_callN 26 #[.tmp 19] #[3] (by rfl) (by rfl) #[.int .i64 (qn : Int)] (by simp only [List.map_toArray, List.map_cons, List.map_nil] <;> rfl) (run_go Tryd.func26 (by kernel_rfl) (by kernel_rfl) _ _) (hih _) ?_
          rintro e U1 ⟨he, kk⟩
          replace CB := hik (kk.look CB.out)
          refine ⟨_, he, ?_⟩
          replace KW := hik (KW.out.trans kk)
          refine hK.out _ _ (SA.out _ KW.out) (fun hHeld => ?_)
          clear hK K
          try simp only [Act.put, List.setIfInBounds_toArray, List.set_cons_zero, List.set_cons_succ, List.getElem_toArray, List.getElem_cons_zero, List.getElem_cons_succ]
          clear he kk
          refine wpAnyH_ready (rs := [8]) (by kernel_rfl) (by simp) ?_
          refine AllReadyH.cons rfl (fun K hK => ?_) AllReadyH.nil
          refine stepL_conv 28 9 (.tmp 25) (by rfl) (by rfl) _ _ _ (by rfl) (conv1 _ gA rn hdm CB.out) ?_
          refine hK.out _ _ (SA.out _ KW.out) (fun hHeld => ?_)
          clear hK K
          try simp only [Act.put, List.setIfInBounds_toArray, List.set_cons_zero, List.set_cons_succ, List.getElem_toArray, List.getElem_cons_zero, List.getElem_cons_succ]
          refine wpAnyH_take (i := 9) (v := .string ⟨(ds ++ [UInt8.ofNat (48 + rn)]).toArray⟩) rfl (by kernel_rfl) (by kernel_rfl) (by kernel_rfl) (fun _ _ _ h => h) (Or.inl ⟨by rfl, ?_⟩) (by assumption) ?_
          · (intro w' hSw; (try dsimp only at hSw); go_simp; first | done | rfl | (rw [← ba_app]; rfl))
          try simp only [Act.put, List.setIfInBounds_toArray, List.set_cons_zero, List.set_cons_succ, List.getElem_toArray, List.getElem_cons_zero, List.getElem_cons_succ]
          refine wpAnyH_take (i := 10) (v := ?_) rfl (by kernel_rfl) (by kernel_rfl) (by kernel_rfl) (fun _ _ _ h => h) (Or.inl ⟨by rfl, ?_⟩) (by assumption) ?_
          rotate_left 1
          · (intro w' hSw; (try dsimp only at hSw); go_simp; try with_reducible rfl)
          try simp only [Act.put, List.setIfInBounds_toArray, List.set_cons_zero, List.set_cons_succ, List.getElem_toArray, List.getElem_cons_zero, List.getElem_cons_succ]
          refine wpAnyH_done (by kernel_rfl) ?_ _
          clear SA
          go_wp2
          go_ret
          exact ⟨by first | rfl | (rw [← ba_app]; done), KW.out⟩
        · refine AllReadyH.cons rfl (fun K hK => ?_) AllReadyH.nil
          refine stepL_conv 28 9 (.tmp 25) (by rfl) (by rfl) _ _ _ (by rfl) (conv1 _ gA rn hdm CB.out) ?_
          refine hK.out _ _ (SA.out _ KW.out) (fun hHeld => ?_)
          clear hK K
          try simp only [Act.put, List.setIfInBounds_toArray, List.set_cons_zero, List.set_cons_succ, List.getElem_toArray, List.getElem_cons_zero, List.getElem_cons_succ]
          refine wpAnyH_ready (rs := [2]) (by kernel_rfl) (by simp) ?_
          refine AllReadyH.cons rfl (fun K hK => ?_) AllReadyH.nil
          refine stepL_callN 26 #[.tmp 19] #[3] (by rfl) (by rfl) #[.int .i64 (qn : Int)] (by simp only [List.map_toArray, List.map_cons, List.map_nil] <;> rfl) (run_go Tryd.func26 (by kernel_rfl) (by kernel_rfl) _ _) (hih _) ?_
          rintro e U1 ⟨he, kk⟩
          replace CB := hik (kk.look CB.out)
          refine ⟨_, he, ?_⟩
          replace KW := hik (KW.out.trans kk)
          refine hK.out _ _ (SA.out _ KW.out) (fun hHeld => ?_)
          clear hK K
          try simp only [Act.put, List.setIfInBounds_toArray, List.set_cons_zero, List.set_cons_succ, List.getElem_toArray, List.getElem_cons_zero, List.getElem_cons_succ]
          clear he kk
          refine wpAnyH_take (i := 9) (v := .string ⟨(ds ++ [UInt8.ofNat (48 + rn)]).toArray⟩) rfl (by kernel_rfl) (by kernel_rfl) (by kernel_rfl) (fun _ _ _ h => h) (Or.inl ⟨by rfl, ?_⟩) (by assumption) ?_
          · (intro w' hSw; (try dsimp only at hSw); go_simp; first | done | rfl | (rw [← ba_app]; rfl))
          try simp only [Act.put, List.setIfInBounds_toArray, List.set_cons_zero, List.set_cons_succ, List.getElem_toArray, List.getElem_cons_zero, List.getElem_cons_succ]
          refine wpAnyH_take (i := 10) (v := ?_) rfl (by kernel_rfl) (by kernel_rfl) (by kernel_rfl) (fun _ _ _ h => h) (Or.inl ⟨by rfl, ?_⟩) (by assumption) ?_
          rotate_left 1
          · (intro w' hSw; (try dsimp only at hSw); go_simp; try with_reducible rfl)
          try simp only [Act.put, List.setIfInBounds_toArray, List.set_cons_zero, List.set_cons_succ, List.getElem_toArray, List.getElem_cons_zero, List.getElem_cons_succ]
          refine wpAnyH_done (by kernel_rfl) ?_ _
          clear SA
          go_wp2
          go_ret
          exact ⟨by first | rfl | (rw [← ba_app]; done), KW.out⟩

theorem dg_any (z : Int) (h0 : 0 ≤ z) (h1 : z ≤ 2130706433) (w : World) : Calls Tryd.prog 26 #[.int .i64 z] w fun e w' => e = .returned (.string ⟨(Go.Lib.itoa z).toArray⟩) ∧ Chg nob w w' := by
  obtain ⟨n, rfl⟩ := Int.eq_ofNat_of_zero_le h0
  rw [ito_nat h0]
  exact sDigits_any n (by omega) w

set_option maxHeartbeats 1000000 in
theorem sGateText_any (op ga gb gk : Int) (w : World) : Calls Tryd.prog 10 #[.agg #[.int .i64 op, .int .i64 ga, .int .i64 gb, .int .i64 gk]] w fun e w' => e = .returned (.tuple #[.string ⟨(gxt (op, ga, gb, gk)).toArray⟩, .int .i64 (gxc (op, ga, gb, gk))]) ∧ Chg nob w w' := by
  have KB := hik ((Chg.refl nob w).alloc (.cells #[.int .i64 op, .int .i64 ga, .int .i64 gb, .int .i64 gk] 23))
  have hr := sGate_any (op, ga, gb, gk) 15 (w.alloc (.cells #[.int .i64 op, .int .i64 ga, .int .i64 gb, .int .i64 gk] 23)) (by omega) (by omega)
  dsimp only at hr
  have x0 : World.cell? (w.alloc (.cells #[.int .i64 op, .int .i64 ga, .int .i64 gb, .int .i64 gk] 23)) ⟨w.heap.size, 0, none⟩ = some (.int .i64 op) := by go_simp
  have x1 : World.cell? (w.alloc (.cells #[.int .i64 op, .int .i64 ga, .int .i64 gb, .int .i64 gk] 23)) ⟨w.heap.size, 1, none⟩ = some (.int .i64 ga) := by go_simp
  have x2 : World.cell? (w.alloc (.cells #[.int .i64 op, .int .i64 ga, .int .i64 gb, .int .i64 gk] 23)) ⟨w.heap.size, 2, none⟩ = some (.int .i64 gb) := by go_simp
  have x3 : World.cell? (w.alloc (.cells #[.int .i64 op, .int .i64 ga, .int .i64 gb, .int .i64 gk] 23)) ⟨w.heap.size, 3, none⟩ = some (.int .i64 gk) := by go_simp
  cases hg : gtb 15 (op, ga, gb, gk) with
  | false =>
    have HX := hik (show gxt (op, ga, gb, gk) = [] by unfold gxt; rw [hg]; rfl)
    have HC := hik (show gxc (op, ga, gb, gk) = 1 by unfold gxc; rw [hg]; rfl)
    rw [hg] at hr
    rw [HX.out, HC.out]
    go_enter Tryd.func10, Tryd.ntmps10
    go_wp2_with (go_at_call 23; refine hr.mono ?_; rintro e W1 ⟨rfl, k1⟩; have K1 := hik (KB.out.trans k1); clear k1)
    go_ret2
    exact ⟨rfl, K1.out⟩
  | true =>
    have HX := hik (show gxt (op, ga, gb, gk) = gtl (op, ga, gb, gk) (gnn op) by unfold gxt; rw [hg]; rfl)
    have HC := hik (show gxc (op, ga, gb, gk) = 0 by unfold gxc; rw [hg]; rfl)
    have HNM := hik (gtb_nums hg)
    have ho : 1 ≤ op ∧ op ≤ 8 := by
      have h2 := hg
      unfold gtb at h2
      simp only [Bool.and_eq_true, decide_eq_true_eq] at h2
      exact h2.1
    rw [hg] at hr
    rw [HX.out, HC.out]
    clear HX HC hg
    obtain ⟨j, eo⟩ := Int.eq_ofNat_of_zero_le (show 0 ≤ op by omega)
    have hj9 : j < 9 := by omega
    have hj9' : (j : Int) < 9 := by omega
    have huse := fun W => sUses_any op W
    have hwl := gwd_len op
    have HWD := hik (show gwd (j : Int) = gwd op by rw [eo])
    have hnam := fun W => (sNames_any W).mono (fun e w' ⟨b, he, hc, k⟩ => (⟨b, he, by rw [← HWD.out]; exact hc j hj9, k⟩ : ∃ b : Nat, e = Ending.returned (Value.slice (some ⟨b, 0, none⟩) 9 9) ∧ World.cell? w' ⟨b, j, none⟩ = some (Value.string ⟨(gwd op).toArray⟩) ∧ Chg nob W w'))
    by_cases h3 : op = 3
    · have k0 := (HNM.out 0)
      have hn3 : gtl (op, ga, gb, gk) (gnn op) = gwd op ++ (32 :: Go.Lib.itoa gk) := by rw [show gnn op = 1 by unfold gnn; rw [if_pos h3]]; show gwd op ++ (32 :: Go.Lib.itoa (gnv (op, ga, gb, gk) 0)) = _; rw [show gnv (op, ga, gb, gk) 0 = gk by unfold gnv; rw [if_pos h3]]
      have k1 : 0 ≤ gk ∧ gk ≤ 2130706433 := by have e : gnv (op, ga, gb, gk) 0 = gk := (by unfold gnv; rw [if_pos h3]); rw [e] at k0; exact k0
      rw [hn3]
      rw [show usg op = 0 by rw [h3]; rfl] at huse
      have hdg := fun W => dg_any gk k1.1 k1.2 W
      have hl2 := ito_len k1.1 k1.2
      clear hn3 k0 k1 HNM HWD hj9'
      obtain rfl : j = 3 := by omega
      subst h3
      clear eo
      generalize Go.Lib.itoa gk = ds at hdg hl2 ⊢
      generalize gwd 3 = Wd at hnam hwl ⊢
      have hs1 : ¬ 9223372036854775807 < 1 + ds.length := by omega
      have hs2 : ¬ 9223372036854775807 < Wd.length + (1 + ds.length) := by omega
      go_enter Tryd.func10, Tryd.ntmps10
      go_upto_region 3 with (go_at_call 23; refine hr.mono ?_; rintro e W1 ⟨rfl, k1⟩; have K1 := hik (KB.out.trans k1); have y0 := k1.look x0; have y1 := k1.look x1; have y2 := k1.look x2; have y3 := k1.look x3; clear k1)
      clear x0 x1 x2 x3 KB hr
      have KW := hik ((Chg.refl nob W1).drew1)
      have SA := hik (fun (WW : World) (kW : Chg nob W1 WW) => (show (WW.cell? ⟨w.heap.size, 0, none⟩ = some (.int .i64 3)) from kW.see y0))
      refine wp_region_held_drew (S := fun w' => w'.cell? ⟨w.heap.size, 0, none⟩ = some (.int .i64 3)) (by kernel_rfl) y0 (fun hHeld => ?_)
      refine wpAnyH_take (i := 1) (v := ?_) rfl (by kernel_rfl) (by kernel_rfl) (by kernel_rfl) (fun _ _ _ h => h) (Or.inl ⟨by rfl, ?_⟩) (by assumption) ?_
      rotate_left 1
      · (intro w' hSw; (try dsimp only at hSw); go_simp; try with_reducible rfl)
      try simp only [Act.put, List.setIfInBounds_toArray, List.set_cons_zero, List.set_cons_succ, List.getElem_toArray, List.getElem_cons_zero, List.getElem_cons_succ]
      refine wpAnyH_take (i := 2) (v := ?_) rfl (by kernel_rfl) (by kernel_rfl) (by kernel_rfl) (fun _ _ _ h => h) (Or.inl ⟨by rfl, ?_⟩) (by assumption) ?_
      rotate_left 1
      · (intro w' hSw; (try dsimp only at hSw); go_simp; try with_reducible rfl)
      try simp only [Act.put, List.setIfInBounds_toArray, List.set_cons_zero, List.set_cons_succ, List.getElem_toArray, List.getElem_cons_zero, List.getElem_cons_succ]
      refine wpAnyH_ready (rs := [0]) (by kernel_rfl) (by simp) ?_
      refine AllReadyH.cons rfl (fun K hK => ?_) AllReadyH.nil
      refine stepL_callN 24 #[] #[] (by rfl) (by rfl) #[] (by simp only [List.map_toArray, List.map_cons, List.map_nil] <;> rfl) (run_go Tryd.func24 (by kernel_rfl) (by kernel_rfl) _ _) (hnam _) ?_
      rintro e U1 ⟨bn, he, hcn, kk⟩
      have CN := hik hcn
      clear hcn
      refine ⟨_, he, ?_⟩
      replace KW := hik (KW.out.trans kk)
      refine hK.out _ _ (SA.out _ KW.out) (fun hHeld => ?_)
      clear hK K
      try simp only [Act.put, List.setIfInBounds_toArray, List.set_cons_zero, List.set_cons_succ, List.getElem_toArray, List.getElem_cons_zero, List.getElem_cons_succ]
      clear he kk
      refine wpAnyH_ready (rs := [3]) (by kernel_rfl) (by simp) ?_
      refine AllReadyH.cons rfl (fun K hK => ?_) AllReadyH.nil
      have cn := CN.out
      simp only [List.getElem_toArray, List.getElem_cons_zero, List.getElem_cons_succ]
      go_simp
      refine hK.out _ _ (SA.out _ KW.out) (fun hHeld => ?_)
      clear hK K
      try simp only [Act.put, List.setIfInBounds_toArray, List.set_cons_zero, List.set_cons_succ, List.getElem_toArray, List.getElem_cons_zero, List.getElem_cons_succ]
      clear cn
      refine wpAnyH_ready (rs := [4]) (by kernel_rfl) (by simp) ?_
      refine AllReadyH.cons rfl (fun K hK => ?_) AllReadyH.nil
      have cn := CN.out
      simp only [List.getElem_toArray, List.getElem_cons_zero, List.getElem_cons_succ]
      go_simp
      refine hK.out _ _ (SA.out _ KW.out) (fun hHeld => ?_)
      clear hK K
      try simp only [Act.put, List.setIfInBounds_toArray, List.set_cons_zero, List.set_cons_succ, List.getElem_toArray, List.getElem_cons_zero, List.getElem_cons_succ]
      clear cn
      refine wpAnyH_ready (rs := [5]) (by kernel_rfl) (by simp) ?_
      refine AllReadyH.cons rfl (fun K hK => ?_) AllReadyH.nil
      have cn := CN.out
      simp only [List.getElem_toArray, List.getElem_cons_zero, List.getElem_cons_succ]
      go_simp
      refine hK.out _ _ (SA.out _ KW.out) (fun hHeld => ?_)
      clear hK K
      try simp only [Act.put, List.setIfInBounds_toArray, List.set_cons_zero, List.set_cons_succ, List.getElem_toArray, List.getElem_cons_zero, List.getElem_cons_succ]
      clear cn
      refine wpAnyH_done (by kernel_rfl) ?_ _
      have K2 := hik (K1.out.trans KW.out)
      have y0 := KW.out.see y0
      have y1 := KW.out.see y1
      have y2 := KW.out.see y2
      have y3 := KW.out.see y3
      clear KW SA CN
      go_wp2_with (first | (go_at_call 25; refine (huse _).mono ?_; rintro e W3 ⟨rfl, rfl⟩) | (go_at_call 26; refine (hdg _).mono ?_; rintro e W4 ⟨rfl, kk⟩; have K4 := hik (K2.out.trans kk)))
      go_ret2
      exact ⟨by (simp only [ba_app, List.append_assoc, List.cons_append, List.nil_append]); first | done | rfl, K4.out⟩
    · by_cases h8 : op = 8
      · have k1 : 0 ≤ ga ∧ ga ≤ 2130706433 := by have k0 := HNM.out 0; have e : gnv (op, ga, gb, gk) 0 = ga := (by unfold gnv; rw [if_neg h3, if_pos rfl]); rw [e] at k0; exact k0
        have hn3 : gtl (op, ga, gb, gk) (gnn op) = gwd op ++ (32 :: Go.Lib.itoa ga) := by rw [show gnn op = 1 by unfold gnn usg; rw [if_neg h3, h8]; rfl]; show gwd op ++ (32 :: Go.Lib.itoa (gnv (op, ga, gb, gk) 0)) = _; rw [show gnv (op, ga, gb, gk) 0 = ga by unfold gnv; rw [if_neg h3, if_pos rfl]]
        rw [hn3]
        rw [show usg op = 1 by rw [h8]; rfl] at huse
        have hdg := fun W => dg_any ga k1.1 k1.2 W
        have hl2 := ito_len k1.1 k1.2
        clear hn3 k1 HNM HWD h3 h8
        subst eo
        generalize Go.Lib.itoa ga = ds at hdg hl2 ⊢
        generalize gwd (j : Int) = Wd at hnam hwl ⊢
        have hs1 : ¬ 9223372036854775807 < 1 + ds.length := by omega
        have hs2 : ¬ 9223372036854775807 < Wd.length + (1 + ds.length) := by omega
        go_enter Tryd.func10, Tryd.ntmps10
        go_upto_region 3 with (go_at_call 23; refine hr.mono ?_; rintro e W1 ⟨rfl, k1⟩; have K1 := hik (KB.out.trans k1); have y0 := k1.look x0; have y1 := k1.look x1; have y2 := k1.look x2; have y3 := k1.look x3; clear k1)
        clear x0 x1 x2 x3 KB hr
        have KW := hik ((Chg.refl nob W1).drew1)
        have SA := hik (fun (WW : World) (kW : Chg nob W1 WW) => (show (WW.cell? ⟨w.heap.size, 0, none⟩ = some (.int .i64 (j : Int))) from kW.see y0))
        refine wp_region_held_drew (S := fun w' => w'.cell? ⟨w.heap.size, 0, none⟩ = some (.int .i64 (j : Int))) (by kernel_rfl) y0 (fun hHeld => ?_)
        refine wpAnyH_take (i := 1) (v := ?_) rfl (by kernel_rfl) (by kernel_rfl) (by kernel_rfl) (fun _ _ _ h => h) (Or.inl ⟨by rfl, ?_⟩) (by assumption) ?_
        rotate_left 1
        · (intro w' hSw; (try dsimp only at hSw); go_simp; try with_reducible rfl)
        try simp only [Act.put, List.setIfInBounds_toArray, List.set_cons_zero, List.set_cons_succ, List.getElem_toArray, List.getElem_cons_zero, List.getElem_cons_succ]
        refine wpAnyH_take (i := 2) (v := ?_) rfl (by kernel_rfl) (by kernel_rfl) (by kernel_rfl) (fun _ _ _ h => h) (Or.inl ⟨by rfl, ?_⟩) (by assumption) ?_
        rotate_left 1
        · (intro w' hSw; (try dsimp only at hSw); go_simp; try with_reducible rfl)
        try simp only [Act.put, List.setIfInBounds_toArray, List.set_cons_zero, List.set_cons_succ, List.getElem_toArray, List.getElem_cons_zero, List.getElem_cons_succ]
        refine wpAnyH_ready (rs := [0]) (by kernel_rfl) (by simp) ?_
        refine AllReadyH.cons rfl (fun K hK => ?_) AllReadyH.nil
        refine stepL_callN 24 #[] #[] (by rfl) (by rfl) #[] (by simp only [List.map_toArray, List.map_cons, List.map_nil] <;> rfl) (run_go Tryd.func24 (by kernel_rfl) (by kernel_rfl) _ _) (hnam _) ?_
        rintro e U1 ⟨bn, he, hcn, kk⟩
        have CN := hik hcn
        clear hcn
        refine ⟨_, he, ?_⟩
        replace KW := hik (KW.out.trans kk)
        refine hK.out _ _ (SA.out _ KW.out) (fun hHeld => ?_)
        clear hK K
        try simp only [Act.put, List.setIfInBounds_toArray, List.set_cons_zero, List.set_cons_succ, List.getElem_toArray, List.getElem_cons_zero, List.getElem_cons_succ]
        clear he kk
        refine wpAnyH_ready (rs := [3]) (by kernel_rfl) (by simp) ?_
        refine AllReadyH.cons rfl (fun K hK => ?_) AllReadyH.nil
        have cn := CN.out
        simp only [List.getElem_toArray, List.getElem_cons_zero, List.getElem_cons_succ]
        go_simp
        refine hK.out _ _ (SA.out _ KW.out) (fun hHeld => ?_)
        clear hK K
        try simp only [Act.put, List.setIfInBounds_toArray, List.set_cons_zero, List.set_cons_succ, List.getElem_toArray, List.getElem_cons_zero, List.getElem_cons_succ]
        clear cn
        refine wpAnyH_ready (rs := [4]) (by kernel_rfl) (by simp) ?_
        refine AllReadyH.cons rfl (fun K hK => ?_) AllReadyH.nil
        have cn := CN.out
        simp only [List.getElem_toArray, List.getElem_cons_zero, List.getElem_cons_succ]
        go_simp
        refine hK.out _ _ (SA.out _ KW.out) (fun hHeld => ?_)
        clear hK K
        try simp only [Act.put, List.setIfInBounds_toArray, List.set_cons_zero, List.set_cons_succ, List.getElem_toArray, List.getElem_cons_zero, List.getElem_cons_succ]
        clear cn
        refine wpAnyH_ready (rs := [5]) (by kernel_rfl) (by simp) ?_
        refine AllReadyH.cons rfl (fun K hK => ?_) AllReadyH.nil
        have cn := CN.out
        simp only [List.getElem_toArray, List.getElem_cons_zero, List.getElem_cons_succ]
        go_simp
        refine hK.out _ _ (SA.out _ KW.out) (fun hHeld => ?_)
        clear hK K
        try simp only [Act.put, List.setIfInBounds_toArray, List.set_cons_zero, List.set_cons_succ, List.getElem_toArray, List.getElem_cons_zero, List.getElem_cons_succ]
        clear cn
        refine wpAnyH_done (by kernel_rfl) ?_ _
        have K2 := hik (K1.out.trans KW.out)
        have y0 := KW.out.see y0
        have y1 := KW.out.see y1
        have y2 := KW.out.see y2
        have y3 := KW.out.see y3
        clear KW SA CN
        go_wp2_with (first | (go_at_call 25; refine (huse _).mono ?_; rintro e W3 ⟨rfl, rfl⟩) | (go_at_call 26; refine (hdg _).mono ?_; rintro e W4 ⟨rfl, kk⟩; have K4 := hik (K2.out.trans kk)))
        go_ret2
        exact ⟨by (simp only [ba_app, List.append_assoc, List.cons_append, List.nil_append]); first | done | rfl, K4.out⟩
      · by_cases h4 : 4 ≤ op
        · have k1 : 0 ≤ ga ∧ ga ≤ 2130706433 := by have k0 := HNM.out 0; have e : gnv (op, ga, gb, gk) 0 = ga := (by unfold gnv; rw [if_neg h3, if_pos rfl]); rw [e] at k0; exact k0
          have k2 : 0 ≤ gb ∧ gb ≤ 2130706433 := by have k0 := HNM.out 1; have e : gnv (op, ga, gb, gk) 1 = gb := (by unfold gnv; rw [if_neg h3, if_neg (by omega)]); rw [e] at k0; exact k0
          have hu : usg op = 2 := by unfold usg; rw [if_pos ⟨h4, by omega⟩]
          have hn3 : gtl (op, ga, gb, gk) (gnn op) = (gwd op ++ (32 :: Go.Lib.itoa ga)) ++ (32 :: Go.Lib.itoa gb) := by rw [show gnn op = 2 by unfold gnn; rw [if_neg h3, hu]; rfl]; show (gwd op ++ (32 :: Go.Lib.itoa (gnv (op, ga, gb, gk) 0))) ++ (32 :: Go.Lib.itoa (gnv (op, ga, gb, gk) 1)) = _; rw [show gnv (op, ga, gb, gk) 0 = ga by unfold gnv; rw [if_neg h3, if_pos rfl], show gnv (op, ga, gb, gk) 1 = gb by unfold gnv; rw [if_neg h3, if_neg (by omega)]]
          rw [hn3]
          rw [hu] at huse
          have hdg := fun W => dg_any ga k1.1 k1.2 W
          have hdh := fun W => dg_any gb k2.1 k2.2 W
          have hl2 := ito_len k1.1 k1.2
          have hl3 := ito_len k2.1 k2.2
          clear hn3 k1 k2 hu HNM HWD h3 h8 h4
          subst eo
          generalize Go.Lib.itoa ga = ds at hdg hl2 ⊢
          generalize Go.Lib.itoa gb = dt at hdh hl3 ⊢
          generalize gwd (j : Int) = Wd at hnam hwl ⊢
          have hs1 : ¬ 9223372036854775807 < 1 + ds.length := by omega
          have hs2 : ¬ 9223372036854775807 < 1 + ds.length + 1 := by omega
          have hs3 : ¬ 9223372036854775807 < 1 + ds.length + 1 + dt.length := by omega
          have hs4 : ¬ 9223372036854775807 < Wd.length + (1 + ds.length + 1 + dt.length) := by omega
          go_enter Tryd.func10, Tryd.ntmps10
          go_upto_region 3 with (go_at_call 23; refine hr.mono ?_; rintro e W1 ⟨rfl, k1⟩; have K1 := hik (KB.out.trans k1); have y0 := k1.look x0; have y1 := k1.look x1; have y2 := k1.look x2; have y3 := k1.look x3; clear k1)
          clear x0 x1 x2 x3 KB hr
          have KW := hik ((Chg.refl nob W1).drew1)
          have SA := hik (fun (WW : World) (kW : Chg nob W1 WW) => (show (WW.cell? ⟨w.heap.size, 0, none⟩ = some (.int .i64 (j : Int))) from kW.see y0))
          refine wp_region_held_drew (S := fun w' => w'.cell? ⟨w.heap.size, 0, none⟩ = some (.int .i64 (j : Int))) (by kernel_rfl) y0 (fun hHeld => ?_)
          refine wpAnyH_take (i := 1) (v := ?_) rfl (by kernel_rfl) (by kernel_rfl) (by kernel_rfl) (fun _ _ _ h => h) (Or.inl ⟨by rfl, ?_⟩) (by assumption) ?_
          rotate_left 1
          · (intro w' hSw; (try dsimp only at hSw); go_simp; try with_reducible rfl)
          try simp only [Act.put, List.setIfInBounds_toArray, List.set_cons_zero, List.set_cons_succ, List.getElem_toArray, List.getElem_cons_zero, List.getElem_cons_succ]
          refine wpAnyH_take (i := 2) (v := ?_) rfl (by kernel_rfl) (by kernel_rfl) (by kernel_rfl) (fun _ _ _ h => h) (Or.inl ⟨by rfl, ?_⟩) (by assumption) ?_
          rotate_left 1
          · (intro w' hSw; (try dsimp only at hSw); go_simp; try with_reducible rfl)
          try simp only [Act.put, List.setIfInBounds_toArray, List.set_cons_zero, List.set_cons_succ, List.getElem_toArray, List.getElem_cons_zero, List.getElem_cons_succ]
          refine wpAnyH_ready (rs := [0]) (by kernel_rfl) (by simp) ?_
          refine AllReadyH.cons rfl (fun K hK => ?_) AllReadyH.nil
          refine stepL_callN 24 #[] #[] (by rfl) (by rfl) #[] (by simp only [List.map_toArray, List.map_cons, List.map_nil] <;> rfl) (run_go Tryd.func24 (by kernel_rfl) (by kernel_rfl) _ _) (hnam _) ?_
          rintro e U1 ⟨bn, he, hcn, kk⟩
          have CN := hik hcn
          clear hcn
          refine ⟨_, he, ?_⟩
          replace KW := hik (KW.out.trans kk)
          refine hK.out _ _ (SA.out _ KW.out) (fun hHeld => ?_)
          clear hK K
          try simp only [Act.put, List.setIfInBounds_toArray, List.set_cons_zero, List.set_cons_succ, List.getElem_toArray, List.getElem_cons_zero, List.getElem_cons_succ]
          clear he kk
          refine wpAnyH_ready (rs := [3]) (by kernel_rfl) (by simp) ?_
          refine AllReadyH.cons rfl (fun K hK => ?_) AllReadyH.nil
          have cn := CN.out
          simp only [List.getElem_toArray, List.getElem_cons_zero, List.getElem_cons_succ]
          go_simp
          refine hK.out _ _ (SA.out _ KW.out) (fun hHeld => ?_)
          clear hK K
          try simp only [Act.put, List.setIfInBounds_toArray, List.set_cons_zero, List.set_cons_succ, List.getElem_toArray, List.getElem_cons_zero, List.getElem_cons_succ]
          clear cn
          refine wpAnyH_ready (rs := [4]) (by kernel_rfl) (by simp) ?_
          refine AllReadyH.cons rfl (fun K hK => ?_) AllReadyH.nil
          have cn := CN.out
          simp only [List.getElem_toArray, List.getElem_cons_zero, List.getElem_cons_succ]
          go_simp
          refine hK.out _ _ (SA.out _ KW.out) (fun hHeld => ?_)
          clear hK K
          try simp only [Act.put, List.setIfInBounds_toArray, List.set_cons_zero, List.set_cons_succ, List.getElem_toArray, List.getElem_cons_zero, List.getElem_cons_succ]
          clear cn
          refine wpAnyH_ready (rs := [5]) (by kernel_rfl) (by simp) ?_
          refine AllReadyH.cons rfl (fun K hK => ?_) AllReadyH.nil
          have cn := CN.out
          simp only [List.getElem_toArray, List.getElem_cons_zero, List.getElem_cons_succ]
          go_simp
          refine hK.out _ _ (SA.out _ KW.out) (fun hHeld => ?_)
          clear hK K
          try simp only [Act.put, List.setIfInBounds_toArray, List.set_cons_zero, List.set_cons_succ, List.getElem_toArray, List.getElem_cons_zero, List.getElem_cons_succ]
          clear cn
          refine wpAnyH_done (by kernel_rfl) ?_ _
          have K2 := hik (K1.out.trans KW.out)
          have y0 := KW.out.see y0
          have y1 := KW.out.see y1
          have y2 := KW.out.see y2
          have y3 := KW.out.see y3
          clear KW SA CN
          go_upto_region 8 with (go_at_call 25; refine (huse _).mono ?_; rintro e W3 ⟨rfl, rfl⟩)
          have KW := hik ((Chg.refl nob W3).drew1)
          have SA := hik (fun (WW : World) (kW : Chg nob W3 WW) => (show (WW.cell? ⟨w.heap.size, 1, none⟩ = some (.int .i64 ga) ∧ WW.cell? ⟨w.heap.size, 2, none⟩ = some (.int .i64 gb)) from ⟨kW.see y1, kW.see y2⟩))
          refine wp_region_held_drew (S := fun w' => w'.cell? ⟨w.heap.size, 1, none⟩ = some (.int .i64 ga) ∧ w'.cell? ⟨w.heap.size, 2, none⟩ = some (.int .i64 gb)) (by kernel_rfl) ⟨y1, y2⟩ (fun hHeld => ?_)
          refine wpAnyH_take (i := 0) (v := ?_) rfl (by kernel_rfl) (by kernel_rfl) (by kernel_rfl) (fun _ _ _ h => h) (Or.inl ⟨by rfl, ?_⟩) (by assumption) ?_
          rotate_left 1
          · (intro w' hSw; (try dsimp only at hSw); go_simp; try with_reducible rfl)
          try simp only [Act.put, List.setIfInBounds_toArray, List.set_cons_zero, List.set_cons_succ, List.getElem_toArray, List.getElem_cons_zero, List.getElem_cons_succ]
          refine wpAnyH_take (i := 1) (v := ?_) rfl (by kernel_rfl) (by kernel_rfl) (by kernel_rfl) (fun _ _ _ h => h) (Or.inl ⟨by rfl, ?_⟩) (by assumption) ?_
          rotate_left 1
          · (intro w' hSw; (try dsimp only at hSw); go_simp; try with_reducible rfl)
          try simp only [Act.put, List.setIfInBounds_toArray, List.set_cons_zero, List.set_cons_succ, List.getElem_toArray, List.getElem_cons_zero, List.getElem_cons_succ]
          refine wpAnyH_take (i := 2) (v := ?_) rfl (by kernel_rfl) (by kernel_rfl) (by kernel_rfl) (fun _ _ _ h => h) (Or.inl ⟨by rfl, ?_⟩) (by assumption) ?_
          rotate_left 1
          · (intro w' hSw; (try dsimp only at hSw); go_simp; try with_reducible rfl)
          try simp only [Act.put, List.setIfInBounds_toArray, List.set_cons_zero, List.set_cons_succ, List.getElem_toArray, List.getElem_cons_zero, List.getElem_cons_succ]
          refine wpAnyH_take (i := 6) (v := ?_) rfl (by kernel_rfl) (by kernel_rfl) (by kernel_rfl) (fun _ _ _ h => h) (Or.inl ⟨by rfl, ?_⟩) (by assumption) ?_
          rotate_left 1
          · (intro w' hSw; (try dsimp only at hSw); go_simp; try with_reducible rfl)
          try simp only [Act.put, List.setIfInBounds_toArray, List.set_cons_zero, List.set_cons_succ, List.getElem_toArray, List.getElem_cons_zero, List.getElem_cons_succ]
          refine wpAnyH_take (i := 7) (v := ?_) rfl (by kernel_rfl) (by kernel_rfl) (by kernel_rfl) (fun _ _ _ h => h) (Or.inl ⟨by rfl, ?_⟩) (by assumption) ?_
          rotate_left 1
          · (intro w' hSw; (try dsimp only at hSw); go_simp; try with_reducible rfl)
          try simp only [Act.put, List.setIfInBounds_toArray, List.set_cons_zero, List.set_cons_succ, List.getElem_toArray, List.getElem_cons_zero, List.getElem_cons_succ]
          refine wpAnyH_ready (rs := [3]) (by kernel_rfl) (by simp) ?_
          refine AllReadyH.cons rfl (fun K hK => ?_) AllReadyH.nil
          refine stepL_callN 26 #[.tmp 29] #[3] (by rfl) (by rfl) #[.int .i64 ga] (by simp only [List.map_toArray, List.map_cons, List.map_nil] <;> rfl) (run_go Tryd.func26 (by kernel_rfl) (by kernel_rfl) _ _) (hdg _) ?_
          rintro e V1 ⟨he, kk⟩
          refine ⟨_, he, ?_⟩
          replace KW := hik (KW.out.trans kk)
          refine hK.out _ _ (SA.out _ KW.out) (fun hHeld => ?_)
          clear hK K
          try simp only [Act.put, List.setIfInBounds_toArray, List.set_cons_zero, List.set_cons_succ, List.getElem_toArray, List.getElem_cons_zero, List.getElem_cons_succ]
          clear he kk
          refine wpAnyH_take (i := 4) (v := ?_) rfl (by kernel_rfl) (by kernel_rfl) (by kernel_rfl) (fun _ _ _ h => h) (Or.inl ⟨by rfl, ?_⟩) (by assumption) ?_
          rotate_left 1
          · (intro w' hSw; (try dsimp only at hSw); go_simp; try with_reducible rfl)
          try simp only [Act.put, List.setIfInBounds_toArray, List.set_cons_zero, List.set_cons_succ, List.getElem_toArray, List.getElem_cons_zero, List.getElem_cons_succ]
          refine wpAnyH_take (i := 5) (v := ?_) rfl (by kernel_rfl) (by kernel_rfl) (by kernel_rfl) (fun _ _ _ h => h) (Or.inl ⟨by rfl, ?_⟩) (by assumption) ?_
          rotate_left 1
          · (intro w' hSw; (try dsimp only at hSw); go_simp; try with_reducible rfl)
          try simp only [Act.put, List.setIfInBounds_toArray, List.set_cons_zero, List.set_cons_succ, List.getElem_toArray, List.getElem_cons_zero, List.getElem_cons_succ]
          refine wpAnyH_ready (rs := [8]) (by kernel_rfl) (by simp) ?_
          refine AllReadyH.cons rfl (fun K hK => ?_) AllReadyH.nil
          refine stepL_callN 26 #[.tmp 34] #[3] (by rfl) (by rfl) #[.int .i64 gb] (by simp only [List.map_toArray, List.map_cons, List.map_nil] <;> rfl) (run_go Tryd.func26 (by kernel_rfl) (by kernel_rfl) _ _) (hdh _) ?_
          rintro e V2 ⟨he, kk⟩
          refine ⟨_, he, ?_⟩
          replace KW := hik (KW.out.trans kk)
          refine hK.out _ _ (SA.out _ KW.out) (fun hHeld => ?_)
          clear hK K
          try simp only [Act.put, List.setIfInBounds_toArray, List.set_cons_zero, List.set_cons_succ, List.getElem_toArray, List.getElem_cons_zero, List.getElem_cons_succ]
          clear he kk
          refine wpAnyH_take (i := 9) (v := ?_) rfl (by kernel_rfl) (by kernel_rfl) (by kernel_rfl) (fun _ _ _ h => h) (Or.inl ⟨by rfl, ?_⟩) (by assumption) ?_
          rotate_left 1
          · (intro w' hSw; (try dsimp only at hSw); go_simp; try with_reducible rfl)
          try simp only [Act.put, List.setIfInBounds_toArray, List.set_cons_zero, List.set_cons_succ, List.getElem_toArray, List.getElem_cons_zero, List.getElem_cons_succ]
          refine wpAnyH_take (i := 10) (v := ?_) rfl (by kernel_rfl) (by kernel_rfl) (by kernel_rfl) (fun _ _ _ h => h) (Or.inl ⟨by rfl, ?_⟩) (by assumption) ?_
          rotate_left 1
          · (intro w' hSw; (try dsimp only at hSw); go_simp; try with_reducible rfl)
          try simp only [Act.put, List.setIfInBounds_toArray, List.set_cons_zero, List.set_cons_succ, List.getElem_toArray, List.getElem_cons_zero, List.getElem_cons_succ]
          refine wpAnyH_take (i := 11) (v := ?_) rfl (by kernel_rfl) (by kernel_rfl) (by kernel_rfl) (fun _ _ _ h => h) (Or.inl ⟨by rfl, ?_⟩) (by assumption) ?_
          rotate_left 1
          · (intro w' hSw; (try dsimp only at hSw); go_simp; try with_reducible rfl)
          try simp only [Act.put, List.setIfInBounds_toArray, List.set_cons_zero, List.set_cons_succ, List.getElem_toArray, List.getElem_cons_zero, List.getElem_cons_succ]
          refine wpAnyH_done (by kernel_rfl) ?_ _
          have K5 := hik (K2.out.trans KW.out)
          clear KW SA
          go_wp2
          go_ret2
          exact ⟨by (simp only [ba_app, List.append_assoc, List.cons_append, List.nil_append]); first | done | rfl, K5.out⟩
        · have hu : usg op = 0 := by unfold usg; rw [if_neg (by omega), if_neg h8]
          have hn3 : gtl (op, ga, gb, gk) (gnn op) = gwd op := by rw [show gnn op = 0 by unfold gnn; rw [if_neg h3, hu]; rfl]; rfl
          rw [hn3]
          rw [hu] at huse
          have h3' : ((op == 3) = false) := by simpa using h3
          clear hn3 hu HNM HWD h8 h4
          subst eo
          generalize gwd (j : Int) = Wd at hnam hwl ⊢
          go_enter Tryd.func10, Tryd.ntmps10
          go_upto_region 3 with (go_at_call 23; refine hr.mono ?_; rintro e W1 ⟨rfl, k1⟩; have K1 := hik (KB.out.trans k1); have y0 := k1.look x0; have y1 := k1.look x1; have y2 := k1.look x2; have y3 := k1.look x3; clear k1)
          clear x0 x1 x2 x3 KB hr
          have KW := hik ((Chg.refl nob W1).drew1)
          have SA := hik (fun (WW : World) (kW : Chg nob W1 WW) => (show (WW.cell? ⟨w.heap.size, 0, none⟩ = some (.int .i64 (j : Int))) from kW.see y0))
          refine wp_region_held_drew (S := fun w' => w'.cell? ⟨w.heap.size, 0, none⟩ = some (.int .i64 (j : Int))) (by kernel_rfl) y0 (fun hHeld => ?_)
          refine wpAnyH_take (i := 1) (v := ?_) rfl (by kernel_rfl) (by kernel_rfl) (by kernel_rfl) (fun _ _ _ h => h) (Or.inl ⟨by rfl, ?_⟩) (by assumption) ?_
          rotate_left 1
          · (intro w' hSw; (try dsimp only at hSw); go_simp; try with_reducible rfl)
          try simp only [Act.put, List.setIfInBounds_toArray, List.set_cons_zero, List.set_cons_succ, List.getElem_toArray, List.getElem_cons_zero, List.getElem_cons_succ]
          refine wpAnyH_take (i := 2) (v := ?_) rfl (by kernel_rfl) (by kernel_rfl) (by kernel_rfl) (fun _ _ _ h => h) (Or.inl ⟨by rfl, ?_⟩) (by assumption) ?_
          rotate_left 1
          · (intro w' hSw; (try dsimp only at hSw); go_simp; try with_reducible rfl)
          try simp only [Act.put, List.setIfInBounds_toArray, List.set_cons_zero, List.set_cons_succ, List.getElem_toArray, List.getElem_cons_zero, List.getElem_cons_succ]
          refine wpAnyH_ready (rs := [0]) (by kernel_rfl) (by simp) ?_
          refine AllReadyH.cons rfl (fun K hK => ?_) AllReadyH.nil
          refine stepL_callN 24 #[] #[] (by rfl) (by rfl) #[] (by simp only [List.map_toArray, List.map_cons, List.map_nil] <;> rfl) (run_go Tryd.func24 (by kernel_rfl) (by kernel_rfl) _ _) (hnam _) ?_
          rintro e U1 ⟨bn, he, hcn, kk⟩
          have CN := hik hcn
          clear hcn
          refine ⟨_, he, ?_⟩
          replace KW := hik (KW.out.trans kk)
          refine hK.out _ _ (SA.out _ KW.out) (fun hHeld => ?_)
          clear hK K
          try simp only [Act.put, List.setIfInBounds_toArray, List.set_cons_zero, List.set_cons_succ, List.getElem_toArray, List.getElem_cons_zero, List.getElem_cons_succ]
          clear he kk
          refine wpAnyH_ready (rs := [3]) (by kernel_rfl) (by simp) ?_
          refine AllReadyH.cons rfl (fun K hK => ?_) AllReadyH.nil
          have cn := CN.out
          simp only [List.getElem_toArray, List.getElem_cons_zero, List.getElem_cons_succ]
          go_simp
          refine hK.out _ _ (SA.out _ KW.out) (fun hHeld => ?_)
          clear hK K
          try simp only [Act.put, List.setIfInBounds_toArray, List.set_cons_zero, List.set_cons_succ, List.getElem_toArray, List.getElem_cons_zero, List.getElem_cons_succ]
          clear cn
          refine wpAnyH_ready (rs := [4]) (by kernel_rfl) (by simp) ?_
          refine AllReadyH.cons rfl (fun K hK => ?_) AllReadyH.nil
          have cn := CN.out
          simp only [List.getElem_toArray, List.getElem_cons_zero, List.getElem_cons_succ]
          go_simp
          refine hK.out _ _ (SA.out _ KW.out) (fun hHeld => ?_)
          clear hK K
          try simp only [Act.put, List.setIfInBounds_toArray, List.set_cons_zero, List.set_cons_succ, List.getElem_toArray, List.getElem_cons_zero, List.getElem_cons_succ]
          clear cn
          refine wpAnyH_ready (rs := [5]) (by kernel_rfl) (by simp) ?_
          refine AllReadyH.cons rfl (fun K hK => ?_) AllReadyH.nil
          have cn := CN.out
          simp only [List.getElem_toArray, List.getElem_cons_zero, List.getElem_cons_succ]
          go_simp
          refine hK.out _ _ (SA.out _ KW.out) (fun hHeld => ?_)
          clear hK K
          try simp only [Act.put, List.setIfInBounds_toArray, List.set_cons_zero, List.set_cons_succ, List.getElem_toArray, List.getElem_cons_zero, List.getElem_cons_succ]
          clear cn
          refine wpAnyH_done (by kernel_rfl) ?_ _
          have K2 := hik (K1.out.trans KW.out)
          have y0 := KW.out.see y0
          have y1 := KW.out.see y1
          have y2 := KW.out.see y2
          have y3 := KW.out.see y3
          clear KW SA CN
          go_wp2_with (go_at_call 25; refine (huse _).mono ?_; rintro e W3 ⟨rfl, rfl⟩)
          go_ret2
          exact ⟨rfl, K2.out⟩

end Go.Proofs.YtpndbkgjdnkmcaaDoor
