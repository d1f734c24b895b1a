/- Several texts in one: Numbers in a line, the model's side: contracts. Conditions: texts of at most 1000000 bytes. · A gate read out of a text, the model's side: contracts. Conditions: texts of at most 65536 bytes. -/
import Derived.Test.YtpndbkgjdnkmcaaDoorBzab
import Derived.Test.YtpndbkgjdnkmcaaDoorBzag
import Derived.Test.YtpndbkgjdnkmcaaDoorBzak
import Derived.Test.YtpndbkgjdnkmcaaDoorBzah
import Derived.Test.YtpndbkgjdnkmcaaDoorSeeP
import Derived.Test.YtpndbkgjdnkmcaaDoorBzae
import Derived.Test.YtpndbkgjdnkmcaaDoorRgtY
import Derived.Test.YtpndbkgjdnkmcaaDoorBzay
import Derived.Test.YtpndbkgjdnkmcaaDoorRowN
import Derived.Deep.DeepCutAuto
import Derived.Deep.RegionHeld
namespace Go.Proofs.YtpndbkgjdnkmcaaDoor
open Go.ChangeShapes Go.WideShapes Go.ChangeAt Go.RowKit
set_option linter.unusedVariables false
set_option maxRecDepth 100000
set_option linter.unusedSimpArgs false

theorem nmo_zero {t : List UInt8} {g : Int} (h : t.length = 0) : nmo t g = false := by unfold nmo; simp [h]
theorem nmo_long {t : List UInt8} {g : Int} (h : 18 < t.length) : nmo t g = false := by unfold nmo; simp [h]
theorem nmo_lead {t : List UInt8} {g : Int} (h : t.head? = some 48) (h2 : 1 < t.length ∨ g < 0) : nmo t g = false := by
  unfold nmo
  rcases h2 with h2 | h2 <;> simp [h, h2]
theorem nmo_ok {t : List UInt8} {g : Int} (h0 : t.length ≠ 0) (h1 : t.length ≤ 18) (h : t.head? = some 48 → ¬ 1 < t.length ∧ ¬ g < 0) : nmo t g = true := by
  unfold nmo
  by_cases e : t.head? = some 48
  · obtain ⟨a, b⟩ := h e
    simp [e, h0, a, b]
    omega
  · simp [e, h0]
    omega
theorem head_at (s : ByteArray) (h : 0 < s.size) : s.data.toList.head? = some (s[0]'h) := by
  rw [List.head?_eq_getElem?, List.getElem?_eq_getElem (by rw [len_list]; exact h)]
  rfl
theorem take_at {s : ByteArray} {k : Nat} (h : k < s.size) : s.data.toList.take (k + 1) = s.data.toList.take k ++ [s[k]] := by
  rw [List.take_succ_eq_append_getElem (by rw [len_list]; exact h)]
  rfl
theorem dvl_take {s : ByteArray} {k : Nat} (h : k < s.size) (hd : dgb s[k] = true) : ((dvl 0 (s.data.toList.take (k + 1)) : Nat) : Int) = ((dvl 0 (s.data.toList.take k) : Nat) : Int) * 10 + ((s[k].toNat : Nat) : Int) - 48 := by
  have hc := of_decide_eq_true hd
  rw [take_at h, dvl_app]
  omega
theorem all_take {s : ByteArray} {k : Nat} (hk : k ≤ s.size) (h : ∀ (j : Nat) (h : j < s.size), j < k → dgb s[j] = true) : (s.data.toList.take k).all dgb = true := by
  rw [List.all_eq_true]
  intro x hx
  obtain ⟨j, hj, rfl⟩ := List.getElem_of_mem hx
  have hj2 : j < k := by rw [List.length_take, len_list] at hj; omega
  rw [List.getElem_take]
  exact h j (by omega) hj2
theorem dvl_below {s : ByteArray} {k : Nat} (hk : k ≤ s.size) (h17 : k ≤ 17) (h : ∀ (j : Nat) (h : j < s.size), j < k → dgb s[j] = true) : dvl 0 (s.data.toList.take k) < 100000000000000000 := by
  have a := dvl_lt (s.data.toList.take k) 0 (all_take hk h)
  rw [List.length_take, len_list, Nat.min_eq_left hk] at a
  have b : 10 ^ k ≤ 10 ^ 17 := Nat.pow_le_pow_right (by decide) h17
  have e : (10 : Nat) ^ 17 = 100000000000000000 := by decide
  omega
theorem dvl_below18 {s : ByteArray} (h17 : s.size ≤ 18) (h : ∀ (j : Nat) (h : j < s.size), j < s.size → dgb s[j] = true) : dvl 0 (s.data.toList.take s.size) < 1000000000000000000 := by
  have a := dvl_lt (s.data.toList.take s.size) 0 (all_take (Nat.le_refl _) h)
  rw [List.length_take, len_list, Nat.min_eq_left (Nat.le_refl _)] at a
  have b : 10 ^ s.size ≤ 10 ^ 18 := Nat.pow_le_pow_right (by decide) h17
  have e : (10 : Nat) ^ 18 = 1000000000000000000 := by decide
  omega
theorem all_good {s : ByteArray} (h : ∀ (j : Nat) (h : j < s.size), j < s.size → dgb s[j] = true) : s.data.toList.all dgb = true := by
  have a := all_take (Nat.le_refl _) h
  rwa [List.take_of_length_le (by rw [len_list]; exact Nat.le_refl _)] at a
theorem all_bad {s : ByteArray} {k : Nat} (h : k < s.size) (hd : ¬ dgb s[k] = true) : s.data.toList.all dgb = false := by
  rw [List.all_eq_false]
  exact ⟨s[k], List.getElem_mem (l := s.data.toList) (by rw [len_list]; exact h), hd⟩
set_option maxHeartbeats 8000000 in
theorem l00Number_any (s : ByteArray) (hs : s.size ≤ 1000000) (w : World) :
    Calls Tryd.prog 28 #[.string s] w fun e w' => e = .returned (.tuple #[.int .i64 (nmv s.data.toList), .bool (nmb s.data.toList)]) ∧ w' = w := by
  obtain ⟨V, hV⟩ : ∃ x, x = nmv s.data.toList := ⟨_, rfl⟩
  obtain ⟨B, hB⟩ : ∃ x, x = nmb s.data.toList := ⟨_, rfl⟩
  rw [← hV, ← hB]
  have HV0 := hik (show V = if B = true then nmg s.data.toList * (dvl 0 (nms s.data.toList) : Int) else 0 by rw [hV, hB]; rfl)
  have HB0 := hik (show B = (nmo (nms s.data.toList) (nmg s.data.toList) && (nms s.data.toList).all dgb) by rw [hB]; rfl)
  clear hV hB
  by_cases h0 : s.size = 0
  · have hl : s.data.toList = [] := List.eq_nil_of_length_eq_zero (by rw [len_list]; exact h0)
    have HB1 := hik (show B = false by rw [HB0.out, hl]; rfl)
    have HV1 := hik (show V = 0 by rw [HV0.out, HB1.out]; rfl)
    have h0' : (s.size : Int) = 0 := by omega
    have h0'' : ¬ (0 : Int) < (s.size : Int) := by omega
    clear hl
    go_enter Tryd.func28, Tryd.ntmps28
    go_wp2
    go_ret2
    rw [HB1.out, HV1.out]
    exact ⟨rfl, rfl⟩
  have hp : 0 < s.size := by omega
  have hp' : (0 : Int) < (s.size : Int) := by omega
  by_cases h45 : (s[0]'hp).toNat = 45
  · have hc : (((s[0]'hp).toNat : Nat) : Int) = 45 := by omega
    have hh : s.data.toList.head? = some 45 := by rw [head_at s hp]; exact congrArg some (UInt8.toNat_inj.1 h45)
    have eg : nmg s.data.toList = -1 := by unfold nmg; rw [if_pos hh]
    have es : nms s.data.toList = (s.extract 1 s.size).data.toList := by
      unfold nms
      rw [if_pos hh, ext_list s 1 s.size (Nat.le_refl _), List.take_of_length_le (by rw [len_list]; exact Nat.le_refl _), List.drop_one]
    have hub0 : (s.extract 1 s.size).size ≤ 1000000 := by rw [ByteArray.size_extract]; omega
    rw [eg, es] at HV0 HB0
    clear hh eg es h45 h0
    go_enter Tryd.func28, Tryd.ntmps28
    go_upto_region 5 with fail
    generalize s.extract 1 s.size = u at HV0 HB0 hub0 ⊢
    have HV := HV0
    have HB := HB0
    have HUB := hik hub0
    clear HV0 HB0 hub0 hc hp hp' hs
    have hub : u.size ≤ 1000000 := HUB.out
    by_cases m0 : u.size = 0
    · have m0' : (u.size : Int) = 0 := by omega
      have HB1 := hik (show B = false by rw [HB.out, nmo_zero (t := u.data.toList) (g := -1) (by rw [len_list]; exact m0)]; rfl)
      have HV1 := hik (show V = 0 by rw [HV.out, HB1.out]; rfl)
      go_wp2
      all_goals (go_ret2; rw [HB1.out, HV1.out]; exact ⟨rfl, rfl⟩)
    have m0' : ¬ (u.size : Int) = 0 := by omega
    have mp : 0 < u.size := by omega
    have mp' : (0 : Int) < (u.size : Int) := by omega
    by_cases m1 : 18 < u.size
    · have m1' : (18 : Int) < (u.size : Int) := by omega
      have HB1 := hik (show B = false by rw [HB.out, nmo_long (t := u.data.toList) (g := -1) (by rw [len_list]; exact m1)]; rfl)
      have HV1 := hik (show V = 0 by rw [HV.out, HB1.out]; rfl)
      go_wp2
      all_goals (go_ret2; rw [HB1.out, HV1.out]; exact ⟨rfl, rfl⟩)
    have m1' : ¬ (18 : Int) < (u.size : Int) := by omega
    by_cases m2 : (u[0]'mp).toNat = 48
    · have m2' : (((u[0]'mp).toNat : Nat) : Int) = 48 := by omega
      have HH := hik (show u.data.toList.head? = some 48 by rw [head_at u mp]; exact congrArg some (UInt8.toNat_inj.1 m2))
      have HB1 := hik (show B = false by rw [HB.out, nmo_lead (t := u.data.toList) (g := -1) HH.out (.inr (by decide))]; rfl)
      have HV1 := hik (show V = 0 by rw [HV.out, HB1.out]; rfl)
      go_wp2
      all_goals (go_ret2; rw [HB1.out, HV1.out]; exact ⟨rfl, rfl⟩)
    · have m2' : ¬ (((u[0]'mp).toNat : Nat) : Int) = 48 := by omega
      have HLD := hik (show u.data.toList.head? = some 48 → ¬ 1 < u.data.toList.length ∧ ¬ (-1 : Int) < 0 from fun e => by rw [head_at u mp] at e; exact absurd (congrArg UInt8.toNat (Option.some.inj e)) m2)
      have HO := hik (nmo_ok (t := u.data.toList) (g := -1) (by rw [len_list]; exact m0) (by rw [len_list]; omega) HLD.out)
      have HSZ := hik (show u.size ≤ 18 by omega)
      go_wp2_with fail
      go_loopw [5, 6] (fun vn vi W => ∃ k : Nat, k ≤ u.size ∧ vi = .int .i64 k ∧ vn = .int .i64 ((dvl 0 (u.data.toList.take k) : Nat) : Int) ∧ Hid (∀ (j : Nat) (h : j < u.size), j < k → dgb u[j] = true) ∧ W = w) (fun _ vi _ => u.size - (intOf vi).toNat)
      case atStart => exact ⟨0, Nat.zero_le _, rfl, rfl, hik (fun j _ hj => absurd hj (by omega)), rfl⟩
      case round =>
        obtain ⟨k, hk, rfl, rfl, HD, rfl⟩ := hrel
        by_cases hlt : k < u.size
        · have hkn : ((k : Nat) : Int) < (u.size : Int) := by omega
          by_cases hd : dgb u[k] = true
          · have HDK := hik hd
            have hd2 := of_decide_eq_true hd
            have hc1 : ¬ ((u[k].toNat : Nat) : Int) < 48 := by omega
            have hc2 : ¬ (57 : Int) < ((u[k].toNat : Nat) : Int) := by omega
            have HX := hik (dvl_take (s := u) hlt hd)
            have hx1 := dvl_below (s := u) hk (by have := HSZ.out; omega) HD.out
            generalize dvl 0 (u.data.toList.take k) = X at HX hx1 ⊢
            clear hd hd2
            have hx2 : (X : Int) < 100000000000000000 := by omega
            have hc3 : ((u[k].toNat : Nat) : Int) ≤ 57 := by omega
            clear hx1
            go_wp2
            go_roundw
            case rel => exact ⟨k + 1, by omega, by go_num, by first | (rw [HX.out]; done) | (rw [HX.out]; first | rfl | go_num), hik (fun j h hj => by
              by_cases e : j = k
              · subst e; exact HDK.out
              · exact HD.out j h (by omega)), by first | rfl | trivial⟩
            case measure => simp [intOf]; omega
          · have HB1 := hik (show B = false by rw [HB.out, all_bad (s := u) hlt hd]; exact Bool.and_false _)
            have HV1 := hik (show V = 0 by rw [HV.out, HB1.out]; rfl)
            have hd2 : ¬ (48 ≤ u[k].toNat ∧ u[k].toNat ≤ 57) := fun e => hd (decide_eq_true e)
            by_cases hc1 : ((u[k].toNat : Nat) : Int) < 48
            · clear hd hd2
              go_wp2
              go_ret2
              rw [HB1.out, HV1.out]
              exact ⟨rfl, rfl⟩
            · have hc2 : (57 : Int) < ((u[k].toNat : Nat) : Int) := by omega
              clear hd hd2
              go_wp2
              go_ret2
              rw [HB1.out, HV1.out]
              exact ⟨rfl, rfl⟩
        · obtain rfl : u.size = k := by omega
          have HB1 := hik (show B = true by rw [HB.out, HO.out, all_good HD.out]; rfl)
          have HV1 := hik (show V = -((dvl 0 (u.data.toList.take u.size) : Nat) : Int) by rw [HV.out, HB1.out, if_pos rfl, show u.data.toList.take u.size = u.data.toList from List.take_of_length_le (by rw [len_list]; exact Nat.le_refl _)]; omega)
          have hx1 := dvl_below18 (s := u) (by have := HSZ.out; omega) HD.out
          generalize dvl 0 (u.data.toList.take u.size) = X at HV1 hx1 ⊢
          have hx2 : (X : Int) < 1000000000000000000 := by omega
          clear hx1
          go_wp2
          go_ret2
          rw [HB1.out, HV1.out]
          first | exact ⟨rfl, rfl⟩ | exact ⟨by simp, rfl⟩
  · have hc : ¬ (((s[0]'hp).toNat : Nat) : Int) = 45 := by omega
    have hh : ¬ s.data.toList.head? = some 45 := fun e => by
      rw [head_at s hp] at e
      exact h45 (congrArg UInt8.toNat (Option.some.inj e))
    have eg : nmg s.data.toList = 1 := by unfold nmg; rw [if_neg hh]
    have es : nms s.data.toList = s.data.toList := by unfold nms; rw [if_neg hh]
    rw [eg, es] at HV0 HB0
    clear hh eg es h45 h0
    go_enter Tryd.func28, Tryd.ntmps28
    go_upto_region 5 with fail
    have HV := HV0
    have HB := HB0
    have HUB := hik hs
    clear HV0 HB0 hc hp' hs
    have hub : s.size ≤ 1000000 := HUB.out
    by_cases m0 : s.size = 0
    · have m0' : (s.size : Int) = 0 := by omega
      have HB1 := hik (show B = false by rw [HB.out, nmo_zero (t := s.data.toList) (g := 1) (by rw [len_list]; exact m0)]; rfl)
      have HV1 := hik (show V = 0 by rw [HV.out, HB1.out]; rfl)
      go_wp2
      all_goals (go_ret2; rw [HB1.out, HV1.out]; exact ⟨rfl, rfl⟩)
    have m0' : ¬ (s.size : Int) = 0 := by omega
    have mp : 0 < s.size := by omega
    have mp' : (0 : Int) < (s.size : Int) := by omega
    by_cases m1 : 18 < s.size
    · have m1' : (18 : Int) < (s.size : Int) := by omega
      have HB1 := hik (show B = false by rw [HB.out, nmo_long (t := s.data.toList) (g := 1) (by rw [len_list]; exact m1)]; rfl)
      have HV1 := hik (show V = 0 by rw [HV.out, HB1.out]; rfl)
      go_wp2
      all_goals (go_ret2; rw [HB1.out, HV1.out]; exact ⟨rfl, rfl⟩)
    have m1' : ¬ (18 : Int) < (s.size : Int) := by omega
    by_cases m2 : (s[0]'mp).toNat = 48
    · have m2' : (((s[0]'mp).toNat : Nat) : Int) = 48 := by omega
      have HH := hik (show s.data.toList.head? = some 48 by rw [head_at s mp]; exact congrArg some (UInt8.toNat_inj.1 m2))
      by_cases m3 : 1 < s.size
      · have m3' : (1 : Int) < (s.size : Int) := by omega
        have HB1 := hik (show B = false by rw [HB.out, nmo_lead (t := s.data.toList) (g := 1) HH.out (.inl (by rw [len_list]; exact m3))]; rfl)
        have HV1 := hik (show V = 0 by rw [HV.out, HB1.out]; rfl)
        go_wp2
        all_goals (go_ret2; rw [HB1.out, HV1.out]; exact ⟨rfl, rfl⟩)
      · have m3' : ¬ (1 : Int) < (s.size : Int) := by omega
        have HLD := hik (show s.data.toList.head? = some 48 → ¬ 1 < s.data.toList.length ∧ ¬ (1 : Int) < 0 from fun _ => ⟨by rw [len_list]; exact m3, by decide⟩)
        have HO := hik (nmo_ok (t := s.data.toList) (g := 1) (by rw [len_list]; exact m0) (by rw [len_list]; omega) HLD.out)
        have HSZ := hik (show s.size ≤ 18 by omega)
        go_wp2_with fail
        go_loopw [5, 6] (fun vn vi W => ∃ k : Nat, k ≤ s.size ∧ vi = .int .i64 k ∧ vn = .int .i64 ((dvl 0 (s.data.toList.take k) : Nat) : Int) ∧ Hid (∀ (j : Nat) (h : j < s.size), j < k → dgb s[j] = true) ∧ W = w) (fun _ vi _ => s.size - (intOf vi).toNat)
        case atStart => exact ⟨0, Nat.zero_le _, rfl, rfl, hik (fun j _ hj => absurd hj (by omega)), rfl⟩
        case round =>
          obtain ⟨k, hk, rfl, rfl, HD, rfl⟩ := hrel
          by_cases hlt : k < s.size
          · have hkn : ((k : Nat) : Int) < (s.size : Int) := by omega
            by_cases hd : dgb s[k] = true
            · have HDK := hik hd
              have hd2 := of_decide_eq_true hd
              have hc1 : ¬ ((s[k].toNat : Nat) : Int) < 48 := by omega
              have hc2 : ¬ (57 : Int) < ((s[k].toNat : Nat) : Int) := by omega
              have HX := hik (dvl_take (s := s) hlt hd)
              have hx1 := dvl_below (s := s) hk (by have := HSZ.out; omega) HD.out
              generalize dvl 0 (s.data.toList.take k) = X at HX hx1 ⊢
              clear hd hd2
              have hx2 : (X : Int) < 100000000000000000 := by omega
              have hc3 : ((s[k].toNat : Nat) : Int) ≤ 57 := by omega
              clear hx1
              go_wp2
              go_roundw
              case rel => exact ⟨k + 1, by omega, by go_num, by first | (rw [HX.out]; done) | (rw [HX.out]; first | rfl | go_num), hik (fun j h hj => by
                by_cases e : j = k
                · subst e; exact HDK.out
                · exact HD.out j h (by omega)), by first | rfl | trivial⟩
              case measure => simp [intOf]; omega
            · have HB1 := hik (show B = false by rw [HB.out, all_bad (s := s) hlt hd]; exact Bool.and_false _)
              have HV1 := hik (show V = 0 by rw [HV.out, HB1.out]; rfl)
              have hd2 : ¬ (48 ≤ s[k].toNat ∧ s[k].toNat ≤ 57) := fun e => hd (decide_eq_true e)
              by_cases hc1 : ((s[k].toNat : Nat) : Int) < 48
              · clear hd hd2
                go_wp2
                go_ret2
                rw [HB1.out, HV1.out]
                exact ⟨rfl, rfl⟩
              · have hc2 : (57 : Int) < ((s[k].toNat : Nat) : Int) := by omega
                clear hd hd2
                go_wp2
                go_ret2
                rw [HB1.out, HV1.out]
                exact ⟨rfl, rfl⟩
          · obtain rfl : s.size = k := by omega
            have HB1 := hik (show B = true by rw [HB.out, HO.out, all_good HD.out]; rfl)
            have HV1 := hik (show V = ((dvl 0 (s.data.toList.take s.size) : Nat) : Int) by rw [HV.out, HB1.out, if_pos rfl, show s.data.toList.take s.size = s.data.toList from List.take_of_length_le (by rw [len_list]; exact Nat.le_refl _)]; omega)
            have hx1 := dvl_below18 (s := s) (by have := HSZ.out; omega) HD.out
            generalize dvl 0 (s.data.toList.take s.size) = X at HV1 hx1 ⊢
            have hx2 : (X : Int) < 1000000000000000000 := by omega
            clear hx1
            go_wp2
            go_ret2
            rw [HB1.out, HV1.out]
            first | exact ⟨rfl, rfl⟩ | exact ⟨by simp, rfl⟩
    · have m2' : ¬ (((s[0]'mp).toNat : Nat) : Int) = 48 := by omega
      have HLD := hik (show s.data.toList.head? = some 48 → ¬ 1 < s.data.toList.length ∧ ¬ (1 : Int) < 0 from fun e => by rw [head_at s mp] at e; exact absurd (congrArg UInt8.toNat (Option.some.inj e)) m2)
      have HO := hik (nmo_ok (t := s.data.toList) (g := 1) (by rw [len_list]; exact m0) (by rw [len_list]; omega) HLD.out)
      have HSZ := hik (show s.size ≤ 18 by omega)
      go_wp2_with fail
      go_loopw [5, 6] (fun vn vi W => ∃ k : Nat, k ≤ s.size ∧ vi = .int .i64 k ∧ vn = .int .i64 ((dvl 0 (s.data.toList.take k) : Nat) : Int) ∧ Hid (∀ (j : Nat) (h : j < s.size), j < k → dgb s[j] = true) ∧ W = w) (fun _ vi _ => s.size - (intOf vi).toNat)
      case atStart => exact ⟨0, Nat.zero_le _, rfl, rfl, hik (fun j _ hj => absurd hj (by omega)), rfl⟩
      case round =>
        obtain ⟨k, hk, rfl, rfl, HD, rfl⟩ := hrel
        by_cases hlt : k < s.size
        · have hkn : ((k : Nat) : Int) < (s.size : Int) := by omega
          by_cases hd : dgb s[k] = true
          · have HDK := hik hd
            have hd2 := of_decide_eq_true hd
            have hc1 : ¬ ((s[k].toNat : Nat) : Int) < 48 := by omega
            have hc2 : ¬ (57 : Int) < ((s[k].toNat : Nat) : Int) := by omega
            have HX := hik (dvl_take (s := s) hlt hd)
            have hx1 := dvl_below (s := s) hk (by have := HSZ.out; omega) HD.out
            generalize dvl 0 (s.data.toList.take k) = X at HX hx1 ⊢
            clear hd hd2
            have hx2 : (X : Int) < 100000000000000000 := by omega
            have hc3 : ((s[k].toNat : Nat) : Int) ≤ 57 := by omega
            clear hx1
            go_wp2
            go_roundw
            case rel => exact ⟨k + 1, by omega, by go_num, by first | (rw [HX.out]; done) | (rw [HX.out]; first | rfl | go_num), hik (fun j h hj => by
              by_cases e : j = k
              · subst e; exact HDK.out
              · exact HD.out j h (by omega)), by first | rfl | trivial⟩
            case measure => simp [intOf]; omega
          · have HB1 := hik (show B = false by rw [HB.out, all_bad (s := s) hlt hd]; exact Bool.and_false _)
            have HV1 := hik (show V = 0 by rw [HV.out, HB1.out]; rfl)
            have hd2 : ¬ (48 ≤ s[k].toNat ∧ s[k].toNat ≤ 57) := fun e => hd (decide_eq_true e)
            by_cases hc1 : ((s[k].toNat : Nat) : Int) < 48
            · clear hd hd2
              go_wp2
              go_ret2
              rw [HB1.out, HV1.out]
              exact ⟨rfl, rfl⟩
            · have hc2 : (57 : Int) < ((s[k].toNat : Nat) : Int) := by omega
              clear hd hd2
              go_wp2
              go_ret2
              rw [HB1.out, HV1.out]
              exact ⟨rfl, rfl⟩
        · obtain rfl : s.size = k := by omega
          have HB1 := hik (show B = true by rw [HB.out, HO.out, all_good HD.out]; rfl)
          have HV1 := hik (show V = ((dvl 0 (s.data.toList.take s.size) : Nat) : Int) by rw [HV.out, HB1.out, if_pos rfl, show s.data.toList.take s.size = s.data.toList from List.take_of_length_le (by rw [len_list]; exact Nat.le_refl _)]; omega)
          have hx1 := dvl_below18 (s := s) (by have := HSZ.out; omega) HD.out
          generalize dvl 0 (s.data.toList.take s.size) = X at HV1 hx1 ⊢
          have hx2 : (X : Int) < 1000000000000000000 := by omega
          clear hx1
          go_wp2
          go_ret2
          rw [HB1.out, HV1.out]
          first | exact ⟨rfl, rfl⟩ | exact ⟨by simp, rfl⟩
set_option maxHeartbeats 4000000 in
theorem l00Words_any (s : ByteArray) (hs : s.size ≤ 65536) (w : World) :
    Calls Tryd.prog 27 #[.string s] w fun e w' => ∃ v, e = .returned v ∧ SGr w' w.heap.size v (wds s.data.toList) ∧ Chg nob w w' := by
  obtain ⟨L, hL⟩ : ∃ x, x = s.data.toList := ⟨_, rfl⟩
  rw [← hL]
  have HL := hik hL
  have hll : L.length = s.size := by rw [hL]; exact len_list s
  clear hL
  go_enter Tryd.func27, Tryd.ntmps27
  go_wp2_with fail
  go_loopw [3, 4, 5] (fun vo vf vi W => ∃ (k m : Nat) (D : List (List UInt8)), k ≤ s.size + 1 ∧ vi = .int .i64 k ∧ vf = .int .i64 m ∧ m ≤ k ∧ Hid (SGr W w.heap.size vo D) ∧ Hid (k ≤ s.size → WdI L k m D) ∧ Hid (k = s.size + 1 → D = wds L) ∧ Hid (D.length ≤ 70000) ∧ Hid (Chg nob w W)) (fun _ _ vi _ => s.size + 1 - (intOf vi).toNat)
  case atStart => exact ⟨0, 0, [], Nat.zero_le _, rfl, rfl, Nat.le_refl _, hik (SGr.fresh w w.heap.size (Nat.le_refl _)), hik (fun _ => WdI.start L), hik (fun h => by omega), hik (by decide), hik ((Chg.refl nob w).alloc _)⟩
  case round =>
    obtain ⟨k, m, D, hk, rfl, rfl, hmk, SA, HI, HF, HN, KA⟩ := hrel
    rename World => wi
    by_cases hle : k ≤ s.size
    · have hkn : ((k : Nat) : Int) ≤ (s.size : Int) := by omega
      have HW := hik (HI.out hle)
      have HCN := hik (show D.length ≤ 65537 from by have := HW.out.cnt; omega)
      clear HI HF
      by_cases hm : m < k
      · have hm' : ((m : Nat) : Int) < ((k : Nat) : Int) := by omega
        have HLE := hik (And.intro hle hm)
        by_cases hend : k = s.size
        · have HD2 := hik (show D ++ [(L.take k).drop m] = wds L from by
            have a := HW.out
            have e : k = L.length := by omega
            rw [e] at a ⊢
            exact a.last (by omega))
          subst hend
          have HPC := hik (show (.string (s.extract m s.size) : Value) = tv ((L.take s.size).drop m) by rw [ext_list s m s.size hle, HL.out]; rfl)
          have KB := hik (KA.out.alloc (.cells #[.string (s.extract m s.size)] 9))
          have SB := hik (SA.out.keep ((Chg.refl nob wi).alloc (.cells #[.string (s.extract m s.size)] 9)))
          have CB := hik (show World.cell? (wi.alloc (.cells #[.string (s.extract m s.size)] 9)) ⟨wi.heap.size, 0, none⟩ = some (tv ((L.take s.size).drop m)) by rw [← HPC.out]; go_simp)
          have LB := hik (show w.heap.size ≤ (wi.alloc (.cells #[.string (s.extract m s.size)] 9)).heap.size from KB.out.size)
          go_wp2_with (at_builtin; refine wpList_appS (by rfl) (.tmp 26) (.tmp 31) (by rfl) w.heap.size wi.heap.size _ D _ (by rfl) (by rfl) SB.out CB.out (by have := HCN.out; omega) LB.out ?b6)
          case b6 =>
            intro v7 w7 hg7 k7
            have SZ := hik hg7
            have KZ := hik (KB.out.near k7 (fun i q => by have q : w.heap.size ≤ i := q; omega))
            clear hg7 k7 SB CB LB KB
            go_wp2
            go_roundw
            all_goals first | exact ⟨s.size + 1, s.size + 1, _, by omega, by go_num, by go_num, Nat.le_refl _, SZ, hik (fun h => by omega), hik (fun _ => HD2.out), hik (by have := HCN.out; rw [List.length_append, List.length_singleton]; omega), KZ⟩ | exact ⟨⟨s.size + 1, s.size + 1, _, by omega, by go_num, by go_num, Nat.le_refl _, SZ, hik (fun h => by omega), hik (fun _ => HD2.out), hik (by have := HCN.out; rw [List.length_append, List.length_singleton]; omega), KZ⟩, by simp [intOf] <;> omega⟩ | (simp [intOf] <;> omega)
        · have hend' : ¬ ((k : Nat) : Int) = (s.size : Int) := by omega
          have hlt : k < s.size := by omega
          have hlt' : ((k : Nat) : Int) < (s.size : Int) := by omega
          have HPC := hik (show (.string (s.extract m k) : Value) = tv ((L.take k).drop m) by rw [ext_list s m k hle, HL.out]; rfl)
          have KB := hik (KA.out.alloc (.cells #[.string (s.extract m k)] 9))
          have SB := hik (SA.out.keep ((Chg.refl nob wi).alloc (.cells #[.string (s.extract m k)] 9)))
          have CB := hik (show World.cell? (wi.alloc (.cells #[.string (s.extract m k)] 9)) ⟨wi.heap.size, 0, none⟩ = some (tv ((L.take k).drop m)) by rw [← HPC.out]; go_simp)
          have LB := hik (show w.heap.size ≤ (wi.alloc (.cells #[.string (s.extract m k)] 9)).heap.size from KB.out.size)
          by_cases h32 : s[k].toNat = 32
          · have hc : ((s[k].toNat : Nat) : Int) = 32 := by omega
            have HW2 := hik (show WdI L (k + 1) (k + 1) (D ++ [(L.take k).drop m]) from HW.out.word (by omega) (by
              have e : L[k]'(by omega) = s[k] := by simp only [HL.out]; rfl
              rw [e]
              exact UInt8.toNat_inj.1 h32) hm)
            clear h32
            go_wp2_with (at_builtin; refine wpList_appS (by rfl) (.tmp 26) (.tmp 31) (by rfl) w.heap.size wi.heap.size _ D _ (by rfl) (by rfl) SB.out CB.out (by have := HCN.out; omega) LB.out ?b6)
            case b6 =>
              intro v7 w7 hg7 k7
              have SZ := hik hg7
              have KZ := hik (KB.out.near k7 (fun i q => by have q : w.heap.size ≤ i := q; omega))
              clear hg7 k7 SB CB LB KB
              go_wp2
              go_roundw
              all_goals first | exact ⟨k + 1, k + 1, _, by omega, by go_num, by go_num, Nat.le_refl _, SZ, hik (fun _ => HW2.out), hik (fun h => by omega), hik (by have := HCN.out; rw [List.length_append, List.length_singleton]; omega), KZ⟩ | exact ⟨⟨k + 1, k + 1, _, by omega, by go_num, by go_num, Nat.le_refl _, SZ, hik (fun _ => HW2.out), hik (fun h => by omega), hik (by have := HCN.out; rw [List.length_append, List.length_singleton]; omega), KZ⟩, by simp [intOf] <;> omega⟩ | (simp [intOf] <;> omega)
          · have hc : ¬ ((s[k].toNat : Nat) : Int) = 32 := by omega
            have hc1 : (((s[k].toNat : Nat) : Int) == 32) = false := beq_eq_false_iff_ne.2 hc
            have he1 : (((k : Nat) : Int) == (s.size : Int)) = false := beq_eq_false_iff_ne.2 hend'
            have HW2 := hik (show WdI L (k + 1) m D from HW.out.skip (by omega) (by
              have e : L[k]'(by omega) = s[k] := by simp only [HL.out]; rfl
              rw [e]
              exact fun e2 => h32 (by rw [e2]; rfl)))
            clear h32 SB CB LB KB
            go_wp2
            go_roundw
            all_goals first | exact ⟨k + 1, m, D, by omega, by go_num, rfl, by omega, SA, hik (fun _ => HW2.out), hik (fun h => by omega), HN, KA⟩ | exact ⟨⟨k + 1, m, D, by omega, by go_num, rfl, by omega, SA, hik (fun _ => HW2.out), hik (fun h => by omega), HN, KA⟩, by simp [intOf] <;> omega⟩ | (simp [intOf] <;> omega)
      · have hm' : ¬ ((m : Nat) : Int) < ((k : Nat) : Int) := by omega
        by_cases hend : k = s.size
        · have HD2 := hik (show D = wds L from by
            have a := HW.out
            have e : k = L.length := by omega
            rw [e] at a
            exact a.none (by omega))
          subst hend
          go_wp2
          go_roundw
          all_goals first | exact ⟨s.size + 1, s.size + 1, D, by omega, by go_num, by go_num, Nat.le_refl _, SA, hik (fun h => by omega), hik (fun _ => HD2.out), HN, KA⟩ | exact ⟨⟨s.size + 1, s.size + 1, D, by omega, by go_num, by go_num, Nat.le_refl _, SA, hik (fun h => by omega), hik (fun _ => HD2.out), HN, KA⟩, by simp [intOf] <;> omega⟩ | (simp [intOf] <;> omega)
        · have hend' : ¬ ((k : Nat) : Int) = (s.size : Int) := by omega
          have hlt : k < s.size := by omega
          have hlt' : ((k : Nat) : Int) < (s.size : Int) := by omega
          by_cases h32 : s[k].toNat = 32
          · have hc : ((s[k].toNat : Nat) : Int) = 32 := by omega
            have HW2 := hik (show WdI L (k + 1) (k + 1) D from HW.out.gap (by omega) (by
              have e : L[k]'(by omega) = s[k] := by simp only [HL.out]; rfl
              rw [e]
              exact UInt8.toNat_inj.1 h32) hm)
            clear h32
            go_wp2
            go_roundw
            all_goals first | exact ⟨k + 1, k + 1, D, by omega, by go_num, by go_num, Nat.le_refl _, SA, hik (fun _ => HW2.out), hik (fun h => by omega), HN, KA⟩ | exact ⟨⟨k + 1, k + 1, D, by omega, by go_num, by go_num, Nat.le_refl _, SA, hik (fun _ => HW2.out), hik (fun h => by omega), HN, KA⟩, by simp [intOf] <;> omega⟩ | (simp [intOf] <;> omega)
          · have hc : ¬ ((s[k].toNat : Nat) : Int) = 32 := by omega
            have hc1 : (((s[k].toNat : Nat) : Int) == 32) = false := beq_eq_false_iff_ne.2 hc
            have he1 : (((k : Nat) : Int) == (s.size : Int)) = false := beq_eq_false_iff_ne.2 hend'
            have HW2 := hik (show WdI L (k + 1) m D from HW.out.skip (by omega) (by
              have e : L[k]'(by omega) = s[k] := by simp only [HL.out]; rfl
              rw [e]
              exact fun e2 => h32 (by rw [e2]; rfl)))
            clear h32
            go_wp2
            go_roundw
            all_goals first | exact ⟨k + 1, m, D, by omega, by go_num, rfl, by omega, SA, hik (fun _ => HW2.out), hik (fun h => by omega), HN, KA⟩ | exact ⟨⟨k + 1, m, D, by omega, by go_num, rfl, by omega, SA, hik (fun _ => HW2.out), hik (fun h => by omega), HN, KA⟩, by simp [intOf] <;> omega⟩ | (simp [intOf] <;> omega)
    · have hkn : ¬ ((k : Nat) : Int) ≤ (s.size : Int) := by omega
      have HD2 := hik (HF.out (by omega))
      go_wp2
      go_ret
      refine ⟨_, rfl, ?_, KA.out⟩
      rw [← HD2.out]
      exact SA.out

end Go.Proofs.YtpndbkgjdnkmcaaDoor

namespace Go.Proofs.YtpndbkgjdnkmcaaDoor
open Go.ChangeShapes Go.WideShapes Go.ChangeAt Go.RowKit
set_option linter.unusedVariables false
set_option maxRecDepth 100000
set_option linter.unusedSimpArgs false

theorem stepL_store_rowG {P : Program} {ops : Array Oper} {o : Oper} {a : Act} {w : World} {K : Act → World → Prop} {Q : Exit → Act → World → Prop} {E : Prop} (ty : TypeId) (x y : Operand) (ho : o.op = .store ty x y) (hw : Region.wanted o (yielded ops a.tmps) = true) (g n : Nat) (f : Nat → Value) (hx : a.eval x = .pointer (some ⟨g, 0, none⟩)) (hy : a.eval y = .agg (rowA n f))
    (t : TypeId) (f0 : Nat → Value) (hr : w.rowIs g t n f0) (hi : (P.info? ty).map (·.size) = some n) (h1 : ∀ i, i < n → (f i).oneCell' = true) (h : ∀ w', w'.rowIs g t n f → Chg (fun b => b = g) w w' → K (a.put o.dst undef) w') :
    if Region.wanted o (yielded ops a.tmps) = true then Oper.wp P o a w K Q else E := by
  rw [if_pos hw]
  refine wp_store_row ty x y ho g (rowA n f) hx hy t (rowA n f0) (rowA_of hr) (by rw [rowA_size]; exact hi) (by rw [rowA_size, rowA_size]) ?_ (h _ ?_ ?_)
  · rw [Array.all_eq_true_iff_forall_mem]
    intro v hv
    simp only [rowA, List.mem_toArray, List.mem_map, List.mem_range] at hv
    obtain ⟨i, hi, rfl⟩ := hv
    exact h1 i hi
  · apply rowIs_of
    have := rowA_of hr
    simp [World.setRow, Array.getElem?_modify, this]
  · refine ⟨rfl, rfl, rfl, by simp [World.setRow], fun k hk hp => ?_⟩
    simp only [World.setRow, Array.getElem?_modify]
    rw [if_neg (fun e => hp e.symm)]
theorem sBit_any (b : Bool) (w : World) : Calls Tryd.prog 29 #[.bool b] w fun e w' => e = .returned (.int .i64 (if b = true then 1 else 0)) ∧ w' = w := by
  cases b <;> (go_enter Tryd.func29, Tryd.ntmps29; go_wp2; go_ret; exact ⟨rfl, rfl⟩)
/-- The op that has been found behind k names. -/
def opk (l : List UInt8) (k : Nat) : Nat := if opw l < k then opw l else 0
theorem gwd_opl (k : Nat) (h1 : 1 ≤ k) (h8 : k ≤ 8) : gwd (k : Int) = opl.getD (k - 1) [] := by
  rcases (show k = 1 ∨ k = 2 ∨ k = 3 ∨ k = 4 ∨ k = 5 ∨ k = 6 ∨ k = 7 ∨ k = 8 by omega) with rfl | rfl | rfl | rfl | rfl | rfl | rfl | rfl <;> rfl
theorem opk_hit {l : List UInt8} {k : Nat} (h1 : 1 ≤ k) (h8 : k ≤ 8) (h : gwd (k : Int) = l) : opk l (k + 1) = k := by
  rw [gwd_opl k h1 h8] at h
  have := opw_at (i := k - 1) (by omega) h
  unfold opk
  rw [this, if_pos (by omega)]
  omega
theorem opk_miss {l : List UInt8} {k : Nat} (h1 : 1 ≤ k) (h8 : k ≤ 8) (h : gwd (k : Int) ≠ l) : opk l (k + 1) = opk l k := by
  rw [gwd_opl k h1 h8] at h
  have hne : opw l ≠ k := fun e => by
    refine h ?_
    by_cases hx : ∃ i, i < 8 ∧ opl.getD i [] = l
    · obtain ⟨i, hi, ei⟩ := hx
      have := opw_at hi ei
      rw [show k - 1 = i by omega]
      exact ei
    · have := opw_no (l := l) (fun i hi ei => hx ⟨i, hi, ei⟩)
      omega
  unfold opk
  by_cases e : opw l < k
  · rw [if_pos e, if_pos (by omega)]
  · rw [if_neg e, if_neg (by omega)]
theorem opk_all (l : List UInt8) : opk l 9 = opw l := by
  unfold opk
  rw [if_pos (by have := opw_le l; omega)]
/-- l11Read's answer. -/
def LrA (w : World) (ws : List (List UInt8)) (e : Ending) (w' : World) : Prop := ∃ g : Gt, e = .returned (.tuple #[.agg #[.int .i64 g.1, .int .i64 g.2.1, .int .i64 g.2.2.1, .int .i64 g.2.2.2], .bool (rgb ws)]) ∧ (rgb ws = true → g = rgg ws) ∧ Chg nob w w'
set_option maxHeartbeats 8000000 in
theorem l11Read_any (s : ByteArray) (hs : s.size ≤ 65536) (w : World) :
    Calls Tryd.prog 11 #[.string s] w fun e w' => LrA w (wds s.data.toList) e w' := by
  have K0 := hik ((Chg.refl nob w).alloc (.cells #[.int .i64 0, .int .i64 0, .int .i64 0, .int .i64 0] 23))
  have RB := hik (rowN_new w 4 #[.int .i64 0, .int .i64 0, .int .i64 0, .int .i64 0] 23 rfl)
  have hwd := l00Words_any s hs (w.alloc (.cells #[.int .i64 0, .int .i64 0, .int .i64 0, .int .i64 0] 23))
  have HWN := hik (show ∀ x ∈ wds s.data.toList, x ≠ [] ∧ x.length ≤ 1000000 from fun x hx => ⟨wdG_ne _ _ x hx, by have a := wdG_size s.data.toList [] x hx; have b := len_list s; simp at a b; omega⟩)
  have HLN := hik (show (wds s.data.toList).length ≤ 65537 from by have a := wdG_len s.data.toList []; have b := len_list s; have e : (wds s.data.toList).length = (wdG [] s.data.toList).length := rfl; omega)
  generalize wds s.data.toList = ws at hwd HWN HLN ⊢
  cases ws with
  | nil =>
    have HB := hik (show rgb [] = false from rfl)
    go_enter Tryd.func11, Tryd.ntmps11
    go_wp2_with fail
    refine hwd.mono ?_
    rintro e W1 ⟨v, rfl, sg, k1⟩
    obtain ⟨cw, pw, ew, hrw⟩ := sg.row
    subst ew
    have K1 := hik (K0.out.trans k1)
    have RB1 := hik (rowIs_keep RB.out k1)
    clear sg k1 hrw hwd K0 RB
    have c0 : W1.cell? ⟨w.heap.size, 0, none⟩ = some (.int .i64 0) := RB1.out.cell (i := 0) (by omega)
    have c1 : W1.cell? ⟨w.heap.size, 1, none⟩ = some (.int .i64 0) := RB1.out.cell (i := 1) (by omega)
    have c2 : W1.cell? ⟨w.heap.size, 2, none⟩ = some (.int .i64 0) := RB1.out.cell (i := 2) (by omega)
    have c3 : W1.cell? ⟨w.heap.size, 3, none⟩ = some (.int .i64 0) := RB1.out.cell (i := 3) (by omega)
    have f0 := RB1.out.frozen 0
    have f1 := RB1.out.frozen 1
    have f2 := RB1.out.frozen 2
    have f3 := RB1.out.frozen 3
    have lw := RB1.out.lt
    go_wp2
    all_goals
      have RE := (((((RB1.out.set 0 (.int .i64 0)).set 1 (.int .i64 0)).set 2 (.int .i64 0)).set 3 (.int .i64 0)).congr (g := fun i => (#[.int .i64 0, .int .i64 0, .int .i64 0, .int .i64 0] : Array Value).getD i undef) (fun i hi => by rcases (show i = 0 ∨ i = 1 ∨ i = 2 ∨ i = 3 by omega) with rfl | rfl | rfl | rfl <;> rfl))
      have KF := ((((K1.out.setCell (p := ⟨w.heap.size, 0, none⟩) (fun l => absurd (show w.heap.size < w.heap.size from l) (by omega)) (.int .i64 0)).setCell (p := ⟨w.heap.size, 1, none⟩) (fun l => absurd (show w.heap.size < w.heap.size from l) (by omega)) (.int .i64 0)).setCell (p := ⟨w.heap.size, 2, none⟩) (fun l => absurd (show w.heap.size < w.heap.size from l) (by omega)) (.int .i64 0)).setCell (p := ⟨w.heap.size, 3, none⟩) (fun l => absurd (show w.heap.size < w.heap.size from l) (by omega)) (.int .i64 0))
      refine bodyPost_ret (results_row_tmp9 Tryd.results11 _ _ w.heap.size 23 #[.int .i64 0, .int .i64 0, .int .i64 0, .int .i64 0] (0, 0) _ rfl (rowA_of RE) Tryd.underlying23 rfl (by kernel_rfl)) rfl ?_
      first | exact ⟨(0, 0, 0, 0), by rw [HB.out]; rfl, fun u => absurd (HB.out.symm.trans u) (by decide), KF⟩ | exact ⟨0, 0, 0, 0, by rw [HB.out]; rfl, fun u => absurd (HB.out.symm.trans u) (by decide), KF⟩
  | cons w0 rest =>
    obtain ⟨RGB, hRGB⟩ : ∃ x, x = rgb (w0 :: rest) := ⟨_, rfl⟩
    obtain ⟨RGG, hRGG⟩ : ∃ x, x = rgg (w0 :: rest) := ⟨_, rfl⟩
    show Calls Tryd.prog 11 #[.string s] w fun e w' => ∃ g : Gt, e = .returned (.tuple #[.agg #[.int .i64 g.1, .int .i64 g.2.1, .int .i64 g.2.2.1, .int .i64 g.2.2.2], .bool (rgb (w0 :: rest))]) ∧ (rgb (w0 :: rest) = true → g = rgg (w0 :: rest)) ∧ Chg nob w w'
    rw [← hRGB, ← hRGG]
    have HRG := hik (show RGB = (decide (opw w0 ≠ 0) && (rest.all nmb && decide (rest.length = gnn (opw w0))) && gtb 15 (gof (opw w0) (nzv rest))) from hRGB)
    have HRV := hik (show RGB = true → RGG = gof (opw w0) (nzv rest) from fun u => by rw [hRGG]; show (if rgb (w0 :: rest) = true then _ else _) = _; rw [if_pos (hRGB.symm.trans u)])
    clear hRGB hRGG
    go_enter Tryd.func11, Tryd.ntmps11
    go_wp2_with fail
    refine hwd.mono ?_
    rintro e W1 ⟨v, rfl, sg, k1⟩
    obtain ⟨cw, pw, ew, hrw⟩ := sg.row
    subst ew
    have K1 := hik ((K0.out.trans k1).alloc (.cells #[.int .i64 0, .int .i64 0, .int .i64 0, .int .i64 0] 23))
    have RB1 := hik (rowIs_keep (rowIs_keep RB.out k1) ((Chg.refl nob W1).alloc (.cells #[.int .i64 0, .int .i64 0, .int .i64 0, .int .i64 0] 23)))
    have RG := hik (rowN_new W1 4 #[.int .i64 0, .int .i64 0, .int .i64 0, .int .i64 0] 23 rfl)
    obtain ⟨yb, yo, rfl, hyb, _⟩ := hrw 0 (by simp)
    have HRW := hik (hrw.keep ((Chg.refl nob W1).alloc (.cells #[.int .i64 0, .int .i64 0, .int .i64 0, .int .i64 0] 23)))
    have HWB := hik (show w.heap.size < W1.heap.size ∧ W1.heap.size < (W1.alloc (.cells #[.int .i64 0, .int .i64 0, .int .i64 0, .int .i64 0] 23)).heap.size from ⟨(rowIs_keep RB.out k1).lt, by simp⟩)
    clear sg k1 hrw hwd K0 RB
    rw [show (w0 :: rest).length = rest.length + 1 from rfl] at HRW ⊢
    have hlr9 : rest.length ≤ 65536 := by have := HLN.out; simp at this; omega
    have hl0 : ¬ ((rest.length : Int) + 1) = 0 := by omega
    have hl1 : (((rest.length : Int) + 1) == 0) = false := beq_eq_false_iff_ne.2 hl0
    go_wp2_with fail
    refine (sNames_any _).mono ?_
    rintro e W2 ⟨b, rfl, hnm, kk⟩
    have HNM := hik hnm
    replace K1 := hik (K1.out.trans kk)
    replace RB1 := hik (rowIs_keep RB1.out kk)
    replace RG := hik (rowIs_keep RG.out kk)
    replace HRW := hik (HRW.out.keep kk)
    obtain ⟨gb, hgb⟩ : ∃ x, x = W1.heap.size := ⟨_, rfl⟩
    rw [← hgb] at RG ⊢
    have HGB := hik (show w.heap.size < gb by have := HWB.out.1; omega)
    have HYG := hik (show yb < gb by rw [hgb]; exact hyb)
    have HBG := hik (show b ≠ gb from fun e => by
      have a := HNM.out 0 (by omega)
      have c := RG.out.cell (i := 0) (by omega)
      rw [e] at a
      cases (show (some (Value.string _) : Option Value) = some (.int .i64 0) from a.symm.trans c))
    clear hnm kk HWB hgb hyb
    have h01 : opk w0 1 = 0 := by unfold opk; split <;> omega
    go_wp2_with fail
    go_loopw [7] (fun vi W => ∃ k : Nat, 1 ≤ k ∧ k ≤ 9 ∧ vi = .int .i64 (k : Int) ∧ Hid (W.rowIs gb 23 4 (fun i => (#[.int .i64 ((opk w0 k : Nat) : Int), .int .i64 0, .int .i64 0, .int .i64 0] : Array Value).getD i undef)) ∧ Hid (Chg nob w W) ∧ Hid (∀ j : Nat, j < 9 → W.cell? ⟨b, j, none⟩ = some (.string ⟨(gwd j).toArray⟩)) ∧ Hid (W.rowIs w.heap.size 23 4 (fun i => (#[.int .i64 0, .int .i64 0, .int .i64 0, .int .i64 0] : Array Value).getD i undef)) ∧ Hid (RowV W (some ⟨yb, yo, none⟩) (rest.length + 1) (tvs (w0 :: rest)))) (fun vi _ => 20 - (intOf vi).toNat)
    case atStart => exact ⟨1, by omega, by omega, rfl, hik (RG.out.congr (fun i hi => by rw [h01]; rfl)), K1, HNM, RB1, HRW⟩
    case round =>
      clear RG K1 HNM RB1 HRW h01
      obtain ⟨k, hk1, hk9, rfl, RG, K1, HNM, RB1, HRW⟩ := hrel
      rename World => wi
      by_cases hlt : k < 9
      · have x0 := HNM.out k hlt
        have y0 : wi.cell? ⟨yb, yo, none⟩ = some (.string ⟨w0.toArray⟩) := by
          obtain ⟨a, c, e, _, h⟩ := HRW.out 0 (by omega)
          cases e
          exact h
        have hkl : ((k : Nat) : Int) < 9 := by omega
        have hk0 : ¬ ((k : Nat) : Int) < 0 := by omega
        by_cases he : gwd (k : Int) = w0
        · have HK := hik (opk_hit hk1 (by omega) he)
          rw [he] at x0
          generalize (⟨w0.toArray⟩ : ByteArray) = Y at x0 y0
          clear he
          (go_upto_region 9 with fail)
          have KW := hik ((Chg.refl nob wi).drew1)
          have SA := hik (fun (WW : World) (kW : Chg nob wi WW) => (show (WW.cell? ⟨b, k, none⟩ = some ((.string Y)) ∧ WW.cell? ⟨yb, yo, none⟩ = some ((.string Y))) from ⟨kW.see x0, kW.see y0⟩))
          refine wp_region_held_drew (S := fun w' => w'.cell? ⟨b, k, none⟩ = some ((.string Y)) ∧ w'.cell? ⟨yb, yo, none⟩ = some ((.string Y))) (by kernel_rfl) ⟨x0, y0⟩ (fun hHeld => ?_)
          refine wpAnyH_take (i := 0) (v := ?_) rfl (by kernel_rfl) (by kernel_rfl) (by kernel_rfl) (fun _ _ _ h => h) (Or.inl ⟨by rfl, ?_⟩) (by assumption) ?_
          rotate_left 1
          · (intro w' hSw; (try dsimp only at hSw); go_simp; try with_reducible rfl)
          try simp only [Act.put, List.setIfInBounds_toArray, List.set_cons_zero, List.set_cons_succ, List.getElem_toArray, List.getElem_cons_zero, List.getElem_cons_succ]
          refine wpAnyH_take (i := 1) (v := ?_) rfl (by kernel_rfl) (by kernel_rfl) (by kernel_rfl) (fun _ _ _ h => h) (Or.inl ⟨by rfl, ?_⟩) (by assumption) ?_
          rotate_left 1
          · (intro w' hSw; (try dsimp only at hSw); go_simp; try with_reducible rfl)
          try simp only [Act.put, List.setIfInBounds_toArray, List.set_cons_zero, List.set_cons_succ, List.getElem_toArray, List.getElem_cons_zero, List.getElem_cons_succ]
          refine wpAnyH_take (i := 2) (v := ?_) rfl (by kernel_rfl) (by kernel_rfl) (by kernel_rfl) (fun _ _ _ h => h) (Or.inl ⟨by rfl, ?_⟩) (by assumption) ?_
          rotate_left 1
          · (intro w' hSw; (try dsimp only at hSw); go_simp; try with_reducible rfl)
          try simp only [Act.put, List.setIfInBounds_toArray, List.set_cons_zero, List.set_cons_succ, List.getElem_toArray, List.getElem_cons_zero, List.getElem_cons_succ]
          refine wpAnyH_take (i := 3) (v := ?_) rfl (by kernel_rfl) (by kernel_rfl) (by kernel_rfl) (fun _ _ _ h => h) (Or.inl ⟨by rfl, ?_⟩) (by assumption) ?_
          rotate_left 1
          · (intro w' hSw; (try dsimp only at hSw); go_simp; try with_reducible rfl)
          try simp only [Act.put, List.setIfInBounds_toArray, List.set_cons_zero, List.set_cons_succ, List.getElem_toArray, List.getElem_cons_zero, List.getElem_cons_succ]
          refine wpAnyH_take (i := 4) (v := ?_) rfl (by kernel_rfl) (by kernel_rfl) (by kernel_rfl) (fun _ _ _ h => h) (Or.inl ⟨by rfl, ?_⟩) (by assumption) ?_
          rotate_left 1
          · (intro w' hSw; (try dsimp only at hSw); go_simp; try with_reducible rfl)
          try simp only [Act.put, List.setIfInBounds_toArray, List.set_cons_zero, List.set_cons_succ, List.getElem_toArray, List.getElem_cons_zero, List.getElem_cons_succ]
          refine wpAnyH_take (i := 5) (v := ?_) rfl (by kernel_rfl) (by kernel_rfl) (by kernel_rfl) (fun _ _ _ h => h) (Or.inl ⟨by rfl, ?_⟩) (by assumption) ?_
          rotate_left 1
          · (intro w' hSw; (try dsimp only at hSw); go_simp; try with_reducible rfl)
          try simp only [Act.put, List.setIfInBounds_toArray, List.set_cons_zero, List.set_cons_succ, List.getElem_toArray, List.getElem_cons_zero, List.getElem_cons_succ]
          refine wpAnyH_take (i := 6) (v := ?_) rfl (by kernel_rfl) (by kernel_rfl) (by kernel_rfl) (fun _ _ _ h => h) (Or.inl ⟨by rfl, ?_⟩) (by assumption) ?_
          rotate_left 1
          · (intro w' hSw; (try dsimp only at hSw); go_simp; try with_reducible rfl)
          try simp only [Act.put, List.setIfInBounds_toArray, List.set_cons_zero, List.set_cons_succ, List.getElem_toArray, List.getElem_cons_zero, List.getElem_cons_succ]
          refine wpAnyH_take (i := 7) (v := .bool true) rfl (by kernel_rfl) (by kernel_rfl) (by kernel_rfl) (fun _ _ _ h => h) (Or.inl ⟨by rfl, ?_⟩) (by assumption) ?_
          · (intro w' hSw; (try dsimp only at hSw); go_simp; first | done | simp | rfl)
          try simp only [Act.put, List.setIfInBounds_toArray, List.set_cons_zero, List.set_cons_succ, List.getElem_toArray, List.getElem_cons_zero, List.getElem_cons_succ]
          refine wpAnyH_done (by kernel_rfl) ?_ _
          replace RG := hik (rowIs_keep RG.out KW.out)
          replace K1 := hik (K1.out.trans KW.out)
          replace RB1 := hik (rowIs_keep RB1.out KW.out)
          replace HRW := hik (HRW.out.keep KW.out)
          replace HNM := hik (show ∀ j : Nat, j < 9 → _ from fun j hj => KW.out.see (HNM.out j hj))
          clear KW SA hHeld x0 y0
          generalize World.drew wi = W3 at RG K1 RB1 HRW HNM ⊢
          have g0 : W3.cell? ⟨gb, 0, none⟩ = some (.int .i64 ((opk w0 k : Nat) : Int)) := RG.out.cell (i := 0) (by omega)
          have g1 := RG.out.frozen 0
          have g2 := RG.out.lt
          have KS := hik ((Chg.refl (fun q => q = gb) W3).setCell (p := ⟨gb, 0, none⟩) (fun _ => rfl) (.int .i64 (k : Int)))
          go_wp2
          go_roundw
          case rel => exact ⟨k + 1, by omega, by omega, by go_num, hik ((RG.out.set 0 (.int .i64 (k : Int))).congr (fun i hi => by rw [HK.out]; rcases (show i = 0 ∨ i = 1 ∨ i = 2 ∨ i = 3 by omega) with rfl | rfl | rfl | rfl <;> rfl)), hik (K1.out.setCell (p := ⟨gb, 0, none⟩) (fun l => absurd (show gb < w.heap.size from l) (by have := HGB.out; omega)) (.int .i64 (k : Int))), hik (fun j hj => KS.out.seeP (HNM.out j hj) HBG.out), hik (rowIs_chg RB1.out KS.out (fun e => by have := HGB.out; omega)), hik (HRW.out.chg KS.out (fun x y e _ q => by cases e; have := HYG.out; omega))⟩
          case measure => simp [intOf] <;> omega
        · have HK := hik (opk_miss hk1 (by omega) he)
          have hne : ¬ (⟨(gwd (k : Int)).toArray⟩ : ByteArray).toList = (⟨w0.toArray⟩ : ByteArray).toList := fun e => by
            rw [ByteArray.toList_eq, ByteArray.toList_eq] at e
            exact he (by simpa using e)
          generalize (⟨w0.toArray⟩ : ByteArray) = Y at y0 hne
          generalize (⟨(gwd (k : Int)).toArray⟩ : ByteArray) = X at x0 hne
          have hne1 : (X.toList == Y.toList) = false := beq_eq_false_iff_ne.2 hne
          clear he
          (go_upto_region 9 with fail)
          have KW := hik ((Chg.refl nob wi).drew1)
          have SA := hik (fun (WW : World) (kW : Chg nob wi WW) => (show (WW.cell? ⟨b, k, none⟩ = some ((.string X)) ∧ WW.cell? ⟨yb, yo, none⟩ = some ((.string Y))) from ⟨kW.see x0, kW.see y0⟩))
          refine wp_region_held_drew (S := fun w' => w'.cell? ⟨b, k, none⟩ = some ((.string X)) ∧ w'.cell? ⟨yb, yo, none⟩ = some ((.string Y))) (by kernel_rfl) ⟨x0, y0⟩ (fun hHeld => ?_)
          refine wpAnyH_take (i := 0) (v := ?_) rfl (by kernel_rfl) (by kernel_rfl) (by kernel_rfl) (fun _ _ _ h => h) (Or.inl ⟨by rfl, ?_⟩) (by assumption) ?_
          rotate_left 1
          · (intro w' hSw; (try dsimp only at hSw); go_simp; try with_reducible rfl)
          try simp only [Act.put, List.setIfInBounds_toArray, List.set_cons_zero, List.set_cons_succ, List.getElem_toArray, List.getElem_cons_zero, List.getElem_cons_succ]
          refine wpAnyH_take (i := 1) (v := ?_) rfl (by kernel_rfl) (by kernel_rfl) (by kernel_rfl) (fun _ _ _ h => h) (Or.inl ⟨by rfl, ?_⟩) (by assumption) ?_
          rotate_left 1
          · (intro w' hSw; (try dsimp only at hSw); go_simp; try with_reducible rfl)
          try simp only [Act.put, List.setIfInBounds_toArray, List.set_cons_zero, List.set_cons_succ, List.getElem_toArray, List.getElem_cons_zero, List.getElem_cons_succ]
          refine wpAnyH_take (i := 2) (v := ?_) rfl (by kernel_rfl) (by kernel_rfl) (by kernel_rfl) (fun _ _ _ h => h) (Or.inl ⟨by rfl, ?_⟩) (by assumption) ?_
          rotate_left 1
          · (intro w' hSw; (try dsimp only at hSw); go_simp; try with_reducible rfl)
          try simp only [Act.put, List.setIfInBounds_toArray, List.set_cons_zero, List.set_cons_succ, List.getElem_toArray, List.getElem_cons_zero, List.getElem_cons_succ]
          refine wpAnyH_take (i := 3) (v := ?_) rfl (by kernel_rfl) (by kernel_rfl) (by kernel_rfl) (fun _ _ _ h => h) (Or.inl ⟨by rfl, ?_⟩) (by assumption) ?_
          rotate_left 1
          · (intro w' hSw; (try dsimp only at hSw); go_simp; try with_reducible rfl)
          try simp only [Act.put, List.setIfInBounds_toArray, List.set_cons_zero, List.set_cons_succ, List.getElem_toArray, List.getElem_cons_zero, List.getElem_cons_succ]
          refine wpAnyH_take (i := 4) (v := ?_) rfl (by kernel_rfl) (by kernel_rfl) (by kernel_rfl) (fun _ _ _ h => h) (Or.inl ⟨by rfl, ?_⟩) (by assumption) ?_
          rotate_left 1
          · (intro w' hSw; (try dsimp only at hSw); go_simp; try with_reducible rfl)
          try simp only [Act.put, List.setIfInBounds_toArray, List.set_cons_zero, List.set_cons_succ, List.getElem_toArray, List.getElem_cons_zero, List.getElem_cons_succ]
          refine wpAnyH_take (i := 5) (v := ?_) rfl (by kernel_rfl) (by kernel_rfl) (by kernel_rfl) (fun _ _ _ h => h) (Or.inl ⟨by rfl, ?_⟩) (by assumption) ?_
          rotate_left 1
          · (intro w' hSw; (try dsimp only at hSw); go_simp; try with_reducible rfl)
          try simp only [Act.put, List.setIfInBounds_toArray, List.set_cons_zero, List.set_cons_succ, List.getElem_toArray, List.getElem_cons_zero, List.getElem_cons_succ]
          refine wpAnyH_take (i := 6) (v := ?_) rfl (by kernel_rfl) (by kernel_rfl) (by kernel_rfl) (fun _ _ _ h => h) (Or.inl ⟨by rfl, ?_⟩) (by assumption) ?_
          rotate_left 1
          · (intro w' hSw; (try dsimp only at hSw); go_simp; try with_reducible rfl)
          try simp only [Act.put, List.setIfInBounds_toArray, List.set_cons_zero, List.set_cons_succ, List.getElem_toArray, List.getElem_cons_zero, List.getElem_cons_succ]
          refine wpAnyH_take (i := 7) (v := .bool false) rfl (by kernel_rfl) (by kernel_rfl) (by kernel_rfl) (fun _ _ _ h => h) (Or.inl ⟨by rfl, ?_⟩) (by assumption) ?_
          · (intro w' hSw; (try dsimp only at hSw); go_simp; first | done | exact hne1 | simp [hne1])
          try simp only [Act.put, List.setIfInBounds_toArray, List.set_cons_zero, List.set_cons_succ, List.getElem_toArray, List.getElem_cons_zero, List.getElem_cons_succ]
          refine wpAnyH_done (by kernel_rfl) ?_ _
          replace RG := hik (rowIs_keep RG.out KW.out)
          replace K1 := hik (K1.out.trans KW.out)
          replace RB1 := hik (rowIs_keep RB1.out KW.out)
          replace HRW := hik (HRW.out.keep KW.out)
          replace HNM := hik (show ∀ j : Nat, j < 9 → _ from fun j hj => KW.out.see (HNM.out j hj))
          clear KW SA hHeld x0 y0
          go_wp2
          go_roundw
          case rel => exact ⟨k + 1, by omega, by omega, by go_num, hik (RG.out.congr (fun i hi => by rw [HK.out])), K1, HNM, RB1, HRW⟩
          case measure => simp [intOf] <;> omega
      · obtain rfl : k = 9 := by omega
        rw [opk_all] at RG
        clear hlt hk1 hk9 HNM HBG
        go_wp2
        have hgl := RG.out.lt
        have HN := IGr.fresh wi (gb + 1) (nzv rest) (by omega)
        go_loopw [8, 9] (fun v i W => ∃ j : Nat, j ≤ rest.length ∧ i = .int .i64 ((j : Int) + 1) ∧ Hid (IGr W (gb + 1) v j (nzv rest)) ∧ Hid (∀ i, i < j → nmb (rest.getD i []) = true) ∧ Hid (W.rowIs gb 23 4 (fun i => (#[.int .i64 ((opw w0 : Nat) : Int), .int .i64 0, .int .i64 0, .int .i64 0] : Array Value).getD i undef)) ∧ Hid (Chg nob w W) ∧ Hid (W.rowIs w.heap.size 23 4 (fun i => (#[.int .i64 0, .int .i64 0, .int .i64 0, .int .i64 0] : Array Value).getD i undef)) ∧ Hid (RowV W (some ⟨yb, yo, none⟩) (rest.length + 1) (tvs (w0 :: rest)))) (fun _ i _ => rest.length + 5 - (intOf i).toNat)
        case atStart =>
          have ka := (Chg.refl nob wi).alloc (.cells #[] 3)
          exact ⟨0, by omega, rfl, hik HN, hik (fun _ h => absurd h (by omega)), hik (rowIs_keep RG.out ka), hik (K1.out.trans ka), hik (rowIs_keep RB1.out ka), hik (HRW.out.keep ka)⟩
        case round =>
          clear RG K1 RB1 HRW HN hgl
          obtain ⟨j, hj, rfl, HN, HOKS, RG, K1, RB1, HRW⟩ := hrel
          rename World => wj
          by_cases hlt : j < rest.length
          · have d1 : wj.cell? ⟨yb, yo + (j + 1), none⟩ = some (.string ⟨(rest.getD j []).toArray⟩) := by
              obtain ⟨a, c, e, _, h⟩ := HRW.out (j + 1) (by omega)
              cases e
              exact h
            have hjl : ((j : Nat) : Int) + 1 < (rest.length : Int) + 1 := by omega
            have hj0 : ¬ ((j : Nat) : Int) + 1 < 0 := by omega
            have hj2 : (((j : Nat) : Int) + 1).toNat = j + 1 := by omega
            have hx := HWN.out _ (List.mem_cons_of_mem _ (mem_getD hlt))
            have hnf := l00Number_any ⟨(rest.getD j []).toArray⟩ (by show (rest.getD j []).toArray.size ≤ _; rw [List.size_toArray]; exact hx.2) wj
            rw [show (⟨(rest.getD j []).toArray⟩ : ByteArray).data.toList = rest.getD j [] from List.toList_toArray] at hnf
            have HL := hik hlt
            have EV := hik (show nmv (rest.getD j []) = nzv rest j from rfl)
            generalize (⟨(rest.getD j []).toArray⟩ : ByteArray) = Tx at hnf d1
            generalize nmv (rest.getD j []) = z at hnf EV
            cases hb : nmb (rest.getD j []) with
            | false =>
              rw [hb] at hnf
              have HB := hik (show RGB = false from by rw [HRG.out, all_no hlt hb]; simp)
              clear hb HRG HRV
              go_wp2_with fail
              refine hnf.mono ?_
              rintro e W2 ⟨rfl, rfl⟩
              have c0 : W2.cell? ⟨w.heap.size, 0, none⟩ = some (.int .i64 0) := RB1.out.cell (i := 0) (by omega)
              have c1 : W2.cell? ⟨w.heap.size, 1, none⟩ = some (.int .i64 0) := RB1.out.cell (i := 1) (by omega)
              have c2 : W2.cell? ⟨w.heap.size, 2, none⟩ = some (.int .i64 0) := RB1.out.cell (i := 2) (by omega)
              have c3 : W2.cell? ⟨w.heap.size, 3, none⟩ = some (.int .i64 0) := RB1.out.cell (i := 3) (by omega)
              have f0 := RB1.out.frozen 0
              have f1 := RB1.out.frozen 1
              have f2 := RB1.out.frozen 2
              have f3 := RB1.out.frozen 3
              have lw := RB1.out.lt
              go_wp2
              all_goals
                have RE := (((((RB1.out.set 0 (.int .i64 0)).set 1 (.int .i64 0)).set 2 (.int .i64 0)).set 3 (.int .i64 0)).congr (g := fun i => (#[.int .i64 0, .int .i64 0, .int .i64 0, .int .i64 0] : Array Value).getD i undef) (fun i hi => by rcases (show i = 0 ∨ i = 1 ∨ i = 2 ∨ i = 3 by omega) with rfl | rfl | rfl | rfl <;> rfl))
                have KF := ((((K1.out.setCell (p := ⟨w.heap.size, 0, none⟩) (fun l => absurd (show w.heap.size < w.heap.size from l) (by omega)) (.int .i64 0)).setCell (p := ⟨w.heap.size, 1, none⟩) (fun l => absurd (show w.heap.size < w.heap.size from l) (by omega)) (.int .i64 0)).setCell (p := ⟨w.heap.size, 2, none⟩) (fun l => absurd (show w.heap.size < w.heap.size from l) (by omega)) (.int .i64 0)).setCell (p := ⟨w.heap.size, 3, none⟩) (fun l => absurd (show w.heap.size < w.heap.size from l) (by omega)) (.int .i64 0))
                refine bodyPost_ret (results_row_tmp9 Tryd.results11 _ _ w.heap.size 23 #[.int .i64 0, .int .i64 0, .int .i64 0, .int .i64 0] (0, 0) _ rfl (rowA_of RE) Tryd.underlying23 rfl (by kernel_rfl)) rfl ?_
                first | exact ⟨(0, 0, 0, 0), by rw [HB.out]; rfl, fun u => absurd (HB.out.symm.trans u) (by decide), KF⟩ | exact ⟨0, 0, 0, 0, by rw [HB.out]; rfl, fun u => absurd (HB.out.symm.trans u) (by decide), KF⟩
            | true =>
              rw [hb] at hnf
              have HOK := hik hb
              clear hb
              go_wp2_with fail
              refine hnf.mono ?_
              rintro e W2 ⟨rfl, rfl⟩
              have IB := hik (HN.out.keep ((Chg.refl nob W2).alloc (.cells #[.int .i64 z] 3)))
              have CB := hik (show World.cell? (W2.alloc (.cells #[.int .i64 z] 3)) ⟨W2.heap.size, 0, none⟩ = some (.int .i64 z) by go_simp)
              have LB := hik (show gb + 1 ≤ (W2.alloc (.cells #[.int .i64 z] 3)).heap.size from Nat.le_trans (show gb + 1 ≤ W2.heap.size from RG.out.lt) ((Chg.refl nob W2).alloc (.cells #[.int .i64 z] 3)).size)
              have K4 := hik ((Chg.refl nob W2).alloc (.cells #[.int .i64 z] 3))
              clear HN d1
              go_wp2_with (at_builtin; refine wpList_app1 (by rfl) (.tmp 55) (.tmp 57) (by rfl) (gb + 1) j _ _ _ z (by rfl) (by rfl) IB.out CB.out (by omega) LB.out ?b6)
              case b6 =>
                intro v7 w7 hg7 k7
                have HI7 := hik (hg7.congr (nzv_next rest j z EV.out))
                have RG7 := hik (rowIs_chg (rowIs_keep RG.out K4.out) k7 (fun q => by have q : gb + 1 ≤ gb := q; omega))
                have RB7 := hik (rowIs_chg (rowIs_keep RB1.out K4.out) k7 (fun q => by have q : gb + 1 ≤ w.heap.size := q; have := HGB.out; omega))
                have HR7 := hik ((HRW.out.keep K4.out).chg k7 (fun x y e _ q => by cases e; have q : gb + 1 ≤ yb := q; have := HYG.out; omega))
                have KZ := hik ((K1.out.trans K4.out).near k7 (fun i q => by have q : gb + 1 ≤ i := q; have := HGB.out; omega))
                have HA7 := hik (show ∀ i, i < j + 1 → nmb (rest.getD i []) = true from fun i hi => by
                  by_cases e : i = j
                  · rw [e]; exact HOK.out
                  · exact HOKS.out i (by omega))
                clear hg7 k7 IB CB LB K4 K1 RG RB1 HRW HOKS
                go_wp2
                go_roundw
                case rel =>
                  repeat apply Exists.intro
                  refine ⟨?rr, rfl⟩
                  exact ⟨j + 1, HL.out, by go_num, HI7, HA7, RG7, KZ, RB7, HR7⟩
                case measure => simp [intOf] <;> have := HL.out <;> omega
          · obtain rfl : rest.length = j := by omega
            have HALL := hik (all_yes HOKS.out)
            rw [HALL.out, Bool.true_and] at HRG
            clear hlt hj HOKS HALL HRW HWN HYG
            have HO8 := hik (opw_le w0)
            have HSS := hik (show rest.length ≤ 65536 from hlr9)
            generalize opw w0 = O at RG HRG HRV HO8 ⊢
            have HG8 := hik (show IntKind.i64.wrap (usg (O : Int) + (if (O : Int) = 3 then 1 else 0)) = ((gnn (O : Int) : Nat) : Int) from by
              rcases (show O = 0 ∨ O = 1 ∨ O = 2 ∨ O = 3 ∨ O = 4 ∨ O = 5 ∨ O = 6 ∨ O = 7 ∨ O = 8 by have := HO8.out; omega) with rfl | rfl | rfl | rfl | rfl | rfl | rfl | rfl | rfl <;> rfl)
            have hue := fun w' => sUses_any (O : Int) w'
            have hbe := fun w' => sBit_any ((O : Int) == 3) w'
            generalize usg (O : Int) = US at HG8 hue
            have x0 : wj.cell? ⟨gb, 0, none⟩ = some (.int .i64 (O : Int)) := RG.out.cell (i := 0) (by omega)
            (go_upto_region 19 with fail)
            have KW := hik ((Chg.refl nob wj).drew1)
            have SA := hik (fun (WW : World) (kW : Chg nob wj WW) => (show (WW.cell? ⟨gb, 0, none⟩ = some ((.int .i64 (O : Int)))) from kW.see x0))
            refine wp_region_held_drew (S := fun w' => w'.cell? ⟨gb, 0, none⟩ = some ((.int .i64 (O : Int)))) (by kernel_rfl) x0 (fun hHeld => ?_)
            refine wpAnyH_take (i := 0) (v := ?_) rfl (by kernel_rfl) (by kernel_rfl) (by kernel_rfl) (fun _ _ _ h => h) (Or.inl ⟨by rfl, ?_⟩) (by assumption) ?_
            rotate_left 1
            · (intro w' hSw; (try dsimp only at hSw); go_simp; try with_reducible rfl)
            try simp only [Act.put, List.setIfInBounds_toArray, List.set_cons_zero, List.set_cons_succ, List.getElem_toArray, List.getElem_cons_zero, List.getElem_cons_succ]
            refine wpAnyH_take (i := 1) (v := ?_) rfl (by kernel_rfl) (by kernel_rfl) (by kernel_rfl) (fun _ _ _ h => h) (Or.inl ⟨by rfl, ?_⟩) (by assumption) ?_
            rotate_left 1
            · (intro w' hSw; (try dsimp only at hSw); go_simp; try with_reducible rfl)
            try simp only [Act.put, List.setIfInBounds_toArray, List.set_cons_zero, List.set_cons_succ, List.getElem_toArray, List.getElem_cons_zero, List.getElem_cons_succ]
            refine wpAnyH_take (i := 3) (v := ?_) rfl (by kernel_rfl) (by kernel_rfl) (by kernel_rfl) (fun _ _ _ h => h) (Or.inl ⟨by rfl, ?_⟩) (by assumption) ?_
            rotate_left 1
            · (intro w' hSw; (try dsimp only at hSw); go_simp; try with_reducible rfl)
            try simp only [Act.put, List.setIfInBounds_toArray, List.set_cons_zero, List.set_cons_succ, List.getElem_toArray, List.getElem_cons_zero, List.getElem_cons_succ]
            refine wpAnyH_take (i := 4) (v := ?_) rfl (by kernel_rfl) (by kernel_rfl) (by kernel_rfl) (fun _ _ _ h => h) (Or.inl ⟨by rfl, ?_⟩) (by assumption) ?_
            rotate_left 1
            · (intro w' hSw; (try dsimp only at hSw); go_simp; try with_reducible rfl)
            try simp only [Act.put, List.setIfInBounds_toArray, List.set_cons_zero, List.set_cons_succ, List.getElem_toArray, List.getElem_cons_zero, List.getElem_cons_succ]
            refine wpAnyH_take (i := 5) (v := .bool ((O : Int) == 3)) rfl (by kernel_rfl) (by kernel_rfl) (by kernel_rfl) (fun _ _ _ h => h) (Or.inl ⟨by rfl, ?_⟩) (by assumption) ?_
            · (intro w' hSw; (try dsimp only at hSw); go_simp; first | done | rfl)
            try simp only [Act.put, List.setIfInBounds_toArray, List.set_cons_zero, List.set_cons_succ, List.getElem_toArray, List.getElem_cons_zero, List.getElem_cons_succ]
            refine wpAnyH_ready (rs := [2]) (by kernel_rfl) (by simp) ?_
            refine AllReadyH.cons rfl (fun K hK => ?_) AllReadyH.nil
            refine stepL_callN 25 #[.tmp 60] #[3] (by rfl) (by rfl) #[.int .i64 (O : Int)] (by simp only [List.map_toArray, List.map_cons, List.map_nil] <;> rfl) (run_go Tryd.func25 (by kernel_rfl) (by kernel_rfl) _ _) (hue _) ?_
            rintro e U1 ⟨he, hw⟩
            refine ⟨_, he, ?_⟩
            subst hw
            refine hK.out _ _ (SA.out _ KW.out) (fun hHeld => ?_)
            clear hK K
            try simp only [Act.put, List.setIfInBounds_toArray, List.set_cons_zero, List.set_cons_succ, List.getElem_toArray, List.getElem_cons_zero, List.getElem_cons_succ]
            clear he
            refine wpAnyH_ready (rs := [6]) (by kernel_rfl) (by simp) ?_
            refine AllReadyH.cons rfl (fun K hK => ?_) AllReadyH.nil
            refine stepL_callN 29 #[.tmp 64] #[4] (by rfl) (by rfl) #[.bool ((O : Int) == 3)] (by simp only [List.map_toArray, List.map_cons, List.map_nil] <;> rfl) (run_go Tryd.func29 (by kernel_rfl) (by kernel_rfl) _ _) (hbe _) ?_
            rintro e U2 ⟨he, hw⟩
            refine ⟨_, he, ?_⟩
            subst hw
            refine hK.out _ _ (SA.out _ KW.out) (fun hHeld => ?_)
            clear hK K
            try simp only [Act.put, List.setIfInBounds_toArray, List.set_cons_zero, List.set_cons_succ, List.getElem_toArray, List.getElem_cons_zero, List.getElem_cons_succ]
            clear he
            refine wpAnyH_take (i := 7) (v := .int .i64 ((gnn (O : Int) : Nat) : Int)) rfl (by kernel_rfl) (by kernel_rfl) (by kernel_rfl) (fun _ _ _ h => h) (Or.inl ⟨by rfl, ?_⟩) (by assumption) ?_
            · (intro w' hSw; (try dsimp only at hSw); go_simp; first | done | exact HG8.out | simp [HG8.out])
            try simp only [Act.put, List.setIfInBounds_toArray, List.set_cons_zero, List.set_cons_succ, List.getElem_toArray, List.getElem_cons_zero, List.getElem_cons_succ]
            refine wpAnyH_take (i := 8) (v := ?_) rfl (by kernel_rfl) (by kernel_rfl) (by kernel_rfl) (fun _ _ _ h => h) (Or.inl ⟨by rfl, ?_⟩) (by assumption) ?_
            rotate_left 1
            · (intro w' hSw; (try dsimp only at hSw); go_simp; try with_reducible rfl)
            try simp only [Act.put, List.setIfInBounds_toArray, List.set_cons_zero, List.set_cons_succ, List.getElem_toArray, List.getElem_cons_zero, List.getElem_cons_succ]
            refine wpAnyH_done (by kernel_rfl) ?_ _
            replace RG := hik (rowIs_keep RG.out KW.out)
            replace K1 := hik (K1.out.trans KW.out)
            replace RB1 := hik (rowIs_keep RB1.out KW.out)
            obtain ⟨c8, p8, e8, hp8, hm8, hr8⟩ := (HN.out.keep KW.out).row
            subst e8
            have HLB := hik (fun (x : Nat) (e : (Value.slice c8 rest.length p8).ownBlock = some x) => IGr.len HN.out e)
            have HR8 := hik hr8
            clear KW SA hHeld x0 HN hr8 hue hbe HG8
            generalize World.drew wj = W3 at RG K1 RB1 HR8 ⊢
            have x0 : W3.cell? ⟨gb, 0, none⟩ = some (.int .i64 (O : Int)) := RG.out.cell (i := 0) (by omega)
            by_cases hO : O = 0
            · have HB := hik (show RGB = false from by rw [HRG.out, hO]; rfl)
              have hO1 : (O : Int) = 0 := by omega
              rw [hO1] at x0
              clear HRG HRV
              have c0 : W3.cell? ⟨w.heap.size, 0, none⟩ = some (.int .i64 0) := RB1.out.cell (i := 0) (by omega)
              have c1 : W3.cell? ⟨w.heap.size, 1, none⟩ = some (.int .i64 0) := RB1.out.cell (i := 1) (by omega)
              have c2 : W3.cell? ⟨w.heap.size, 2, none⟩ = some (.int .i64 0) := RB1.out.cell (i := 2) (by omega)
              have c3 : W3.cell? ⟨w.heap.size, 3, none⟩ = some (.int .i64 0) := RB1.out.cell (i := 3) (by omega)
              have f0 := RB1.out.frozen 0
              have f1 := RB1.out.frozen 1
              have f2 := RB1.out.frozen 2
              have f3 := RB1.out.frozen 3
              have lw := RB1.out.lt
              go_wp2
              all_goals
                have RE := (((((RB1.out.set 0 (.int .i64 0)).set 1 (.int .i64 0)).set 2 (.int .i64 0)).set 3 (.int .i64 0)).congr (g := fun i => (#[.int .i64 0, .int .i64 0, .int .i64 0, .int .i64 0] : Array Value).getD i undef) (fun i hi => by rcases (show i = 0 ∨ i = 1 ∨ i = 2 ∨ i = 3 by omega) with rfl | rfl | rfl | rfl <;> rfl))
                have KF := ((((K1.out.setCell (p := ⟨w.heap.size, 0, none⟩) (fun l => absurd (show w.heap.size < w.heap.size from l) (by omega)) (.int .i64 0)).setCell (p := ⟨w.heap.size, 1, none⟩) (fun l => absurd (show w.heap.size < w.heap.size from l) (by omega)) (.int .i64 0)).setCell (p := ⟨w.heap.size, 2, none⟩) (fun l => absurd (show w.heap.size < w.heap.size from l) (by omega)) (.int .i64 0)).setCell (p := ⟨w.heap.size, 3, none⟩) (fun l => absurd (show w.heap.size < w.heap.size from l) (by omega)) (.int .i64 0))
                refine bodyPost_ret (results_row_tmp9 Tryd.results11 _ _ w.heap.size 23 #[.int .i64 0, .int .i64 0, .int .i64 0, .int .i64 0] (0, 0) _ rfl (rowA_of RE) Tryd.underlying23 rfl (by kernel_rfl)) rfl ?_
                first | exact ⟨(0, 0, 0, 0), by rw [HB.out]; rfl, fun u => absurd (HB.out.symm.trans u) (by decide), KF⟩ | exact ⟨0, 0, 0, 0, by rw [HB.out]; rfl, fun u => absurd (HB.out.symm.trans u) (by decide), KF⟩
            · have hO1 : ¬ (O : Int) = 0 := by omega
              have hO2 : ((O : Int) == 0) = false := beq_eq_false_iff_ne.2 hO1
              by_cases hL : rest.length = gnn (O : Int)
              · have hL3 : ((rest.length : Int) != ((gnn (O : Int) : Nat) : Int)) = false := by rw [hL]; simp
                have HRG2 := hik (show RGB = gtb 15 (gof O (nzv rest)) from by rw [HRG.out, decide_eq_true hL, decide_eq_true hO]; rfl)
                generalize nzv rest = Z at HR8 HRG2 HRV
                clear HRG hlr9
                have x1 : W3.cell? ⟨gb, 1, none⟩ = some (.int .i64 0) := RG.out.cell (i := 1) (by omega)
                have x2 : W3.cell? ⟨gb, 2, none⟩ = some (.int .i64 0) := RG.out.cell (i := 2) (by omega)
                have x3 : W3.cell? ⟨gb, 3, none⟩ = some (.int .i64 0) := RG.out.cell (i := 3) (by omega)
                have g1 := RG.out.frozen 1
                have g2 := RG.out.frozen 2
                have g3 := RG.out.frozen 3
                have gl := RG.out.lt
                by_cases h3 : O = 3
                · have h31 : (O : Int) = 3 := by omega
                  have h32 : ((O : Int) == 3) = true := beq_iff_eq.2 h31
                  have hg1 : gnn (O : Int) = 1 := by rw [h31]; rfl
                  have HGO := hik (show gof O Z = (3, 0, 0, Z 0) by rw [h3]; rfl)
                  rw [hg1] at hL hL3 ⊢
                  have hc8 := HR8.out 0 (by omega)
                  obtain ⟨nb, no, rfl, hnb, d0⟩ := hc8
                  have d00 : W3.cell? ⟨nb, no, none⟩ = some (.int .i64 (Z 0)) := d0
                  rw [hL]
                  (go_upto_region 29 with fail)
                  rw [h31] at RG
                  have RG4 := hik ((RG.out.set 3 (.int .i64 (Z 0))).congr (g := fun i => (#[.int .i64 (3), .int .i64 (0), .int .i64 (0), .int .i64 (Z 0)] : Array Value).getD i undef) (fun i hi => by rcases (show i = 0 ∨ i = 1 ∨ i = 2 ∨ i = 3 by omega) with rfl | rfl | rfl | rfl <;> rfl))
                  have K4 := hik (K1.out.setCell (p := ⟨gb, 3, none⟩) (fun l => absurd (show gb < w.heap.size from l) (by have := HGB.out; omega)) (.int .i64 (Z 0)))
                  have RB4 := hik (rowIs_chg RB1.out ((Chg.refl (fun q => q = gb) W3).setCell (p := ⟨gb, 3, none⟩) (fun _ => rfl) (.int .i64 (Z 0))) (fun e => by have e' : w.heap.size = gb := e; have := HGB.out; omega))
                  clear RG K1 RB1 x0 x1 x2 x3 g1 g2 g3 gl HR8 HLB d00
                  generalize (W3.setCell ⟨gb, 3, none⟩ (.int .i64 (Z 0))) = W4 at RG4 K4 RB4 ⊢
                  have x0 : W4.cell? ⟨gb, 0, none⟩ = some (.int .i64 (3)) := RG4.out.cell (i := 0) (by omega)
                  have x1 : W4.cell? ⟨gb, 1, none⟩ = some (.int .i64 (0)) := RG4.out.cell (i := 1) (by omega)
                  have x2 : W4.cell? ⟨gb, 2, none⟩ = some (.int .i64 (0)) := RG4.out.cell (i := 2) (by omega)
                  have x3 : W4.cell? ⟨gb, 3, none⟩ = some (.int .i64 (Z 0)) := RG4.out.cell (i := 3) (by omega)
                  have hgt := fun w' => (show Calls Tryd.prog 23 #[.agg #[.int .i64 (3), .int .i64 (0), .int .i64 (0), .int .i64 (Z 0)], .int .i64 15] w' fun e w'' => e = .returned (.bool (gtb 15 (3, 0, 0, Z 0))) ∧ Chg nob w' w'' from sGate_any (3, 0, 0, Z 0) 15 w' (by omega) (by omega))
                  have HBV := hik (show gtb 15 (3, 0, 0, Z 0) = RGB from by rw [HRG2.out, HGO.out])
                  rw [HBV.out] at hgt
                  have HGV := hik (show RGB = true → (3, 0, 0, Z 0) = RGG from fun u => by rw [HRV.out u, HGO.out])
                  clear HBV HRG2 HRV HGO
                  have KW := hik ((Chg.refl nob W4).drew1)
                  have SA := hik (fun (WW : World) (kW : Chg nob W4 WW) => (show (WW.cell? ⟨gb, 0, none⟩ = some (.int .i64 (3)) ∧ WW.cell? ⟨gb, 1, none⟩ = some (.int .i64 (0)) ∧ WW.cell? ⟨gb, 2, none⟩ = some (.int .i64 (0)) ∧ WW.cell? ⟨gb, 3, none⟩ = some (.int .i64 (Z 0))) from ⟨kW.see x0, kW.see x1, kW.see x2, kW.see x3⟩))
                  refine wp_region_held_drew (S := fun w' => w'.cell? ⟨gb, 0, none⟩ = some (.int .i64 (3)) ∧ w'.cell? ⟨gb, 1, none⟩ = some (.int .i64 (0)) ∧ w'.cell? ⟨gb, 2, none⟩ = some (.int .i64 (0)) ∧ w'.cell? ⟨gb, 3, none⟩ = some (.int .i64 (Z 0))) (by kernel_rfl) ⟨x0, x1, x2, x3⟩ (fun hHeld => ?_)
                  refine wpAnyH_take (i := 0) (v := ?_) rfl (by kernel_rfl) (by kernel_rfl) (by kernel_rfl) (fun _ _ _ h => h) (Or.inl ⟨by rfl, ?_⟩) (by assumption) ?_
                  rotate_left 1
                  · (intro w' hSw; (try dsimp only at hSw); go_simp; try with_reducible rfl)
                  try simp only [Act.put, List.setIfInBounds_toArray, List.set_cons_zero, List.set_cons_succ, List.getElem_toArray, List.getElem_cons_zero, List.getElem_cons_succ]
                  refine wpAnyH_take (i := 1) (v := ?_) rfl (by kernel_rfl) (by kernel_rfl) (by kernel_rfl) (fun _ _ _ h => h) (Or.inl ⟨by rfl, ?_⟩) (by assumption) ?_
                  rotate_left 1
                  · (intro w' hSw; (try dsimp only at hSw); go_simp; try with_reducible rfl)
                  try simp only [Act.put, List.setIfInBounds_toArray, List.set_cons_zero, List.set_cons_succ, List.getElem_toArray, List.getElem_cons_zero, List.getElem_cons_succ]
                  refine wpAnyH_ready (rs := [2]) (by kernel_rfl) (by simp) ?_
                  refine AllReadyH.cons rfl (fun K hK => ?_) AllReadyH.nil
                  refine stepL_callN 23 #[.tmp 104, .const (.int .i64 15)] #[23, 3] (by rfl) (by rfl) #[.agg #[.int .i64 (3), .int .i64 (0), .int .i64 (0), .int .i64 (Z 0)], .int .i64 15] (by simp only [List.map_toArray, List.map_cons, List.map_nil] <;> rfl) (run_go Tryd.func23 (by kernel_rfl) (by kernel_rfl) _ _) (hgt _) ?_
                  rintro e U1 ⟨he, kk⟩
                  refine ⟨_, he, ?_⟩
                  replace KW := hik (KW.out.trans kk)
                  refine hK.out _ _ (SA.out _ KW.out) (fun hHeld => ?_)
                  clear hK K
                  try simp only [Act.put, List.setIfInBounds_toArray, List.set_cons_zero, List.set_cons_succ, List.getElem_toArray, List.getElem_cons_zero, List.getElem_cons_succ]
                  clear he kk
                  refine wpAnyH_ready (rs := [3]) (by kernel_rfl) (by simp) ?_
                  refine AllReadyH.cons rfl (fun K hK => ?_) AllReadyH.nil
                  have HRX := hik (rowIs_keep RB4.out KW.out)
                  refine stepL_store_rowG 23 (.tmp 2) (.tmp 103) rfl (by rfl) w.heap.size 4 (fun i => (#[.int .i64 (3), .int .i64 (0), .int .i64 (0), .int .i64 (Z 0)] : Array Value).getD i undef) (by rfl) (by rfl) 23 _ HRX.out (by kernel_rfl) (fun i hi => by rcases (show i = 0 ∨ i = 1 ∨ i = 2 ∨ i = 3 by omega) with rfl | rfl | rfl | rfl <;> rfl) ?_
                  intro V9 r9 g9
                  have HR9 := hik r9
                  have HG9 := hik g9
                  clear r9 g9
                  obtain ⟨q0, q1, q2, q3⟩ := SA.out _ KW.out
                  have hne9 : ¬ gb = w.heap.size := by have := HGB.out; omega
                  refine hK.out _ _ ⟨HG9.out.seeP q0 hne9, HG9.out.seeP q1 hne9, HG9.out.seeP q2 hne9, HG9.out.seeP q3 hne9⟩ (fun hHeld => ?_)
                  clear hK K q0 q1 q2 q3
                  try simp only [Act.put, List.setIfInBounds_toArray, List.set_cons_zero, List.set_cons_succ, List.getElem_toArray, List.getElem_cons_zero, List.getElem_cons_succ]
                  refine wpAnyH_take (i := 4) (v := ?_) rfl (by kernel_rfl) (by kernel_rfl) (by kernel_rfl) (fun _ _ _ h => h) (Or.inl ⟨by rfl, ?_⟩) (by assumption) ?_
                  rotate_left 1
                  · (intro w' hSw; (try dsimp only at hSw); go_simp; try with_reducible rfl)
                  try simp only [Act.put, List.setIfInBounds_toArray, List.set_cons_zero, List.set_cons_succ, List.getElem_toArray, List.getElem_cons_zero, List.getElem_cons_succ]
                  refine wpAnyH_done (by kernel_rfl) ?_ _
                  have KF : Chg nob w V9 := (K4.out.trans KW.out).near HG9.out (fun b e => by have e' : b = w.heap.size := e; omega)
                  have r9 := HR9.out
                  clear hHeld
                  go_wp2
                  refine bodyPost_ret (results_row_tmp9 Tryd.results11 _ _ w.heap.size 23 #[.int .i64 (3), .int .i64 (0), .int .i64 (0), .int .i64 (Z 0)] (0, 0) _ rfl (rowA_of r9) Tryd.underlying23 rfl (by kernel_rfl)) rfl ?_
                  first | exact ⟨(3, 0, 0, Z 0), rfl, HGV.out, KF⟩ | exact ⟨3, 0, 0, Z 0, rfl, HGV.out, KF⟩
                · have h31 : ¬ (O : Int) = 3 := by omega
                  have h32 : ((O : Int) == 3) = false := beq_eq_false_iff_ne.2 h31
                  by_cases hg2 : gnn (O : Int) = 2
                  · have HGO := hik (show gof O Z = ((O : Int), Z 0, Z 1, 0) by unfold gof; rw [if_neg h3, if_pos hg2])
                    rw [hg2] at hL hL3 ⊢
                    have hc8 := HR8.out 0 (by omega)
                    obtain ⟨nb, no, rfl, hnb, d0⟩ := hc8
                    have d00 : W3.cell? ⟨nb, no, none⟩ = some (.int .i64 (Z 0)) := d0
                    have d1 : W3.cell? ⟨nb, no + 1, none⟩ = some (.int .i64 (Z 1)) := by
                      obtain ⟨p, q, e, _, h⟩ := HR8.out 1 (by omega)
                      cases e
                      exact h
                    have hnb9 : ¬ nb = gb := fun e => by have := HLB.out nb rfl; omega
                    have d2 : (W3.setCell ⟨gb, 1, none⟩ (.int .i64 (Z 0))).cell? ⟨nb, no + 1, none⟩ = some (.int .i64 (Z 1)) := ((Chg.refl (fun q => q = gb) W3).setCell (p := ⟨gb, 1, none⟩) (fun _ => rfl) (.int .i64 (Z 0))).seeP d1 hnb9
                    rw [hL]
                    (go_upto_region 29 with fail)
                    have RG4 := hik (((RG.out.set 1 (.int .i64 (Z 0))).set 2 (.int .i64 (Z 1))).congr (g := fun i => (#[.int .i64 ((O : Int)), .int .i64 (Z 0), .int .i64 (Z 1), .int .i64 (0)] : Array Value).getD i undef) (fun i hi => by rcases (show i = 0 ∨ i = 1 ∨ i = 2 ∨ i = 3 by omega) with rfl | rfl | rfl | rfl <;> rfl))
                    have K4 := hik ((K1.out.setCell (p := ⟨gb, 1, none⟩) (fun l => absurd (show gb < w.heap.size from l) (by have := HGB.out; omega)) (.int .i64 (Z 0))).setCell (p := ⟨gb, 2, none⟩) (fun l => absurd (show gb < w.heap.size from l) (by have := HGB.out; omega)) (.int .i64 (Z 1)))
                    have RB4 := hik (rowIs_chg RB1.out (((Chg.refl (fun q => q = gb) W3).setCell (p := ⟨gb, 1, none⟩) (fun _ => rfl) (.int .i64 (Z 0))).setCell (p := ⟨gb, 2, none⟩) (fun _ => rfl) (.int .i64 (Z 1))) (fun e => by have e' : w.heap.size = gb := e; have := HGB.out; omega))
                    clear RG K1 RB1 x0 x1 x2 x3 g1 g2 g3 gl HR8 HLB d00 d1 d2
                    generalize ((W3.setCell ⟨gb, 1, none⟩ (.int .i64 (Z 0))).setCell ⟨gb, 2, none⟩ (.int .i64 (Z 1))) = W4 at RG4 K4 RB4 ⊢
                    have x0 : W4.cell? ⟨gb, 0, none⟩ = some (.int .i64 ((O : Int))) := RG4.out.cell (i := 0) (by omega)
                    have x1 : W4.cell? ⟨gb, 1, none⟩ = some (.int .i64 (Z 0)) := RG4.out.cell (i := 1) (by omega)
                    have x2 : W4.cell? ⟨gb, 2, none⟩ = some (.int .i64 (Z 1)) := RG4.out.cell (i := 2) (by omega)
                    have x3 : W4.cell? ⟨gb, 3, none⟩ = some (.int .i64 (0)) := RG4.out.cell (i := 3) (by omega)
                    have hgt := fun w' => (show Calls Tryd.prog 23 #[.agg #[.int .i64 ((O : Int)), .int .i64 (Z 0), .int .i64 (Z 1), .int .i64 (0)], .int .i64 15] w' fun e w'' => e = .returned (.bool (gtb 15 ((O : Int), Z 0, Z 1, 0))) ∧ Chg nob w' w'' from sGate_any ((O : Int), Z 0, Z 1, 0) 15 w' (by omega) (by omega))
                    have HBV := hik (show gtb 15 ((O : Int), Z 0, Z 1, 0) = RGB from by rw [HRG2.out, HGO.out])
                    rw [HBV.out] at hgt
                    have HGV := hik (show RGB = true → ((O : Int), Z 0, Z 1, 0) = RGG from fun u => by rw [HRV.out u, HGO.out])
                    clear HBV HRG2 HRV HGO
                    have KW := hik ((Chg.refl nob W4).drew1)
                    have SA := hik (fun (WW : World) (kW : Chg nob W4 WW) => (show (WW.cell? ⟨gb, 0, none⟩ = some (.int .i64 ((O : Int))) ∧ WW.cell? ⟨gb, 1, none⟩ = some (.int .i64 (Z 0)) ∧ WW.cell? ⟨gb, 2, none⟩ = some (.int .i64 (Z 1)) ∧ WW.cell? ⟨gb, 3, none⟩ = some (.int .i64 (0))) from ⟨kW.see x0, kW.see x1, kW.see x2, kW.see x3⟩))
                    refine wp_region_held_drew (S := fun w' => w'.cell? ⟨gb, 0, none⟩ = some (.int .i64 ((O : Int))) ∧ w'.cell? ⟨gb, 1, none⟩ = some (.int .i64 (Z 0)) ∧ w'.cell? ⟨gb, 2, none⟩ = some (.int .i64 (Z 1)) ∧ w'.cell? ⟨gb, 3, none⟩ = some (.int .i64 (0))) (by kernel_rfl) ⟨x0, x1, x2, x3⟩ (fun hHeld => ?_)
                    refine wpAnyH_take (i := 0) (v := ?_) rfl (by kernel_rfl) (by kernel_rfl) (by kernel_rfl) (fun _ _ _ h => h) (Or.inl ⟨by rfl, ?_⟩) (by assumption) ?_
                    rotate_left 1
                    · (intro w' hSw; (try dsimp only at hSw); go_simp; try with_reducible rfl)
                    try simp only [Act.put, List.setIfInBounds_toArray, List.set_cons_zero, List.set_cons_succ, List.getElem_toArray, List.getElem_cons_zero, List.getElem_cons_succ]
                    refine wpAnyH_take (i := 1) (v := ?_) rfl (by kernel_rfl) (by kernel_rfl) (by kernel_rfl) (fun _ _ _ h => h) (Or.inl ⟨by rfl, ?_⟩) (by assumption) ?_
                    rotate_left 1
                    · (intro w' hSw; (try dsimp only at hSw); go_simp; try with_reducible rfl)
                    try simp only [Act.put, List.setIfInBounds_toArray, List.set_cons_zero, List.set_cons_succ, List.getElem_toArray, List.getElem_cons_zero, List.getElem_cons_succ]
                    refine wpAnyH_ready (rs := [2]) (by kernel_rfl) (by simp) ?_
                    refine AllReadyH.cons rfl (fun K hK => ?_) AllReadyH.nil
                    refine stepL_callN 23 #[.tmp 104, .const (.int .i64 15)] #[23, 3] (by rfl) (by rfl) #[.agg #[.int .i64 ((O : Int)), .int .i64 (Z 0), .int .i64 (Z 1), .int .i64 (0)], .int .i64 15] (by simp only [List.map_toArray, List.map_cons, List.map_nil] <;> rfl) (run_go Tryd.func23 (by kernel_rfl) (by kernel_rfl) _ _) (hgt _) ?_
                    rintro e U1 ⟨he, kk⟩
                    refine ⟨_, he, ?_⟩
                    replace KW := hik (KW.out.trans kk)
                    refine hK.out _ _ (SA.out _ KW.out) (fun hHeld => ?_)
                    clear hK K
                    try simp only [Act.put, List.setIfInBounds_toArray, List.set_cons_zero, List.set_cons_succ, List.getElem_toArray, List.getElem_cons_zero, List.getElem_cons_succ]
                    clear he kk
                    refine wpAnyH_ready (rs := [3]) (by kernel_rfl) (by simp) ?_
                    refine AllReadyH.cons rfl (fun K hK => ?_) AllReadyH.nil
                    have HRX := hik (rowIs_keep RB4.out KW.out)
                    refine stepL_store_rowG 23 (.tmp 2) (.tmp 103) rfl (by rfl) w.heap.size 4 (fun i => (#[.int .i64 ((O : Int)), .int .i64 (Z 0), .int .i64 (Z 1), .int .i64 (0)] : Array Value).getD i undef) (by rfl) (by rfl) 23 _ HRX.out (by kernel_rfl) (fun i hi => by rcases (show i = 0 ∨ i = 1 ∨ i = 2 ∨ i = 3 by omega) with rfl | rfl | rfl | rfl <;> rfl) ?_
                    intro V9 r9 g9
                    have HR9 := hik r9
                    have HG9 := hik g9
                    clear r9 g9
                    obtain ⟨q0, q1, q2, q3⟩ := SA.out _ KW.out
                    have hne9 : ¬ gb = w.heap.size := by have := HGB.out; omega
                    refine hK.out _ _ ⟨HG9.out.seeP q0 hne9, HG9.out.seeP q1 hne9, HG9.out.seeP q2 hne9, HG9.out.seeP q3 hne9⟩ (fun hHeld => ?_)
                    clear hK K q0 q1 q2 q3
                    try simp only [Act.put, List.setIfInBounds_toArray, List.set_cons_zero, List.set_cons_succ, List.getElem_toArray, List.getElem_cons_zero, List.getElem_cons_succ]
                    refine wpAnyH_take (i := 4) (v := ?_) rfl (by kernel_rfl) (by kernel_rfl) (by kernel_rfl) (fun _ _ _ h => h) (Or.inl ⟨by rfl, ?_⟩) (by assumption) ?_
                    rotate_left 1
                    · (intro w' hSw; (try dsimp only at hSw); go_simp; try with_reducible rfl)
                    try simp only [Act.put, List.setIfInBounds_toArray, List.set_cons_zero, List.set_cons_succ, List.getElem_toArray, List.getElem_cons_zero, List.getElem_cons_succ]
                    refine wpAnyH_done (by kernel_rfl) ?_ _
                    have KF : Chg nob w V9 := (K4.out.trans KW.out).near HG9.out (fun b e => by have e' : b = w.heap.size := e; omega)
                    have r9 := HR9.out
                    clear hHeld
                    go_wp2
                    refine bodyPost_ret (results_row_tmp9 Tryd.results11 _ _ w.heap.size 23 #[.int .i64 ((O : Int)), .int .i64 (Z 0), .int .i64 (Z 1), .int .i64 (0)] (0, 0) _ rfl (rowA_of r9) Tryd.underlying23 rfl (by kernel_rfl)) rfl ?_
                    first | exact ⟨((O : Int), Z 0, Z 1, 0), rfl, HGV.out, KF⟩ | exact ⟨(O : Int), Z 0, Z 1, 0, rfl, HGV.out, KF⟩
                  · by_cases hg1 : gnn (O : Int) = 1
                    · have HGO := hik (show gof O Z = ((O : Int), Z 0, 0, 0) by unfold gof; rw [if_neg h3, if_neg hg2, if_pos hg1])
                      rw [hg1] at hL hL3 ⊢
                      have hc8 := HR8.out 0 (by omega)
                      obtain ⟨nb, no, rfl, hnb, d0⟩ := hc8
                      have d00 : W3.cell? ⟨nb, no, none⟩ = some (.int .i64 (Z 0)) := d0
                      rw [hL]
                      (go_upto_region 29 with fail)
                      have RG4 := hik ((RG.out.set 1 (.int .i64 (Z 0))).congr (g := fun i => (#[.int .i64 ((O : Int)), .int .i64 (Z 0), .int .i64 (0), .int .i64 (0)] : Array Value).getD i undef) (fun i hi => by rcases (show i = 0 ∨ i = 1 ∨ i = 2 ∨ i = 3 by omega) with rfl | rfl | rfl | rfl <;> rfl))
                      have K4 := hik (K1.out.setCell (p := ⟨gb, 1, none⟩) (fun l => absurd (show gb < w.heap.size from l) (by have := HGB.out; omega)) (.int .i64 (Z 0)))
                      have RB4 := hik (rowIs_chg RB1.out ((Chg.refl (fun q => q = gb) W3).setCell (p := ⟨gb, 1, none⟩) (fun _ => rfl) (.int .i64 (Z 0))) (fun e => by have e' : w.heap.size = gb := e; have := HGB.out; omega))
                      clear RG K1 RB1 x0 x1 x2 x3 g1 g2 g3 gl HR8 HLB d00
                      generalize (W3.setCell ⟨gb, 1, none⟩ (.int .i64 (Z 0))) = W4 at RG4 K4 RB4 ⊢
                      have x0 : W4.cell? ⟨gb, 0, none⟩ = some (.int .i64 ((O : Int))) := RG4.out.cell (i := 0) (by omega)
                      have x1 : W4.cell? ⟨gb, 1, none⟩ = some (.int .i64 (Z 0)) := RG4.out.cell (i := 1) (by omega)
                      have x2 : W4.cell? ⟨gb, 2, none⟩ = some (.int .i64 (0)) := RG4.out.cell (i := 2) (by omega)
                      have x3 : W4.cell? ⟨gb, 3, none⟩ = some (.int .i64 (0)) := RG4.out.cell (i := 3) (by omega)
                      have hgt := fun w' => (show Calls Tryd.prog 23 #[.agg #[.int .i64 ((O : Int)), .int .i64 (Z 0), .int .i64 (0), .int .i64 (0)], .int .i64 15] w' fun e w'' => e = .returned (.bool (gtb 15 ((O : Int), Z 0, 0, 0))) ∧ Chg nob w' w'' from sGate_any ((O : Int), Z 0, 0, 0) 15 w' (by omega) (by omega))
                      have HBV := hik (show gtb 15 ((O : Int), Z 0, 0, 0) = RGB from by rw [HRG2.out, HGO.out])
                      rw [HBV.out] at hgt
                      have HGV := hik (show RGB = true → ((O : Int), Z 0, 0, 0) = RGG from fun u => by rw [HRV.out u, HGO.out])
                      clear HBV HRG2 HRV HGO
                      have KW := hik ((Chg.refl nob W4).drew1)
                      have SA := hik (fun (WW : World) (kW : Chg nob W4 WW) => (show (WW.cell? ⟨gb, 0, none⟩ = some (.int .i64 ((O : Int))) ∧ WW.cell? ⟨gb, 1, none⟩ = some (.int .i64 (Z 0)) ∧ WW.cell? ⟨gb, 2, none⟩ = some (.int .i64 (0)) ∧ WW.cell? ⟨gb, 3, none⟩ = some (.int .i64 (0))) from ⟨kW.see x0, kW.see x1, kW.see x2, kW.see x3⟩))
                      refine wp_region_held_drew (S := fun w' => w'.cell? ⟨gb, 0, none⟩ = some (.int .i64 ((O : Int))) ∧ w'.cell? ⟨gb, 1, none⟩ = some (.int .i64 (Z 0)) ∧ w'.cell? ⟨gb, 2, none⟩ = some (.int .i64 (0)) ∧ w'.cell? ⟨gb, 3, none⟩ = some (.int .i64 (0))) (by kernel_rfl) ⟨x0, x1, x2, x3⟩ (fun hHeld => ?_)
                      refine wpAnyH_take (i := 0) (v := ?_) rfl (by kernel_rfl) (by kernel_rfl) (by kernel_rfl) (fun _ _ _ h => h) (Or.inl ⟨by rfl, ?_⟩) (by assumption) ?_
                      rotate_left 1
                      · (intro w' hSw; (try dsimp only at hSw); go_simp; try with_reducible rfl)
                      try simp only [Act.put, List.setIfInBounds_toArray, List.set_cons_zero, List.set_cons_succ, List.getElem_toArray, List.getElem_cons_zero, List.getElem_cons_succ]
                      refine wpAnyH_take (i := 1) (v := ?_) rfl (by kernel_rfl) (by kernel_rfl) (by kernel_rfl) (fun _ _ _ h => h) (Or.inl ⟨by rfl, ?_⟩) (by assumption) ?_
                      rotate_left 1
                      · (intro w' hSw; (try dsimp only at hSw); go_simp; try with_reducible rfl)
                      try simp only [Act.put, List.setIfInBounds_toArray, List.set_cons_zero, List.set_cons_succ, List.getElem_toArray, List.getElem_cons_zero, List.getElem_cons_succ]
                      refine wpAnyH_ready (rs := [2]) (by kernel_rfl) (by simp) ?_
                      refine AllReadyH.cons rfl (fun K hK => ?_) AllReadyH.nil
                      refine stepL_callN 23 #[.tmp 104, .const (.int .i64 15)] #[23, 3] (by rfl) (by rfl) #[.agg #[.int .i64 ((O : Int)), .int .i64 (Z 0), .int .i64 (0), .int .i64 (0)], .int .i64 15] (by simp only [List.map_toArray, List.map_cons, List.map_nil] <;> rfl) (run_go Tryd.func23 (by kernel_rfl) (by kernel_rfl) _ _) (hgt _) ?_
                      rintro e U1 ⟨he, kk⟩
                      refine ⟨_, he, ?_⟩
                      replace KW := hik (KW.out.trans kk)
                      refine hK.out _ _ (SA.out _ KW.out) (fun hHeld => ?_)
                      clear hK K
                      try simp only [Act.put, List.setIfInBounds_toArray, List.set_cons_zero, List.set_cons_succ, List.getElem_toArray, List.getElem_cons_zero, List.getElem_cons_succ]
                      clear he kk
                      refine wpAnyH_ready (rs := [3]) (by kernel_rfl) (by simp) ?_
                      refine AllReadyH.cons rfl (fun K hK => ?_) AllReadyH.nil
                      have HRX := hik (rowIs_keep RB4.out KW.out)
                      refine stepL_store_rowG 23 (.tmp 2) (.tmp 103) rfl (by rfl) w.heap.size 4 (fun i => (#[.int .i64 ((O : Int)), .int .i64 (Z 0), .int .i64 (0), .int .i64 (0)] : Array Value).getD i undef) (by rfl) (by rfl) 23 _ HRX.out (by kernel_rfl) (fun i hi => by rcases (show i = 0 ∨ i = 1 ∨ i = 2 ∨ i = 3 by omega) with rfl | rfl | rfl | rfl <;> rfl) ?_
                      intro V9 r9 g9
                      have HR9 := hik r9
                      have HG9 := hik g9
                      clear r9 g9
                      obtain ⟨q0, q1, q2, q3⟩ := SA.out _ KW.out
                      have hne9 : ¬ gb = w.heap.size := by have := HGB.out; omega
                      refine hK.out _ _ ⟨HG9.out.seeP q0 hne9, HG9.out.seeP q1 hne9, HG9.out.seeP q2 hne9, HG9.out.seeP q3 hne9⟩ (fun hHeld => ?_)
                      clear hK K q0 q1 q2 q3
                      try simp only [Act.put, List.setIfInBounds_toArray, List.set_cons_zero, List.set_cons_succ, List.getElem_toArray, List.getElem_cons_zero, List.getElem_cons_succ]
                      refine wpAnyH_take (i := 4) (v := ?_) rfl (by kernel_rfl) (by kernel_rfl) (by kernel_rfl) (fun _ _ _ h => h) (Or.inl ⟨by rfl, ?_⟩) (by assumption) ?_
                      rotate_left 1
                      · (intro w' hSw; (try dsimp only at hSw); go_simp; try with_reducible rfl)
                      try simp only [Act.put, List.setIfInBounds_toArray, List.set_cons_zero, List.set_cons_succ, List.getElem_toArray, List.getElem_cons_zero, List.getElem_cons_succ]
                      refine wpAnyH_done (by kernel_rfl) ?_ _
                      have KF : Chg nob w V9 := (K4.out.trans KW.out).near HG9.out (fun b e => by have e' : b = w.heap.size := e; omega)
                      have r9 := HR9.out
                      clear hHeld
                      go_wp2
                      refine bodyPost_ret (results_row_tmp9 Tryd.results11 _ _ w.heap.size 23 #[.int .i64 ((O : Int)), .int .i64 (Z 0), .int .i64 (0), .int .i64 (0)] (0, 0) _ rfl (rowA_of r9) Tryd.underlying23 rfl (by kernel_rfl)) rfl ?_
                      first | exact ⟨((O : Int), Z 0, 0, 0), rfl, HGV.out, KF⟩ | exact ⟨(O : Int), Z 0, 0, 0, rfl, HGV.out, KF⟩
                    · have hg0 : gnn (O : Int) = 0 := by
                        rcases (show O = 0 ∨ O = 1 ∨ O = 2 ∨ O = 3 ∨ O = 4 ∨ O = 5 ∨ O = 6 ∨ O = 7 ∨ O = 8 by have := HO8.out; omega) with rfl | rfl | rfl | rfl | rfl | rfl | rfl | rfl | rfl <;> first | rfl | exact absurd rfl hg1 | exact absurd rfl hg2
                      have HGO := hik (show gof O Z = ((O : Int), 0, 0, 0) by unfold gof; rw [if_neg h3, if_neg hg2, if_neg hg1])
                      rw [hg0] at hL hL3 ⊢
                      rw [hL]
                      (go_upto_region 29 with fail)
                      have RG4 := hik (RG.out.congr (g := fun i => (#[.int .i64 ((O : Int)), .int .i64 (0), .int .i64 (0), .int .i64 (0)] : Array Value).getD i undef) (fun i hi => by rcases (show i = 0 ∨ i = 1 ∨ i = 2 ∨ i = 3 by omega) with rfl | rfl | rfl | rfl <;> rfl))
                      have K4 := hik K1.out
                      have RB4 := hik (rowIs_chg RB1.out (Chg.refl (fun q => q = gb) W3) (fun e => by have e' : w.heap.size = gb := e; have := HGB.out; omega))
                      clear RG K1 RB1 x0 x1 x2 x3 g1 g2 g3 gl HR8 HLB
                      generalize W3 = W4 at RG4 K4 RB4 ⊢
                      have x0 : W4.cell? ⟨gb, 0, none⟩ = some (.int .i64 ((O : Int))) := RG4.out.cell (i := 0) (by omega)
                      have x1 : W4.cell? ⟨gb, 1, none⟩ = some (.int .i64 (0)) := RG4.out.cell (i := 1) (by omega)
                      have x2 : W4.cell? ⟨gb, 2, none⟩ = some (.int .i64 (0)) := RG4.out.cell (i := 2) (by omega)
                      have x3 : W4.cell? ⟨gb, 3, none⟩ = some (.int .i64 (0)) := RG4.out.cell (i := 3) (by omega)
                      have hgt := fun w' => (show Calls Tryd.prog 23 #[.agg #[.int .i64 ((O : Int)), .int .i64 (0), .int .i64 (0), .int .i64 (0)], .int .i64 15] w' fun e w'' => e = .returned (.bool (gtb 15 ((O : Int), 0, 0, 0))) ∧ Chg nob w' w'' from sGate_any ((O : Int), 0, 0, 0) 15 w' (by omega) (by omega))
                      have HBV := hik (show gtb 15 ((O : Int), 0, 0, 0) = RGB from by rw [HRG2.out, HGO.out])
                      rw [HBV.out] at hgt
                      have HGV := hik (show RGB = true → ((O : Int), 0, 0, 0) = RGG from fun u => by rw [HRV.out u, HGO.out])
                      clear HBV HRG2 HRV HGO
                      have KW := hik ((Chg.refl nob W4).drew1)
                      have SA := hik (fun (WW : World) (kW : Chg nob W4 WW) => (show (WW.cell? ⟨gb, 0, none⟩ = some (.int .i64 ((O : Int))) ∧ WW.cell? ⟨gb, 1, none⟩ = some (.int .i64 (0)) ∧ WW.cell? ⟨gb, 2, none⟩ = some (.int .i64 (0)) ∧ WW.cell? ⟨gb, 3, none⟩ = some (.int .i64 (0))) from ⟨kW.see x0, kW.see x1, kW.see x2, kW.see x3⟩))
                      refine wp_region_held_drew (S := fun w' => w'.cell? ⟨gb, 0, none⟩ = some (.int .i64 ((O : Int))) ∧ w'.cell? ⟨gb, 1, none⟩ = some (.int .i64 (0)) ∧ w'.cell? ⟨gb, 2, none⟩ = some (.int .i64 (0)) ∧ w'.cell? ⟨gb, 3, none⟩ = some (.int .i64 (0))) (by kernel_rfl) ⟨x0, x1, x2, x3⟩ (fun hHeld => ?_)
                      refine wpAnyH_take (i := 0) (v := ?_) rfl (by kernel_rfl) (by kernel_rfl) (by kernel_rfl) (fun _ _ _ h => h) (Or.inl ⟨by rfl, ?_⟩) (by assumption) ?_
                      rotate_left 1
                      · (intro w' hSw; (try dsimp only at hSw); go_simp; try with_reducible rfl)
                      try simp only [Act.put, List.setIfInBounds_toArray, List.set_cons_zero, List.set_cons_succ, List.getElem_toArray, List.getElem_cons_zero, List.getElem_cons_succ]
                      refine wpAnyH_take (i := 1) (v := ?_) rfl (by kernel_rfl) (by kernel_rfl) (by kernel_rfl) (fun _ _ _ h => h) (Or.inl ⟨by rfl, ?_⟩) (by assumption) ?_
                      rotate_left 1
                      · (intro w' hSw; (try dsimp only at hSw); go_simp; try with_reducible rfl)
                      try simp only [Act.put, List.setIfInBounds_toArray, List.set_cons_zero, List.set_cons_succ, List.getElem_toArray, List.getElem_cons_zero, List.getElem_cons_succ]
                      refine wpAnyH_ready (rs := [2]) (by kernel_rfl) (by simp) ?_
                      refine AllReadyH.cons rfl (fun K hK => ?_) AllReadyH.nil
                      refine stepL_callN 23 #[.tmp 104, .const (.int .i64 15)] #[23, 3] (by rfl) (by rfl) #[.agg #[.int .i64 ((O : Int)), .int .i64 (0), .int .i64 (0), .int .i64 (0)], .int .i64 15] (by simp only [List.map_toArray, List.map_cons, List.map_nil] <;> rfl) (run_go Tryd.func23 (by kernel_rfl) (by kernel_rfl) _ _) (hgt _) ?_
                      rintro e U1 ⟨he, kk⟩
                      refine ⟨_, he, ?_⟩
                      replace KW := hik (KW.out.trans kk)
                      refine hK.out _ _ (SA.out _ KW.out) (fun hHeld => ?_)
                      clear hK K
                      try simp only [Act.put, List.setIfInBounds_toArray, List.set_cons_zero, List.set_cons_succ, List.getElem_toArray, List.getElem_cons_zero, List.getElem_cons_succ]
                      clear he kk
                      refine wpAnyH_ready (rs := [3]) (by kernel_rfl) (by simp) ?_
                      refine AllReadyH.cons rfl (fun K hK => ?_) AllReadyH.nil
                      have HRX := hik (rowIs_keep RB4.out KW.out)
                      refine stepL_store_rowG 23 (.tmp 2) (.tmp 103) rfl (by rfl) w.heap.size 4 (fun i => (#[.int .i64 ((O : Int)), .int .i64 (0), .int .i64 (0), .int .i64 (0)] : Array Value).getD i undef) (by rfl) (by rfl) 23 _ HRX.out (by kernel_rfl) (fun i hi => by rcases (show i = 0 ∨ i = 1 ∨ i = 2 ∨ i = 3 by omega) with rfl | rfl | rfl | rfl <;> rfl) ?_
                      intro V9 r9 g9
                      have HR9 := hik r9
                      have HG9 := hik g9
                      clear r9 g9
                      obtain ⟨q0, q1, q2, q3⟩ := SA.out _ KW.out
                      have hne9 : ¬ gb = w.heap.size := by have := HGB.out; omega
                      refine hK.out _ _ ⟨HG9.out.seeP q0 hne9, HG9.out.seeP q1 hne9, HG9.out.seeP q2 hne9, HG9.out.seeP q3 hne9⟩ (fun hHeld => ?_)
                      clear hK K q0 q1 q2 q3
                      try simp only [Act.put, List.setIfInBounds_toArray, List.set_cons_zero, List.set_cons_succ, List.getElem_toArray, List.getElem_cons_zero, List.getElem_cons_succ]
                      refine wpAnyH_take (i := 4) (v := ?_) rfl (by kernel_rfl) (by kernel_rfl) (by kernel_rfl) (fun _ _ _ h => h) (Or.inl ⟨by rfl, ?_⟩) (by assumption) ?_
                      rotate_left 1
                      · (intro w' hSw; (try dsimp only at hSw); go_simp; try with_reducible rfl)
                      try simp only [Act.put, List.setIfInBounds_toArray, List.set_cons_zero, List.set_cons_succ, List.getElem_toArray, List.getElem_cons_zero, List.getElem_cons_succ]
                      refine wpAnyH_done (by kernel_rfl) ?_ _
                      have KF : Chg nob w V9 := (K4.out.trans KW.out).near HG9.out (fun b e => by have e' : b = w.heap.size := e; omega)
                      have r9 := HR9.out
                      clear hHeld
                      go_wp2
                      refine bodyPost_ret (results_row_tmp9 Tryd.results11 _ _ w.heap.size 23 #[.int .i64 ((O : Int)), .int .i64 (0), .int .i64 (0), .int .i64 (0)] (0, 0) _ rfl (rowA_of r9) Tryd.underlying23 rfl (by kernel_rfl)) rfl ?_
                      first | exact ⟨((O : Int), 0, 0, 0), rfl, HGV.out, KF⟩ | exact ⟨(O : Int), 0, 0, 0, rfl, HGV.out, KF⟩
              · have HB := hik (show RGB = false from by rw [HRG.out, decide_eq_false hL, Bool.and_false, Bool.false_and])
                have hL1 : ¬ (rest.length : Int) = ((gnn (O : Int) : Nat) : Int) := by omega
                have hL2 : ((rest.length : Int) == ((gnn (O : Int) : Nat) : Int)) = false := beq_eq_false_iff_ne.2 hL1
                have hL3 : ((rest.length : Int) != ((gnn (O : Int) : Nat) : Int)) = true := by simp [bne, hL2]
                clear HRG HRV
                have c0 : W3.cell? ⟨w.heap.size, 0, none⟩ = some (.int .i64 0) := RB1.out.cell (i := 0) (by omega)
                have c1 : W3.cell? ⟨w.heap.size, 1, none⟩ = some (.int .i64 0) := RB1.out.cell (i := 1) (by omega)
                have c2 : W3.cell? ⟨w.heap.size, 2, none⟩ = some (.int .i64 0) := RB1.out.cell (i := 2) (by omega)
                have c3 : W3.cell? ⟨w.heap.size, 3, none⟩ = some (.int .i64 0) := RB1.out.cell (i := 3) (by omega)
                have f0 := RB1.out.frozen 0
                have f1 := RB1.out.frozen 1
                have f2 := RB1.out.frozen 2
                have f3 := RB1.out.frozen 3
                have lw := RB1.out.lt
                go_wp2
                all_goals
                  have RE := (((((RB1.out.set 0 (.int .i64 0)).set 1 (.int .i64 0)).set 2 (.int .i64 0)).set 3 (.int .i64 0)).congr (g := fun i => (#[.int .i64 0, .int .i64 0, .int .i64 0, .int .i64 0] : Array Value).getD i undef) (fun i hi => by rcases (show i = 0 ∨ i = 1 ∨ i = 2 ∨ i = 3 by omega) with rfl | rfl | rfl | rfl <;> rfl))
                  have KF := ((((K1.out.setCell (p := ⟨w.heap.size, 0, none⟩) (fun l => absurd (show w.heap.size < w.heap.size from l) (by omega)) (.int .i64 0)).setCell (p := ⟨w.heap.size, 1, none⟩) (fun l => absurd (show w.heap.size < w.heap.size from l) (by omega)) (.int .i64 0)).setCell (p := ⟨w.heap.size, 2, none⟩) (fun l => absurd (show w.heap.size < w.heap.size from l) (by omega)) (.int .i64 0)).setCell (p := ⟨w.heap.size, 3, none⟩) (fun l => absurd (show w.heap.size < w.heap.size from l) (by omega)) (.int .i64 0))
                  refine bodyPost_ret (results_row_tmp9 Tryd.results11 _ _ w.heap.size 23 #[.int .i64 0, .int .i64 0, .int .i64 0, .int .i64 0] (0, 0) _ rfl (rowA_of RE) Tryd.underlying23 rfl (by kernel_rfl)) rfl ?_
                  first | exact ⟨(0, 0, 0, 0), by rw [HB.out]; rfl, fun u => absurd (HB.out.symm.trans u) (by decide), KF⟩ | exact ⟨0, 0, 0, 0, by rw [HB.out]; rfl, fun u => absurd (HB.out.symm.trans u) (by decide), KF⟩
  

end Go.Proofs.YtpndbkgjdnkmcaaDoor
