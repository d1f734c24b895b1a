/- Numbers in a line, the model's side: contracts. Conditions: texts of at most 1000000 bytes. -/
import Derived.Test.YtppiilbcnkphbaaDoorNumW
import Derived.Test.YtppiilbcnkphbaaDoorNumX
namespace Go.Proofs.YtppiilbcnkphbaaDoor
open Go.ChangeShapes Go.WideShapes Go.ChangeAt Go.RowKit
set_option linter.unusedVariables false
set_option maxRecDepth 100000
set_option linter.unusedSimpArgs false

theorem nmo_zero {t : List UInt8} {g : Int} (h : t.length = 0) : nmo t g = false := by unfold nmo; simp [h]
theorem nmo_long {t : List UInt8} {g : Int} (h : 18 < t.length) : nmo t g = false := by unfold nmo; simp [h]
theorem nmo_lead {t : List UInt8} {g : Int} (h : t.head? = some 48) (h2 : 1 < t.length ∨ g < 0) : nmo t g = false := by
  unfold nmo
  rcases h2 with h2 | h2 <;> simp [h, h2]
theorem nmo_ok {t : List UInt8} {g : Int} (h0 : t.length ≠ 0) (h1 : t.length ≤ 18) (h : t.head? = some 48 → ¬ 1 < t.length ∧ ¬ g < 0) : nmo t g = true := by
  unfold nmo
  by_cases e : t.head? = some 48
  · obtain ⟨a, b⟩ := h e
    simp [e, h0, a, b]
    omega
  · simp [e, h0]
    omega
theorem head_at (s : ByteArray) (h : 0 < s.size) : s.data.toList.head? = some (s[0]'h) := by
  rw [List.head?_eq_getElem?, List.getElem?_eq_getElem (by rw [len_list]; exact h)]
  rfl
theorem take_at {s : ByteArray} {k : Nat} (h : k < s.size) : s.data.toList.take (k + 1) = s.data.toList.take k ++ [s[k]] := by
  rw [List.take_succ_eq_append_getElem (by rw [len_list]; exact h)]
  rfl
theorem dvl_take {s : ByteArray} {k : Nat} (h : k < s.size) (hd : dgb s[k] = true) : ((dvl 0 (s.data.toList.take (k + 1)) : Nat) : Int) = ((dvl 0 (s.data.toList.take k) : Nat) : Int) * 10 + ((s[k].toNat : Nat) : Int) - 48 := by
  have hc := of_decide_eq_true hd
  rw [take_at h, dvl_app]
  omega
theorem all_take {s : ByteArray} {k : Nat} (hk : k ≤ s.size) (h : ∀ (j : Nat) (h : j < s.size), j < k → dgb s[j] = true) : (s.data.toList.take k).all dgb = true := by
  rw [List.all_eq_true]
  intro x hx
  obtain ⟨j, hj, rfl⟩ := List.getElem_of_mem hx
  have hj2 : j < k := by rw [List.length_take, len_list] at hj; omega
  rw [List.getElem_take]
  exact h j (by omega) hj2
theorem dvl_below {s : ByteArray} {k : Nat} (hk : k ≤ s.size) (h17 : k ≤ 17) (h : ∀ (j : Nat) (h : j < s.size), j < k → dgb s[j] = true) : dvl 0 (s.data.toList.take k) < 100000000000000000 := by
  have a := dvl_lt (s.data.toList.take k) 0 (all_take hk h)
  rw [List.length_take, len_list, Nat.min_eq_left hk] at a
  have b : 10 ^ k ≤ 10 ^ 17 := Nat.pow_le_pow_right (by decide) h17
  have e : (10 : Nat) ^ 17 = 100000000000000000 := by decide
  omega
theorem dvl_below18 {s : ByteArray} (h17 : s.size ≤ 18) (h : ∀ (j : Nat) (h : j < s.size), j < s.size → dgb s[j] = true) : dvl 0 (s.data.toList.take s.size) < 1000000000000000000 := by
  have a := dvl_lt (s.data.toList.take s.size) 0 (all_take (Nat.le_refl _) h)
  rw [List.length_take, len_list, Nat.min_eq_left (Nat.le_refl _)] at a
  have b : 10 ^ s.size ≤ 10 ^ 18 := Nat.pow_le_pow_right (by decide) h17
  have e : (10 : Nat) ^ 18 = 1000000000000000000 := by decide
  omega
theorem all_good {s : ByteArray} (h : ∀ (j : Nat) (h : j < s.size), j < s.size → dgb s[j] = true) : s.data.toList.all dgb = true := by
  have a := all_take (Nat.le_refl _) h
  rwa [List.take_of_length_le (by rw [len_list]; exact Nat.le_refl _)] at a
theorem all_bad {s : ByteArray} {k : Nat} (h : k < s.size) (hd : ¬ dgb s[k] = true) : s.data.toList.all dgb = false := by
  rw [List.all_eq_false]
  exact ⟨s[k], List.getElem_mem (l := s.data.toList) (by rw [len_list]; exact h), hd⟩
set_option maxHeartbeats 8000000 in
theorem l00Number_any (s : ByteArray) (hs : s.size ≤ 1000000) (w : World) :
    Calls Tryd.prog 24 #[.string s] w fun e w' => e = .returned (.tuple #[.int .i64 (nmv s.data.toList), .bool (nmb s.data.toList)]) ∧ w' = w := by
  obtain ⟨V, hV⟩ : ∃ x, x = nmv s.data.toList := ⟨_, rfl⟩
  obtain ⟨B, hB⟩ : ∃ x, x = nmb s.data.toList := ⟨_, rfl⟩
  rw [← hV, ← hB]
  have HV0 := hik (show V = if B = true then nmg s.data.toList * (dvl 0 (nms s.data.toList) : Int) else 0 by rw [hV, hB]; rfl)
  have HB0 := hik (show B = (nmo (nms s.data.toList) (nmg s.data.toList) && (nms s.data.toList).all dgb) by rw [hB]; rfl)
  clear hV hB
  by_cases h0 : s.size = 0
  · have hl : s.data.toList = [] := List.eq_nil_of_length_eq_zero (by rw [len_list]; exact h0)
    have HB1 := hik (show B = false by rw [HB0.out, hl]; rfl)
    have HV1 := hik (show V = 0 by rw [HV0.out, HB1.out]; rfl)
    have h0' : (s.size : Int) = 0 := by omega
    have h0'' : ¬ (0 : Int) < (s.size : Int) := by omega
    clear hl
    go_enter Tryd.func24, Tryd.ntmps24
    go_wp2
    go_ret2
    rw [HB1.out, HV1.out]
    exact ⟨rfl, rfl⟩
  have hp : 0 < s.size := by omega
  have hp' : (0 : Int) < (s.size : Int) := by omega
  by_cases h45 : (s[0]'hp).toNat = 45
  · have hc : (((s[0]'hp).toNat : Nat) : Int) = 45 := by omega
    have hh : s.data.toList.head? = some 45 := by rw [head_at s hp]; exact congrArg some (UInt8.toNat_inj.1 h45)
    have eg : nmg s.data.toList = -1 := by unfold nmg; rw [if_pos hh]
    have es : nms s.data.toList = (s.extract 1 s.size).data.toList := by
      unfold nms
      rw [if_pos hh, ext_list s 1 s.size (Nat.le_refl _), List.take_of_length_le (by rw [len_list]; exact Nat.le_refl _), List.drop_one]
    have hub0 : (s.extract 1 s.size).size ≤ 1000000 := by rw [ByteArray.size_extract]; omega
    rw [eg, es] at HV0 HB0
    clear hh eg es h45 h0
    go_enter Tryd.func24, Tryd.ntmps24
    go_upto_region 5 with fail
    generalize s.extract 1 s.size = u at HV0 HB0 hub0 ⊢
    have HV := HV0
    have HB := HB0
    have HUB := hik hub0
    clear HV0 HB0 hub0 hc hp hp' hs
    have hub : u.size ≤ 1000000 := HUB.out
    by_cases m0 : u.size = 0
    · have m0' : (u.size : Int) = 0 := by omega
      have HB1 := hik (show B = false by rw [HB.out, nmo_zero (t := u.data.toList) (g := -1) (by rw [len_list]; exact m0)]; rfl)
      have HV1 := hik (show V = 0 by rw [HV.out, HB1.out]; rfl)
      go_wp2
      all_goals (go_ret2; rw [HB1.out, HV1.out]; exact ⟨rfl, rfl⟩)
    have m0' : ¬ (u.size : Int) = 0 := by omega
    have mp : 0 < u.size := by omega
    have mp' : (0 : Int) < (u.size : Int) := by omega
    by_cases m1 : 18 < u.size
    · have m1' : (18 : Int) < (u.size : Int) := by omega
      have HB1 := hik (show B = false by rw [HB.out, nmo_long (t := u.data.toList) (g := -1) (by rw [len_list]; exact m1)]; rfl)
      have HV1 := hik (show V = 0 by rw [HV.out, HB1.out]; rfl)
      go_wp2
      all_goals (go_ret2; rw [HB1.out, HV1.out]; exact ⟨rfl, rfl⟩)
    have m1' : ¬ (18 : Int) < (u.size : Int) := by omega
    by_cases m2 : (u[0]'mp).toNat = 48
    · have m2' : (((u[0]'mp).toNat : Nat) : Int) = 48 := by omega
      have HH := hik (show u.data.toList.head? = some 48 by rw [head_at u mp]; exact congrArg some (UInt8.toNat_inj.1 m2))
      have HB1 := hik (show B = false by rw [HB.out, nmo_lead (t := u.data.toList) (g := -1) HH.out (.inr (by decide))]; rfl)
      have HV1 := hik (show V = 0 by rw [HV.out, HB1.out]; rfl)
      go_wp2
      all_goals (go_ret2; rw [HB1.out, HV1.out]; exact ⟨rfl, rfl⟩)
    · have m2' : ¬ (((u[0]'mp).toNat : Nat) : Int) = 48 := by omega
      have HLD := hik (show u.data.toList.head? = some 48 → ¬ 1 < u.data.toList.length ∧ ¬ (-1 : Int) < 0 from fun e => by rw [head_at u mp] at e; exact absurd (congrArg UInt8.toNat (Option.some.inj e)) m2)
      have HO := hik (nmo_ok (t := u.data.toList) (g := -1) (by rw [len_list]; exact m0) (by rw [len_list]; omega) HLD.out)
      have HSZ := hik (show u.size ≤ 18 by omega)
      go_wp2_with fail
      go_loopw [5, 6] (fun vn vi W => ∃ k : Nat, k ≤ u.size ∧ vi = .int .i64 k ∧ vn = .int .i64 ((dvl 0 (u.data.toList.take k) : Nat) : Int) ∧ Hid (∀ (j : Nat) (h : j < u.size), j < k → dgb u[j] = true) ∧ W = w) (fun _ vi _ => u.size - (intOf vi).toNat)
      case atStart => exact ⟨0, Nat.zero_le _, rfl, rfl, hik (fun j _ hj => absurd hj (by omega)), rfl⟩
      case round =>
        obtain ⟨k, hk, rfl, rfl, HD, rfl⟩ := hrel
        by_cases hlt : k < u.size
        · have hkn : ((k : Nat) : Int) < (u.size : Int) := by omega
          by_cases hd : dgb u[k] = true
          · have HDK := hik hd
            have hd2 := of_decide_eq_true hd
            have hc1 : ¬ ((u[k].toNat : Nat) : Int) < 48 := by omega
            have hc2 : ¬ (57 : Int) < ((u[k].toNat : Nat) : Int) := by omega
            have HX := hik (dvl_take (s := u) hlt hd)
            have hx1 := dvl_below (s := u) hk (by have := HSZ.out; omega) HD.out
            generalize dvl 0 (u.data.toList.take k) = X at HX hx1 ⊢
            clear hd hd2
            have hx2 : (X : Int) < 100000000000000000 := by omega
            have hc3 : ((u[k].toNat : Nat) : Int) ≤ 57 := by omega
            clear hx1
            go_wp2
            go_roundw
            case rel => exact ⟨k + 1, by omega, by go_num, by first | (rw [HX.out]; done) | (rw [HX.out]; first | rfl | go_num), hik (fun j h hj => by
              by_cases e : j = k
              · subst e; exact HDK.out
              · exact HD.out j h (by omega)), by first | rfl | trivial⟩
            case measure => simp [intOf]; omega
          · have HB1 := hik (show B = false by rw [HB.out, all_bad (s := u) hlt hd]; exact Bool.and_false _)
            have HV1 := hik (show V = 0 by rw [HV.out, HB1.out]; rfl)
            have hd2 : ¬ (48 ≤ u[k].toNat ∧ u[k].toNat ≤ 57) := fun e => hd (decide_eq_true e)
            by_cases hc1 : ((u[k].toNat : Nat) : Int) < 48
            · clear hd hd2
              go_wp2
              go_ret2
              rw [HB1.out, HV1.out]
              exact ⟨rfl, rfl⟩
            · have hc2 : (57 : Int) < ((u[k].toNat : Nat) : Int) := by omega
              clear hd hd2
              go_wp2
              go_ret2
              rw [HB1.out, HV1.out]
              exact ⟨rfl, rfl⟩
        · obtain rfl : u.size = k := by omega
          have HB1 := hik (show B = true by rw [HB.out, HO.out, all_good HD.out]; rfl)
          have HV1 := hik (show V = -((dvl 0 (u.data.toList.take u.size) : Nat) : Int) by rw [HV.out, HB1.out, if_pos rfl, show u.data.toList.take u.size = u.data.toList from List.take_of_length_le (by rw [len_list]; exact Nat.le_refl _)]; omega)
          have hx1 := dvl_below18 (s := u) (by have := HSZ.out; omega) HD.out
          generalize dvl 0 (u.data.toList.take u.size) = X at HV1 hx1 ⊢
          have hx2 : (X : Int) < 1000000000000000000 := by omega
          clear hx1
          go_wp2
          go_ret2
          rw [HB1.out, HV1.out]
          first | exact ⟨rfl, rfl⟩ | exact ⟨by simp, rfl⟩
  · have hc : ¬ (((s[0]'hp).toNat : Nat) : Int) = 45 := by omega
    have hh : ¬ s.data.toList.head? = some 45 := fun e => by
      rw [head_at s hp] at e
      exact h45 (congrArg UInt8.toNat (Option.some.inj e))
    have eg : nmg s.data.toList = 1 := by unfold nmg; rw [if_neg hh]
    have es : nms s.data.toList = s.data.toList := by unfold nms; rw [if_neg hh]
    rw [eg, es] at HV0 HB0
    clear hh eg es h45 h0
    go_enter Tryd.func24, Tryd.ntmps24
    go_upto_region 5 with fail
    have HV := HV0
    have HB := HB0
    have HUB := hik hs
    clear HV0 HB0 hc hp' hs
    have hub : s.size ≤ 1000000 := HUB.out
    by_cases m0 : s.size = 0
    · have m0' : (s.size : Int) = 0 := by omega
      have HB1 := hik (show B = false by rw [HB.out, nmo_zero (t := s.data.toList) (g := 1) (by rw [len_list]; exact m0)]; rfl)
      have HV1 := hik (show V = 0 by rw [HV.out, HB1.out]; rfl)
      go_wp2
      all_goals (go_ret2; rw [HB1.out, HV1.out]; exact ⟨rfl, rfl⟩)
    have m0' : ¬ (s.size : Int) = 0 := by omega
    have mp : 0 < s.size := by omega
    have mp' : (0 : Int) < (s.size : Int) := by omega
    by_cases m1 : 18 < s.size
    · have m1' : (18 : Int) < (s.size : Int) := by omega
      have HB1 := hik (show B = false by rw [HB.out, nmo_long (t := s.data.toList) (g := 1) (by rw [len_list]; exact m1)]; rfl)
      have HV1 := hik (show V = 0 by rw [HV.out, HB1.out]; rfl)
      go_wp2
      all_goals (go_ret2; rw [HB1.out, HV1.out]; exact ⟨rfl, rfl⟩)
    have m1' : ¬ (18 : Int) < (s.size : Int) := by omega
    by_cases m2 : (s[0]'mp).toNat = 48
    · have m2' : (((s[0]'mp).toNat : Nat) : Int) = 48 := by omega
      have HH := hik (show s.data.toList.head? = some 48 by rw [head_at s mp]; exact congrArg some (UInt8.toNat_inj.1 m2))
      by_cases m3 : 1 < s.size
      · have m3' : (1 : Int) < (s.size : Int) := by omega
        have HB1 := hik (show B = false by rw [HB.out, nmo_lead (t := s.data.toList) (g := 1) HH.out (.inl (by rw [len_list]; exact m3))]; rfl)
        have HV1 := hik (show V = 0 by rw [HV.out, HB1.out]; rfl)
        go_wp2
        all_goals (go_ret2; rw [HB1.out, HV1.out]; exact ⟨rfl, rfl⟩)
      · have m3' : ¬ (1 : Int) < (s.size : Int) := by omega
        have HLD := hik (show s.data.toList.head? = some 48 → ¬ 1 < s.data.toList.length ∧ ¬ (1 : Int) < 0 from fun _ => ⟨by rw [len_list]; exact m3, by decide⟩)
        have HO := hik (nmo_ok (t := s.data.toList) (g := 1) (by rw [len_list]; exact m0) (by rw [len_list]; omega) HLD.out)
        have HSZ := hik (show s.size ≤ 18 by omega)
        go_wp2_with fail
        go_loopw [5, 6] (fun vn vi W => ∃ k : Nat, k ≤ s.size ∧ vi = .int .i64 k ∧ vn = .int .i64 ((dvl 0 (s.data.toList.take k) : Nat) : Int) ∧ Hid (∀ (j : Nat) (h : j < s.size), j < k → dgb s[j] = true) ∧ W = w) (fun _ vi _ => s.size - (intOf vi).toNat)
        case atStart => exact ⟨0, Nat.zero_le _, rfl, rfl, hik (fun j _ hj => absurd hj (by omega)), rfl⟩
        case round =>
          obtain ⟨k, hk, rfl, rfl, HD, rfl⟩ := hrel
          by_cases hlt : k < s.size
          · have hkn : ((k : Nat) : Int) < (s.size : Int) := by omega
            by_cases hd : dgb s[k] = true
            · have HDK := hik hd
              have hd2 := of_decide_eq_true hd
              have hc1 : ¬ ((s[k].toNat : Nat) : Int) < 48 := by omega
              have hc2 : ¬ (57 : Int) < ((s[k].toNat : Nat) : Int) := by omega
              have HX := hik (dvl_take (s := s) hlt hd)
              have hx1 := dvl_below (s := s) hk (by have := HSZ.out; omega) HD.out
              generalize dvl 0 (s.data.toList.take k) = X at HX hx1 ⊢
              clear hd hd2
              have hx2 : (X : Int) < 100000000000000000 := by omega
              have hc3 : ((s[k].toNat : Nat) : Int) ≤ 57 := by omega
              clear hx1
              go_wp2
              go_roundw
              case rel => exact ⟨k + 1, by omega, by go_num, by first | (rw [HX.out]; done) | (rw [HX.out]; first | rfl | go_num), hik (fun j h hj => by
                by_cases e : j = k
                · subst e; exact HDK.out
                · exact HD.out j h (by omega)), by first | rfl | trivial⟩
              case measure => simp [intOf]; omega
            · have HB1 := hik (show B = false by rw [HB.out, all_bad (s := s) hlt hd]; exact Bool.and_false _)
              have HV1 := hik (show V = 0 by rw [HV.out, HB1.out]; rfl)
              have hd2 : ¬ (48 ≤ s[k].toNat ∧ s[k].toNat ≤ 57) := fun e => hd (decide_eq_true e)
              by_cases hc1 : ((s[k].toNat : Nat) : Int) < 48
              · clear hd hd2
                go_wp2
                go_ret2
                rw [HB1.out, HV1.out]
                exact ⟨rfl, rfl⟩
              · have hc2 : (57 : Int) < ((s[k].toNat : Nat) : Int) := by omega
                clear hd hd2
                go_wp2
                go_ret2
                rw [HB1.out, HV1.out]
                exact ⟨rfl, rfl⟩
          · obtain rfl : s.size = k := by omega
            have HB1 := hik (show B = true by rw [HB.out, HO.out, all_good HD.out]; rfl)
            have HV1 := hik (show V = ((dvl 0 (s.data.toList.take s.size) : Nat) : Int) by rw [HV.out, HB1.out, if_pos rfl, show s.data.toList.take s.size = s.data.toList from List.take_of_length_le (by rw [len_list]; exact Nat.le_refl _)]; omega)
            have hx1 := dvl_below18 (s := s) (by have := HSZ.out; omega) HD.out
            generalize dvl 0 (s.data.toList.take s.size) = X at HV1 hx1 ⊢
            have hx2 : (X : Int) < 1000000000000000000 := by omega
            clear hx1
            go_wp2
            go_ret2
            rw [HB1.out, HV1.out]
            first | exact ⟨rfl, rfl⟩ | exact ⟨by simp, rfl⟩
    · have m2' : ¬ (((s[0]'mp).toNat : Nat) : Int) = 48 := by omega
      have HLD := hik (show s.data.toList.head? = some 48 → ¬ 1 < s.data.toList.length ∧ ¬ (1 : Int) < 0 from fun e => by rw [head_at s mp] at e; exact absurd (congrArg UInt8.toNat (Option.some.inj e)) m2)
      have HO := hik (nmo_ok (t := s.data.toList) (g := 1) (by rw [len_list]; exact m0) (by rw [len_list]; omega) HLD.out)
      have HSZ := hik (show s.size ≤ 18 by omega)
      go_wp2_with fail
      go_loopw [5, 6] (fun vn vi W => ∃ k : Nat, k ≤ s.size ∧ vi = .int .i64 k ∧ vn = .int .i64 ((dvl 0 (s.data.toList.take k) : Nat) : Int) ∧ Hid (∀ (j : Nat) (h : j < s.size), j < k → dgb s[j] = true) ∧ W = w) (fun _ vi _ => s.size - (intOf vi).toNat)
      case atStart => exact ⟨0, Nat.zero_le _, rfl, rfl, hik (fun j _ hj => absurd hj (by omega)), rfl⟩
      case round =>
        obtain ⟨k, hk, rfl, rfl, HD, rfl⟩ := hrel
        by_cases hlt : k < s.size
        · have hkn : ((k : Nat) : Int) < (s.size : Int) := by omega
          by_cases hd : dgb s[k] = true
          · have HDK := hik hd
            have hd2 := of_decide_eq_true hd
            have hc1 : ¬ ((s[k].toNat : Nat) : Int) < 48 := by omega
            have hc2 : ¬ (57 : Int) < ((s[k].toNat : Nat) : Int) := by omega
            have HX := hik (dvl_take (s := s) hlt hd)
            have hx1 := dvl_below (s := s) hk (by have := HSZ.out; omega) HD.out
            generalize dvl 0 (s.data.toList.take k) = X at HX hx1 ⊢
            clear hd hd2
            have hx2 : (X : Int) < 100000000000000000 := by omega
            have hc3 : ((s[k].toNat : Nat) : Int) ≤ 57 := by omega
            clear hx1
            go_wp2
            go_roundw
            case rel => exact ⟨k + 1, by omega, by go_num, by first | (rw [HX.out]; done) | (rw [HX.out]; first | rfl | go_num), hik (fun j h hj => by
              by_cases e : j = k
              · subst e; exact HDK.out
              · exact HD.out j h (by omega)), by first | rfl | trivial⟩
            case measure => simp [intOf]; omega
          · have HB1 := hik (show B = false by rw [HB.out, all_bad (s := s) hlt hd]; exact Bool.and_false _)
            have HV1 := hik (show V = 0 by rw [HV.out, HB1.out]; rfl)
            have hd2 : ¬ (48 ≤ s[k].toNat ∧ s[k].toNat ≤ 57) := fun e => hd (decide_eq_true e)
            by_cases hc1 : ((s[k].toNat : Nat) : Int) < 48
            · clear hd hd2
              go_wp2
              go_ret2
              rw [HB1.out, HV1.out]
              exact ⟨rfl, rfl⟩
            · have hc2 : (57 : Int) < ((s[k].toNat : Nat) : Int) := by omega
              clear hd hd2
              go_wp2
              go_ret2
              rw [HB1.out, HV1.out]
              exact ⟨rfl, rfl⟩
        · obtain rfl : s.size = k := by omega
          have HB1 := hik (show B = true by rw [HB.out, HO.out, all_good HD.out]; rfl)
          have HV1 := hik (show V = ((dvl 0 (s.data.toList.take s.size) : Nat) : Int) by rw [HV.out, HB1.out, if_pos rfl, show s.data.toList.take s.size = s.data.toList from List.take_of_length_le (by rw [len_list]; exact Nat.le_refl _)]; omega)
          have hx1 := dvl_below18 (s := s) (by have := HSZ.out; omega) HD.out
          generalize dvl 0 (s.data.toList.take s.size) = X at HV1 hx1 ⊢
          have hx2 : (X : Int) < 1000000000000000000 := by omega
          clear hx1
          go_wp2
          go_ret2
          rw [HB1.out, HV1.out]
          first | exact ⟨rfl, rfl⟩ | exact ⟨by simp, rfl⟩
theorem fok_no9 {z : Int} (h : ¬ (0 ≤ z ∧ z ≤ 2130706432)) : fok z = false := fok_no (by omega)
set_option maxHeartbeats 4000000 in
theorem l00Words_any (s : ByteArray) (hs : s.size ≤ 65536) (w : World) :
    Calls Tryd.prog 14 #[.string s] w fun e w' => ∃ v, e = .returned v ∧ SGr w' w.heap.size v (wds s.data.toList) ∧ Chg nob w w' := by
  obtain ⟨L, hL⟩ : ∃ x, x = s.data.toList := ⟨_, rfl⟩
  rw [← hL]
  have HL := hik hL
  have hll : L.length = s.size := by rw [hL]; exact len_list s
  clear hL
  go_enter Tryd.func14, Tryd.ntmps14
  go_wp2_with fail
  go_loopw [3, 4, 5] (fun vo vf vi W => ∃ (k m : Nat) (D : List (List UInt8)), k ≤ s.size + 1 ∧ vi = .int .i64 k ∧ vf = .int .i64 m ∧ m ≤ k ∧ Hid (SGr W w.heap.size vo D) ∧ Hid (k ≤ s.size → WdI L k m D) ∧ Hid (k = s.size + 1 → D = wds L) ∧ Hid (D.length ≤ 70000) ∧ Hid (Chg nob w W)) (fun _ _ vi _ => s.size + 1 - (intOf vi).toNat)
  case atStart => exact ⟨0, 0, [], Nat.zero_le _, rfl, rfl, Nat.le_refl _, hik (SGr.fresh w w.heap.size (Nat.le_refl _)), hik (fun _ => WdI.start L), hik (fun h => by omega), hik (by decide), hik ((Chg.refl nob w).alloc _)⟩
  case round =>
    obtain ⟨k, m, D, hk, rfl, rfl, hmk, SA, HI, HF, HN, KA⟩ := hrel
    rename World => wi
    by_cases hle : k ≤ s.size
    · have hkn : ((k : Nat) : Int) ≤ (s.size : Int) := by omega
      have HW := hik (HI.out hle)
      have HCN := hik (show D.length ≤ 65537 from by have := HW.out.cnt; omega)
      clear HI HF
      by_cases hm : m < k
      · have hm' : ((m : Nat) : Int) < ((k : Nat) : Int) := by omega
        have HLE := hik (And.intro hle hm)
        by_cases hend : k = s.size
        · have HD2 := hik (show D ++ [(L.take k).drop m] = wds L from by
            have a := HW.out
            have e : k = L.length := by omega
            rw [e] at a ⊢
            exact a.last (by omega))
          subst hend
          have HPC := hik (show (.string (s.extract m s.size) : Value) = tv ((L.take s.size).drop m) by rw [ext_list s m s.size hle, HL.out]; rfl)
          have KB := hik (KA.out.alloc (.cells #[.string (s.extract m s.size)] 9))
          have SB := hik (SA.out.keep ((Chg.refl nob wi).alloc (.cells #[.string (s.extract m s.size)] 9)))
          have CB := hik (show World.cell? (wi.alloc (.cells #[.string (s.extract m s.size)] 9)) ⟨wi.heap.size, 0, none⟩ = some (tv ((L.take s.size).drop m)) by rw [← HPC.out]; go_simp)
          have LB := hik (show w.heap.size ≤ (wi.alloc (.cells #[.string (s.extract m s.size)] 9)).heap.size from KB.out.size)
          go_wp2_with (at_builtin; refine wpList_appS (by rfl) (.tmp 26) (.tmp 31) (by rfl) w.heap.size wi.heap.size _ D _ (by rfl) (by rfl) SB.out CB.out (by have := HCN.out; omega) LB.out ?b6)
          case b6 =>
            intro v7 w7 hg7 k7
            have SZ := hik hg7
            have KZ := hik (KB.out.near k7 (fun i q => by have q : w.heap.size ≤ i := q; omega))
            clear hg7 k7 SB CB LB KB
            go_wp2
            go_roundw
            all_goals first | exact ⟨s.size + 1, s.size + 1, _, by omega, by go_num, by go_num, Nat.le_refl _, SZ, hik (fun h => by omega), hik (fun _ => HD2.out), hik (by have := HCN.out; rw [List.length_append, List.length_singleton]; omega), KZ⟩ | exact ⟨⟨s.size + 1, s.size + 1, _, by omega, by go_num, by go_num, Nat.le_refl _, SZ, hik (fun h => by omega), hik (fun _ => HD2.out), hik (by have := HCN.out; rw [List.length_append, List.length_singleton]; omega), KZ⟩, by simp [intOf] <;> omega⟩ | (simp [intOf] <;> omega)
        · have hend' : ¬ ((k : Nat) : Int) = (s.size : Int) := by omega
          have hlt : k < s.size := by omega
          have hlt' : ((k : Nat) : Int) < (s.size : Int) := by omega
          have HPC := hik (show (.string (s.extract m k) : Value) = tv ((L.take k).drop m) by rw [ext_list s m k hle, HL.out]; rfl)
          have KB := hik (KA.out.alloc (.cells #[.string (s.extract m k)] 9))
          have SB := hik (SA.out.keep ((Chg.refl nob wi).alloc (.cells #[.string (s.extract m k)] 9)))
          have CB := hik (show World.cell? (wi.alloc (.cells #[.string (s.extract m k)] 9)) ⟨wi.heap.size, 0, none⟩ = some (tv ((L.take k).drop m)) by rw [← HPC.out]; go_simp)
          have LB := hik (show w.heap.size ≤ (wi.alloc (.cells #[.string (s.extract m k)] 9)).heap.size from KB.out.size)
          by_cases h32 : s[k].toNat = 32
          · have hc : ((s[k].toNat : Nat) : Int) = 32 := by omega
            have HW2 := hik (show WdI L (k + 1) (k + 1) (D ++ [(L.take k).drop m]) from HW.out.word (by omega) (by
              have e : L[k]'(by omega) = s[k] := by simp only [HL.out]; rfl
              rw [e]
              exact UInt8.toNat_inj.1 h32) hm)
            clear h32
            go_wp2_with (at_builtin; refine wpList_appS (by rfl) (.tmp 26) (.tmp 31) (by rfl) w.heap.size wi.heap.size _ D _ (by rfl) (by rfl) SB.out CB.out (by have := HCN.out; omega) LB.out ?b6)
            case b6 =>
              intro v7 w7 hg7 k7
              have SZ := hik hg7
              have KZ := hik (KB.out.near k7 (fun i q => by have q : w.heap.size ≤ i := q; omega))
              clear hg7 k7 SB CB LB KB
              go_wp2
              go_roundw
              all_goals first | exact ⟨k + 1, k + 1, _, by omega, by go_num, by go_num, Nat.le_refl _, SZ, hik (fun _ => HW2.out), hik (fun h => by omega), hik (by have := HCN.out; rw [List.length_append, List.length_singleton]; omega), KZ⟩ | exact ⟨⟨k + 1, k + 1, _, by omega, by go_num, by go_num, Nat.le_refl _, SZ, hik (fun _ => HW2.out), hik (fun h => by omega), hik (by have := HCN.out; rw [List.length_append, List.length_singleton]; omega), KZ⟩, by simp [intOf] <;> omega⟩ | (simp [intOf] <;> omega)
          · have hc : ¬ ((s[k].toNat : Nat) : Int) = 32 := by omega
            have hc1 : (((s[k].toNat : Nat) : Int) == 32) = false := beq_eq_false_iff_ne.2 hc
            have he1 : (((k : Nat) : Int) == (s.size : Int)) = false := beq_eq_false_iff_ne.2 hend'
            have HW2 := hik (show WdI L (k + 1) m D from HW.out.skip (by omega) (by
              have e : L[k]'(by omega) = s[k] := by simp only [HL.out]; rfl
              rw [e]
              exact fun e2 => h32 (by rw [e2]; rfl)))
            clear h32 SB CB LB KB
            go_wp2
            go_roundw
            all_goals first | exact ⟨k + 1, m, D, by omega, by go_num, rfl, by omega, SA, hik (fun _ => HW2.out), hik (fun h => by omega), HN, KA⟩ | exact ⟨⟨k + 1, m, D, by omega, by go_num, rfl, by omega, SA, hik (fun _ => HW2.out), hik (fun h => by omega), HN, KA⟩, by simp [intOf] <;> omega⟩ | (simp [intOf] <;> omega)
      · have hm' : ¬ ((m : Nat) : Int) < ((k : Nat) : Int) := by omega
        by_cases hend : k = s.size
        · have HD2 := hik (show D = wds L from by
            have a := HW.out
            have e : k = L.length := by omega
            rw [e] at a
            exact a.none (by omega))
          subst hend
          go_wp2
          go_roundw
          all_goals first | exact ⟨s.size + 1, s.size + 1, D, by omega, by go_num, by go_num, Nat.le_refl _, SA, hik (fun h => by omega), hik (fun _ => HD2.out), HN, KA⟩ | exact ⟨⟨s.size + 1, s.size + 1, D, by omega, by go_num, by go_num, Nat.le_refl _, SA, hik (fun h => by omega), hik (fun _ => HD2.out), HN, KA⟩, by simp [intOf] <;> omega⟩ | (simp [intOf] <;> omega)
        · have hend' : ¬ ((k : Nat) : Int) = (s.size : Int) := by omega
          have hlt : k < s.size := by omega
          have hlt' : ((k : Nat) : Int) < (s.size : Int) := by omega
          by_cases h32 : s[k].toNat = 32
          · have hc : ((s[k].toNat : Nat) : Int) = 32 := by omega
            have HW2 := hik (show WdI L (k + 1) (k + 1) D from HW.out.gap (by omega) (by
              have e : L[k]'(by omega) = s[k] := by simp only [HL.out]; rfl
              rw [e]
              exact UInt8.toNat_inj.1 h32) hm)
            clear h32
            go_wp2
            go_roundw
            all_goals first | exact ⟨k + 1, k + 1, D, by omega, by go_num, by go_num, Nat.le_refl _, SA, hik (fun _ => HW2.out), hik (fun h => by omega), HN, KA⟩ | exact ⟨⟨k + 1, k + 1, D, by omega, by go_num, by go_num, Nat.le_refl _, SA, hik (fun _ => HW2.out), hik (fun h => by omega), HN, KA⟩, by simp [intOf] <;> omega⟩ | (simp [intOf] <;> omega)
          · have hc : ¬ ((s[k].toNat : Nat) : Int) = 32 := by omega
            have hc1 : (((s[k].toNat : Nat) : Int) == 32) = false := beq_eq_false_iff_ne.2 hc
            have he1 : (((k : Nat) : Int) == (s.size : Int)) = false := beq_eq_false_iff_ne.2 hend'
            have HW2 := hik (show WdI L (k + 1) m D from HW.out.skip (by omega) (by
              have e : L[k]'(by omega) = s[k] := by simp only [HL.out]; rfl
              rw [e]
              exact fun e2 => h32 (by rw [e2]; rfl)))
            clear h32
            go_wp2
            go_roundw
            all_goals first | exact ⟨k + 1, m, D, by omega, by go_num, rfl, by omega, SA, hik (fun _ => HW2.out), hik (fun h => by omega), HN, KA⟩ | exact ⟨⟨k + 1, m, D, by omega, by go_num, rfl, by omega, SA, hik (fun _ => HW2.out), hik (fun h => by omega), HN, KA⟩, by simp [intOf] <;> omega⟩ | (simp [intOf] <;> omega)
    · have hkn : ¬ ((k : Nat) : Int) ≤ (s.size : Int) := by omega
      have HD2 := hik (HF.out (by omega))
      go_wp2
      go_ret
      refine ⟨_, rfl, ?_, KA.out⟩
      rw [← HD2.out]
      exact SA.out
set_option maxHeartbeats 4000000 in
theorem l16Numbers_any (ws : List (List UInt8)) (c : Option Addr) (cap : Nat) (w : World) (h : Hid (RowV w c ws.length (tvs ws))) (hw : Hid (∀ x ∈ ws, x ≠ [] ∧ x.length ≤ 1000000)) (hn : ws.length ≤ 100000) :
    Calls Tryd.prog 13 #[.slice c ws.length cap] w fun e w' => RnB w ws.length (rvs ws) (ws.all nokb) e w' := by
  go_enter Tryd.func13, Tryd.ntmps13
  go_wp2_with fail
  go_loopw [4, 5] (fun vn vi W => ∃ k : Nat, k ≤ ws.length ∧ vi = .int .i64 k ∧ Hid (IGr W w.heap.size vn k (rvs ws)) ∧ Hid (∀ j, j < k → nokb (ws.getD j []) = true) ∧ Hid (Chg nob w W)) (fun _ vi _ => ws.length - (intOf vi).toNat)
  case atStart => exact ⟨0, Nat.zero_le _, rfl, hik (IGr.fresh w w.heap.size _ (Nat.le_refl _)), hik (fun j hj => absurd hj (by omega)), hik ((Chg.refl nob w).alloc _)⟩
  case round =>
    obtain ⟨k, hk, rfl, IA, HA, KA⟩ := hrel
    rename World => wi
    by_cases hlt : k < ws.length
    · have hkn : ((k : Nat) : Int) < (ws.length : Int) := by omega
      obtain ⟨yb, yo, rfl, hyb, d0⟩ := (h.out.keep KA.out) k hlt
      have hx := hw.out _ (mem_getD hlt)
      have hnf := l00Number_any ⟨(ws.getD k []).toArray⟩ (by show (ws.getD k []).toArray.size ≤ _; rw [List.size_toArray]; exact hx.2) wi
      rw [show (⟨(ws.getD k []).toArray⟩ : ByteArray).data.toList = ws.getD k [] from List.toList_toArray] at hnf
      have hok := nm_nok hx.1
      have HO1 := hik hok.1
      have HO2 := hik hok.2
      have d1 : wi.cell? ⟨yb, yo + k, none⟩ = some (.string ⟨(ws.getD k []).toArray⟩) := d0
      clear d0 hx hok
      have HL := hik hlt
      have hfo := fun w' => sFieldOK_any (nmv (ws.getD k [])) w'
      have EV := hik (show nokb (ws.getD k []) = true → nmv (ws.getD k []) = rvs ws k from fun u => HO2.out u)
      have HNO := hik (fun (u : nokb (ws.getD k []) = false) => all_no hlt u)
      generalize (⟨(ws.getD k []).toArray⟩ : ByteArray) = Tx at hnf d1
      generalize nmv (ws.getD k []) = z at hnf HO1 HO2 EV hfo
      cases hb : nmb (ws.getD k []) with
      | false =>
        rw [hb] at hnf HO1
        have HB := hik (HNO.out HO1.out.symm)
        clear hb
        go_wp2_with (go_at_call 24; refine hnf.mono ?_; rintro e W1 ⟨rfl, rfl⟩)
        go_ret2
        rw [HB.out]
        exact ⟨_, rfl, IGr.fresh _ _ _ KA.out.size, KA.out.alloc _⟩
      | true =>
        rw [hb] at hnf HO1
        clear hb
        by_cases hf : 0 ≤ z ∧ z ≤ 2130706432
        · have HOK := hik (show nokb (ws.getD k []) = true by rw [← HO1.out]; simp; exact hf)
          have HEV := hik (EV.out HOK.out)
          have hfo := fun w' => (show Calls Tryd.prog 25 #[.int .i64 z] w' fun e w'' => e = .returned (.bool true) ∧ w'' = w' from by have a := hfo w'; rw [fok_mk hf.1 (by omega)] at a; exact a)
          go_wp2_with fail
          refine hnf.mono ?_
          rintro e W2 ⟨rfl, rfl⟩
          have IB := hik (IA.out.keep ((Chg.refl nob W2).alloc (.cells #[.int .i64 z] 3)))
          have CB := hik (show World.cell? (W2.alloc (.cells #[.int .i64 z] 3)) ⟨W2.heap.size, 0, none⟩ = some (.int .i64 z) by go_simp)
          have LB := hik (show w.heap.size ≤ (W2.alloc (.cells #[.int .i64 z] 3)).heap.size from Nat.le_trans KA.out.size ((Chg.refl nob W2).alloc (.cells #[.int .i64 z] 3)).size)
          have KQ := hik (KA.out.alloc (.cells #[.int .i64 z] 3))
          clear IA KA d1 EV hf
          go_wp2_with (first | (go_at_call 25; refine (hfo _).mono ?_; rintro e W3 ⟨rfl, rfl⟩) | (at_builtin; refine wpList_app1 (by rfl) (.tmp 31) (.tmp 33) (by rfl) w.heap.size k _ _ _ z (by rfl) (by rfl) IB.out CB.out (by omega) LB.out ?b6))
          case b6 =>
            intro v7 w7 hg7 k7
            have HI7 := hik (hg7.congr (rvs_next ws k z HEV.out))
            have KZ := hik (KQ.out.near k7 (fun i q => by have q : w.heap.size ≤ i := q; omega))
            have HA7 := hik (show ∀ j, j < k + 1 → nokb (ws.getD j []) = true from fun j hj => by
              by_cases e : j = k
              · rw [e]; exact HOK.out
              · exact HA.out j (by omega))
            clear hg7 k7 IB CB LB KQ HA
            go_wp2
            go_roundw
            case rel => exact ⟨k + 1, HL.out, by go_num, HI7, HA7, KZ⟩
            case measure => simp [intOf]; have := HL.out; omega
        · have HB := hik (HNO.out (by rw [← HO1.out]; simp only [Bool.true_and]; exact decide_eq_false hf))
          have hfo := fun w' => (show Calls Tryd.prog 25 #[.int .i64 z] w' fun e w'' => e = .returned (.bool false) ∧ w'' = w' from by have a := hfo w'; rw [fok_no9 hf] at a; exact a)
          go_wp2_with (first | (go_at_call 24; refine hnf.mono ?_; rintro e W1 ⟨rfl, rfl⟩) | (go_at_call 25; refine (hfo _).mono ?_; rintro e W3 ⟨rfl, rfl⟩))
          go_ret2
          rw [HB.out]
          exact ⟨_, rfl, IGr.fresh _ _ _ KA.out.size, KA.out.alloc _⟩
    · obtain rfl : ws.length = k := by omega
      have HB := hik (all_yes HA.out)
      go_wp2
      go_ret2
      rw [HB.out]
      exact ⟨_, rfl, IA.out, KA.out⟩
set_option maxHeartbeats 4000000 in
theorem sReadNumbers_any (s : ByteArray) (hs : s.size ≤ 1000000000) (w : World) :
    Calls Tryd.prog 5 #[.string s] w fun e w' => RnAns w s.data.toList e w' := by
  have hln : s.data.toList.length = s.size := len_list s
  by_cases hl : 65536 < s.size
  · have HC := hik (show rnc s.data.toList = 2 by unfold rnc; rw [if_pos (by omega)])
    have hl' : (65536 : Int) < (s.size : Int) := by omega
    go_enter Tryd.func5, Tryd.ntmps5
    go_wp2
    go_ret2
    unfold RnAns
    rw [HC.out]
    exact ⟨_, rfl, IGr.fresh _ _ _ (Nat.le_refl _), (Chg.refl nob w).alloc _⟩
  · have hl' : ¬ (65536 : Int) < (s.size : Int) := by omega
    have hwd := l00Words_any s (by omega) w
    have HC := hik (show rnc s.data.toList = if (wds s.data.toList).all nokb = true then (if 4096 < (wds s.data.toList).length then 6 else 0) else 3 by unfold rnc; rw [if_neg (by omega)]; rfl)
    have hcl := wdG_len s.data.toList []
    have HCL := hik (show (wds s.data.toList).length ≤ 65537 from by have e : (wds s.data.toList).length = (wdG [] s.data.toList).length := rfl; omega)
    have HWW := hik (show ∀ x ∈ wds s.data.toList, x ≠ [] ∧ x.length ≤ 1000000 from fun x hx => ⟨wdG_ne _ _ x hx, by have := wdG_size s.data.toList [] x hx; simp at this; omega⟩)
    show Calls Tryd.prog 5 #[.string s] w fun e w' => RnA9 w (wds s.data.toList).length (rvs (wds s.data.toList)) (rnc s.data.toList) e w'
    clear hln hcl
    generalize rnc s.data.toList = cd at HC ⊢
    generalize wds s.data.toList = ws at hwd HC HCL HWW ⊢
    go_enter Tryd.func5, Tryd.ntmps5
    go_wp2_with fail
    refine hwd.mono ?_
    rintro e W1 ⟨v, rfl, sg, k1⟩
    obtain ⟨cw, pw, ew, hrw⟩ := sg.row
    subst ew
    have K1 := hik k1
    have HRW := hik hrw
    clear sg k1 hrw
    go_wp2_with fail
    refine (l16Numbers_any ws cw pw W1 HRW HWW (by have := HCL.out; omega)).mono ?_
    rintro e W2 ⟨v, rfl, ig, k2⟩
    have HS12 := hik K1.out.size
    have IG := hik (ig.low HS12.out)
    have K2 := hik (K1.out.trans k2)
    clear ig k2
    cases hb : ws.all nokb
    · have HC3 := hik (show cd = 3 by rw [HC.out, if_neg (by rw [hb]; decide)])
      go_wp2
      go_ret2
      rw [HC3.out]
      exact ⟨_, rfl, IGr.fresh _ _ _ K2.out.size, K2.out.alloc _⟩
    · rw [hb, if_pos rfl] at IG
      obtain ⟨cv, pv, ev, hpv, _, hrv⟩ := IG.out.row
      subst ev
      have HB := hik hb
      clear hpv hrv hb
      by_cases hm : 4096 < ws.length
      · have HC3 := hik (show cd = 6 by rw [HC.out, if_pos HB.out, if_pos hm])
        have hm' : (4096 : Int) < (ws.length : Int) := by omega
        go_wp2
        go_ret2
        rw [HC3.out]
        exact ⟨_, rfl, IGr.fresh _ _ _ K2.out.size, K2.out.alloc _⟩
      · have HC3 := hik (show cd = 0 by rw [HC.out, if_pos HB.out, if_neg hm])
        have hm' : ¬ (4096 : Int) < (ws.length : Int) := by omega
        go_wp2
        go_ret2
        rw [HC3.out]
        exact ⟨_, rfl, by rw [if_pos rfl]; exact IG.out, K2.out⟩

end Go.Proofs.YtppiilbcnkphbaaDoor
