/- Drawn tables of a kind of sums: right ones, in new memory. Conditions: a code that can be read; kinds 1 and 2, 0 to 3 variables. -/
import Derived.Test.YtgiefpipflcbgadGreatDoorBzam
import Derived.Test.YtgiefpipflcbgadGreatDoorBzae
namespace Go.Proofs.YtgiefpipflcbgadGreatDoor
open Go.ChangeShapes Go.WideShapes Go.ChangeAt Go.RowKit
set_option linter.unusedVariables false
set_option maxRecDepth 100000
set_option linter.unusedSimpArgs false

/-- Drawn tables, in memory of their own. -/
def DrawnTs (n m N b : Nat) (w : World) (e : Ending) (w' : World) : Prop :=
  ∃ (t : Nat → Nat → El) (c0 : Option Addr) (cap0 : Nat), e = .returned (.slice c0 m cap0) ∧ RowsQ (fun x => w.heap.size ≤ x ∧ x < w'.heap.size) w' c0 m N t ∧ Src n w' b ∧ Chg (fun k => k = b) w w'
theorem own_row9 {w : World} {B n : Nat} {c : Option Addr} {f g : Nat → Int} (ho : OwnE w B c n f g) (hn : 1 ≤ n) : ∃ b M h, c = some ⟨b, 0, none⟩ ∧ B ≤ b ∧ w.rowIs b 31 M h := by
  rcases ho with rfl | ⟨b, N, h, ec, hb, hr, _, _⟩
  · omega
  · exact ⟨b, N, h, ec, hb, hr⟩
/-- Lists, one more. -/
def exT (t : Nat → Nat → El) (k : Nat) (x : Nat → El) (i : Nat) : Nat → El := if i = k then x else t i
theorem exT_at (t : Nat → Nat → El) (k : Nat) (x : Nat → El) : exT t k x k = x := if_pos rfl
theorem TbsO.congr {W : World} {B g j H : Nat} {A : Nat → Option Addr} {u u' : Nat → Nat → El} (h : TbsO W B g j H A u) (e : ∀ i, i < j → u i = u' i) : TbsO W B g j H A u' := by
  intro i hi
  obtain ⟨b, r⟩ := h i hi
  rw [e i hi] at r
  exact ⟨b, r⟩

set_option maxHeartbeats 4000000 in
theorem tables0_any {k : Nat} (hk : k = 1 ∨ k = 2) (n b : Nat) (w : World) (h : Src n w b) (hn : n ≤ 999999900000) :
    Calls Tryz.prog 23 #[.pointer (some ⟨b, 0, none⟩), .int .i64 (k : Int), .int .i64 0] w fun e w' => DrawnTs (n + 39 * 1 * (2 * k)) (2 * k) 1 b w e w' := by
  obtain ⟨i1, hi, hz0, hz1, hz2⟩ := info_parts infoRow
  have HI := hik hi
  have HZ0 := hik hz0
  have HZ1 := hik hz1
  have HZ2 := hik hz2
  have hb := h.lt
  have H := hik (h.keep ((Chg.refl nob w).alloc (.cells #[] 26)))
  obtain ⟨d, hd⟩ : ∃ d, d = 2 * k := ⟨_, rfl⟩
  have hd4 : d ≤ 4 := by rcases hk with rfl | rfl <;> omega
  have QD := hik (fun (w : World) => sTbl_any (k : Int) (d : Int) (by rw [IntKind.wrap_i64]; omega) w)
  rw [← hd]
  clear hi hz0 hz1 hz2 h hd hk
  go_enter Tryz.func23, Tryz.ntmps23
  go_wp2_with fail
  go_loopw [7, 8] (fun u i W => ∃ (j : Nat) (A : Nat → Option Addr) (Cc : Nat → Nat) (t : Nat → Nat → El) (g cp : Nat), j ≤ d ∧ i = .int .i64 (j : Int) ∧ u = .slice (some ⟨g, 0, none⟩) j cp ∧ Hid (W.ownsRow w.heap.size 26 1 (.slice (some ⟨g, 0, none⟩) j cp) j ((List.range j).map (fun i => Value.slice (A i) 1 (Cc i)))) ∧ Hid (TbsO W w.heap.size g j 1 A t) ∧ Hid (Src (n + 39 * 1 * j) W b) ∧ Hid (Chg (fun i => i = b) w W)) (fun _ i _ => d - (intOf i).toNat)
  case atStart => exact ⟨0, fun _ => none, fun _ => 0, fun _ _ => El.zr, w.heap.size, 0, Nat.zero_le _, rfl, rfl, hik (flNone w w.heap.size 26 1 (Nat.le_refl _)), hik (fun i hi => absurd hi (by omega)), H, hik ((Chg.refl _ _).alloc _)⟩
  case round =>
    obtain ⟨j, A, Cc, t, g, cp, hj, rfl, rfl, HW, HT, HS, HC⟩ := hrel
    rename World => wi
    by_cases hlt : j < d
    · have hj1 : (j : Int) < (d : Int) := by omega
      go_wp2_with fail
      refine (QD.out _).mono ?_
      rintro e W1 ⟨rfl, hw⟩
      have hw' := hw.symm
      clear hw
      subst hw'
      have hsz := HC.out.size
      have hgl := hik (HW.out.lt g rfl)
      go_wp2_with fail
      refine (exts_any 1 (n + 39 * 1 * j) b _ HS.out (by omega) (by omega)).mono ?_
      rintro e W2 ⟨f, g9, c6, cap6, he, ho6, hok, hS1, hB1⟩
      have he' : e = .returned (.slice c6 1 cap6) := he
      clear he
      subst he'
      obtain ⟨b6, M6, hh6, e6, hb6, r6⟩ := own_row9 ho6 (by omega)
      subst e6
      have P6 := hik (show PairE W2 (some ⟨b6, 0, none⟩) 1 (elF f g9) from PairE.of (OwnE.pairs ho6) hok)
      have hl6 : b6 < W2.heap.size := r6.lt
      have hbg : b6 ≠ g := by have := hgl.out.2; omega
      have hbB : w.heap.size ≤ b6 := by omega
      replace HW := hik (owns_src HW.out hb hB1)
      replace HT := hik (HT.out.chg hB1 (fun i x hi ex e => by
        obtain ⟨y, ey, hy, _⟩ := HT.out i hi
        rw [ex] at ey
        cases ey
        omega))
      replace HC := hik (HC.out.trans hB1)
      have HS2 := hik hS1
      have hs2 := HC.out.size
      clear ho6 r6 hb6 hok hS1 hB1 HS
      go_wp2_with (at_builtin; refine wpList_append_lies _ ?g0 (.tmp 16) (.tmp 22) 24 ?g1 w.heap.size 26 i1 (.slice none 0 0) 1 24 Tryz.underlying24 HI.out HZ0.out HZ1.out HZ2.out rfl (by decide) (.slice (some ⟨g, 0, none⟩) j cp) j _ ?b1 (HW.out.alloc _) ⟨_, 0, none⟩ 1 1 [.slice (some ⟨b6, 0, none⟩) 1 cap6] ?b3 ?b4 (rwNews _ _ _) (rwOne _ _ _) (by decide) ?b7 ?b8 ?b9 _ rfl ?b10)
      case g0 => rfl
      case g1 => rfl
      case b1 => rfl
      case b3 => rfl
      case b4 => rfl
      case b7 => unfold maxLen; omega
      case b8 => omega
      case b9 => simp; omega
      case b10 =>
        intro g7 cp7 w7 o7 hg7 hat7 hlt7
        have hat7' := hik (show g = g7 ∨ g7 = (W2.alloc (.cells #[.slice (some ⟨b6, 0, none⟩) 1 cap6] 26)).heap.size from by
          rcases hat7 with q | q
          · exact .inl (by simpa [Value.ownBlock] using q)
          · exact .inr (by simpa using q))
        have C7 := hik (((Chg.refl (fun x => x = g) W2).alloc (.cells #[.slice (some ⟨b6, 0, none⟩) 1 cap6] 26)).trans ((Chg.refl (fun x => x = g) (W2.alloc (.cells #[.slice (some ⟨b6, 0, none⟩) 1 cap6] 26))).grown hg7 (fun x e _ => by have q : some g = some x := e; cases q; rfl)))
        have HT2 := hik (TbsO.grown ((TbsO.ext (HT.out.congr (u' := exT t j (elF f g9)) (fun i hi => by unfold exT; rw [if_neg (by omega)])) hbB hbg hl6 (by rw [exT_at]; exact P6.out)).keep ((Chg.refl nob _).alloc (.cells #[.slice (some ⟨b6, 0, none⟩) 1 cap6] 26))) hg7 hat7'.out)
        have HO : Hid (w7.ownsRow w.heap.size 26 1 (.slice (some ⟨g7, 0, none⟩) (j + 1) cp7) (j + 1) ((List.range (j + 1)).map (fun i => Value.slice ((fun i => if i = j then some ⟨b6, 0, none⟩ else A i) i) 1 ((fun i => if i = j then cap6 else Cc i) i)))) := hik (by rw [← rwExt]; exact o7)
        have HS7 : Hid (Src (n + 39 * 1 * j + 39 * 1) w7 b) := hik (HS2.out.chg C7.out (fun x e => by have := hgl.out.1; omega))
        have HC7 := hik ((HC.out.alloc _).grown hg7 (fun x e l => absurd (HW.out.lt x e).1 (by omega)))
        clear o7 hg7 hat7 hlt7 C7 HW HT HC HS2
        go_wp2
        go_roundw
        case rel => exact ⟨j + 1, _, _, _, g7, cp7, by omega, by go_num, rfl, HO, HT2, hik (HS7.out.mono (by omega)), HC7⟩
        case measure => simp [intOf]; omega
    · obtain rfl : d = j := by omega
      have hcc : ¬ (d : Int) < (d : Int) := by omega
      go_wp2_with fail
      refine (QD.out _).mono ?_
      rintro e W1 ⟨rfl, hw⟩
      have hw' := hw.symm
      clear hw
      subst hw'
      go_wp2
      go_ret
      exact ⟨t, _, cp, rfl, RowsQ.of_owns HW.out HT.out, HS.out, HC.out⟩

set_option maxHeartbeats 4000000 in
theorem tables1_any {k : Nat} (hk : k = 1 ∨ k = 2) (n b : Nat) (w : World) (h : Src n w b) (hn : n ≤ 999999900000) :
    Calls Tryz.prog 23 #[.pointer (some ⟨b, 0, none⟩), .int .i64 (k : Int), .int .i64 1] w fun e w' => DrawnTs (n + 39 * 2 * (2 * k)) (2 * k) 2 b w e w' := by
  obtain ⟨i1, hi, hz0, hz1, hz2⟩ := info_parts infoRow
  have HI := hik hi
  have HZ0 := hik hz0
  have HZ1 := hik hz1
  have HZ2 := hik hz2
  have hb := h.lt
  have H := hik (h.keep ((Chg.refl nob w).alloc (.cells #[] 26)))
  obtain ⟨d, hd⟩ : ∃ d, d = 2 * k := ⟨_, rfl⟩
  have hd4 : d ≤ 4 := by rcases hk with rfl | rfl <;> omega
  have QD := hik (fun (w : World) => sTbl_any (k : Int) (d : Int) (by rw [IntKind.wrap_i64]; omega) w)
  rw [← hd]
  clear hi hz0 hz1 hz2 h hd hk
  go_enter Tryz.func23, Tryz.ntmps23
  go_wp2_with fail
  go_loopw [7, 8] (fun u i W => ∃ (j : Nat) (A : Nat → Option Addr) (Cc : Nat → Nat) (t : Nat → Nat → El) (g cp : Nat), j ≤ d ∧ i = .int .i64 (j : Int) ∧ u = .slice (some ⟨g, 0, none⟩) j cp ∧ Hid (W.ownsRow w.heap.size 26 1 (.slice (some ⟨g, 0, none⟩) j cp) j ((List.range j).map (fun i => Value.slice (A i) 2 (Cc i)))) ∧ Hid (TbsO W w.heap.size g j 2 A t) ∧ Hid (Src (n + 39 * 2 * j) W b) ∧ Hid (Chg (fun i => i = b) w W)) (fun _ i _ => d - (intOf i).toNat)
  case atStart => exact ⟨0, fun _ => none, fun _ => 0, fun _ _ => El.zr, w.heap.size, 0, Nat.zero_le _, rfl, rfl, hik (flNone w w.heap.size 26 1 (Nat.le_refl _)), hik (fun i hi => absurd hi (by omega)), H, hik ((Chg.refl _ _).alloc _)⟩
  case round =>
    obtain ⟨j, A, Cc, t, g, cp, hj, rfl, rfl, HW, HT, HS, HC⟩ := hrel
    rename World => wi
    by_cases hlt : j < d
    · have hj1 : (j : Int) < (d : Int) := by omega
      go_wp2_with fail
      refine (QD.out _).mono ?_
      rintro e W1 ⟨rfl, hw⟩
      have hw' := hw.symm
      clear hw
      subst hw'
      have hsz := HC.out.size
      have hgl := hik (HW.out.lt g rfl)
      go_wp2_with fail
      refine (exts_any 2 (n + 39 * 2 * j) b _ HS.out (by omega) (by omega)).mono ?_
      rintro e W2 ⟨f, g9, c6, cap6, he, ho6, hok, hS1, hB1⟩
      have he' : e = .returned (.slice c6 2 cap6) := he
      clear he
      subst he'
      obtain ⟨b6, M6, hh6, e6, hb6, r6⟩ := own_row9 ho6 (by omega)
      subst e6
      have P6 := hik (show PairE W2 (some ⟨b6, 0, none⟩) 2 (elF f g9) from PairE.of (OwnE.pairs ho6) hok)
      have hl6 : b6 < W2.heap.size := r6.lt
      have hbg : b6 ≠ g := by have := hgl.out.2; omega
      have hbB : w.heap.size ≤ b6 := by omega
      replace HW := hik (owns_src HW.out hb hB1)
      replace HT := hik (HT.out.chg hB1 (fun i x hi ex e => by
        obtain ⟨y, ey, hy, _⟩ := HT.out i hi
        rw [ex] at ey
        cases ey
        omega))
      replace HC := hik (HC.out.trans hB1)
      have HS2 := hik hS1
      have hs2 := HC.out.size
      clear ho6 r6 hb6 hok hS1 hB1 HS
      go_wp2_with (at_builtin; refine wpList_append_lies _ ?g0 (.tmp 16) (.tmp 22) 24 ?g1 w.heap.size 26 i1 (.slice none 0 0) 1 24 Tryz.underlying24 HI.out HZ0.out HZ1.out HZ2.out rfl (by decide) (.slice (some ⟨g, 0, none⟩) j cp) j _ ?b1 (HW.out.alloc _) ⟨_, 0, none⟩ 1 1 [.slice (some ⟨b6, 0, none⟩) 2 cap6] ?b3 ?b4 (rwNews _ _ _) (rwOne _ _ _) (by decide) ?b7 ?b8 ?b9 _ rfl ?b10)
      case g0 => rfl
      case g1 => rfl
      case b1 => rfl
      case b3 => rfl
      case b4 => rfl
      case b7 => unfold maxLen; omega
      case b8 => omega
      case b9 => simp; omega
      case b10 =>
        intro g7 cp7 w7 o7 hg7 hat7 hlt7
        have hat7' := hik (show g = g7 ∨ g7 = (W2.alloc (.cells #[.slice (some ⟨b6, 0, none⟩) 2 cap6] 26)).heap.size from by
          rcases hat7 with q | q
          · exact .inl (by simpa [Value.ownBlock] using q)
          · exact .inr (by simpa using q))
        have C7 := hik (((Chg.refl (fun x => x = g) W2).alloc (.cells #[.slice (some ⟨b6, 0, none⟩) 2 cap6] 26)).trans ((Chg.refl (fun x => x = g) (W2.alloc (.cells #[.slice (some ⟨b6, 0, none⟩) 2 cap6] 26))).grown hg7 (fun x e _ => by have q : some g = some x := e; cases q; rfl)))
        have HT2 := hik (TbsO.grown ((TbsO.ext (HT.out.congr (u' := exT t j (elF f g9)) (fun i hi => by unfold exT; rw [if_neg (by omega)])) hbB hbg hl6 (by rw [exT_at]; exact P6.out)).keep ((Chg.refl nob _).alloc (.cells #[.slice (some ⟨b6, 0, none⟩) 2 cap6] 26))) hg7 hat7'.out)
        have HO : Hid (w7.ownsRow w.heap.size 26 1 (.slice (some ⟨g7, 0, none⟩) (j + 1) cp7) (j + 1) ((List.range (j + 1)).map (fun i => Value.slice ((fun i => if i = j then some ⟨b6, 0, none⟩ else A i) i) 2 ((fun i => if i = j then cap6 else Cc i) i)))) := hik (by rw [← rwExt]; exact o7)
        have HS7 : Hid (Src (n + 39 * 2 * j + 39 * 2) w7 b) := hik (HS2.out.chg C7.out (fun x e => by have := hgl.out.1; omega))
        have HC7 := hik ((HC.out.alloc _).grown hg7 (fun x e l => absurd (HW.out.lt x e).1 (by omega)))
        clear o7 hg7 hat7 hlt7 C7 HW HT HC HS2
        go_wp2
        go_roundw
        case rel => exact ⟨j + 1, _, _, _, g7, cp7, by omega, by go_num, rfl, HO, HT2, hik (HS7.out.mono (by omega)), HC7⟩
        case measure => simp [intOf]; omega
    · obtain rfl : d = j := by omega
      have hcc : ¬ (d : Int) < (d : Int) := by omega
      go_wp2_with fail
      refine (QD.out _).mono ?_
      rintro e W1 ⟨rfl, hw⟩
      have hw' := hw.symm
      clear hw
      subst hw'
      go_wp2
      go_ret
      exact ⟨t, _, cp, rfl, RowsQ.of_owns HW.out HT.out, HS.out, HC.out⟩

set_option maxHeartbeats 4000000 in
theorem tables2_any {k : Nat} (hk : k = 1 ∨ k = 2) (n b : Nat) (w : World) (h : Src n w b) (hn : n ≤ 999999900000) :
    Calls Tryz.prog 23 #[.pointer (some ⟨b, 0, none⟩), .int .i64 (k : Int), .int .i64 2] w fun e w' => DrawnTs (n + 39 * 4 * (2 * k)) (2 * k) 4 b w e w' := by
  obtain ⟨i1, hi, hz0, hz1, hz2⟩ := info_parts infoRow
  have HI := hik hi
  have HZ0 := hik hz0
  have HZ1 := hik hz1
  have HZ2 := hik hz2
  have hb := h.lt
  have H := hik (h.keep ((Chg.refl nob w).alloc (.cells #[] 26)))
  obtain ⟨d, hd⟩ : ∃ d, d = 2 * k := ⟨_, rfl⟩
  have hd4 : d ≤ 4 := by rcases hk with rfl | rfl <;> omega
  have QD := hik (fun (w : World) => sTbl_any (k : Int) (d : Int) (by rw [IntKind.wrap_i64]; omega) w)
  rw [← hd]
  clear hi hz0 hz1 hz2 h hd hk
  go_enter Tryz.func23, Tryz.ntmps23
  go_wp2_with fail
  go_loopw [7, 8] (fun u i W => ∃ (j : Nat) (A : Nat → Option Addr) (Cc : Nat → Nat) (t : Nat → Nat → El) (g cp : Nat), j ≤ d ∧ i = .int .i64 (j : Int) ∧ u = .slice (some ⟨g, 0, none⟩) j cp ∧ Hid (W.ownsRow w.heap.size 26 1 (.slice (some ⟨g, 0, none⟩) j cp) j ((List.range j).map (fun i => Value.slice (A i) 4 (Cc i)))) ∧ Hid (TbsO W w.heap.size g j 4 A t) ∧ Hid (Src (n + 39 * 4 * j) W b) ∧ Hid (Chg (fun i => i = b) w W)) (fun _ i _ => d - (intOf i).toNat)
  case atStart => exact ⟨0, fun _ => none, fun _ => 0, fun _ _ => El.zr, w.heap.size, 0, Nat.zero_le _, rfl, rfl, hik (flNone w w.heap.size 26 1 (Nat.le_refl _)), hik (fun i hi => absurd hi (by omega)), H, hik ((Chg.refl _ _).alloc _)⟩
  case round =>
    obtain ⟨j, A, Cc, t, g, cp, hj, rfl, rfl, HW, HT, HS, HC⟩ := hrel
    rename World => wi
    by_cases hlt : j < d
    · have hj1 : (j : Int) < (d : Int) := by omega
      go_wp2_with fail
      refine (QD.out _).mono ?_
      rintro e W1 ⟨rfl, hw⟩
      have hw' := hw.symm
      clear hw
      subst hw'
      have hsz := HC.out.size
      have hgl := hik (HW.out.lt g rfl)
      go_wp2_with fail
      refine (exts_any 4 (n + 39 * 4 * j) b _ HS.out (by omega) (by omega)).mono ?_
      rintro e W2 ⟨f, g9, c6, cap6, he, ho6, hok, hS1, hB1⟩
      have he' : e = .returned (.slice c6 4 cap6) := he
      clear he
      subst he'
      obtain ⟨b6, M6, hh6, e6, hb6, r6⟩ := own_row9 ho6 (by omega)
      subst e6
      have P6 := hik (show PairE W2 (some ⟨b6, 0, none⟩) 4 (elF f g9) from PairE.of (OwnE.pairs ho6) hok)
      have hl6 : b6 < W2.heap.size := r6.lt
      have hbg : b6 ≠ g := by have := hgl.out.2; omega
      have hbB : w.heap.size ≤ b6 := by omega
      replace HW := hik (owns_src HW.out hb hB1)
      replace HT := hik (HT.out.chg hB1 (fun i x hi ex e => by
        obtain ⟨y, ey, hy, _⟩ := HT.out i hi
        rw [ex] at ey
        cases ey
        omega))
      replace HC := hik (HC.out.trans hB1)
      have HS2 := hik hS1
      have hs2 := HC.out.size
      clear ho6 r6 hb6 hok hS1 hB1 HS
      go_wp2_with (at_builtin; refine wpList_append_lies _ ?g0 (.tmp 16) (.tmp 22) 24 ?g1 w.heap.size 26 i1 (.slice none 0 0) 1 24 Tryz.underlying24 HI.out HZ0.out HZ1.out HZ2.out rfl (by decide) (.slice (some ⟨g, 0, none⟩) j cp) j _ ?b1 (HW.out.alloc _) ⟨_, 0, none⟩ 1 1 [.slice (some ⟨b6, 0, none⟩) 4 cap6] ?b3 ?b4 (rwNews _ _ _) (rwOne _ _ _) (by decide) ?b7 ?b8 ?b9 _ rfl ?b10)
      case g0 => rfl
      case g1 => rfl
      case b1 => rfl
      case b3 => rfl
      case b4 => rfl
      case b7 => unfold maxLen; omega
      case b8 => omega
      case b9 => simp; omega
      case b10 =>
        intro g7 cp7 w7 o7 hg7 hat7 hlt7
        have hat7' := hik (show g = g7 ∨ g7 = (W2.alloc (.cells #[.slice (some ⟨b6, 0, none⟩) 4 cap6] 26)).heap.size from by
          rcases hat7 with q | q
          · exact .inl (by simpa [Value.ownBlock] using q)
          · exact .inr (by simpa using q))
        have C7 := hik (((Chg.refl (fun x => x = g) W2).alloc (.cells #[.slice (some ⟨b6, 0, none⟩) 4 cap6] 26)).trans ((Chg.refl (fun x => x = g) (W2.alloc (.cells #[.slice (some ⟨b6, 0, none⟩) 4 cap6] 26))).grown hg7 (fun x e _ => by have q : some g = some x := e; cases q; rfl)))
        have HT2 := hik (TbsO.grown ((TbsO.ext (HT.out.congr (u' := exT t j (elF f g9)) (fun i hi => by unfold exT; rw [if_neg (by omega)])) hbB hbg hl6 (by rw [exT_at]; exact P6.out)).keep ((Chg.refl nob _).alloc (.cells #[.slice (some ⟨b6, 0, none⟩) 4 cap6] 26))) hg7 hat7'.out)
        have HO : Hid (w7.ownsRow w.heap.size 26 1 (.slice (some ⟨g7, 0, none⟩) (j + 1) cp7) (j + 1) ((List.range (j + 1)).map (fun i => Value.slice ((fun i => if i = j then some ⟨b6, 0, none⟩ else A i) i) 4 ((fun i => if i = j then cap6 else Cc i) i)))) := hik (by rw [← rwExt]; exact o7)
        have HS7 : Hid (Src (n + 39 * 4 * j + 39 * 4) w7 b) := hik (HS2.out.chg C7.out (fun x e => by have := hgl.out.1; omega))
        have HC7 := hik ((HC.out.alloc _).grown hg7 (fun x e l => absurd (HW.out.lt x e).1 (by omega)))
        clear o7 hg7 hat7 hlt7 C7 HW HT HC HS2
        go_wp2
        go_roundw
        case rel => exact ⟨j + 1, _, _, _, g7, cp7, by omega, by go_num, rfl, HO, HT2, hik (HS7.out.mono (by omega)), HC7⟩
        case measure => simp [intOf]; omega
    · obtain rfl : d = j := by omega
      have hcc : ¬ (d : Int) < (d : Int) := by omega
      go_wp2_with fail
      refine (QD.out _).mono ?_
      rintro e W1 ⟨rfl, hw⟩
      have hw' := hw.symm
      clear hw
      subst hw'
      go_wp2
      go_ret
      exact ⟨t, _, cp, rfl, RowsQ.of_owns HW.out HT.out, HS.out, HC.out⟩

set_option maxHeartbeats 4000000 in
theorem tables3_any {k : Nat} (hk : k = 1 ∨ k = 2) (n b : Nat) (w : World) (h : Src n w b) (hn : n ≤ 999999900000) :
    Calls Tryz.prog 23 #[.pointer (some ⟨b, 0, none⟩), .int .i64 (k : Int), .int .i64 3] w fun e w' => DrawnTs (n + 39 * 8 * (2 * k)) (2 * k) 8 b w e w' := by
  obtain ⟨i1, hi, hz0, hz1, hz2⟩ := info_parts infoRow
  have HI := hik hi
  have HZ0 := hik hz0
  have HZ1 := hik hz1
  have HZ2 := hik hz2
  have hb := h.lt
  have H := hik (h.keep ((Chg.refl nob w).alloc (.cells #[] 26)))
  obtain ⟨d, hd⟩ : ∃ d, d = 2 * k := ⟨_, rfl⟩
  have hd4 : d ≤ 4 := by rcases hk with rfl | rfl <;> omega
  have QD := hik (fun (w : World) => sTbl_any (k : Int) (d : Int) (by rw [IntKind.wrap_i64]; omega) w)
  rw [← hd]
  clear hi hz0 hz1 hz2 h hd hk
  go_enter Tryz.func23, Tryz.ntmps23
  go_wp2_with fail
  go_loopw [7, 8] (fun u i W => ∃ (j : Nat) (A : Nat → Option Addr) (Cc : Nat → Nat) (t : Nat → Nat → El) (g cp : Nat), j ≤ d ∧ i = .int .i64 (j : Int) ∧ u = .slice (some ⟨g, 0, none⟩) j cp ∧ Hid (W.ownsRow w.heap.size 26 1 (.slice (some ⟨g, 0, none⟩) j cp) j ((List.range j).map (fun i => Value.slice (A i) 8 (Cc i)))) ∧ Hid (TbsO W w.heap.size g j 8 A t) ∧ Hid (Src (n + 39 * 8 * j) W b) ∧ Hid (Chg (fun i => i = b) w W)) (fun _ i _ => d - (intOf i).toNat)
  case atStart => exact ⟨0, fun _ => none, fun _ => 0, fun _ _ => El.zr, w.heap.size, 0, Nat.zero_le _, rfl, rfl, hik (flNone w w.heap.size 26 1 (Nat.le_refl _)), hik (fun i hi => absurd hi (by omega)), H, hik ((Chg.refl _ _).alloc _)⟩
  case round =>
    obtain ⟨j, A, Cc, t, g, cp, hj, rfl, rfl, HW, HT, HS, HC⟩ := hrel
    rename World => wi
    by_cases hlt : j < d
    · have hj1 : (j : Int) < (d : Int) := by omega
      go_wp2_with fail
      refine (QD.out _).mono ?_
      rintro e W1 ⟨rfl, hw⟩
      have hw' := hw.symm
      clear hw
      subst hw'
      have hsz := HC.out.size
      have hgl := hik (HW.out.lt g rfl)
      go_wp2_with fail
      refine (exts_any 8 (n + 39 * 8 * j) b _ HS.out (by omega) (by omega)).mono ?_
      rintro e W2 ⟨f, g9, c6, cap6, he, ho6, hok, hS1, hB1⟩
      have he' : e = .returned (.slice c6 8 cap6) := he
      clear he
      subst he'
      obtain ⟨b6, M6, hh6, e6, hb6, r6⟩ := own_row9 ho6 (by omega)
      subst e6
      have P6 := hik (show PairE W2 (some ⟨b6, 0, none⟩) 8 (elF f g9) from PairE.of (OwnE.pairs ho6) hok)
      have hl6 : b6 < W2.heap.size := r6.lt
      have hbg : b6 ≠ g := by have := hgl.out.2; omega
      have hbB : w.heap.size ≤ b6 := by omega
      replace HW := hik (owns_src HW.out hb hB1)
      replace HT := hik (HT.out.chg hB1 (fun i x hi ex e => by
        obtain ⟨y, ey, hy, _⟩ := HT.out i hi
        rw [ex] at ey
        cases ey
        omega))
      replace HC := hik (HC.out.trans hB1)
      have HS2 := hik hS1
      have hs2 := HC.out.size
      clear ho6 r6 hb6 hok hS1 hB1 HS
      go_wp2_with (at_builtin; refine wpList_append_lies _ ?g0 (.tmp 16) (.tmp 22) 24 ?g1 w.heap.size 26 i1 (.slice none 0 0) 1 24 Tryz.underlying24 HI.out HZ0.out HZ1.out HZ2.out rfl (by decide) (.slice (some ⟨g, 0, none⟩) j cp) j _ ?b1 (HW.out.alloc _) ⟨_, 0, none⟩ 1 1 [.slice (some ⟨b6, 0, none⟩) 8 cap6] ?b3 ?b4 (rwNews _ _ _) (rwOne _ _ _) (by decide) ?b7 ?b8 ?b9 _ rfl ?b10)
      case g0 => rfl
      case g1 => rfl
      case b1 => rfl
      case b3 => rfl
      case b4 => rfl
      case b7 => unfold maxLen; omega
      case b8 => omega
      case b9 => simp; omega
      case b10 =>
        intro g7 cp7 w7 o7 hg7 hat7 hlt7
        have hat7' := hik (show g = g7 ∨ g7 = (W2.alloc (.cells #[.slice (some ⟨b6, 0, none⟩) 8 cap6] 26)).heap.size from by
          rcases hat7 with q | q
          · exact .inl (by simpa [Value.ownBlock] using q)
          · exact .inr (by simpa using q))
        have C7 := hik (((Chg.refl (fun x => x = g) W2).alloc (.cells #[.slice (some ⟨b6, 0, none⟩) 8 cap6] 26)).trans ((Chg.refl (fun x => x = g) (W2.alloc (.cells #[.slice (some ⟨b6, 0, none⟩) 8 cap6] 26))).grown hg7 (fun x e _ => by have q : some g = some x := e; cases q; rfl)))
        have HT2 := hik (TbsO.grown ((TbsO.ext (HT.out.congr (u' := exT t j (elF f g9)) (fun i hi => by unfold exT; rw [if_neg (by omega)])) hbB hbg hl6 (by rw [exT_at]; exact P6.out)).keep ((Chg.refl nob _).alloc (.cells #[.slice (some ⟨b6, 0, none⟩) 8 cap6] 26))) hg7 hat7'.out)
        have HO : Hid (w7.ownsRow w.heap.size 26 1 (.slice (some ⟨g7, 0, none⟩) (j + 1) cp7) (j + 1) ((List.range (j + 1)).map (fun i => Value.slice ((fun i => if i = j then some ⟨b6, 0, none⟩ else A i) i) 8 ((fun i => if i = j then cap6 else Cc i) i)))) := hik (by rw [← rwExt]; exact o7)
        have HS7 : Hid (Src (n + 39 * 8 * j + 39 * 8) w7 b) := hik (HS2.out.chg C7.out (fun x e => by have := hgl.out.1; omega))
        have HC7 := hik ((HC.out.alloc _).grown hg7 (fun x e l => absurd (HW.out.lt x e).1 (by omega)))
        clear o7 hg7 hat7 hlt7 C7 HW HT HC HS2
        go_wp2
        go_roundw
        case rel => exact ⟨j + 1, _, _, _, g7, cp7, by omega, by go_num, rfl, HO, HT2, hik (HS7.out.mono (by omega)), HC7⟩
        case measure => simp [intOf]; omega
    · obtain rfl : d = j := by omega
      have hcc : ¬ (d : Int) < (d : Int) := by omega
      go_wp2_with fail
      refine (QD.out _).mono ?_
      rintro e W1 ⟨rfl, hw⟩
      have hw' := hw.symm
      clear hw
      subst hw'
      go_wp2
      go_ret
      exact ⟨t, _, cp, rfl, RowsQ.of_owns HW.out HT.out, HS.out, HC.out⟩

/-- Drawn tables out of a code. -/
def NewTs (m N : Nat) (w : World) (e : Ending) (w' : World) : Prop := ∃ (t : Nat → Nat → El) (c0 : Option Addr) (cap0 : Nat), e = .returned (.slice c0 m cap0) ∧ RowsQ (fun x => w.heap.size ≤ x ∧ x < w'.heap.size) w' c0 m N t ∧ Chg nob w w'

set_option maxHeartbeats 1000000 in
theorem tablesOf_any {k : Nat} (hk : k = 1 ∨ k = 2) (v : Nat) (hv : v ≤ 3) (c : Option Addr) (len cap : Nat) (w : World) (h : Bytes w c len) (hl : (len : Int) ≤ 9223372036854775807) :
    Calls Tryz.prog 6 #[.slice c len cap, .int .i64 (k : Int), .int .i64 (v : Int)] w fun e w' => NewTs (2 * k) (2 ^ v) w e w' := by
  have H := hik h
  have HK := hik hk
  clear h hk
  have QT := hik (fun (n b : Nat) (w : World) (h : Src n w b) (hn : n ≤ 999999900000) => (show Calls Tryz.prog 23 #[.pointer (some ⟨b, 0, none⟩), .int .i64 (k : Int), .int .i64 (v : Int)] w fun e w' => DrawnTs (n + 39 * 2 ^ v * (2 * k)) (2 * k) (2 ^ v) b w e w' from by
    rcases (show v = 0 ∨ v = 1 ∨ v = 2 ∨ v = 3 by omega) with rfl | rfl | rfl | rfl
    · exact tables0_any HK.out n b w h hn
    · exact tables1_any HK.out n b w h hn
    · exact tables2_any HK.out n b w h hn
    · exact tables3_any HK.out n b w h hn))
  go_enter Tryz.func6, Tryz.ntmps6
  go_wp2_with fail
  refine (l00Source_any c len cap _ H.out hl).mono ?_
  rintro e w1 ⟨rfl, hS, hB⟩
  have HS := hik hS
  have HB := hik (chg_of_below hB)
  clear hS hB
  go_wp2_with fail
  refine (QT.out 0 w.heap.size _ HS.out (by omega)).mono ?_
  rintro e w2 ⟨t, c0, cap0, rfl, hr, _, hk2⟩
  have HR := hik (hr.mono (R := fun x => w.heap.size ≤ x ∧ x < w2.heap.size) (fun x hx => ⟨Nat.le_trans HB.out.size hx.1, hx.2⟩))
  have HC := hik (HB.out.near hk2 (fun i e => by omega))
  clear hr hk2
  go_wp2
  go_ret
  exact ⟨t, c0, cap0, rfl, HR.out, HC.out⟩

end Go.Proofs.YtgiefpipflcbgadGreatDoor
