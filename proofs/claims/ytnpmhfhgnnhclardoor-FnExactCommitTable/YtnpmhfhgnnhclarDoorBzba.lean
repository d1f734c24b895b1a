/- Several texts in one: What the model's looks at numbers of leaves and at leaves answer: contracts. Conditions: rows that can be read. · What the model's levels of a tree are: a contract. Conditions: 1, 2, 4 to 256 leaves, none of more than 65535 bytes. -/
import Derived.Test.YtnpmhfhgnnhclarDoorBzap
import Derived.Deep.RegionHeld3
import Derived.Deep.AppendLies
namespace Go.Proofs.YtnpmhfhgnnhclarDoor
open Go.ChangeShapes Go.WideShapes Go.ChangeAt Go.RowKit
set_option linter.unusedVariables false
set_option maxRecDepth 100000
set_option linter.unusedSimpArgs false

/-- 1, 2, 4 to 256. -/
def pw (n : Int) : Bool := (List.range 9).any fun j => decide (n = ((2 ^ j : Nat) : Int))
theorem two_le (j : Nat) (h : j ≤ 8) : 2 ^ j ≤ 256 := Nat.pow_le_pow_right (by decide) h
theorem two_pos (j : Nat) : 1 ≤ 2 ^ j := Nat.one_le_two_pow

/-- A leaf is too long. -/
def anyL (n : Nat) (L : Nat → ByteArray) : Bool := (List.range n).any fun i => decide (64 < (L i).size)
/-- The code of leaves. -/
def lvc (n : Nat) (L : Nat → ByteArray) : Int := if 4096 < n then 2 else if pw n then (if anyL n L then 4 else 0) else 8


end Go.Proofs.YtnpmhfhgnnhclarDoor

namespace Go.Proofs.YtnpmhfhgnnhclarDoor
open Go.ChangeShapes Go.WideShapes Go.ChangeAt Go.RowKit
set_option linter.unusedVariables false
set_option maxRecDepth 100000
set_option linter.unusedSimpArgs false

theorem infoLs : (Tryd.prog.info? 34).map (fun i => (i.zero, i.size, i.bytes)) = some (some (.slice none 0 0), 1, 24) := by kernel_rfl
theorem owns_kept {w w' : World} {B : Nat} {t : TypeId} {z : Nat} {v : Value} {n : Nat} {xs : List Value} (h : w.ownsRow B t z v n xs) (k : Chg nob w w') : w'.ownsRow B t z v n xs := by
  obtain ⟨hl, h⟩ := h
  refine ⟨hl, ?_⟩
  rcases h with h | ⟨g, cap, cur, e, hb, hc, r⟩
  · exact .inl h
  · exact .inr ⟨g, cap, cur, e, hb, (k.block g (Array.getElem?_eq_some_iff.1 hc).1 (fun x => x)).trans hc, r⟩
theorem owns_one (w : World) (B : Nat) (t : TypeId) (v : Value) (hB : B ≤ w.heap.size) : (w.alloc (.cells #[v] t)).ownsRow B t 1 (.slice (some ⟨w.heap.size, 0, none⟩) 1 1) 1 [v] :=
  ⟨by simp, .inr ⟨w.heap.size, 1, #[v], rfl, hB, Array.getElem?_push_size, Nat.le_refl _, by unfold maxLen; omega, by simp, by simp⟩⟩
theorem snoc_map (f : Nat → Value) (k : Nat) : (List.range k).map f ++ [f k] = (List.range (k + 1)).map f := by
  rw [List.range_succ, List.map_append]; rfl
/-- A level as a value. -/
def lsv (hh cc : Nat → Nat) (d j : Nat) : Value := .slice (some ⟨hh j, 0, none⟩) (2 ^ (d - j)) (cc j)
/-- The levels lie behind g. -/
structure Levs (W : World) (L : Nat → ByteArray) (d g : Nat) (hh cc : Nat → Nat) : Prop where
  lt : g < W.heap.size
  cell : ∀ j, j ≤ d → W.cell? ⟨g, j, none⟩ = some (lsv hh cc d j)
  row : ∀ j, j ≤ d → RowV W (some ⟨hh j, 0, none⟩) (2 ^ (d - j)) (sb (lev L j))
theorem Levs.keep {W W' : World} {L : Nat → ByteArray} {d g : Nat} {hh cc : Nat → Nat} (h : Levs W L d g hh cc) (k : Chg nob W W') : Levs W' L d g hh cc :=
  ⟨Nat.lt_of_lt_of_le h.lt k.size, fun j hj => k.see (h.cell j hj), fun j hj => (h.row j hj).keep k⟩

/-- The levels, in new memory. -/
def LvAns (w : World) (L : Nat → ByteArray) (d : Nat) (e : Ending) (w' : World) : Prop :=
  ∃ (g capo : Nat) (hh cc : Nat → Nat), e = .returned (.slice (some ⟨g, 0, none⟩) (d + 1) capo) ∧ Levs w' L d g hh cc ∧ Chg nob w w'

set_option maxRecDepth 100000 in
set_option maxHeartbeats 4000000 in
theorem sLevels_any (c : Option Addr) (n cap d : Nat) (L : Nat → ByteArray) (w : World) (h : Hid (RowV w c n (sb L))) (hz : Hid (∀ i, i < n → (L i).size ≤ 65535)) (hd : d ≤ 8) (hnd : n = 2 ^ d) :
    Calls Tryd.prog 24 #[.slice c n cap] w fun e w' => LvAns w L d e w' := by
  have hn256 : n ≤ 256 := by rw [hnd]; exact two_le d hd
  have hn1 : 1 ≤ n := by rw [hnd]; exact two_pos d
  have HND := hik hnd
  clear hnd
  obtain ⟨i0, hi, hz0, hz1, hz2⟩ := info_parts infoSt
  have HI := hik hi
  have HZ0 := hik hz0
  have HZ1 := hik hz1
  have HZ2 := hik hz2
  clear hi hz0 hz1 hz2
  obtain ⟨i1, hj, hy0, hy1, hy2⟩ := info_parts infoLs
  have HJ := hik hj
  have HY0 := hik hy0
  have HY1 := hik hy1
  have HY2 := hik hy2
  clear hj hy0 hy1 hy2
  go_enter Tryd.func24, Tryd.ntmps24
  go_wp2
  go_loopw [3, 4] (fun v i W => ∃ k : Nat, k ≤ n ∧ i = .int .i64 k ∧ Hid (W.ownsRow w.heap.size 9 1 v k ((List.range k).map (sb (lev L 0)))) ∧ Hid (Chg nob w W)) (fun _ i _ => n - (intOf i).toNat)
  case atStart => exact ⟨0, Nat.zero_le _, rfl, hik (owns_new _ _ _ _ (Nat.le_refl _)), hik ((Chg.refl _ _).alloc _)⟩
  case round =>
    obtain ⟨k, hk, rfl, HW, HG⟩ := hrel
    by_cases hlt : k < n
    · obtain ⟨xb, xo, rfl, hxb, hcell⟩ := (h.out.keep HG.out) k hlt
      have hx : _ = some (Value.string (L k)) := hcell
      clear hcell
      go_wp2_with (first | (go_at_call 36; refine (sLeaf_any (L k) _ (hz.out k hlt)).mono ?_; rintro e W1 ⟨rfl, k1⟩; have O1 := hik (owns_kept HW.out k1); have G1 := hik (HG.out.trans k1); have hs1 := G1.out.size; clear k1) | (at_builtin; refine wpList_append_own _ rfl (.tmp 15) (.tmp 21) 34 rfl w.heap.size 9 i0 (.string ⟨#[]⟩) 1 16 Tryd.underlying34 HI.out HZ0.out HZ1.out HZ2.out rfl (by decide) _ k _ rfl (O1.out.alloc _) ⟨_, 0, none⟩ 1 1 [.string (lf (L k))] rfl rfl ?c1 ?c2 ?c3 ?c4 ?c5 ?c6))
      case c1 =>
        intro j u hj
        match j, hj with
        | 0, hj => simp at hj; subst hj; simp [Addr.add]
        | j + 1, hj => simp at hj
      case c2 => intro u hu; simp at hu; subst hu; rfl
      case c3 => unfold maxLen; omega
      case c4 => omega
      case c5 => simp; omega
      case c6 =>
        intro v' w1 hown hgr _
        have HOW : Hid (w1.ownsRow w.heap.size 9 1 v' (k + 1) ((List.range (k + 1)).map (sb (lev L 0)))) := hik (by rw [← snoc_map]; exact hown)
        have HGC := hik ((G1.out.alloc _).grown hgr (fun b e l => absurd (HW.out.lt b e).1 (by omega)))
        clear hown hgr
        go_wp2
        go_roundw
        case rel => exact ⟨k + 1, by omega, by go_num, HOW, HGC⟩
        case measure => simp [intOf]; omega
    · obtain rfl : k = n := by omega
      obtain ⟨b0, cap0, rfl, hb0, hbl0, hv0⟩ := rowV_of_owns HW.out (by omega)
      have V0 := hik hv0
      have hs0 := HG.out.size
      clear hv0 HW
      go_wp2
      go_loopw [3, 5] (fun v3 v5 W => ∃ (j q g capo : Nat) (hh cc : Nat → Nat), j ≤ d ∧ v3 = .slice (some ⟨hh j, 0, none⟩) q (cc j) ∧ v5 = .slice (some ⟨g, 0, none⟩) (j + 1) capo ∧ Hid (q = 2 ^ (d - j)) ∧ Hid (W.ownsRow w.heap.size 34 1 (.slice (some ⟨g, 0, none⟩) (j + 1) capo) (j + 1) ((List.range (j + 1)).map (lsv hh cc d))) ∧ Hid (∀ i, i ≤ j → ¬ hh i = g ∧ hh i < W.heap.size ∧ RowV W (some ⟨hh i, 0, none⟩) (2 ^ (d - i)) (sb (lev L i))) ∧ Hid (Chg nob w W)) (fun v3 _ _ => match v3 with | .slice _ q _ => q | _ => 0)
      case atStart =>
        refine ⟨0, k, wr.heap.size, 1, fun _ => b0, fun _ => cap0, by omega, rfl, rfl, hik (by rw [HND.out]; rfl), hik ?_, hik (fun i hi => ⟨by show ¬ b0 = wr.heap.size; omega, by show b0 < _; simp; omega, ?_⟩), hik (HG.out.alloc _)⟩
        · have q := owns_one wr w.heap.size 34 (.slice (some ⟨b0, 0, none⟩) k cap0) hs0
          have e : (List.range (0 + 1)).map (lsv (fun _ => b0) (fun _ => cap0) d) = [.slice (some ⟨b0, 0, none⟩) k cap0] := by
            rw [HND.out]; rfl
          rw [e]
          exact q
        · obtain rfl : i = 0 := by omega
          have q := V0.out.keep ((Chg.refl nob wr).alloc (.cells #[.slice (some ⟨b0, 0, none⟩) k cap0] 34))
          rw [HND.out] at q ⊢
          exact q
      case round =>
        clear V0 HG
        obtain ⟨j, q, g, capo, hh, cc, hj, rfl, rfl, HQ, HO, HR, HG⟩ := hrel
        obtain ⟨wo, hwo⟩ : ∃ x, x = wr := ⟨wr, rfl⟩
        subst hwo
        have hgl := (HO.out.lt g rfl).2
        by_cases hjd : j < d
        · obtain ⟨r, hr⟩ : ∃ r, r = 2 ^ (d - (j + 1)) := ⟨_, rfl⟩
          have hqr : q = 2 * r := by rw [HQ.out, hr, show d - j = d - (j + 1) + 1 by omega, Nat.pow_succ]; omega
          have hr1 : 1 ≤ r := by rw [hr]; exact two_pos _
          have hr2 : r ≤ 256 := by rw [hr]; exact two_le _ (by omega)
          have hq1 : 1 < (q : Int) := by omega
          have HR2 := hik hr
          have HRJ := hik ((HR.out j (Nat.le_refl _)).2.2)
          have hRQ : 2 ^ (d - j) = q := HQ.out.symm
          have HRJ2 : Hid (RowV wo (some ⟨hh j, 0, none⟩) q (sb (lev L j))) := hik (by have t := HRJ.out; rw [hRQ] at t; exact t)
          clear hr hRQ HRJ
          have HQR := hik hqr
          have hq256 : q ≤ 512 := by omega
          have hhl := (HR.out j (Nat.le_refl _)).2.1
          clear hqr
          go_wp2
          go_loopw [6, 7] (fun v6 i W => ∃ m : Nat, m ≤ r ∧ i = .int .i64 (2 * (m : Int)) ∧ Hid (W.ownsRow wo.heap.size 9 1 v6 m ((List.range m).map (sb (lev L (j + 1))))) ∧ Hid (Chg nob wo W)) (fun _ i _ => 2 * r + 2 - (intOf i).toNat)
          case atStart => exact ⟨0, Nat.zero_le _, rfl, hik (owns_new _ _ _ _ (Nat.le_refl _)), hik ((Chg.refl _ _).alloc _)⟩
          case round =>
            obtain ⟨m, hm, rfl, HW, HC⟩ := hrel
            have hsz := HC.out.size
            by_cases hmt : m < r
            · have hm1 : 2 * (m : Int) < (q : Int) := by have := HQR.out; omega
              have hm2 : 2 * (m : Int) + 1 < (q : Int) := by have := HQR.out; omega
              have hm3 : (0 : Int) ≤ 2 * (m : Int) := by omega
              have hm4 : (0 : Int) ≤ 2 * (m : Int) + 1 := by omega
              have t1 : (2 * (m : Int)).toNat = 2 * m := by omega
              have t2 : (2 * (m : Int) + 1).toNat = 2 * m + 1 := by omega
              have v1 : IntKind.i64.wrap (2 * (m : Int) + 1) = 2 * (m : Int) + 1 := by rw [IntKind.wrap_i64]; omega
              have x0 : wr.cell? ⟨hh j, 2 * m, none⟩ = some (.string (lev L j (2 * m))) := by
                obtain ⟨xb, xo, e, _, hc⟩ := (HRJ2.out.keep HC.out) (2 * m) (by have := HQR.out; omega)
                obtain ⟨rfl, rfl⟩ : hh j = xb ∧ 0 = xo := by simpa using e
                rw [Nat.zero_add] at hc; exact hc
              have x1 : wr.cell? ⟨hh j, 2 * m + 1, none⟩ = some (.string (lev L j (2 * m + 1))) := by
                obtain ⟨xb, xo, e, _, hc⟩ := (HRJ2.out.keep HC.out) (2 * m + 1) (by have := HQR.out; omega)
                obtain ⟨rfl, rfl⟩ : hh j = xb ∧ 0 = xo := by simpa using e
                rw [Nat.zero_add] at hc; exact hc
              have s1 := lev_size L j (2 * m)
              have s2 := lev_size L j (2 * m + 1)
              obtain ⟨A, hA⟩ : ∃ A, A = lev L j (2 * m) := ⟨_, rfl⟩
              obtain ⟨B, hB⟩ : ∃ B, B = lev L j (2 * m + 1) := ⟨_, rfl⟩
              rw [← hA] at x0 s1
              rw [← hB] at x1 s2
              have HAB := hik (show nd A B = lev L (j + 1) m by rw [hA, hB]; rfl)
              have HS1 := hik s1
              have HS2 := hik s2
              clear hA hB s1 s2
              go_wp2
              go_region_held3 (fun w' => w'.cell? ⟨hh j, 2 * m, none⟩ = some (.string A) ∧ w'.cell? ⟨hh j, 2 * m + 1, none⟩ = some (.string B)) (first | (with_reducible exact ⟨by assumption, by assumption⟩) | go_keep) (first | (go_at_call 37; refine (sNode_any A B _ (by have := HS1.out; omega) (by have := HS2.out; omega)).mono ?_; rintro e w3 ⟨rfl, k3⟩; have O3 := hik (owns_kept HW.out.drew k3); have G3 := hik (HC.out.drew1.trans k3); have hs3 := G3.out.size; have y0 := k3.see x0; have y1 := k3.see x1; have z0 := (((Chg.refl nob w3).alloc (.cells #[.string (nd A B)] 9)).see y0); have z1 := (((Chg.refl nob w3).alloc (.cells #[.string (nd A B)] 9)).see y1)) | (refine step_append_lies _ (by rfl) (.tmp 35) (.tmp 46) 34 (by rfl) wo.heap.size 9 i0 (.string ⟨#[]⟩) 1 16 Tryd.underlying34 HI.out HZ0.out HZ1.out HZ2.out rfl (by decide) _ m _ (by rfl) (O3.out.alloc _) ⟨w3.heap.size, 0, none⟩ 1 1 [.string (nd A B)] (by rfl) rfl ?c1 ?c2 (by decide) (by unfold maxLen; omega) (by omega) (by simp; omega) _ rfl ?_; (case c1 => (intro j' u' hj'; match j', hj' with | 0, hj' => (simp at hj'; subst hj'; simp [Addr.add]) | j' + 1, hj' => (simp at hj'))); (case c2 => (intro u' hu'; simp at hu'; subst hu'; rfl)); intro g5 cp5 w5 o5 hg5 hat5 hlt5; have O5 : Hid (w5.ownsRow wo.heap.size 9 1 (.slice (some ⟨g5, 0, none⟩) (m + 1) cp5) (m + 1) ((List.range (m + 1)).map (sb (lev L (j + 1))))) := hik (by rw [← snoc_map]; unfold sb; rw [← HAB.out]; exact o5); clear o5; have G5 := hik ((G3.out.alloc _).grown hg5 (fun b e l => absurd (HW.out.lt b e).1 (by omega))); have u0 := hg5.cell z0 (fun e => absurd (HW.out.lt (hh j) e.symm).1 (by omega)); have u1 := hg5.cell z1 (fun e => absurd (HW.out.lt (hh j) e.symm).1 (by omega))))
              clear x0 x1 y0 y1 z0 z1 u0 u1 k3
              go_wp2
              go_roundw
              case rel => exact ⟨m + 1, by omega, by go_num, O5, G5⟩
              case measure => simp [intOf]; omega
            · obtain rfl : m = r := by omega
              have hm1 : ¬ 2 * (m : Int) < (q : Int) := by have := HQR.out; omega
              obtain ⟨b', cap', rfl, hb', hbl', hv'⟩ := rowV_of_owns HW.out (by omega)
              have V' := hik hv'
              have O4 := hik (owns_kept HO.out HC.out)
              have R4 := hik (show ∀ i, i ≤ j → ¬ hh i = g ∧ hh i < wo.heap.size ∧ RowV wr (some ⟨hh i, 0, none⟩) (2 ^ (d - i)) (sb (lev L i)) from fun i hi => ⟨(HR.out i hi).1, (HR.out i hi).2.1, (HR.out i hi).2.2.keep HC.out⟩)
              have G4 := hik (HG.out.trans HC.out)
              have hs4 := G4.out.size
              clear hv' HW HO HR HG
              go_wp2_with (at_builtin; refine wpList_append_lies _ rfl (.tmp 49) (.tmp 51) 48 rfl w.heap.size 34 i1 (.slice none 0 0) 1 24 Tryd.underlying48 HJ.out HY0.out HY1.out HY2.out rfl (by decide) _ (j + 1) _ rfl (O4.out.alloc _) ⟨wr.heap.size, 0, none⟩ 1 1 [.slice (some ⟨b', 0, none⟩) m cap'] rfl rfl ?c1 ?c2 (by decide) (by unfold maxLen; omega) (by omega) (by simp; omega) (wr.heap.size + 1) (by simp) ?_; (case c1 => (intro j' u hj'; match j', hj' with | 0, hj' => (simp at hj'; subst hj'; simp [Addr.add]) | j' + 1, hj' => (simp at hj'))); (case c2 => (intro u hu; simp at hu; subst hu; rfl)); intro g' cp' w1 hown hgr hat hlt'; have HOWN := hik hown; have HGR := hik hgr; have HAT := hik hat; clear hown hgr hat hlt')
              · have hown := HOWN.out
                have hgr : World.grownBy _ w1 (some g) := HGR.out
                have hat : some g = some g' ∨ g' = wr.heap.size + 1 := HAT.out
                have hg' : g' = g ∨ g' = wr.heap.size + 1 := by
                  rcases hat with e | e
                  · left; exact (Option.some.inj e).symm
                  · right; exact e
                obtain ⟨h2, hh2⟩ : ∃ h2 : Nat → Nat, h2 = fun i => if i = j + 1 then b' else hh i := ⟨_, rfl⟩
                obtain ⟨c2, hc2⟩ : ∃ c2 : Nat → Nat, c2 = fun i => if i = j + 1 then cap' else cc i := ⟨_, rfl⟩
                have e1 : h2 (j + 1) = b' := by rw [hh2]; simp
                have e2 : c2 (j + 1) = cap' := by rw [hc2]; simp
                have k1 : Chg (fun b => b = g) wr w1 := (((Chg.refl (fun b => b = g) wr).alloc (.cells #[.slice (some ⟨b', 0, none⟩) m cap'] 34)).grown hgr (fun b e _ => by simpa using e.symm))
                have HOW : Hid (w1.ownsRow w.heap.size 34 1 (.slice (some ⟨g', 0, none⟩) (j + 1 + 1) cp') (j + 1 + 1) ((List.range (j + 1 + 1)).map (lsv h2 c2 d))) := hik (by
                  have q := hown
                  have e3 : (List.range (j + 1 + 1)).map (lsv h2 c2 d) = (List.range (j + 1)).map (lsv hh cc d) ++ [.slice (some ⟨b', 0, none⟩) m cap'] := by
                    rw [← snoc_map]
                    congr 1
                    · apply List.map_congr_left
                      intro i hi
                      have : i < j + 1 := by simpa using hi
                      unfold lsv
                      rw [hh2, hc2]
                      simp [show ¬ i = j + 1 by omega]
                    · unfold lsv
                      rw [e1, e2, ← HR2.out]
                  rw [e3]
                  exact q)
                have HRW : Hid (∀ i, i ≤ j + 1 → ¬ h2 i = g' ∧ h2 i < w1.heap.size ∧ RowV w1 (some ⟨h2 i, 0, none⟩) (2 ^ (d - i)) (sb (lev L i))) := hik (fun i hi => by
                  have hsz1 := k1.size
                  by_cases e : i = j + 1
                  · subst e
                    rw [e1]
                    refine ⟨by omega, by omega, ?_⟩
                    have q := V'.out.chg k1 (fun xb xo e _ => by
                      obtain ⟨rfl, rfl⟩ : b' = xb ∧ 0 = xo := by simpa using e
                      omega)
                    rw [HR2.out] at q
                    exact q
                  · have hi' : i ≤ j := by omega
                    have e4 : h2 i = hh i := by rw [hh2]; simp [e]
                    rw [e4]
                    obtain ⟨q1, q2, q3⟩ := R4.out i hi'
                    refine ⟨by omega, by omega, q3.chg k1 (fun xb xo e _ => by
                      obtain ⟨rfl, rfl⟩ : hh i = xb ∧ 0 = xo := by simpa using e
                      exact q1)⟩)
                have HGW := hik (G4.out.near k1 (fun i e => by have := (O4.out.lt g rfl).1; omega))
                clear hown hgr hat k1 hh2 hc2 O4 R4 G4 V' HOWN HGR HAT
                go_roundw
                case rel => exact ⟨j + 1, m, g', cp', h2, c2, by omega, by rw [e1, e2], rfl, HR2, HOW, HRW, HGW⟩
                case measure => (have := HQR.out; simp; omega)
        · obtain rfl : j = d := by omega
          have hq : q = 1 := by rw [HQ.out]; simp
          have hq1 : ¬ 1 < (q : Int) := by omega
          have HQ1 := hik hq
          clear hq
          have HC : Hid (∀ i, i ≤ j → wo.cell? ⟨g, i, none⟩ = some (lsv hh cc j i)) := hik (fun i hi => by
            have := HO.out.cells rfl i (lsv hh cc j i) (by rw [List.getElem?_map, List.getElem?_range (by omega)]; rfl)
            rw [Go.WideShapes.add_plain, Nat.zero_add] at this
            exact this)
          go_wp2
          go_ret
          exact ⟨g, capo, hh, cc, rfl, ⟨hgl, HC.out, fun i hi => (HR.out i hi).2.2⟩, HG.out⟩

end Go.Proofs.YtnpmhfhgnnhclarDoor
