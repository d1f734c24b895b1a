/- What the model of BatchInverse answers: contracts. Conditions: rows that can be read. -/
import Derived.Test.YtbmeikbiibfpmaaBatch
namespace Go.Proofs.Ytbmeikbiibfpmaa
open Go.ChangeShapes Go.WideShapes Go.ChangeAt Go.RowKit

/-- An empty list and a code. -/
def SNoList (w : World) (code : Int) (e : Ending) (w' : World) : Prop := ∃ (c0 : Option Addr) (cap0 : Nat), e = .returned (.tuple #[.slice c0 0 cap0, .int .i64 code]) ∧ Chg nob w w'
/-- The inverses, and code 0. -/
def SList0 (w : World) (n : Nat) (f : Nat → Int) (e : Ending) (w' : World) : Prop :=
  ∃ (c0 : Option Addr) (cap0 : Nat), e = .returned (.tuple #[.slice c0 n cap0, .int .i64 0]) ∧ RowV w' c0 n (iv (fun i => invN (f i))) ∧ Chg nob w w'

/-- Either, by the code. -/
def SAns (w : World) (n : Nat) (f : Nat → Int) (e : Ending) (w' : World) : Prop := (bcode n f ≠ 0 ∧ SNoList w (bcode n f) e w') ∨ (bcode n f = 0 ∧ SList0 w n f e w')
theorem SAns.no {w w' : World} {n : Nat} {f : Nat → Int} {e : Ending} {code : Int} {c0 : Option Addr} {cap0 : Nat} (hb : bcode n f = code) (hc : code ≠ 0) (h : e = .returned (.tuple #[.slice c0 0 cap0, .int .i64 code])) (k : Chg nob w w') : SAns w n f e w' :=
  .inl ⟨by rw [hb]; exact hc, c0, cap0, by rw [hb]; exact h, k⟩
theorem SAns.yes {w w' : World} {n : Nat} {f : Nat → Int} {e : Ending} {v : Value} {t : TypeId} {B : Nat} (hb : bcode n f = 0) (h : e = .returned (.tuple #[v, .int .i64 0])) (ho : w'.ownsRow B t 1 v n ((List.range n).map (iv (fun i => invN (f i))))) (k : Chg nob w w') : SAns w n f e w' := by
  have ho' := ho
  rcases ho.2 with ⟨rfl, rfl⟩ | ⟨g, cap, cur, rfl, _⟩
  · exact .inr ⟨hb, none, 0, h, fun i hi => by omega, k⟩
  · refine .inr ⟨hb, some ⟨g, 0, none⟩, cap, h, fun i hi => ?_, k⟩
    have hc := ho'.cellAt i (by omega)
    rw [List.getElem?_map, List.getElem?_range hi] at hc
    exact ⟨g, 0, rfl, block_lt_of_cell hc, by rw [Nat.zero_add]; exact hc⟩
theorem owns_empty (w : World) (B : Nat) (t : TypeId) (hB : B ≤ w.heap.size) : (w.alloc (.cells #[] t)).ownsRow B t 1 (.slice (some ⟨w.heap.size, 0, none⟩) 0 0) 0 [] :=
  ⟨rfl, .inr ⟨w.heap.size, 0, #[], rfl, hB, Array.getElem?_push_size, Nat.le_refl _, Nat.zero_le _, rfl, rfl⟩⟩
theorem range_snoc (g : Nat → Value) (k : Nat) : (List.range k).map g ++ [g k] = (List.range (k + 1)).map g := by rw [List.range_succ]; simp

set_option maxHeartbeats 2000000 in
theorem sBatch_any (c : Option Addr) (n cap : Nat) (f : Nat → Int) (w : World) (h : Hid (RowV w c n (iv f))) (hn : n ≤ 1099511627776) :
    Calls Try.prog 16 #[.slice c n cap] w fun e w' => SAns w n f e w' := by
  by_cases hl : 4096 < n
  · have hl' : 4096 < (n : Int) := by omega
    have HB := hid (bcode_long (f := f) hl)
    go_enter Try.func16, Try.ntmps16
    go_wp2
    go_ret2
    exact SAns.no HB.out (by omega) rfl ((Chg.refl _ _).alloc _)
  · have hl' : ¬ 4096 < (n : Int) := by omega
    obtain ⟨i0, hi, hz0, hz1, hz2⟩ := info_parts infoInt
    have HI := hid hi
    have HZ0 := hid hz0
    have HZ1 := hid hz1
    have HZ2 := hid hz2
    clear hi hz0 hz1 hz2
    go_enter Try.func16, Try.ntmps16
    go_wp2
    go_loopw [4] (fun i W => ∃ k : Nat, k ≤ n ∧ i = .int .i64 k ∧ Hid (okTo f k = true) ∧ Hid (Chg nob w W)) (fun i _ => n - (intOf i).toNat)
    case atStart => exact ⟨0, Nat.zero_le _, rfl, hid rfl, hid (Chg.refl _ _)⟩
    case round =>
      obtain ⟨k, hk, rfl, HO, HC⟩ := hrel
      by_cases hlt : k < n
      · obtain ⟨xb, xo, rfl, hxb, hcell⟩ := (h.out.keep HC.out) k hlt
        have hx : _ = some (Value.int .i64 (f k)) := hcell
        clear hcell
        cases hfk : fok (f k)
        · have HB := hid (bcode_bad hl (okTo_no f k hfk n hlt))
          go_wp2_with (go_at_call 25; refine (sFieldOK_any _ _).mono ?_; rintro e w' ⟨rfl, rfl⟩)
          go_ret2
          exact SAns.no HB.out (by omega) rfl (HC.out.alloc _)
        · have HO2 := hid (show okTo f (k + 1) = true by simp [okTo, HO.out, hfk])
          go_wp2_with (go_at_call 25; refine (sFieldOK_any _ _).mono ?_; rintro e w' ⟨rfl, rfl⟩)
          go_roundw
          case rel => exact ⟨k + 1, by omega, by go_num, HO2, HC⟩
          case measure => simp [intOf]; omega
      · obtain rfl : k = n := by omega
        go_wp2
        go_loopw [5, 6] (fun v i W => ∃ q : Nat, q ≤ k ∧ i = .int .i64 q ∧ Hid (zTo f q = false) ∧ Hid (W.ownsRow w.heap.size 3 1 v q ((List.range q).map (iv (fun i => invN (f i))))) ∧ Hid (Chg nob w W)) (fun _ i _ => k - (intOf i).toNat)
        case atStart => exact ⟨0, Nat.zero_le _, rfl, hid rfl, hid (owns_empty _ _ _ HC.out.size), hid (HC.out.alloc _)⟩
        case round =>
          obtain ⟨q, hq, rfl, HZ, HW, GC⟩ := hrel
          by_cases hqk : q < k
          · obtain ⟨xb, xo, rfl, hxb, hcell⟩ := (h.out.keep GC.out) q hqk
            have hx : _ = some (Value.int .i64 (f q)) := hcell
            clear hcell
            have f0 := fok_lo (okTo_all f k HO.out q hqk)
            have f1 := fok_hi (okTo_all f k HO.out q hqk)
            by_cases h0 : f q = 0
            · have h0' : (f q == 0) = true := by simp [h0]
              have HB := hid (bcode_zero hl HO.out (zTo_yes f q h0 k hqk))
              clear h0
              go_wp2
              go_ret2
              exact SAns.no HB.out (by omega) rfl (GC.out.alloc _)
            · have h0' : (f q == 0) = false := by simp [h0]
              have HZ3 := hid (show zTo f (q + 1) = false by simp [zTo, HZ.out, h0])
              clear h0
              have hsz := GC.out.size
              go_wp2_with (first | (go_at_call 31; refine (l01Inverse_any _ _ f0 f1).mono ?_; rintro e w' ⟨rfl, rfl⟩) | (at_builtin; refine wpList_append_own _ rfl (.tmp 37) (.tmp 43) 30 rfl w.heap.size 3 i0 (.int .i64 0) 1 8 Try.underlying30 HI.out HZ0.out HZ1.out HZ2.out rfl (by decide) _ q _ rfl (HW.out.alloc _) ⟨_, 0, none⟩ 1 1 [.int .i64 (Fld.pw (f q) 2130706431 % 2130706433)] rfl rfl ?c1 ?c2 ?c3 ?c4 ?c5 ?c6))
              case c1 =>
                intro j u hj
                match j, hj with
                | 0, hj => simp at hj; subst hj; simp [Addr.add]
              case c2 => intro u hu; simp at hu; subst hu; rfl
              case c3 => unfold maxLen; omega
              case c4 => omega
              case c5 => simp; omega
              case c6 =>
                intro v' w1 hown hgr _
                have HOW := hid (show _ from range_snoc (iv (fun i => invN (f i))) q ▸ hown)
                have HGC := hid ((GC.out.alloc _).grown hgr (fun b e l => absurd (HW.out.lt b e).1 (by omega)))
                clear hown hgr
                go_wp2
                go_roundw
                case rel => exact ⟨q + 1, by omega, by go_num, HZ3, HOW, HGC⟩
                case measure => simp [intOf]; omega
          · obtain rfl : q = k := by omega
            have HB := hid (bcode_ok hl HO.out HZ.out)
            go_wp2
            go_ret2
            exact SAns.yes HB.out rfl HW.out GC.out
end Go.Proofs.Ytbmeikbiibfpmaa
