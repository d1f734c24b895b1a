/- Several texts in one: Elements in blocks of their own, slices of elements of a call's own: words. No condition but those that each theorem states. · What the program's elementsOf answers: a contract. Conditions: at most 64 numbers of the field. -/
import Derived.Test.YtpcakjajnfbgdaaBzba
import Derived.Test.YtpcakjajnfbgdaaBzah
import Derived.Test.YtpcakjajnfbgdaaBzaz
import Derived.Test.YtpcakjajnfbgdaaBzas
namespace Go.Proofs.Ytpcakjajnfbgdaa
open Go.ChangeShapes Go.WideShapes Go.ChangeAt Go.RowKit
set_option linter.unusedVariables false
set_option maxRecDepth 100000
set_option linter.unusedSimpArgs false

/-- No element. -/
def zE (_ : Nat) : El := El.zr
/-- Elements copied into a table. -/
def fitE (t : Nat → El) (n : Nat) (u : Nat → El) (i : Nat) : El := if i < n then t i else u i
/-- An element in a block of its own. -/
def ElB (W : World) (b : Nat) (x : El) : Prop := W.rowIs b 32 2 (pv2 (.int .i64 x.v.1) (.int .i64 x.v.2))
theorem ElB.new (W : World) (x : El) : ElB (W.alloc (.cells #[.int .i64 x.v.1, .int .i64 x.v.2] 32)) W.heap.size x := row2_new W _ _ _
theorem ElB.zero (W : World) : ElB (W.alloc (.cells #[.int .i64 0, .int .i64 0] 32)) W.heap.size El.zr := row2_new W _ _ _
theorem ElB.keep {W W' : World} {b : Nat} {x : El} (h : ElB W b x) (k : Chg nob W W') : ElB W' b x := rowIs_keep h k
theorem ElB.chg {P : Nat → Prop} {W W' : World} {b : Nat} {x : El} (h : ElB W b x) (k : Chg P W W') (hp : ¬ P b) : ElB W' b x := rowIs_chg h k hp
theorem ElB.lt {W : World} {b : Nat} {x : El} (h : ElB W b x) : b < W.heap.size := World.rowIs.lt h
theorem ElB.c0 {W : World} {b : Nat} {x : El} (h : ElB W b x) : W.cell? ⟨b, 0, none⟩ = some (.int .i64 x.v.1) := row2_c0 h
theorem ElB.c1 {W : World} {b : Nat} {x : El} (h : ElB W b x) : W.cell? ⟨b, 1, none⟩ = some (.int .i64 x.v.2) := row2_c1 h
theorem ElB.fz {W : World} {b : Nat} {x : El} (h : ElB W b x) (o : Nat) : W.frozen? ⟨b, o, none⟩ = false := World.rowIs.frozen h o
theorem ElB.set {W : World} {b : Nat} {x : El} (h : ElB W b x) (y : El) : ElB ((W.setCell ⟨b, 0, none⟩ (.int .i64 y.v.1)).setCell ⟨b, 1, none⟩ (.int .i64 y.v.2)) b y := row2_set h _ _
theorem ElB.other {W : World} {b g : Nat} {x : El} (h : ElB W b x) (hne : b ≠ g) (o o' : Nat) (u v : Value) : ElB ((W.setCell ⟨g, o, none⟩ u).setCell ⟨g, o', none⟩ v) b x :=
  World.rowIs.setOther (a := ⟨g, o', none⟩) (World.rowIs.setOther (a := ⟨g, o, none⟩) h hne u) hne v

/-- A slice of elements of a call's own, or none. -/
def SlAns (w : World) (n : Nat) (t : Nat → El) (e : Ending) (w' : World) : Prop :=
  ∃ (c : Option Addr) (cap : Nat), e = .returned (.slice c n cap) ∧ n ≤ cap ∧ (cap : Int) ≤ 9223372036854775807 ∧ OwnE w' w.heap.size c n (cA t) (cB t) ∧ Chg nob w w'

end Go.Proofs.Ytpcakjajnfbgdaa

namespace Go.Proofs.Ytpcakjajnfbgdaa
open Go.ChangeShapes Go.WideShapes Go.ChangeAt Go.RowKit
set_option linter.unusedVariables false
set_option maxRecDepth 100000
set_option linter.unusedSimpArgs false

/-- Numbers as elements, those ahead of k. -/
def emK (f : Nat → Int) (k i : Nat) : El := if i < k then El.ofi (f i) else El.zr
/-- A row of elements that a call made. -/
def ElmAns (w : World) (n : Nat) (t : Nat → El) (e : Ending) (w' : World) : Prop :=
  ∃ b, w.heap.size ≤ b ∧ e = .returned (.slice (some ⟨b, 0, none⟩) n n) ∧ RowE w' b n t ∧ Chg nob w w'

set_option maxHeartbeats 2000000 in
theorem elementsOf_any (c : Option Addr) (n cap : Nat) (f : Nat → Int) (w : World) (h : Hid (RowV w c n (iv f))) (hf : Hid (∀ i, i < n → 0 ≤ f i ∧ f i < 2130706433)) (hn : n ≤ 64) :
    Calls Try.prog 77 #[.slice c n cap] w fun e w' => ElmAns w n (fun i => El.ofi (f i)) e w' := by
  obtain ⟨i0, hi, hz0, hz1, hz2⟩ := info_parts infoExt
  have HI := hik hi
  have HZ0 := hik hz0
  have HZ1 := hik hz1
  have hb16 : i0.bytes * n ≤ 281474976710656 := by rw [hz2]; omega
  clear hi hz0 hz1 hz2
  go_enter Try.func77, Try.ntmps77
  go_wp2_with (at_make; refine wpList_make_pairs _ rfl (.tmp 7) (.tmp 7) 29 rfl 32 i0 Try.underlying29 HI.out HZ0.out HZ1.out .i64 .i64 _ _ n rfl rfl rfl rfl hb16 (by omega) ?_)
  intro W1 hr1 hk1
  have O1 := hik (show RowE W1 w.heap.size n (emK f 0) from World.rowIs.congr hr1 (fun i _ => by unfold pf cA cB; split <;> rfl))
  have K1 := hik hk1
  clear hr1 hk1 hb16 HI HZ0 HZ1
  have hlo : w.heap.size < W1.heap.size := O1.out.lt
  generalize hgo : w.heap.size = gO at O1 hlo ⊢
  have HGO := hik hgo
  clear hgo
  go_wp2
  go_loopw [11] (fun i W => ∃ k : Nat, k ≤ n ∧ i = .int .i64 (k : Int) ∧ Hid (RowE W gO n (emK f k)) ∧ Hid (Chg nob w W)) (fun i _ => n - (intOf i).toNat)
  case atStart => exact ⟨0, Nat.zero_le _, rfl, O1, K1⟩
  case round =>
    clear O1 K1
    obtain ⟨k, hk, rfl, HO, HG⟩ := hrel
    rename World => wi
    by_cases hlt : k < n
    · have hk1 : (k : Int) < (n : Int) := by omega
      have hk0 : (0 : Int) ≤ (k : Int) := by omega
      obtain ⟨xb, xo, rfl, hxb, hc⟩ := (h.out.keep HG.out) k hlt
      have hx : wi.cell? ⟨xb, xo + k, none⟩ = some (.int .i64 (f k)) := hc
      clear hc
      have FB := hf.out k hlt
      have HV := hik (El.ofi_v FB.1 FB.2)
      clear FB
      have u0 := HO.out.c0 hlt
      have u1 := HO.out.c1 hlt
      have v0 := World.rowIs.frozen HO.out (k * 2)
      have v1 := World.rowIs.frozen HO.out (k * 2 + 1)
      have zo := HO.out.lt
      have N1 := hik (show RowE ((wi.setCell ⟨gO, k * 2, none⟩ (.int .i64 (f k))).setCell ⟨gO, k * 2 + 1, none⟩ (.int .i64 0)) gO n (emK f (k + 1)) by
        have q := HO.out.set k (El.ofi (f k))
        rw [HV.out, El.ofi_w] at q
        exact q.congr (fun i hi => by
          unfold upE emK
          by_cases e : i = k
          · subst e; rw [if_pos rfl, if_pos (by omega)]
          · rw [if_neg e]
            by_cases e2 : i < k
            · rw [if_pos e2, if_pos (by omega)]
            · rw [if_neg e2, if_neg (by omega)]))
      have G1 := hik (chg2_at HG.out gO (fun l => absurd l (by have := HGO.out; omega)) (k * 2) (k * 2 + 1) (.int .i64 (f k)) (.int .i64 0))
      go_wp2
      go_roundw
      case rel => exact ⟨k + 1, by omega, by go_num, N1, G1⟩
      case measure => simp [intOf]; omega
    · have hcc : ¬ (k : Int) < (n : Int) := by omega
      go_wp2
      go_ret
      exact ⟨gO, by have := HGO.out; omega, rfl, HO.out.congr (fun i hi => by unfold emK; rw [if_pos (by omega)]), HG.out⟩

end Go.Proofs.Ytpcakjajnfbgdaa
