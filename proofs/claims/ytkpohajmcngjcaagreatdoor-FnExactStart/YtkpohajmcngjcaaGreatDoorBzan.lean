/- Several texts in one: Plain facts: the greater field's elements as a ring, sums, and tables over it as polynomials of at most first powers. No program is named here; no condition but those that each theorem states. · Blocks of four cells: laws. No program is named here. · Slices of elements that a call made: words; what is appended to an empty slice; what the laws' marks do. Conditions: rows that can be read, lengths of at most 2 to the 40. · Rows of the greater field's elements, told by elements: words. No condition but those that each theorem states. -/
import Derived.Test.YtkpohajmcngjcaaGreatDoorBzab
import Derived.Test.YtkpohajmcngjcaaGreatDoorBzaa
import Derived.Test.YtkpohajmcngjcaaGreatDoorBzae
import Derived.ArgAppend
import Derived.Deep.AppendSrc
import Derived.Test.YtkpohajmcngjcaaGreatDoorBzao
namespace Go.Proofs.YtkpohajmcngjcaaGreatDoor
set_option linter.unusedVariables false
set_option linter.unusedSimpArgs false

/-- An element of the greater field. -/
structure El where
  v : Int × Int
  h : Fld.Red v
theorem El.eq {x y : El} (h : x.v = y.v) : x = y := by
  cases x
  cases y
  cases h
  rfl
theorem El.eq2 {x y : El} (h1 : x.v.1 = y.v.1) (h2 : x.v.2 = y.v.2) : x = y := El.eq (Prod.ext h1 h2)
namespace El
def zr : El := ⟨(0, 0), by unfold Fld.Red; omega⟩
def on : El := ⟨(1, 0), by unfold Fld.Red; omega⟩
def ad (x y : El) : El := ⟨((x.v.1 + y.v.1) % 2130706433, (x.v.2 + y.v.2) % 2130706433), by unfold Fld.Red; dsimp only; omega⟩
def sb (x y : El) : El := ⟨((x.v.1 + 2130706433 - y.v.1) % 2130706433, (x.v.2 + 2130706433 - y.v.2) % 2130706433), by unfold Fld.Red; dsimp only; omega⟩
def ml (x y : El) : El := ⟨Fld.mu x.v y.v, Fld.mu_red _ _⟩
theorem lo1 (x : El) : 0 ≤ x.v.1 := x.h.1
theorem hi1 (x : El) : x.v.1 < 2130706433 := x.h.2.1
theorem lo2 (x : El) : 0 ≤ x.v.2 := x.h.2.2.1
theorem hi2 (x : El) : x.v.2 < 2130706433 := x.h.2.2.2

theorem ad_comm (x y : El) : ad x y = ad y x := El.eq2 (by simp only [ad]; omega) (by simp only [ad]; omega)
theorem ad_assoc (x y z : El) : ad (ad x y) z = ad x (ad y z) := El.eq2 (by simp only [ad]; omega) (by simp only [ad]; omega)
theorem ad_zr (x : El) : ad x zr = x := El.eq2 (by have := x.h; unfold Fld.Red at this; simp only [ad, zr]; omega) (by have := x.h; unfold Fld.Red at this; simp only [ad, zr]; omega)
theorem ad_left (x y z : El) : ad x (ad y z) = ad y (ad x z) := by rw [← ad_assoc, ad_comm x y, ad_assoc]
theorem ad_ad (a b c d : El) : ad (ad a b) (ad c d) = ad (ad a c) (ad b d) := by rw [ad_assoc, ad_left b c d, ← ad_assoc]
theorem sb_ad (x y : El) : ad (sb x y) y = x := El.eq2 (by have := x.h; unfold Fld.Red at this; simp only [sb, ad]; omega) (by have := x.h; unfold Fld.Red at this; simp only [sb, ad]; omega)
theorem ad_sb (x y : El) : sb (ad x y) y = x := El.eq2 (by have := x.h; unfold Fld.Red at this; simp only [sb, ad]; omega) (by have := x.h; unfold Fld.Red at this; simp only [sb, ad]; omega)
theorem ad_sb' (x y : El) : ad x (sb y x) = y := by rw [ad_comm, sb_ad]
/-- A difference is told by the sum. -/
theorem sb_of {x y z : El} (h : ad z y = x) : sb x y = z := by rw [← h, ad_sb]

theorem ml_comm (x y : El) : ml x y = ml y x := El.eq (Fld.mu_comm _ _)
theorem ml_assoc (x y z : El) : ml (ml x y) z = ml x (ml y z) := El.eq (Fld.mu_assoc _ _ _)
theorem ml_on (x : El) : ml x on = x := El.eq (Fld.mu_one x.h)
theorem ml_zr (x : El) : ml x zr = zr := El.eq (by simp [ml, zr, Fld.mu, Fld.mA, Fld.mB])
theorem ad_ml (x y z : El) : ml (ad x y) z = ad (ml x z) (ml y z) := El.eq2 (Fld.mA_dist _ _ _ _ _ _) (Fld.mB_dist _ _ _ _ _ _)
theorem ml_ad (x y z : El) : ml x (ad y z) = ad (ml x y) (ml x z) := by rw [ml_comm, ad_ml, ml_comm y, ml_comm z]
theorem sb_ml (x y z : El) : ml (sb x y) z = sb (ml x z) (ml y z) := (sb_of (by rw [← ad_ml, sb_ad])).symm
theorem ml_left (x y z : El) : ml x (ml y z) = ml y (ml x z) := by rw [← ml_assoc, ml_comm x y, ml_assoc]
/-- Two parts of a thing are it. -/
theorem parts (s r : El) : ad (ml s (sb on r)) (ml s r) = s := by rw [← ml_ad, sb_ad, ml_on]

/-- A sum of the first n. -/
def sm (f : Nat → El) : Nat → El
  | 0 => zr
  | n + 1 => ad (sm f n) (f n)

end El

end Go.Proofs.YtkpohajmcngjcaaGreatDoor

namespace Go.Proofs.YtkpohajmcngjcaaGreatDoor
open Go.RowKit
set_option linter.unusedVariables false

/-- Four values. -/
def pv4 (u v x y : Value) (i : Nat) : Value := if i = 0 then u else if i = 1 then v else if i = 2 then x else y
theorem row4_new (W : World) (u v x y : Value) (t : TypeId) : (W.alloc (.cells #[u, v, x, y] t)).rowIs W.heap.size t 4 (pv4 u v x y) :=
  World.rowIs_alloc W #[u, v, x, y] t (pv4 u v x y) (fun i hi => by
    match i, hi with
    | 0, _ => rfl
    | 1, _ => rfl
    | 2, _ => rfl
    | 3, _ => rfl)
section
variable {W : World} {g : Nat} {ty : TypeId} {f : Nat → Value}
theorem row4_s0 (h : W.rowIs g ty 4 f) (u : Value) : (W.setCell ⟨g, 0, none⟩ u).cell? ⟨g, 0, none⟩ = some u := by
  have := (h.set 0 u).cell (show 0 < 4 by omega); simpa using this
theorem row4_s1 (h : W.rowIs g ty 4 f) (u v : Value) : ((W.setCell ⟨g, 0, none⟩ u).setCell ⟨g, 1, none⟩ v).cell? ⟨g, 1, none⟩ = some v := by
  have := ((h.set 0 u).set 1 v).cell (show 1 < 4 by omega); simpa using this
theorem row4_s2 (h : W.rowIs g ty 4 f) (u v x : Value) : (((W.setCell ⟨g, 0, none⟩ u).setCell ⟨g, 1, none⟩ v).setCell ⟨g, 2, none⟩ x).cell? ⟨g, 2, none⟩ = some x := by
  have := (((h.set 0 u).set 1 v).set 2 x).cell (show 2 < 4 by omega); simpa using this
theorem row4_s3 (h : W.rowIs g ty 4 f) (u v x y : Value) : ((((W.setCell ⟨g, 0, none⟩ u).setCell ⟨g, 1, none⟩ v).setCell ⟨g, 2, none⟩ x).setCell ⟨g, 3, none⟩ y).cell? ⟨g, 3, none⟩ = some y := by
  have := ((((h.set 0 u).set 1 v).set 2 x).set 3 y).cell (show 3 < 4 by omega); simpa using this
end
theorem chg4_set {P : Nat → Prop} {w W : World} (h : Chg P w W) (g : Nat) (hg : g < w.heap.size → P g) (u v x y : Value) : Chg P w ((((W.setCell ⟨g, 0, none⟩ u).setCell ⟨g, 1, none⟩ v).setCell ⟨g, 2, none⟩ x).setCell ⟨g, 3, none⟩ y) :=
  (((h.setCell (p := ⟨g, 0, none⟩) hg u).setCell (p := ⟨g, 1, none⟩) hg v).setCell (p := ⟨g, 2, none⟩) hg x).setCell (p := ⟨g, 3, none⟩) hg y

theorem row4_set {W : World} {g : Nat} {ty : TypeId} {f : Nat → Value} (h : W.rowIs g ty 4 f) (u v x y : Value) : ((((W.setCell ⟨g, 0, none⟩ u).setCell ⟨g, 1, none⟩ v).setCell ⟨g, 2, none⟩ x).setCell ⟨g, 3, none⟩ y).rowIs g ty 4 (pv4 u v x y) :=
  ((((h.set 0 u).set 1 v).set 2 x).set 3 y).congr (fun i hi => by
    match i, hi with
    | 0, _ => rfl
    | 1, _ => rfl
    | 2, _ => rfl
    | 3, _ => rfl)
theorem row4_other {W : World} {g g' : Nat} {t : TypeId} {n : Nat} {f : Nat → Value} (h : W.rowIs g' t n f) (hne : g' ≠ g) (u v x y : Value) : ((((W.setCell ⟨g, 0, none⟩ u).setCell ⟨g, 1, none⟩ v).setCell ⟨g, 2, none⟩ x).setCell ⟨g, 3, none⟩ y).rowIs g' t n f :=
  (((h.setOther (a := ⟨g, 0, none⟩) hne u).setOther (a := ⟨g, 1, none⟩) hne v).setOther (a := ⟨g, 2, none⟩) hne x).setOther (a := ⟨g, 3, none⟩) hne y
theorem rowIs_kind {W : World} {b : Nat} {t u : TypeId} {n m : Nat} {f g : Nat → Value} (h : W.rowIs b t n f) (k : W.rowIs b u m g) : t = u := by
  obtain ⟨c, h1, _⟩ := h
  obtain ⟨d, k1, _⟩ := k
  rw [h1] at k1
  cases k1
  rfl

end Go.Proofs.YtkpohajmcngjcaaGreatDoor

namespace Go.Proofs.YtkpohajmcngjcaaGreatDoor
open Go.ChangeShapes Go.WideShapes Go.ChangeAt Go.RowKit
set_option linter.unusedVariables false
set_option maxRecDepth 100000
set_option linter.unusedSimpArgs false

/-- n elements behind c in a block of the call's own (not below B), or none. -/
def OwnE (w : World) (B : Nat) (c : Option Addr) (n : Nat) (f g : Nat → Int) : Prop :=
  n = 0 ∨ ∃ (b N : Nat) (h : Nat → Value), c = some ⟨b, 0, none⟩ ∧ B ≤ b ∧ w.rowIs b 62 N h ∧ n * 2 ≤ N ∧ ∀ i, i < n * 2 → h i = pf f g i
theorem OwnE.zero {w : World} {B : Nat} {c : Option Addr} {f g : Nat → Int} : OwnE w B c 0 f g := .inl rfl
theorem OwnE.of_row {w : World} {B b n : Nat} {f g : Nat → Int} (h : w.rowIs b 62 (n * 2) (pf f g)) (hB : B ≤ b) : OwnE w B (some ⟨b, 0, none⟩) n f g := .inr ⟨b, n * 2, pf f g, rfl, hB, h, Nat.le_refl _, fun _ _ => rfl⟩
theorem OwnE.pairs {w : World} {B : Nat} {c : Option Addr} {n : Nat} {f g : Nat → Int} (h : OwnE w B c n f g) : PairV w c n f g := by
  rcases h with rfl | ⟨b, N, h, rfl, hB, hr, hN, he⟩
  · intro i hi; omega
  · intro i hi
    refine ⟨b, 0, rfl, hr.lt, ?_, ?_⟩
    · rw [Nat.zero_add, hr.cell (by omega), he _ (by omega), pf_even]
    · rw [Nat.zero_add, hr.cell (by omega), he _ (by omega), pf_odd]
theorem OwnE.low {w : World} {B B' : Nat} {c : Option Addr} {n : Nat} {f g : Nat → Int} (h : OwnE w B c n f g) (hB : B' ≤ B) : OwnE w B' c n f g := by
  rcases h with rfl | ⟨b, N, h, e, hb, r⟩
  · exact .inl rfl
  · exact .inr ⟨b, N, h, e, by omega, r⟩
theorem OwnE.congr {w : World} {B : Nat} {c : Option Addr} {n : Nat} {f g f' g' : Nat → Int} (h : OwnE w B c n f g) (e : ∀ i, i < n → f i = f' i ∧ g i = g' i) : OwnE w B c n f' g' := by
  rcases h with rfl | ⟨b, N, h, ec, hb, hr, hN, he⟩
  · exact .inl rfl
  · refine .inr ⟨b, N, h, ec, hb, hr, hN, fun i hi => ?_⟩
    rw [he i hi]
    unfold pf
    rw [(e (i / 2) (by omega)).1, (e (i / 2) (by omega)).2]
theorem OwnE.chg {P : Nat → Prop} {w w' : World} {B : Nat} {c : Option Addr} {n : Nat} {f g : Nat → Int} (h : OwnE w B c n f g) (k : Chg P w w') (hp : ∀ b, B ≤ b → c = some ⟨b, 0, none⟩ → ¬ P b) : OwnE w' B c n f g := by
  rcases h with rfl | ⟨b, N, h, e, hb, hr, r⟩
  · exact .inl rfl
  · exact .inr ⟨b, N, h, e, hb, rowIs_chg hr k (hp b hb e), r⟩
theorem OwnE.keep {w w' : World} {B : Nat} {c : Option Addr} {n : Nat} {f g : Nat → Int} (h : OwnE w B c n f g) (k : Chg nob w w') : OwnE w' B c n f g := h.chg k (fun _ _ _ x => x)
theorem OwnE.of_owns {w : World} {B n : Nat} {v : Value} {f g : Nat → Int} (ho : w.ownsRow B 62 2 v n ((List.range (n * 2)).map (pf f g))) : ∃ c cap, v = .slice c n cap ∧ n ≤ cap ∧ OwnE w B c n f g := by
  rcases ho.2 with ⟨rfl, rfl⟩ | ⟨b, cap, cur, rfl, hb, hcur, hl, _, hsz, ht⟩
  · exact ⟨none, 0, rfl, Nat.le_refl _, .inl rfl⟩
  · have hN : n * 2 ≤ cap * 2 := by omega
    refine ⟨_, cap, rfl, hl, .inr ⟨b, cap * 2, fun i => cur.toList[i]?.getD (.int .i64 0), rfl, hb, ⟨cur, hcur, hsz, fun i hi => ?_⟩, hN, fun i hi => ?_⟩⟩
    · have hi2 : i < cur.size := by omega
      simp [hi2]
    · have h1 : (cur.toList.take (n * 2))[i]? = some (pf f g i) := by rw [ht]; simp [List.getElem?_map, List.getElem?_range hi]
      rw [List.getElem?_take_of_lt hi] at h1
      show cur.toList[i]?.getD (.int .i64 0) = _
      rw [h1]; rfl

section
variable {P : Program}
/-- Elements onto an empty slice. -/
theorem wpList_append_pairs (w : World) {ops : Array Oper} {rest : List Oper} {o : Oper} {a : Act} {Q : Exit → Act → World → Prop}
    (s x : Operand) (t : TypeId) (hg : o.guard = none) (hop : o.op = Op.call { callee := Callee.builtin Builtin.append, args := #[s, x], argTypes := #[t, t] })
    (i : TypeInfo) (h1 : P.underlying t = some (.slice 62)) (h2 : P.info? 62 = some i) (h3 : i.zero = some (.agg #[.int .i64 0, .int .i64 0])) (h4 : i.size = 2) (h5 : i.bytes = 16)
    (e : Nat) (hgl : e < w.heap.size) (hs : a.eval s = .slice (some ⟨e, 0, none⟩) 0 0)
    (c : Option Addr) (n cap : Nat) (f g : Nat → Int) (hx : a.eval x = .slice c n cap) (hv : PairV w c n f g) (hn : n ≤ 1099511627776)
    (hK : ∀ c' cap' w', OwnE w' w.heap.size c' n f g → n ≤ cap' → (cap' : Int) ≤ 9223372036854775807 → Chg nob w w' → wpList P ops Q rest (a.put o.dst (.slice c' n cap')) w') :
    wpList P ops Q (o :: rest) a w := by
  by_cases hz : n = 0
  · subst hz
    have hsrc : Go.Src P i.size t (.slice c 0 cap) 0 [] w := by
      cases c with
      | none => exact Go.Src.ofNil w h1 cap
      | some ad => exact Go.Src.ofSlice w h1 ad 0 cap [] (by simp) (by intro j u h; simp at h) (by intro u h; cases h)
    have hrun := run_append_room_src (P := P) w t t o.type 62 i h1 h2 e 0 0 0 _ 0 [] hsrc (by omega) (by intro j h; simp at h) (by intro j h; simp at h)
    refine wpList_plain hg fun K hK' => ?_
    unfold Oper.wp
    simp [execOp, hop, resolve, invoke, builtin, hs, hx, hrun, Result.andThen]
    exact hK' _ _ (hK _ 0 _ (.inl rfl) (Nat.le_refl _) (by omega) (Chg.refl _ _))
  · obtain ⟨xb, xo, rfl, hxb, _, _⟩ := hv 0 (by omega)
    refine wpList_append_grows w hg s x t hop 62 i _ 2 16 h1 h2 h3 h4 h5 rfl (by decide) (some ⟨e, 0, none⟩) 0 0 [] hs (by intro h; cases h) rfl (by intro b _ j u h; simp at h) ⟨xb, xo, none⟩ n cap ((List.range (n * 2)).map (pf f g)) hx (by simp) ?_ ?_ (by omega) (by unfold maxLen; omega) (by omega) ?_
    · intro j u h
      by_cases hj : j < n * 2
      · rw [List.getElem?_map, List.getElem?_range hj] at h
        simp at h
        subst h
        rw [Go.WideShapes.add_plain]
        obtain ⟨yb, yo, ey, _, c1, c2⟩ := hv (j / 2) (by omega)
        simp at ey
        obtain ⟨rfl, rfl⟩ := ey
        rcases (show j % 2 = 0 ∨ j % 2 = 1 by omega) with q | q
        · rw [show xo + j = xo + j / 2 * 2 by omega, c1]
          unfold pf; rw [if_pos q]
        · rw [show xo + j = xo + j / 2 * 2 + 1 by omega, c2]
          unfold pf; rw [if_neg (by omega)]
      · rw [List.getElem?_eq_none (by simp; omega)] at h
        cases h
    · intro u hu
      simp at hu
      obtain ⟨j, _, rfl⟩ := hu
      rfl
    · intro v' w' hown hgr
      rw [Nat.zero_add, List.nil_append] at hown
      rcases hown.2 with ⟨_, h0⟩ | ⟨b, cp, cur, ev, _, _, hl, hm, _⟩
      · exact absurd h0 hz
      · obtain ⟨c', cap', e', hle, ho⟩ := OwnE.of_owns hown
        rw [e'] at ev
        simp at ev
        obtain ⟨rfl, rfl⟩ := ev
        subst e'
        exact hK _ _ w' ho hle (by unfold maxLen at hm; omega) ((Chg.refl _ _).grown hgr (fun k e => by cases e))
end

/-- The block of elements behind c. -/
def Mkb (w : World) (B : Nat) (c : Option Addr) (b : Nat) : Prop := B ≤ b ∧ c = some ⟨b, 0, none⟩ ∧ ∃ N h, w.rowIs b 62 N h
theorem Mkb.not {w : World} {B : Nat} {c : Option Addr} {b : Nat} {t : TypeId} {n : Nat} {f : Nat → Value} (h : w.rowIs b t n f) (ht : t ≠ 62) : ¬ Mkb w B c b := fun ⟨_, _, _, _, k⟩ => ht (rowIs_kind h k)
theorem Mkb.back {w : World} {B : Nat} {c : Option Addr} {i : Nat} {v : Array Value} {t : TypeId} (ht : t ≠ 62) (m : Mkb (w.alloc (.cells v t)) B c i) : Mkb w B c i := by
  obtain ⟨hb, hc, N, h, r⟩ := m
  by_cases e : i < w.heap.size
  · exact ⟨hb, hc, N, h, r.of_block (Go.Deep.blk_alloc_lt w _ i e).symm⟩
  · obtain ⟨d, r1, _⟩ := r
    have hl : i < (w.alloc (.cells v t)).heap.size := (Array.getElem?_eq_some_iff.1 r1).1
    simp at hl
    obtain rfl : i = w.heap.size := by omega
    rw [Go.Deep.blk_alloc_new] at r1
    cases r1
    exact absurd rfl ht
/-- The marks of a row, from k on. -/
def mka (k : Int) (i : Nat) : Int := k + 2 * (i : Int)
def mkd (k : Int) (i : Nat) : Int := k + 2 * (i : Int) + 1

set_option maxHeartbeats 1000000 in
theorem markExtS_own (B : Nat) (c : Option Addr) (n cap : Nat) (f g : Nat → Int) (q : Int) (w : World) (ho : Hid (OwnE w B c n f g)) (hn : n ≤ 1099511627776) (q0 : 0 ≤ q) (q1 : q ≤ 1099511627776) :
    Calls Tryz.prog 42 #[.slice c n cap, .int .i64 q] w fun e w' => e = .returned (.int .i64 (q + 2 * n)) ∧ OwnE w' B c n (mka q) (mkd q) ∧ Chg (Mkb w B c) w w' := by
  rcases ho.out with rfl | ⟨b, N, h, rfl, hB, hr, hN, he⟩
  · clear ho
    go_enter Tryz.func42, Tryz.ntmps42
    go_wp2
    go_loopw [1, 5] (fun v i W => i = .int .i64 0 ∧ v = .int .i64 q ∧ Hid (Chg nob w W)) (fun _ _ _ => 0)
    case atStart => exact ⟨rfl, rfl, hik (Chg.refl _ _)⟩
    case round =>
      obtain ⟨rfl, rfl, HC⟩ := hrel
      go_wp2
      go_ret
      exact ⟨by simp, .inl rfl, HC.out.wide⟩
  · have HR0 := hik hr
    have HB := hik hB
    have HNN := hik hN
    have HQ0 := hik q0
    clear ho he hr hB hN
    go_enter Tryz.func42, Tryz.ntmps42
    go_wp2
    go_loopw [1, 5] (fun v i W => ∃ k : Nat, k ≤ n ∧ i = .int .i64 k ∧ v = .int .i64 (q + 2 * k) ∧ Hid (W.rowIs b 62 N (fun j => if j < k * 2 then .int .i64 (q + j) else h j)) ∧ Hid (Chg (fun x => x = b) w W)) (fun _ i _ => n - (intOf i).toNat)
    case atStart => exact ⟨0, Nat.zero_le _, rfl, by simp, hik (HR0.out.congr (fun i _ => by simp)), hik (Chg.refl _ _)⟩
    case round =>
      obtain ⟨k, hk, rfl, rfl, HR, HC⟩ := hrel
      by_cases hlt : k < n
      · have hg0 := HR.out.cell (i := k * 2) (by have := HNN.out; omega)
        have hg1 := HR.out.cell (i := k * 2 + 1) (by have := HNN.out; omega)
        have hf0 := HR.out.frozen (k * 2)
        have hf1 := HR.out.frozen (k * 2 + 1)
        simp only [Nat.lt_irrefl, if_false] at hg0
        simp only [show ¬ k * 2 + 1 < k * 2 by omega, if_false] at hg1
        have HR2 := hik (show _ from ((HR.out.set (k * 2) (.int .i64 (q + 2 * (k : Int)))).set (k * 2 + 1) (.int .i64 (q + 2 * (k : Int) + 1))).congr (g := fun j => if j < (k + 1) * 2 then .int .i64 (q + j) else h j) (fun i _ => by
          by_cases e : i = k * 2 + 1
          · subst e; simp [show k * 2 + 1 < (k + 1) * 2 by omega]; omega
          · by_cases e1 : i = k * 2
            · subst e1; simp [show k * 2 < (k + 1) * 2 by omega]; omega
            · by_cases e2 : i < k * 2
              · simp [e, e1, e2, show i < (k + 1) * 2 by omega]
              · simp [e, e1, e2, show ¬ i < (k + 1) * 2 by omega]))
        have HC2 := hik ((HC.out.setCell (p := ⟨b, k * 2, none⟩) (fun _ => rfl) (.int .i64 (q + 2 * (k : Int)))).setCell (p := ⟨b, k * 2 + 1, none⟩) (fun _ => rfl) (.int .i64 (q + 2 * (k : Int) + 1)))
        go_wp2
        go_roundw
        case rel => exact ⟨k + 1, by omega, by go_num, by go_num, HR2, HC2⟩
        case measure => simp [intOf]; omega
      · obtain rfl : k = n := by omega
        go_wp2
        go_ret
        exact ⟨rfl, .inr ⟨b, N, _, rfl, HB.out, HR.out, HNN.out, fun i hi => by
          simp only [hi, if_true]
          unfold pf mka mkd
          rcases (show i % 2 = 0 ∨ i % 2 = 1 by omega) with e | e
          · rw [if_pos e, show q + (i : Int) = q + 2 * ((i / 2 : Nat) : Int) by omega]
          · rw [if_neg (by omega), show q + (i : Int) = q + 2 * ((i / 2 : Nat) : Int) + 1 by omega]⟩, HC.out.mono (fun i _ e => by subst e; exact ⟨HB.out, rfl, _, _, HR0.out⟩)⟩

set_option maxHeartbeats 1000000 in
theorem heldExtS_own (c : Option Addr) (n cap : Nat) (q : Int) (w : World) (h : Hid (PairV w c n (mka q) (mkd q))) (hn : n ≤ 1099511627776) (q0 : 0 ≤ q) (q1 : q ≤ 1099511627776) :
    Calls Tryz.prog 43 #[.slice c n cap, .int .i64 q] w fun e w' => e = .returned (.int .i64 (q + 2 * n)) ∧ Chg nob w w' := by
  go_enter Tryz.func43, Tryz.ntmps43
  go_wp2
  go_loopw [1, 5] (fun v i W => ∃ k : Nat, k ≤ n ∧ i = .int .i64 k ∧ v = .int .i64 (q + 2 * k) ∧ Hid (Chg nob w W)) (fun _ i _ => n - (intOf i).toNat)
  case atStart => exact ⟨0, Nat.zero_le _, rfl, by simp, hik (Chg.refl _ _)⟩
  case round =>
    obtain ⟨k, hk, rfl, rfl, HC⟩ := hrel
    by_cases hlt : k < n
    · obtain ⟨xb, xo, rfl, hxb, hx0, hx1⟩ := (h.out.keep HC.out) k hlt
      have y0 : _ = some (Value.int .i64 (q + 2 * (k : Int))) := hx0
      have y1 : _ = some (Value.int .i64 (q + 2 * (k : Int) + 1)) := hx1
      clear hx0 hx1
      go_wp2
      go_roundw
      case rel => exact ⟨k + 1, by omega, by go_num, by go_num, HC⟩
      case measure => simp [intOf]; omega
    · obtain rfl : k = n := by omega
      go_wp2
      go_ret
      exact ⟨rfl, HC.out⟩

set_option maxHeartbeats 1000000 in
theorem markSource_own (B : Nat) (c : Option Addr) (n cap : Nat) (f g : Nat → Int) (at' : Int) (st : ByteArray) (ct : Int) (q : Int) (w : World) (ho : Hid (OwnE w B c n f g)) (hn : n ≤ 1099511627776) (q0 : 0 ≤ q) (q1 : q ≤ 1099511627776) (hB : B ≤ w.heap.size) :
    Calls Tryz.prog 18 #[.agg #[.slice c n cap, .int .i64 at', .string st, .int .i64 ct], .int .i64 q] w fun e w' => e = .returned (.int .i64 (q + 2 * n)) ∧ OwnE w' B c n (mka q) (mkd q) ∧ Chg (Mkb w B c) w w' := by
  go_enter Tryz.func18, Tryz.ntmps18
  go_wp2_with (go_at_call 42; refine (markExtS_own B c n cap f g q _ (hik (ho.out.keep ((Chg.refl nob w).alloc _))) hn q0 q1).mono ?_; rintro e W1 ⟨rfl, o1, k1⟩; have K1 := hik (((Chg.refl (Mkb w B c) w).alloc _).trans (k1.mono (fun i hi m => Mkb.back (by decide) m))); have O1 := hik o1; clear k1 o1)
  go_ret
  exact ⟨rfl, O1.out, K1.out⟩

set_option maxHeartbeats 1000000 in
theorem heldSource_own (c : Option Addr) (n cap : Nat) (at' : Int) (st : ByteArray) (ct : Int) (q : Int) (w : World) (h : Hid (PairV w c n (mka q) (mkd q))) (hn : n ≤ 1099511627776) (q0 : 0 ≤ q) (q1 : q ≤ 1099511627776) :
    Calls Tryz.prog 19 #[.agg #[.slice c n cap, .int .i64 at', .string st, .int .i64 ct], .int .i64 q] w fun e w' => e = .returned (.int .i64 (q + 2 * n)) ∧ Chg nob w w' := by
  have hq : ¬ q + 2 * (n : Int) < 0 := by omega
  go_enter Tryz.func19, Tryz.ntmps19
  go_wp2_with (go_at_call 43; refine (heldExtS_own c n cap q _ (hik (h.out.keep ((Chg.refl nob w).alloc _))) hn q0 q1).mono ?_; rintro e W1 ⟨rfl, k1⟩; have K1 := hik (((Chg.refl nob w).alloc _).trans k1); clear k1)
  go_ret
  exact ⟨rfl, K1.out⟩

/-- A slice of elements of the call's own. -/
def ClAns (w : World) (n : Nat) (f g : Nat → Int) (e : Ending) (w' : World) : Prop :=
  ∃ (c : Option Addr) (cap : Nat), e = .returned (.slice c n cap) ∧ OwnE w' w.heap.size c n f g ∧ Chg nob w w'

/-- A source of the call's own. -/
def SrAns (w : World) (n : Nat) (f g : Nat → Int) (at' : Int) (st : ByteArray) (ct : Int) (e : Ending) (w' : World) : Prop :=
  ∃ (c : Option Addr) (cap : Nat), e = .returned (.agg #[.slice c n cap, .int .i64 at', .string st, .int .i64 ct]) ∧ OwnE w' w.heap.size c n f g ∧ Chg nob w w'

/-- A source of the call's own, and a code. -/
def SCAns (w : World) (code : Int) (n : Nat) (f g : Nat → Int) (at' : Int) (st : ByteArray) (ct : Int) (e : Ending) (w' : World) : Prop :=
  ∃ (c : Option Addr) (cap : Nat), e = .returned (.tuple #[.agg #[.slice c n cap, .int .i64 at', .string st, .int .i64 ct], .int .i64 code]) ∧ OwnE w' w.heap.size c n f g ∧ Chg nob w w'


end Go.Proofs.YtkpohajmcngjcaaGreatDoor

namespace Go.Proofs.YtkpohajmcngjcaaGreatDoor
open Go.ChangeShapes Go.WideShapes Go.ChangeAt Go.RowKit
set_option linter.unusedVariables false
set_option maxRecDepth 100000
set_option linter.unusedSimpArgs false

/-- The parts of elements. -/
def cA (t : Nat → El) (i : Nat) : Int := (t i).v.1
def cB (t : Nat → El) (i : Nat) : Int := (t i).v.2
/-- Elements of parts. -/
theorem red_eok {a b : Int} (h : eok a b = true) : Fld.Red (a, b) := ⟨fok_lo (eok_a h), fok_hi (eok_a h), fok_lo (eok_b h), fok_hi (eok_b h)⟩
def elP (a b : Int) : El := if h : eok a b = true then ⟨(a, b), red_eok h⟩ else El.zr
theorem elP_v {a b : Int} (h : eok a b = true) : (elP a b).v = (a, b) := by unfold elP; rw [dif_pos h]
def elF (f g : Nat → Int) (i : Nat) : El := elP (f i) (g i)
theorem cA_el {f g : Nat → Int} {n i : Nat} (h : okP f g n = true) (hi : i < n) : f i = cA (elF f g) i ∧ g i = cB (elF f g) i := by
  have e := elP_v (okP_all f g n h i hi)
  exact ⟨by rw [cA, elF, e], by rw [cB, elF, e]⟩
/-- n elements that can be read behind c. -/
def PairE (w : World) (c : Option Addr) (n : Nat) (t : Nat → El) : Prop := PairV w c n (cA t) (cB t)
theorem PairE.keep {w w' : World} {c : Option Addr} {n : Nat} {t : Nat → El} (h : PairE w c n t) (k : Chg nob w w') : PairE w' c n t := PairV.keep h k
theorem PairE.of {w : World} {c : Option Addr} {n : Nat} {f g : Nat → Int} (h : PairV w c n f g) (ho : okP f g n = true) : PairE w c n (elF f g) := PairV.congr h (fun i hi => cA_el ho hi)
theorem PairE.at_ {w : World} {c : Option Addr} {n : Nat} {t : Nat → El} (h : PairE w c n t) {i : Nat} (hi : i < n) : ∃ xb xo : Nat, c = some ⟨xb, xo, none⟩ ∧ xb < w.heap.size ∧ w.cell? ⟨xb, xo + i * 2, none⟩ = some (.int .i64 (t i).v.1) ∧ w.cell? ⟨xb, xo + i * 2 + 1, none⟩ = some (.int .i64 (t i).v.2) := h i hi
theorem PairE.c0 {w : World} {xb xo n : Nat} {t : Nat → El} (h : PairE w (some ⟨xb, xo, none⟩) n t) {i : Nat} (hi : i < n) : w.cell? ⟨xb, xo + i * 2, none⟩ = some (.int .i64 (t i).v.1) := by
  obtain ⟨xb', xo', e, _, e0, _⟩ := h.at_ hi
  cases e
  exact e0
theorem PairE.c1 {w : World} {xb xo n : Nat} {t : Nat → El} (h : PairE w (some ⟨xb, xo, none⟩) n t) {i : Nat} (hi : i < n) : w.cell? ⟨xb, xo + i * 2 + 1, none⟩ = some (.int .i64 (t i).v.2) := by
  obtain ⟨xb', xo', e, _, _, e1⟩ := h.at_ hi
  cases e
  exact e1
/-- A row of n elements in block b. -/
def RowE (W : World) (b n : Nat) (t : Nat → El) : Prop := W.rowIs b 62 (n * 2) (pf (cA t) (cB t))
theorem RowE.keep {W W' : World} {b n : Nat} {t : Nat → El} (h : RowE W b n t) (k : Chg nob W W') : RowE W' b n t := rowIs_keep h k
theorem RowE.lt {W : World} {b n : Nat} {t : Nat → El} (h : RowE W b n t) : b < W.heap.size := World.rowIs.lt h
theorem RowE.c0 {W : World} {b n : Nat} {t : Nat → El} (h : RowE W b n t) {i : Nat} (hi : i < n) : W.cell? ⟨b, i * 2, none⟩ = some (.int .i64 (t i).v.1) := by
  rw [World.rowIs.cell h (by omega), pf_even]; rfl
theorem RowE.c1 {W : World} {b n : Nat} {t : Nat → El} (h : RowE W b n t) {i : Nat} (hi : i < n) : W.cell? ⟨b, i * 2 + 1, none⟩ = some (.int .i64 (t i).v.2) := by
  rw [World.rowIs.cell h (by omega), pf_odd]; rfl
theorem RowE.congr {W : World} {b n : Nat} {t u : Nat → El} (h : RowE W b n t) (e : ∀ i, i < n → t i = u i) : RowE W b n u :=
  World.rowIs.congr h (fun i hi => by unfold pf cA cB; rw [e (i / 2) (by omega)])
theorem RowE.pairs {W : World} {b n : Nat} {t : Nat → El} (h : RowE W b n t) : PairE W (some ⟨b, 0, none⟩) n t := PairV.of_row h (Nat.le_refl _)
theorem RowE.own {W : World} {B b n : Nat} {t : Nat → El} (h : RowE W b n t) (hB : B ≤ b) : OwnE W B (some ⟨b, 0, none⟩) n (cA t) (cB t) := OwnE.of_row h hB
theorem RowE.other {W : World} {b g n : Nat} {t : Nat → El} (h : RowE W b n t) (hne : b ≠ g) (o o' : Nat) (u v : Value) : RowE ((W.setCell ⟨g, o, none⟩ u).setCell ⟨g, o', none⟩ v) b n t :=
  World.rowIs.setOther (a := ⟨g, o', none⟩) (World.rowIs.setOther (a := ⟨g, o, none⟩) h hne u) hne v
/-- One element of a list put anew. -/
def upE (t : Nat → El) (k : Nat) (x : El) (i : Nat) : El := if i = k then x else t i
theorem RowE.set {W : World} {b n : Nat} {t : Nat → El} (h : RowE W b n t) (k : Nat) (x : El) : RowE ((W.setCell ⟨b, k * 2, none⟩ (.int .i64 x.v.1)).setCell ⟨b, k * 2 + 1, none⟩ (.int .i64 x.v.2)) b n (upE t k x) :=
  World.rowIs.congr (World.rowIs.set (World.rowIs.set h (k * 2) _) (k * 2 + 1) _) (fun i hi => by
    by_cases e1 : i = k * 2 + 1
    · subst e1; simp [pf_odd, cB, upE]
    · by_cases e2 : i = k * 2
      · subst e2; simp [pf_even, cA, upE]
      · have e3 : ¬ i / 2 = k := by omega
        simp [e1, e2, pf, cA, cB, upE, e3])


end Go.Proofs.YtkpohajmcngjcaaGreatDoor
