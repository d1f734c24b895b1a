/- Several texts in one: What the laws' helpers on sources do: contracts. Conditions: rows that can be read, lengths of at most 2 to the 40. · What the laws' copies of lists of lists, queries and openings are: contracts. Conditions: lists that can be read, lengths of at most 2 to the 20. -/
import Derived.Test.YtfcbcbmoebhfhaaGreatDoorBzae
import Derived.Test.YtfcbcbmoebhfhaaGreatDoorBzan
import Derived.Deep.QuietTactic
import Derived.Deep.RegionHeld3
import Derived.BigQuiet
import Derived.Test.YtfcbcbmoebhfhaaGreatDoorBzbe
import Derived.Test.YtfcbcbmoebhfhaaGreatDoorBzbf
namespace Go.Proofs.YtfcbcbmoebhfhaaGreatDoor
open Go.ChangeShapes Go.WideShapes Go.ChangeAt Go.RowKit
set_option linter.unusedVariables false
set_option maxRecDepth 100000
set_option linter.unusedSimpArgs false

/-- A source in memory of its own. -/
def CopiedS (w : World) (n : Nat) (f g : Nat → Int) (at' : Int) (st : ByteArray) (ct : Int) (e : Ending) (w' : World) : Prop :=
  ∃ b : Nat, w.heap.size ≤ b ∧ e = .returned (.agg #[.slice (some ⟨b, 0, none⟩) n n, .int .i64 at', .string st, .int .i64 ct]) ∧ w'.rowIs b 84 (n * 2) (pf f g) ∧ Chg nob w w'

set_option maxRecDepth 100000 in
set_option maxHeartbeats 2000000 in
theorem toSource_any (c : Option Addr) (n cap : Nat) (f g : Nat → Int) (at' : Int) (st : ByteArray) (ct : Int) (w : World) (h : Hid (PairV w c n f g)) (hn : n ≤ 1099511627776) :
    Calls Tryz.prog 10 #[.agg #[.slice c n cap, .int .i64 at', .string st, .int .i64 ct]] w fun e w' => CopiedS w n f g at' st ct e w' := by
  go_enter Tryz.func10, Tryz.ntmps10
  go_wp2_with (go_at_call 25; refine (toExtS_any c n cap f g _ (hik (h.out.keep ((((Chg.refl nob w).alloc _).alloc _).alloc _))) hn).mono ?_; rintro e W1 ⟨he, hr, k1⟩; subst he; have HR := hik hr; have K1 := hik k1; obtain ⟨hc1, hf1, hz1⟩ := kcell k1 (w.heap.size + 3) (by simp); clear k1 hr)
  have R2 := hik (rowIs_keep (row4_new ((w.alloc (.cells #[.slice c n cap, .int .i64 at', .string st, .int .i64 ct] 30)).alloc (.cells #[.slice none 0 0, .int .i64 0, .string ⟨#[]⟩, .int .i64 0] 35)) (.slice none 0 0) (.int .i64 0) (.string ⟨#[]⟩) (.int .i64 0) 35) K1.out)
  have R1 := hik (rowIs_keep (World.rowIs.alloc (row4_new (w.alloc (.cells #[.slice c n cap, .int .i64 at', .string st, .int .i64 ct] 30)) (.slice none 0 0) (.int .i64 0) (.string ⟨#[]⟩) (.int .i64 0) 35) (.cells #[.slice none 0 0, .int .i64 0, .string ⟨#[]⟩, .int .i64 0] 35)) K1.out)
  have R3 : Hid (((((W1.setCell ⟨w.heap.size + 1 + 1, 0, none⟩ (.slice (some ⟨w.heap.size + 1 + 1 + 1, 0, none⟩) n n)).setCell ⟨w.heap.size + 1 + 1, 1, none⟩ (.int .i64 at')).setCell ⟨w.heap.size + 1 + 1, 2, none⟩ (.string st)).setCell ⟨w.heap.size + 1 + 1, 3, none⟩ (.int .i64 ct)).rowIs (w.heap.size + 1) 35 4 (pv4 (.slice none 0 0) (.int .i64 0) (.string ⟨#[]⟩) (.int .i64 0))) := hik (row4_other (by simpa using R1.out) (by omega) _ _ _ _)
  have G0 : Hid (Chg nob w W1) := hik (((((Chg.refl nob w).alloc _).alloc _).alloc _).trans K1.out)
  exact bodyPost_ret (v := .agg #[.slice (some ⟨w.heap.size + 1 + 1 + 1, 0, none⟩) n n, .int .i64 at', .string st, .int .i64 ct]) (by simp [results, Tryz.results10, go_sem, row4_s0 R3.out (.slice (some ⟨w.heap.size + 1 + 1 + 1, 0, none⟩) n n), row4_s1 R3.out (.slice (some ⟨w.heap.size + 1 + 1 + 1, 0, none⟩) n n) (.int .i64 at'), row4_s2 R3.out (.slice (some ⟨w.heap.size + 1 + 1 + 1, 0, none⟩) n n) (.int .i64 at') (.string st), row4_s3 R3.out (.slice (some ⟨w.heap.size + 1 + 1 + 1, 0, none⟩) n n) (.int .i64 at') (.string st) (.int .i64 ct)]) rfl ⟨_, by omega, rfl, row4_other (row4_other (by simpa using HR.out) (by omega) _ _ _ _) (by omega) _ _ _ _, chg4_set (chg4_set G0.out _ (fun l => absurd l (by omega)) _ _ _ _) _ (fun l => absurd l (by omega)) _ _ _ _⟩

set_option maxHeartbeats 1000000 in
theorem szSource_ok (c : Option Addr) (n cap : Nat) (at' : Int) (st : ByteArray) (ct l : Int) (w : World) (h0 : (n : Int) + (st.size : Int) ≤ l) (h1 : l ≤ 1048576) :
    Calls Tryz.prog 5 #[.agg #[.slice c n cap, .int .i64 at', .string st, .int .i64 ct], .int .i64 l] w fun e w' => e = .returned (.int .i64 (l - n - st.size)) ∧ Chg nob w w' := by
  have h2 : ¬ l - (n : Int) < 0 := by omega
  have h3 : ¬ l - (n : Int) - (st.size : Int) < 0 := by omega
  have hs : (st.size : Int) ≤ 9223372036854775807 := by omega
  go_enter Tryz.func5, Tryz.ntmps5
  go_wp2_with (go_at_call 20; refine (szExtS_ok _ _ _ _ _ (by omega) (by omega)).mono ?_; rintro e w' ⟨rfl, rfl⟩)
  go_ret
  exact ⟨rfl, (Chg.refl _ _).alloc _⟩

set_option maxHeartbeats 1000000 in
theorem szSource_no (c : Option Addr) (n cap : Nat) (at' : Int) (st : ByteArray) (ct l : Int) (w : World) (h0 : l < (n : Int) + (st.size : Int)) (h1 : l ≤ 1048576) (hl : 0 ≤ l) (hn : (n : Int) ≤ 9223372036854775807) (hs : (st.size : Int) ≤ 9223372036854775807) :
    Calls Tryz.prog 5 #[.agg #[.slice c n cap, .int .i64 at', .string st, .int .i64 ct], .int .i64 l] w fun e w' => e = .returned (.int .i64 (-1)) ∧ Chg nob w w' := by
  by_cases h2 : l < (n : Int)
  · go_enter Tryz.func5, Tryz.ntmps5
    go_wp2_with (go_at_call 20; refine (szExtS_no _ _ _ _ _ h2 hl hn).mono ?_; rintro e w' ⟨rfl, rfl⟩)
    go_ret
    exact ⟨rfl, (Chg.refl _ _).alloc _⟩
  · have h3 : ¬ l - (n : Int) < 0 := by omega
    have h4 : l - (n : Int) - (st.size : Int) < 0 := by omega
    go_enter Tryz.func5, Tryz.ntmps5
    go_wp2_with (go_at_call 20; refine (szExtS_ok _ _ _ _ _ (by omega) (by omega)).mono ?_; rintro e w' ⟨rfl, rfl⟩)
    go_ret
    exact ⟨rfl, (Chg.refl _ _).alloc _⟩

set_option maxHeartbeats 1000000 in
theorem eqSource_any (c d : Option Addr) (n m cap cap' : Nat) (f g f' g' : Nat → Int) (at' : Int) (st : ByteArray) (ct : Int) (w : World) (h : Hid (PairV w c n f g)) (h' : Hid (PairV w d m f' g')) (hm : n = m) (he : ∀ i, i < n → f i = f' i ∧ g i = g' i) (hn : n ≤ 1099511627776) :
    Calls Tryz.prog 12 #[.agg #[.slice c n cap, .int .i64 at', .string st, .int .i64 ct], .agg #[.slice d m cap', .int .i64 at', .string st, .int .i64 ct]] w fun e w' => e = .returned (.bool true) ∧ Chg nob w w' := by
  subst hm
  go_enter Tryz.func12, Tryz.ntmps12
  go_wp2_with fail
  refine (eqExtS_any c d n n cap cap' f g f' g' _ (hik (h.out.keep (((Chg.refl nob w).alloc _).alloc _))) (hik (h'.out.keep (((Chg.refl nob w).alloc _).alloc _))) rfl he hn).mono ?_
  rintro e W1 ⟨rfl, k1⟩
  have G1 := hik ((((Chg.refl nob w).alloc (.cells #[.slice c n cap, .int .i64 at', .string st, .int .i64 ct] 35)).alloc (.cells #[.slice d n cap', .int .i64 at', .string st, .int .i64 ct] 35)).trans k1)
  have x1 : W1.cell? ⟨w.heap.size, 1, none⟩ = some (.int .i64 at') := k1.look (by go_simp)
  have x2 : W1.cell? ⟨w.heap.size, 2, none⟩ = some (.string st) := k1.look (by go_simp)
  have x3 : W1.cell? ⟨w.heap.size, 3, none⟩ = some (.int .i64 ct) := k1.look (by go_simp)
  have y1 : W1.cell? ⟨w.heap.size + 1, 1, none⟩ = some (.int .i64 at') := k1.look (by go_simp)
  have y2 : W1.cell? ⟨w.heap.size + 1, 2, none⟩ = some (.string st) := k1.look (by go_simp)
  have y3 : W1.cell? ⟨w.heap.size + 1, 3, none⟩ = some (.int .i64 ct) := k1.look (by go_simp)
  clear k1
  go_wp2
  go_ret
  exact ⟨rfl, G1.out⟩


end Go.Proofs.YtfcbcbmoebhfhaaGreatDoor

namespace Go.Proofs.YtfcbcbmoebhfhaaGreatDoor
open Go.ChangeShapes Go.WideShapes Go.ChangeAt Go.RowKit
set_option linter.unusedVariables false
set_option maxRecDepth 100000
set_option linter.unusedSimpArgs false

/-- Lists of texts; lists of lists of elements; queries. -/
def dSS (n : Nat) (l : Nat → Nat) (T : Nat → Nat → ByteArray) : Dt := .list n 1 (fun i _ => .texts (l i) (T i))
def dEE (n : Nat) (l : Nat → Nat) (f g : Nat → Nat → Int) : Dt := .list n 1 (fun i _ => .exts (l i) (f i) (g i))
/-- What a query holds. -/
structure QD where
  np : Nat
  f : Nat → Int
  g : Nat → Int
  nq : Nat
  l : Nat → Nat
  T : Nat → Nat → ByteArray
def QD.P (q : QD) : Dt := .exts q.np q.f q.g
def QD.S (q : QD) : Dt := dSS q.nq q.l q.T
def dQs (n : Nat) (q : Nat → QD) : Dt := .list n 2 (fun i j => if j = 0 then (q i).P else (q i).S)
/-- What an opening holds. -/
structure OD where
  nr : Nat
  rl : Nat → Nat
  rf : Nat → Nat → Int
  rg : Nat → Nat → Int
  nt : Nat
  ts : Nat → ByteArray
  la : Int
  lb : Int
  no : Int
  nq : Nat
  q : Nat → QD
def OD.R (o : OD) : Dt := dEE o.nr o.rl o.rf o.rg
def OD.S (o : OD) : Dt := .texts o.nt o.ts
def OD.Q (o : OD) : Dt := dQs o.nq o.q
/-- k of n items are made. -/
structure Prt (W : World) (T : TypeId) (b n k : Nat) (len : Nat → Nat) (x : Nat → Dt) (C : Nat → Option Addr) (P lo hi : Nat → Nat) : Prop where
  row : W.rowIs b T n (fun i => if i < k then .slice (C i) (len i) (P i) else .slice none 0 0)
  it : ∀ i, i < k → b < lo i ∧ hi i ≤ W.heap.size ∧ (x i).Own W (lo i) (hi i) (.slice (C i) (len i) (P i))
  ord : ∀ i j, i < j → j < k → hi i ≤ lo j
def upd {α : Type} (f : Nat → α) (k : Nat) (a : α) (i : Nat) : α := if i = k then a else f i
theorem upd_at {α : Type} (f : Nat → α) (k : Nat) (a : α) : upd f k a k = a := if_pos rfl
theorem upd_ne {α : Type} (f : Nat → α) {k i : Nat} (a : α) (h : i ≠ k) : upd f k a i = f i := if_neg h
theorem Prt.step {W W1 : World} {T : TypeId} {b n k : Nat} {len : Nat → Nat} {x : Nat → Dt} {C : Nat → Option Addr} {P lo hi : Nat → Nat} (h : Prt W T b n k len x C P lo hi) (hk : k < n) (c : Option Addr) (cap : Nat) (kk : Chg nob W W1) (hb : b < W.heap.size) (ho : (x k).Own W1 W.heap.size W1.heap.size (.slice c (len k) cap)) :
    Prt (W1.setCell ⟨b, k, none⟩ (.slice c (len k) cap)) T b n (k + 1) len x (upd C k c) (upd P k cap) (upd lo k W.heap.size) (upd hi k W1.heap.size) := by
  have kS : Chg (fun y => y = b) W1 (W1.setCell ⟨b, k, none⟩ (.slice c (len k) cap)) := (Chg.refl (fun y => y = b) W1).setCell (p := ⟨b, k, none⟩) (fun _ => rfl) _
  refine ⟨((rowIs_keep h.row kk).set k (.slice c (len k) cap)).congr (fun i _ => ?_), fun i hi => ?_, fun i j hij hj => ?_⟩
  · by_cases e : i = k
    · subst e
      rw [if_pos rfl, if_pos (by omega), upd_at, upd_at]
    · rw [if_neg e, upd_ne _ _ e, upd_ne _ _ e]
      by_cases e2 : i < k
      · rw [if_pos e2, if_pos (by omega)]
      · rw [if_neg e2, if_neg (by omega)]
  · by_cases e : i = k
    · subst e
      rw [upd_at, upd_at, upd_at, upd_at]
      exact ⟨hb, by simp, ho.chg kS (fun y h1 h2 e => by omega)⟩
    · rw [upd_ne _ _ e, upd_ne _ _ e, upd_ne _ _ e, upd_ne _ _ e]
      obtain ⟨q1, q2, q3⟩ := h.it i (by omega)
      have := kk.size
      exact ⟨q1, by simp; omega, (q3.keep kk).chg kS (fun y h1 h2 e => by omega)⟩
  · have e : i ≠ k := by omega
    rw [upd_ne hi _ e]
    by_cases e2 : j = k
    · subst e2
      rw [upd_at]
      exact (h.it i (by omega)).2.1
    · rw [upd_ne lo _ e2]
      exact h.ord i j hij (by omega)
theorem Prt.done {W : World} {T : TypeId} {b n B : Nat} {len : Nat → Nat} {x : Nat → Dt} {C : Nat → Option Addr} {P lo hi : Nat → Nat} (h : Prt W T b n n len x C P lo hi) (hB : B ≤ b) (cap : Nat) : (Dt.list n 1 (fun i _ => x i)).Own W B W.heap.size (.slice (some ⟨b, 0, none⟩) n cap) := by
  refine ⟨_, _, rfl, .inr ⟨b, fun i _ => lo i, fun i _ => hi i, rfl, ⟨hB, h.row.lt, h.row.lt, fun i j hi hj => ?_, fun i j hi hj => ?_, fun i j hi hj => ?_, fun i j hi hj => ?_, fun i j i' j' hi hj hi' hj' hne => ?_⟩⟩⟩
  · obtain rfl : j = 0 := by omega
    refine ⟨_, ?_, (h.it i hi).2.2⟩
    rw [Nat.mul_one, Nat.add_zero, h.row.cell hi, if_pos hi]
  · have := (h.it i hi).1; omega
  · exact (h.it i hi).2.1
  · intro q; have := (h.it i hi).1; omega
  · have hne' : i ≠ i' := fun e => hne ⟨e, by omega⟩
    rcases Nat.lt_or_gt_of_ne hne' with q | q
    · exact .inl (h.ord i i' q hi')
    · exact .inr (h.ord i' i q hi)

theorem asz (w : World) (o : Obj) : (w.alloc o).heap.size = w.heap.size + 1 := by simp

/-- A query's two slices, one behind the other. -/
def qv (u v : Nat → Value) (c : Nat) : Value := if c % 2 = 0 then u (c / 2) else v (c / 2)
end Go.Proofs.YtfcbcbmoebhfhaaGreatDoor
