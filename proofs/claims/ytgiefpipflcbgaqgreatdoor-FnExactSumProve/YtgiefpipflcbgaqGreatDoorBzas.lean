/- Several texts in one: What the laws' helpers on sources do: contracts. Conditions: rows that can be read, lengths of at most 2 to the 40. · What a program's SumProve and SumVerify are asked for: answers of their own, in blocks of their own. No condition but those that each theorem states. · Rounds and a point that a call is telling: words on memory. No condition but those that each theorem states. -/
import Derived.Test.YtgiefpipflcbgaqGreatDoorBzad
import Derived.Test.YtgiefpipflcbgaqGreatDoorBzae
import Derived.Deep.QuietTactic
import Derived.Deep.RegionHeld3
import Derived.BigQuiet
import Derived.Test.YtgiefpipflcbgaqGreatDoorBzai
import Derived.Test.YtgiefpipflcbgaqGreatDoorSumF
import Derived.Test.YtgiefpipflcbgaqGreatDoorBzaf
import Derived.Test.YtgiefpipflcbgaqGreatDoorBzaq
import Derived.Test.YtgiefpipflcbgaqGreatDoorRndX
namespace Go.Proofs.YtgiefpipflcbgaqGreatDoor
open Go.ChangeShapes Go.WideShapes Go.ChangeAt Go.RowKit
set_option linter.unusedVariables false
set_option maxRecDepth 100000
set_option linter.unusedSimpArgs false

/-- A source in memory of its own. -/
def CopiedS (w : World) (n : Nat) (f g : Nat → Int) (at' : Int) (st : ByteArray) (ct : Int) (e : Ending) (w' : World) : Prop :=
  ∃ b : Nat, w.heap.size ≤ b ∧ e = .returned (.agg #[.slice (some ⟨b, 0, none⟩) n n, .int .i64 at', .string st, .int .i64 ct]) ∧ w'.rowIs b 45 (n * 2) (pf f g) ∧ Chg nob w w'

set_option maxRecDepth 100000 in
set_option maxHeartbeats 2000000 in
theorem toSource_any (c : Option Addr) (n cap : Nat) (f g : Nat → Int) (at' : Int) (st : ByteArray) (ct : Int) (w : World) (h : Hid (PairV w c n f g)) (hn : n ≤ 1099511627776) :
    Calls Tryz.prog 9 #[.agg #[.slice c n cap, .int .i64 at', .string st, .int .i64 ct]] w fun e w' => CopiedS w n f g at' st ct e w' := by
  go_enter Tryz.func9, Tryz.ntmps9
  go_wp2_with (go_at_call 30; refine (toExtS_any c n cap f g _ (hik (h.out.keep ((((Chg.refl nob w).alloc _).alloc _).alloc _))) hn).mono ?_; rintro e W1 ⟨he, hr, k1⟩; subst he; have HR := hik hr; have K1 := hik k1; obtain ⟨hc1, hf1, hz1⟩ := kcell k1 (w.heap.size + 3) (by simp); clear k1 hr)
  have R2 := hik (rowIs_keep (row4_new ((w.alloc (.cells #[.slice c n cap, .int .i64 at', .string st, .int .i64 ct] 25)).alloc (.cells #[.slice none 0 0, .int .i64 0, .string ⟨#[]⟩, .int .i64 0] 31)) (.slice none 0 0) (.int .i64 0) (.string ⟨#[]⟩) (.int .i64 0) 31) K1.out)
  have R1 := hik (rowIs_keep (World.rowIs.alloc (row4_new (w.alloc (.cells #[.slice c n cap, .int .i64 at', .string st, .int .i64 ct] 25)) (.slice none 0 0) (.int .i64 0) (.string ⟨#[]⟩) (.int .i64 0) 31) (.cells #[.slice none 0 0, .int .i64 0, .string ⟨#[]⟩, .int .i64 0] 31)) K1.out)
  have R3 : Hid (((((W1.setCell ⟨w.heap.size + 1 + 1, 0, none⟩ (.slice (some ⟨w.heap.size + 1 + 1 + 1, 0, none⟩) n n)).setCell ⟨w.heap.size + 1 + 1, 1, none⟩ (.int .i64 at')).setCell ⟨w.heap.size + 1 + 1, 2, none⟩ (.string st)).setCell ⟨w.heap.size + 1 + 1, 3, none⟩ (.int .i64 ct)).rowIs (w.heap.size + 1) 31 4 (pv4 (.slice none 0 0) (.int .i64 0) (.string ⟨#[]⟩) (.int .i64 0))) := hik (row4_other (by simpa using R1.out) (by omega) _ _ _ _)
  have G0 : Hid (Chg nob w W1) := hik (((((Chg.refl nob w).alloc _).alloc _).alloc _).trans K1.out)
  exact bodyPost_ret (v := .agg #[.slice (some ⟨w.heap.size + 1 + 1 + 1, 0, none⟩) n n, .int .i64 at', .string st, .int .i64 ct]) (by simp [results, Tryz.results9, go_sem, row4_s0 R3.out (.slice (some ⟨w.heap.size + 1 + 1 + 1, 0, none⟩) n n), row4_s1 R3.out (.slice (some ⟨w.heap.size + 1 + 1 + 1, 0, none⟩) n n) (.int .i64 at'), row4_s2 R3.out (.slice (some ⟨w.heap.size + 1 + 1 + 1, 0, none⟩) n n) (.int .i64 at') (.string st), row4_s3 R3.out (.slice (some ⟨w.heap.size + 1 + 1 + 1, 0, none⟩) n n) (.int .i64 at') (.string st) (.int .i64 ct)]) rfl ⟨_, by omega, rfl, row4_other (row4_other (by simpa using HR.out) (by omega) _ _ _ _) (by omega) _ _ _ _, chg4_set (chg4_set G0.out _ (fun l => absurd l (by omega)) _ _ _ _) _ (fun l => absurd l (by omega)) _ _ _ _⟩

set_option maxHeartbeats 1000000 in
theorem szSource_ok (c : Option Addr) (n cap : Nat) (at' : Int) (st : ByteArray) (ct l : Int) (w : World) (h0 : (n : Int) + (st.size : Int) ≤ l) (h1 : l ≤ 1048576) :
    Calls Tryz.prog 6 #[.agg #[.slice c n cap, .int .i64 at', .string st, .int .i64 ct], .int .i64 l] w fun e w' => e = .returned (.int .i64 (l - n - st.size)) ∧ Chg nob w w' := by
  have h2 : ¬ l - (n : Int) < 0 := by omega
  have h3 : ¬ l - (n : Int) - (st.size : Int) < 0 := by omega
  have hs : (st.size : Int) ≤ 9223372036854775807 := by omega
  go_enter Tryz.func6, Tryz.ntmps6
  go_wp2_with (go_at_call 24; refine (szExtS_ok _ _ _ _ _ (by omega) (by omega)).mono ?_; rintro e w' ⟨rfl, rfl⟩)
  go_ret
  exact ⟨rfl, (Chg.refl _ _).alloc _⟩

set_option maxHeartbeats 1000000 in
theorem szSource_no (c : Option Addr) (n cap : Nat) (at' : Int) (st : ByteArray) (ct l : Int) (w : World) (h0 : l < (n : Int) + (st.size : Int)) (h1 : l ≤ 1048576) (hl : 0 ≤ l) (hn : (n : Int) ≤ 9223372036854775807) (hs : (st.size : Int) ≤ 9223372036854775807) :
    Calls Tryz.prog 6 #[.agg #[.slice c n cap, .int .i64 at', .string st, .int .i64 ct], .int .i64 l] w fun e w' => e = .returned (.int .i64 (-1)) ∧ Chg nob w w' := by
  by_cases h2 : l < (n : Int)
  · go_enter Tryz.func6, Tryz.ntmps6
    go_wp2_with (go_at_call 24; refine (szExtS_no _ _ _ _ _ h2 hl hn).mono ?_; rintro e w' ⟨rfl, rfl⟩)
    go_ret
    exact ⟨rfl, (Chg.refl _ _).alloc _⟩
  · have h3 : ¬ l - (n : Int) < 0 := by omega
    have h4 : l - (n : Int) - (st.size : Int) < 0 := by omega
    go_enter Tryz.func6, Tryz.ntmps6
    go_wp2_with (go_at_call 24; refine (szExtS_ok _ _ _ _ _ (by omega) (by omega)).mono ?_; rintro e w' ⟨rfl, rfl⟩)
    go_ret
    exact ⟨rfl, (Chg.refl _ _).alloc _⟩

set_option maxHeartbeats 1000000 in
theorem eqSource_any (c d : Option Addr) (n m cap cap' : Nat) (f g f' g' : Nat → Int) (at' : Int) (st : ByteArray) (ct : Int) (w : World) (h : Hid (PairV w c n f g)) (h' : Hid (PairV w d m f' g')) (hm : n = m) (he : ∀ i, i < n → f i = f' i ∧ g i = g' i) (hn : n ≤ 1099511627776) :
    Calls Tryz.prog 13 #[.agg #[.slice c n cap, .int .i64 at', .string st, .int .i64 ct], .agg #[.slice d m cap', .int .i64 at', .string st, .int .i64 ct]] w fun e w' => e = .returned (.bool true) ∧ Chg nob w w' := by
  subst hm
  go_enter Tryz.func13, Tryz.ntmps13
  go_wp2_with fail
  refine (eqExtS_any c d n n cap cap' f g f' g' _ (hik (h.out.keep (((Chg.refl nob w).alloc _).alloc _))) (hik (h'.out.keep (((Chg.refl nob w).alloc _).alloc _))) rfl he hn).mono ?_
  rintro e W1 ⟨rfl, k1⟩
  have G1 := hik ((((Chg.refl nob w).alloc (.cells #[.slice c n cap, .int .i64 at', .string st, .int .i64 ct] 31)).alloc (.cells #[.slice d n cap', .int .i64 at', .string st, .int .i64 ct] 31)).trans k1)
  have x1 : W1.cell? ⟨w.heap.size, 1, none⟩ = some (.int .i64 at') := k1.look (by go_simp)
  have x2 : W1.cell? ⟨w.heap.size, 2, none⟩ = some (.string st) := k1.look (by go_simp)
  have x3 : W1.cell? ⟨w.heap.size, 3, none⟩ = some (.int .i64 ct) := k1.look (by go_simp)
  have y1 : W1.cell? ⟨w.heap.size + 1, 1, none⟩ = some (.int .i64 at') := k1.look (by go_simp)
  have y2 : W1.cell? ⟨w.heap.size + 1, 2, none⟩ = some (.string st) := k1.look (by go_simp)
  have y3 : W1.cell? ⟨w.heap.size + 1, 3, none⟩ = some (.int .i64 ct) := k1.look (by go_simp)
  clear k1
  go_wp2
  go_ret
  exact ⟨rfl, G1.out⟩

theorem szExtS_c (c : Option Addr) (n cap : Nat) (l : Int) (w : World) (h0 : (n : Int) ≤ l) (h1 : l ≤ 1048576) :
    Calls Tryz.prog 24 #[.slice c n cap, .int .i64 l] w fun e w' => e = .returned (.int .i64 (l - n)) ∧ Chg nob w w' := by
  refine (szExtS_ok c n cap l w h0 h1).mono ?_
  rintro e w' ⟨he, hw⟩
  subst hw
  exact ⟨he, Chg.refl _ _⟩

end Go.Proofs.YtgiefpipflcbgaqGreatDoor

namespace Go.Proofs.YtgiefpipflcbgaqGreatDoor
open Go.ChangeShapes Go.WideShapes Go.ChangeAt Go.RowKit
set_option linter.unusedVariables false
set_option maxRecDepth 100000
set_option linter.unusedSimpArgs false

/-- The blocks of lists of lists. -/
def BlkS (c : Option Addr) (n : Nat) (H : Nat → Nat) (b : Nat) : Prop := (∃ o, c = some ⟨b, o, none⟩) ∨ ∃ i, i < n ∧ b = H i
/-- A list's block. -/
def BlkE (c : Option Addr) (b : Nat) : Prop := ∃ o, c = some ⟨b, o, none⟩
/-- Four lists in blocks of their own. -/
def Apart (cR : Option Addr) (nR : Nat) (H : Nat → Nat) (cP cV cS : Option Addr) : Prop :=
  (∀ b, BlkS cR nR H b → ¬ BlkE cP b ∧ ¬ BlkE cV b ∧ ¬ BlkE cS b) ∧ (∀ b, BlkE cP b → ¬ BlkE cV b ∧ ¬ BlkE cS b) ∧ ∀ b, BlkE cV b → ¬ BlkE cS b
/-- Rounds, a point, values, a source and a code, of the call's own. -/
def PIAns (w : World) (q : Int) (nR m nV nS : Nat) (G : Nat → Nat → El) (R V : Nat → El) (fs gs : Nat → Int) (a : Int) (s : ByteArray) (c : Int) (e : Ending) (w' : World) : Prop :=
  ∃ (cR : Option Addr) (capR : Nat) (H C : Nat → Nat) (cP : Option Addr) (capP : Nat) (cV : Option Addr) (capV : Nat) (cS : Option Addr) (capS : Nat), e = .returned (.tuple #[.slice cR nR capR, .slice cP nR capP, .slice cV nV capV, .agg #[.slice cS nS capS, .int .i64 a, .string s, .int .i64 c], .int .i64 q]) ∧ OwnSS w' w.heap.size cR nR m H C (fun i => cA (G i)) (fun i => cB (G i)) ∧ OwnE w' w.heap.size cP nR (cA R) (cB R) ∧ OwnE w' w.heap.size cV nV (cA V) (cB V) ∧ OwnE w' w.heap.size cS nS fs gs ∧ Apart cR nR H cP cV cS ∧ Chg nob w w'
/-- A point, a claim, a source and a code, of the call's own. -/
def VIAns (w : World) (q : Int) (nP nS : Nat) (R : Nat → El) (fs gs : Nat → Int) (y1 y2 a : Int) (s : ByteArray) (c : Int) (e : Ending) (w' : World) : Prop :=
  ∃ (cP : Option Addr) (capP : Nat) (cS : Option Addr) (capS : Nat), e = .returned (.tuple #[.slice cP nP capP, .agg #[.int .i64 y1, .int .i64 y2], .agg #[.slice cS nS capS, .int .i64 a, .string s, .int .i64 c], .int .i64 q]) ∧ OwnE w' w.heap.size cP nP (cA R) (cB R) ∧ OwnE w' w.heap.size cS nS fs gs ∧ (∀ b, BlkE cP b → ¬ BlkE cS b) ∧ Chg nob w w'
/-- Lists' blocks lie below the heap's end. -/
theorem RowsQ.lt {Q : Nat → Prop} {w : World} {c : Option Addr} {n N : Nat} {t : Nat → Nat → El} (h : RowsQ Q w c n N t) (hN : n = 0 ∨ 1 ≤ N) : RowsQ (fun b => b < w.heap.size) w c n N t := by
  intro i hi
  obtain ⟨xb, xo, A, C, e, l, hc, hp, q, qa⟩ := h i hi
  refine ⟨xb, xo, A, C, e, l, hc, hp, l, fun b o eA => ?_⟩
  obtain ⟨yb, yo, e2, hy, _, _⟩ := PairE.at_ hp (show 0 < N by omega)
  rw [eA] at e2
  cases e2
  exact hy
theorem OwnSS.toQ {w : World} {B : Nat} {c : Option Addr} {n m : Nat} {H C : Nat → Nat} {G : Nat → Nat → El} (h : OwnSS w B c n m H C (fun i => cA (G i)) (fun i => cB (G i))) (hN : n = 0 ∨ 1 ≤ m) : RowsQ (fun b => B ≤ b) w c n m G := by
  intro i hi
  obtain ⟨xb, xo, e, hb, hl, hc, ha⟩ := h.top i hi
  refine ⟨xb, xo, _, C i, e, hl, hc, OwnE.pairs (h.inn i hi), hb, fun b o eA => ?_⟩
  cases eA
  exact (h.above (by omega) i hi).1
/-- A source's box is none of a list's. -/
theorem OwnE.src4 {W : World} {B X : Nat} {c : Option Addr} {n : Nat} {f g : Nat → Int} {ff : Nat → Value} (h : OwnE W B c n f g) (r : W.rowIs X 31 4 ff) {W' : World} (k : Chg (fun b => b = X) W W') : OwnE W' B c n f g := by
  rcases h with h0 | ⟨b, N, hh, e, hb, hr, q⟩
  · exact .inl h0
  · have hne : ¬ b = X := fun e2 => by
      subst e2
      exact absurd (rowIs_kind hr r) (by decide)
    exact OwnE.chg (.inr ⟨b, N, hh, e, hb, hr, q⟩) k (fun b' _ ec e2 => hne (by rw [e] at ec; cases ec; exact e2))
theorem RowsE.toV {w : World} {c : Option Addr} {n N : Nat} {t : Nat → Nat → El} (h : RowsE w c n N t) : ∃ A C, RowsV w c n A (fun _ => N) C (fun i => cA (t i)) (fun i => cB (t i)) := by
  have h' : ∀ i, ∃ q : Option Addr × Nat, i < n → ∃ xb xo : Nat, c = some ⟨xb, xo, none⟩ ∧ xb < w.heap.size ∧ w.cell? ⟨xb, xo + i, none⟩ = some (.slice q.1 N q.2) ∧ PairE w q.1 N (t i) := fun i => by
    by_cases hi : i < n
    · obtain ⟨xb, xo, A, C, e, l, hc, hp⟩ := h i hi
      exact ⟨(A, C), fun _ => ⟨xb, xo, e, l, hc, hp⟩⟩
    · exact ⟨(none, 0), fun hh => absurd hh hi⟩
  refine ⟨fun i => (Classical.choose (h' i)).1, fun i => (Classical.choose (h' i)).2, fun i hi => ?_⟩
  obtain ⟨xb, xo, e, l, hc, hp⟩ := Classical.choose_spec (h' i) hi
  exact ⟨xb, xo, e, l, hc, hp⟩
theorem szSS_c (c : Option Addr) (n cap : Nat) (A : Nat → Option Addr) (L C : Nat → Nat) (f g : Nat → Nat → Int) (l : Int) (w : World) (h : Hid (RowsV w c n A L C f g)) (h0 : (n : Int) + (tot L n : Int) ≤ l) (h1 : l ≤ 1048576) :
    Calls Tryz.prog 5 #[.slice c n cap, .int .i64 l] w fun e w' => e = .returned (.int .i64 (l - n - tot L n)) ∧ Chg nob w w' :=
  (szSS_ok c n cap A L C f g l w h h0 h1).mono (fun e w' ⟨he, hw⟩ => ⟨he, by rw [hw]; exact Chg.refl _ _⟩)
theorem szSS_n (c : Option Addr) (n cap : Nat) (A : Nat → Option Addr) (L C : Nat → Nat) (f g : Nat → Nat → Int) (l : Int) (w : World) (h : Hid (RowsV w c n A L C f g)) (hL : Hid (∀ i, i < n → (L i : Int) ≤ 9223372036854775807)) (hn : (n : Int) ≤ 9223372036854775807) (h0 : l < (n : Int) + (tot L n : Int)) (h1 : 0 ≤ l) (h2 : l ≤ 1048576) :
    Calls Tryz.prog 5 #[.slice c n cap, .int .i64 l] w fun e w' => e = .returned (.int .i64 (-1)) ∧ Chg nob w w' :=
  (szSS_no c n cap A L C f g l w h hL hn h0 h1 h2).mono (fun e w' ⟨he, hw⟩ => ⟨he, by rw [hw]; exact Chg.refl _ _⟩)

end Go.Proofs.YtgiefpipflcbgaqGreatDoor

namespace Go.Proofs.YtgiefpipflcbgaqGreatDoor
open Go.ChangeShapes Go.WideShapes Go.ChangeAt Go.RowKit
set_option linter.unusedVariables false
set_option maxRecDepth 100000
set_option linter.unusedSimpArgs false

section
variable {w w' : World} {B B' : Nat} {t t' : TypeId} {z z' : Nat} {v v' : Value} {n n' : Nat} {xs xs' : List Value}
theorem owns_kind (h : w.ownsRow B t z v n xs) {g : Nat} (hg : v.ownBlock = some g) {N : Nat} {f : Nat → Value} (r : w.rowIs g t' N f) : t = t' := by
  rcases h.2 with ⟨rfl, _⟩ | ⟨g', cap, cur, rfl, _, hc, _⟩
  · cases hg
  · cases hg
    obtain ⟨c, hb, _⟩ := r
    have q := hc.symm.trans hb
    cases q
    rfl
theorem owns_apart (h : w.ownsRow B t z v n xs) (h' : w.ownsRow B' t' z' v' n' xs') (hne : t ≠ t') {g : Nat} (e : v.ownBlock = some g) : v'.ownBlock ≠ some g := fun e' => by
  rcases h.2 with ⟨rfl, _⟩ | ⟨g1, cap, cur, rfl, _, hc, _⟩
  · cases e
  · cases e
    rcases h'.2 with ⟨rfl, _⟩ | ⟨g2, cap', cur', rfl, _, hc', _⟩
    · cases e'
    · cases e'
      have q := hc.symm.trans hc'
      cases q
      exact hne rfl
theorem owns_ln (h : w.ownsRow B t z v n xs) : lnOf v = n := by
  rcases h.2 with ⟨rfl, rfl⟩ | ⟨g, cap, cur, rfl, _⟩ <;> rfl
theorem grown_chg (hg : w.grownBy w' v.ownBlock) : Chg (fun x => v.ownBlock = some x) w w' := (Chg.refl _ w).grown hg (fun k e _ => e)
end
/-- iR rounds of m elements, round j in block H j, and a point of iP elements that are being told. -/
structure RdI (B : Nat) (W : World) (m iR iP : Nat) (rr pp : Value) (H : Nat → Nat) (G : Nat → Nat → El) (R : Nat → El) : Prop where
  oR : W.ownsRow B 29 1 rr iR ((List.range iR).map (fun j => Value.slice (some ⟨H j, 0, none⟩) m m))
  oP : W.ownsRow B 45 2 pp iP ((List.range (iP * 2)).map (pf (cA R) (cB R)))
  inn : ∀ j, j < iR → B ≤ H j ∧ RowE W (H j) m (G j) ∧ pp.ownBlock ≠ some (H j)
  dis : ∀ i j, i < iR → j < iR → i ≠ j → H i ≠ H j
namespace RdI
variable {B : Nat} {W W' : World} {m iR iP : Nat} {rr pp : Value} {H : Nat → Nat} {G : Nat → Nat → El} {R : Nat → El}
theorem nil (B : Nat) (W : World) (m : Nat) (H : Nat → Nat) (G : Nat → Nat → El) (R : Nat → El) : RdI B W m 0 0 (.slice none 0 0) (.slice none 0 0) H G R :=
  ⟨World.ownsRow_nil _ _ _ _, World.ownsRow_nil _ _ _ _, fun j hj => absurd hj (by omega), fun i j hi => absurd hi (by omega)⟩
theorem chg {P : Nat → Prop} (h : RdI B W m iR iP rr pp H G R) (k : Chg P W W') (hp : ∀ b, B ≤ b → ¬ P b) : RdI B W' m iR iP rr pp H G R :=
  ⟨owns_far h.oR k hp, owns_far h.oP k hp, fun j hj => ⟨(h.inn j hj).1, (h.inn j hj).2.1.chg k (hp _ (h.inn j hj).1), (h.inn j hj).2.2⟩, h.dis⟩
theorem keep (h : RdI B W m iR iP rr pp H G R) (k : Chg nob W W') : RdI B W' m iR iP rr pp H G R := h.chg k (fun _ _ x => x)
theorem low (h : RdI B W m iR iP rr pp H G R) (g : Nat) (e : rr.ownBlock = some g ∨ pp.ownBlock = some g) : B ≤ g ∧ g < W.heap.size := by
  rcases e with e | e
  · exact h.oR.lt g e
  · exact h.oP.lt g e
/-- A round more. -/
theorem round {g' cap' b : Nat} (h : RdI B W m iR iP rr pp H G R) (hb : B ≤ b) (hr : RowE W b m (G iR)) (hne : pp.ownBlock ≠ some b) (hf : ∀ j, j < iR → H j ≠ b) (hg : W.grownBy W' rr.ownBlock)
    (ho : W'.ownsRow B 29 1 (.slice (some ⟨g', 0, none⟩) (iR + 1) cap') (iR + 1) ((List.range iR).map (fun j => Value.slice (some ⟨H j, 0, none⟩) m m) ++ [.slice (some ⟨b, 0, none⟩) m m])) :
    RdI B W' m (iR + 1) iP (.slice (some ⟨g', 0, none⟩) (iR + 1) cap') pp (fun j => if j = iR then b else H j) G R := by
  have k := grown_chg hg
  have hk : ∀ {x : Nat} {N : Nat} {t : Nat → El}, RowE W x N t → ¬ rr.ownBlock = some x := fun r e => absurd (owns_kind h.oR e r) (by decide)
  refine ⟨?_, h.oP.kept hg ?_, fun j hj => ?_, fun i j hi hj hij => ?_⟩
  · have e : (List.range (iR + 1)).map (fun j => Value.slice (some ⟨if j = iR then b else H j, 0, none⟩) m m) = (List.range iR).map (fun j => Value.slice (some ⟨H j, 0, none⟩) m m) ++ [.slice (some ⟨b, 0, none⟩) m m] := by
      rw [List.range_succ, List.map_append]
      congr 1
      · apply List.map_congr_left
        intro j hj
        have : j < iR := by simpa using hj
        rw [if_neg (by omega)]
      · simp
    rw [e]
    exact ho
  · cases q : pp.ownBlock with
    | none => exact .inl rfl
    | some g => exact .inr (fun e => owns_apart h.oP h.oR (by decide) q e.symm)
  · by_cases q : j = iR
    · subst q
      rw [if_pos rfl]
      exact ⟨hb, hr.chg k (hk hr), hne⟩
    · rw [if_neg q]
      obtain ⟨q1, q2, q3⟩ := h.inn j (by omega)
      exact ⟨q1, q2.chg k (hk q2), q3⟩
  · by_cases qi : i = iR
    · by_cases qj : j = iR
      · omega
      · rw [if_pos qi, if_neg qj]; exact fun e => hf j (by omega) e.symm
    · by_cases qj : j = iR
      · rw [if_neg qi, if_pos qj]; exact hf i (by omega)
      · rw [if_neg qi, if_neg qj]; exact h.dis i j (by omega) (by omega) hij
/-- An element of the point more. -/
theorem point {g' cap' : Nat} (h : RdI B W m iR iP rr pp H G R) (hg : W.grownBy W' pp.ownBlock) (hat : pp.ownBlock = some g' ∨ g' = W.heap.size)
    (ho : W'.ownsRow B 45 2 (.slice (some ⟨g', 0, none⟩) (iP + 1) cap') (iP + 1) ((List.range (iP * 2)).map (pf (cA R) (cB R)) ++ [.int .i64 (R iP).v.1, .int .i64 (R iP).v.2])) :
    RdI B W' m iR (iP + 1) rr (.slice (some ⟨g', 0, none⟩) (iP + 1) cap') H G R := by
  have k := grown_chg hg
  refine ⟨h.oR.kept hg ?_, by rw [← flPair]; exact ho, fun j hj => ?_, h.dis⟩
  · cases q : rr.ownBlock with
    | none => exact .inl rfl
    | some g => exact .inr (fun e => owns_apart h.oR h.oP (by decide) q e.symm)
  · obtain ⟨q1, q2, q3⟩ := h.inn j hj
    refine ⟨q1, q2.chg k q3, fun e => ?_⟩
    have e' : g' = H j := by simpa [Value.ownBlock] using e
    rcases hat with q | q
    · exact q3 (by rw [q, e'])
    · have := q2.lt
      omega
/-- What is told, as lists of the call's own. -/
theorem told {B0 : Nat} (h : RdI B W m iR iP rr pp H G R) (hB : B0 ≤ B) (hm : 1 ≤ m) : ∃ cR capR cP capP, rr = .slice cR iR capR ∧ pp = .slice cP iP capP ∧ OwnSS W B0 cR iR m H (fun _ => m) (fun i => cA (G i)) (fun i => cB (G i)) ∧ OwnE W B0 cP iP (cA R) (cB R) ∧ (∀ b, BlkS cR iR H b → ¬ BlkE cP b) ∧ (∀ b, BlkS cR iR H b → B ≤ b ∧ b < W.heap.size) ∧ (∀ b, BlkE cP b → B ≤ b ∧ b < W.heap.size) := by
  obtain ⟨cP, capP, eP, _, oE⟩ := OwnE.of_owns h.oP
  have hform : ∃ cR capR, rr = .slice cR iR capR := by
    rcases h.oR.2 with ⟨e, e0⟩ | ⟨g, cap, cur, e, _⟩
    · exact ⟨none, 0, by rw [e, e0]⟩
    · exact ⟨_, cap, e⟩
  obtain ⟨cR, capR, eR⟩ := hform
  have hP : ∀ b, BlkE cP b → pp.ownBlock = some b := fun b ⟨o, e⟩ => by rw [eP, e]; rfl
  have hR : ∀ b o, cR = some ⟨b, o, none⟩ → rr.ownBlock = some b := fun b o e => by rw [eR, e]; rfl
  refine ⟨cR, capR, cP, capP, eR, eP, ⟨fun i hi => ?_, fun i hi => ?_, h.dis⟩, oE.low hB, fun b hb he => ?_, fun b hb => ?_, fun b hb => h.oP.lt b (hP b hb)⟩
  · rcases h.oR.2 with ⟨e, e0⟩ | ⟨g, cap, cur, e, hb, hc, _⟩
    · omega
    · have ec : cR = some ⟨g, 0, none⟩ := by rw [eR] at e; simp at e; exact e.1
      have hlt := h.oR.lt g (hR g 0 ec)
      have hcell := h.oR.cells (g := g) (hR g 0 ec) i (.slice (some ⟨H i, 0, none⟩) m m) (by rw [List.getElem?_map, List.getElem?_range hi]; rfl)
      rw [Go.WideShapes.add_plain] at hcell
      exact ⟨g, 0, ec, Nat.le_trans hB hb, hlt.2, hcell, fun j hj e2 => absurd (owns_kind h.oR (hR g 0 ec) (e2 ▸ (h.inn j hj).2.1)) (by decide)⟩
  · exact (h.inn i hi).2.1.own (Nat.le_trans hB (h.inn i hi).1)
  · rcases hb with ⟨o, e⟩ | ⟨i, hi, e⟩
    · exact owns_apart h.oR h.oP (by decide) (hR b o e) (hP b he)
    · subst e
      exact (h.inn i hi).2.2 (hP _ he)
  · rcases hb with ⟨o, e⟩ | ⟨i, hi, e⟩
    · exact h.oR.lt b (hR b o e)
    · subst e
      exact ⟨(h.inn i hi).1, (h.inn i hi).2.1.lt⟩
end RdI

end Go.Proofs.YtgiefpipflcbgaqGreatDoor
