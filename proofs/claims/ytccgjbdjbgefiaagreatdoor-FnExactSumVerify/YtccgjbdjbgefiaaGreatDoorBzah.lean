/- Several texts in one: What the laws' helpers on sources do: contracts. Conditions: rows that can be read, lengths of at most 2 to the 40. · What the model's look at tables, its SumOf and its RoundOf answer: contracts. Conditions: lists that can be read, of at most 2 to the 40. · What the model's SumProve answers: a contract. Conditions: lists that can be read, of at most 2 to the 40. · What a program's SumProve and SumVerify are asked for: answers of their own, in blocks of their own. No condition but those that each theorem states. -/
import Derived.Test.YtccgjbdjbgefiaaGreatDoorBzab
import Derived.Deep.QuietTactic
import Derived.Deep.RegionHeld3
import Derived.BigQuiet
import Derived.Test.YtccgjbdjbgefiaaGreatDoorBzak
import Derived.Test.YtccgjbdjbgefiaaGreatDoorBzaj
import Derived.Test.YtccgjbdjbgefiaaGreatDoorBzaw
import Derived.Test.YtccgjbdjbgefiaaGreatDoorBzax
import Derived.Test.YtccgjbdjbgefiaaGreatDoorBzaq
import Derived.Test.YtccgjbdjbgefiaaGreatDoorBzas
import Derived.Test.YtccgjbdjbgefiaaGreatDoorBzag
namespace Go.Proofs.YtccgjbdjbgefiaaGreatDoor
open Go.ChangeShapes Go.WideShapes Go.ChangeAt Go.RowKit
set_option linter.unusedVariables false
set_option maxRecDepth 100000
set_option linter.unusedSimpArgs false

/-- A source in memory of its own. -/
def CopiedS (w : World) (n : Nat) (f g : Nat → Int) (at' : Int) (st : ByteArray) (ct : Int) (e : Ending) (w' : World) : Prop :=
  ∃ b : Nat, w.heap.size ≤ b ∧ e = .returned (.agg #[.slice (some ⟨b, 0, none⟩) n n, .int .i64 at', .string st, .int .i64 ct]) ∧ w'.rowIs b 31 (n * 2) (pf f g) ∧ Chg nob w w'

set_option maxRecDepth 100000 in
set_option maxHeartbeats 2000000 in
theorem toSource_any (c : Option Addr) (n cap : Nat) (f g : Nat → Int) (at' : Int) (st : ByteArray) (ct : Int) (w : World) (h : Hid (PairV w c n f g)) (hn : n ≤ 1099511627776) :
    Calls Tryz.prog 9 #[.agg #[.slice c n cap, .int .i64 at', .string st, .int .i64 ct]] w fun e w' => CopiedS w n f g at' st ct e w' := by
  go_enter Tryz.func9, Tryz.ntmps9
  go_wp2_with (go_at_call 29; refine (toExtS_any c n cap f g _ (hik (h.out.keep ((((Chg.refl nob w).alloc _).alloc _).alloc _))) hn).mono ?_; rintro e W1 ⟨he, hr, k1⟩; subst he; have HR := hik hr; have K1 := hik k1; obtain ⟨hc1, hf1, hz1⟩ := kcell k1 (w.heap.size + 3) (by simp); clear k1 hr)
  have R2 := hik (rowIs_keep (row4_new ((w.alloc (.cells #[.slice c n cap, .int .i64 at', .string st, .int .i64 ct] 27)).alloc (.cells #[.slice none 0 0, .int .i64 0, .string ⟨#[]⟩, .int .i64 0] 33)) (.slice none 0 0) (.int .i64 0) (.string ⟨#[]⟩) (.int .i64 0) 33) K1.out)
  have R1 := hik (rowIs_keep (World.rowIs.alloc (row4_new (w.alloc (.cells #[.slice c n cap, .int .i64 at', .string st, .int .i64 ct] 27)) (.slice none 0 0) (.int .i64 0) (.string ⟨#[]⟩) (.int .i64 0) 33) (.cells #[.slice none 0 0, .int .i64 0, .string ⟨#[]⟩, .int .i64 0] 33)) K1.out)
  have R3 : Hid (((((W1.setCell ⟨w.heap.size + 1 + 1, 0, none⟩ (.slice (some ⟨w.heap.size + 1 + 1 + 1, 0, none⟩) n n)).setCell ⟨w.heap.size + 1 + 1, 1, none⟩ (.int .i64 at')).setCell ⟨w.heap.size + 1 + 1, 2, none⟩ (.string st)).setCell ⟨w.heap.size + 1 + 1, 3, none⟩ (.int .i64 ct)).rowIs (w.heap.size + 1) 33 4 (pv4 (.slice none 0 0) (.int .i64 0) (.string ⟨#[]⟩) (.int .i64 0))) := hik (row4_other (by simpa using R1.out) (by omega) _ _ _ _)
  have G0 : Hid (Chg nob w W1) := hik (((((Chg.refl nob w).alloc _).alloc _).alloc _).trans K1.out)
  exact bodyPost_ret (v := .agg #[.slice (some ⟨w.heap.size + 1 + 1 + 1, 0, none⟩) n n, .int .i64 at', .string st, .int .i64 ct]) (by simp [results, Tryz.results9, go_sem, row4_s0 R3.out (.slice (some ⟨w.heap.size + 1 + 1 + 1, 0, none⟩) n n), row4_s1 R3.out (.slice (some ⟨w.heap.size + 1 + 1 + 1, 0, none⟩) n n) (.int .i64 at'), row4_s2 R3.out (.slice (some ⟨w.heap.size + 1 + 1 + 1, 0, none⟩) n n) (.int .i64 at') (.string st), row4_s3 R3.out (.slice (some ⟨w.heap.size + 1 + 1 + 1, 0, none⟩) n n) (.int .i64 at') (.string st) (.int .i64 ct)]) rfl ⟨_, by omega, rfl, row4_other (row4_other (by simpa using HR.out) (by omega) _ _ _ _) (by omega) _ _ _ _, chg4_set (chg4_set G0.out _ (fun l => absurd l (by omega)) _ _ _ _) _ (fun l => absurd l (by omega)) _ _ _ _⟩

set_option maxHeartbeats 1000000 in
theorem szSource_ok (c : Option Addr) (n cap : Nat) (at' : Int) (st : ByteArray) (ct l : Int) (w : World) (h0 : (n : Int) + (st.size : Int) ≤ l) (h1 : l ≤ 1048576) :
    Calls Tryz.prog 5 #[.agg #[.slice c n cap, .int .i64 at', .string st, .int .i64 ct], .int .i64 l] w fun e w' => e = .returned (.int .i64 (l - n - st.size)) ∧ Chg nob w w' := by
  have h2 : ¬ l - (n : Int) < 0 := by omega
  have h3 : ¬ l - (n : Int) - (st.size : Int) < 0 := by omega
  have hs : (st.size : Int) ≤ 9223372036854775807 := by omega
  go_enter Tryz.func5, Tryz.ntmps5
  go_wp2_with (go_at_call 20; refine (szExtS_ok _ _ _ _ _ (by omega) (by omega)).mono ?_; rintro e w' ⟨rfl, rfl⟩)
  go_ret
  exact ⟨rfl, (Chg.refl _ _).alloc _⟩

set_option maxHeartbeats 1000000 in
theorem szSource_no (c : Option Addr) (n cap : Nat) (at' : Int) (st : ByteArray) (ct l : Int) (w : World) (h0 : l < (n : Int) + (st.size : Int)) (h1 : l ≤ 1048576) (hl : 0 ≤ l) (hn : (n : Int) ≤ 9223372036854775807) (hs : (st.size : Int) ≤ 9223372036854775807) :
    Calls Tryz.prog 5 #[.agg #[.slice c n cap, .int .i64 at', .string st, .int .i64 ct], .int .i64 l] w fun e w' => e = .returned (.int .i64 (-1)) ∧ Chg nob w w' := by
  by_cases h2 : l < (n : Int)
  · go_enter Tryz.func5, Tryz.ntmps5
    go_wp2_with (go_at_call 20; refine (szExtS_no _ _ _ _ _ h2 hl hn).mono ?_; rintro e w' ⟨rfl, rfl⟩)
    go_ret
    exact ⟨rfl, (Chg.refl _ _).alloc _⟩
  · have h3 : ¬ l - (n : Int) < 0 := by omega
    have h4 : l - (n : Int) - (st.size : Int) < 0 := by omega
    go_enter Tryz.func5, Tryz.ntmps5
    go_wp2_with (go_at_call 20; refine (szExtS_ok _ _ _ _ _ (by omega) (by omega)).mono ?_; rintro e w' ⟨rfl, rfl⟩)
    go_ret
    exact ⟨rfl, (Chg.refl _ _).alloc _⟩

set_option maxHeartbeats 1000000 in
theorem eqSource_any (c d : Option Addr) (n m cap cap' : Nat) (f g f' g' : Nat → Int) (at' : Int) (st : ByteArray) (ct : Int) (w : World) (h : Hid (PairV w c n f g)) (h' : Hid (PairV w d m f' g')) (hm : n = m) (he : ∀ i, i < n → f i = f' i ∧ g i = g' i) (hn : n ≤ 1099511627776) :
    Calls Tryz.prog 13 #[.agg #[.slice c n cap, .int .i64 at', .string st, .int .i64 ct], .agg #[.slice d m cap', .int .i64 at', .string st, .int .i64 ct]] w fun e w' => e = .returned (.bool true) ∧ Chg nob w w' := by
  subst hm
  go_enter Tryz.func13, Tryz.ntmps13
  go_wp2_with fail
  refine (eqExtS_any c d n n cap cap' f g f' g' _ (hik (h.out.keep (((Chg.refl nob w).alloc _).alloc _))) (hik (h'.out.keep (((Chg.refl nob w).alloc _).alloc _))) rfl he hn).mono ?_
  rintro e W1 ⟨rfl, k1⟩
  have G1 := hik ((((Chg.refl nob w).alloc (.cells #[.slice c n cap, .int .i64 at', .string st, .int .i64 ct] 33)).alloc (.cells #[.slice d n cap', .int .i64 at', .string st, .int .i64 ct] 33)).trans k1)
  have x1 : W1.cell? ⟨w.heap.size, 1, none⟩ = some (.int .i64 at') := k1.look (by go_simp)
  have x2 : W1.cell? ⟨w.heap.size, 2, none⟩ = some (.string st) := k1.look (by go_simp)
  have x3 : W1.cell? ⟨w.heap.size, 3, none⟩ = some (.int .i64 ct) := k1.look (by go_simp)
  have y1 : W1.cell? ⟨w.heap.size + 1, 1, none⟩ = some (.int .i64 at') := k1.look (by go_simp)
  have y2 : W1.cell? ⟨w.heap.size + 1, 2, none⟩ = some (.string st) := k1.look (by go_simp)
  have y3 : W1.cell? ⟨w.heap.size + 1, 3, none⟩ = some (.int .i64 ct) := k1.look (by go_simp)
  clear k1
  go_wp2
  go_ret
  exact ⟨rfl, G1.out⟩


end Go.Proofs.YtccgjbdjbgefiaaGreatDoor

namespace Go.Proofs.YtccgjbdjbgefiaaGreatDoor
open Go.ChangeShapes Go.WideShapes Go.ChangeAt Go.RowKit
set_option linter.unusedVariables false
set_option maxRecDepth 100000
set_option linter.unusedSimpArgs false


end Go.Proofs.YtccgjbdjbgefiaaGreatDoor

namespace Go.Proofs.YtccgjbdjbgefiaaGreatDoor
open Go.ChangeShapes Go.WideShapes Go.ChangeAt Go.RowKit
set_option linter.unusedVariables false
set_option maxRecDepth 100000
set_option linter.unusedSimpArgs false

/-- Rounds, a point, values, a source and a code, to be read. -/
def PxAns (w : World) (q : Int) (nR m nV nS : Nat) (G : Nat → Nat → El) (R V : Nat → El) (fs gs : Nat → Int) (a : Int) (s : ByteArray) (c : Int) (e : Ending) (w' : World) : Prop :=
  ∃ (cR : Option Addr) (capR : Nat) (cP : Option Addr) (capP : Nat) (cV : Option Addr) (capV : Nat) (cS : Option Addr) (capS : Nat), e = .returned (.tuple #[.slice cR nR capR, .slice cP nR capP, .slice cV nV capV, .agg #[.slice cS nS capS, .int .i64 a, .string s, .int .i64 c], .int .i64 q]) ∧ RowsQ (fun b => w.heap.size ≤ b) w' cR nR m G ∧ OwnE w' w.heap.size cP nR (cA R) (cB R) ∧ OwnE w' w.heap.size cV nV (cA V) (cB V) ∧ OwnE w' w.heap.size cS nS fs gs ∧ Chg nob w w'
theorem PxAns.zero {w w' : World} {q q' : Int} {nR m nV nS : Nat} {G : Nat → Nat → El} {R V : Nat → El} {fs gs : Nat → Int} {a : Int} {s : ByteArray} {c : Int} {e : Ending} {c1 c2 c3 : Option Addr} {p1 p2 p3 : Nat} (hq : q = q') (h0 : ¬ q' = 0) (he : e = .returned (.tuple #[.slice c1 0 p1, .slice c2 0 p2, .slice c3 0 p3, .agg #[.slice none 0 0, .int .i64 0, .string ⟨#[]⟩, .int .i64 0], .int .i64 q'])) (k : Chg nob w w') :
    PxAns w q (scn q nR) (scn q m) (scn q nV) (scn q nS) G R V fs gs (scI q a) (scS q s) (scI q c) e w' := by
  subst hq
  have e1 : ∀ n, scn q n = 0 := fun n => if_neg h0
  have e2 : ∀ a, scI q a = 0 := fun a => if_neg h0
  have e3 : ∀ s, scS q s = ⟨#[]⟩ := fun s => if_neg h0
  rw [e1, e1, e1, e1, e2, e2, e3]
  exact ⟨c1, p1, c2, p2, c3, p3, none, 0, he, fun i hi => absurd hi (by omega), .inl rfl, .inl rfl, .inl rfl, k⟩
theorem PxAns.full {w w' : World} {q : Int} {nR m nV nS : Nat} {G : Nat → Nat → El} {R V : Nat → El} {fs gs : Nat → Int} {a : Int} {s : ByteArray} {c : Int} {e : Ending} {c1 c2 c3 c4 : Option Addr} {p1 p2 p3 p4 : Nat} (hq : q = 0) (he : e = .returned (.tuple #[.slice c1 nR p1, .slice c2 nR p2, .slice c3 nV p3, .agg #[.slice c4 nS p4, .int .i64 a, .string s, .int .i64 c], .int .i64 0])) (h1 : RowsQ (fun b => w.heap.size ≤ b) w' c1 nR m G) (h2 : OwnE w' w.heap.size c2 nR (cA R) (cB R)) (h3 : OwnE w' w.heap.size c3 nV (cA V) (cB V)) (h4 : OwnE w' w.heap.size c4 nS fs gs) (k : Chg nob w w') :
    PxAns w q (scn q nR) (scn q m) (scn q nV) (scn q nS) G R V fs gs (scI q a) (scS q s) (scI q c) e w' := by
  subst hq
  exact ⟨c1, p1, c2, p2, c3, p3, c4, p4, he, h1, h2, h3, h4, k⟩


end Go.Proofs.YtccgjbdjbgefiaaGreatDoor

namespace Go.Proofs.YtccgjbdjbgefiaaGreatDoor
open Go.ChangeShapes Go.WideShapes Go.ChangeAt Go.RowKit
set_option linter.unusedVariables false
set_option maxRecDepth 100000
set_option linter.unusedSimpArgs false

/-- The blocks of lists of lists. -/
def BlkS (c : Option Addr) (n : Nat) (H : Nat → Nat) (b : Nat) : Prop := (∃ o, c = some ⟨b, o, none⟩) ∨ ∃ i, i < n ∧ b = H i
/-- A list's block. -/
def BlkE (c : Option Addr) (b : Nat) : Prop := ∃ o, c = some ⟨b, o, none⟩
/-- A point, a claim, a source and a code, of the call's own. -/
def VIAns (w : World) (q : Int) (nP nS : Nat) (R : Nat → El) (fs gs : Nat → Int) (y1 y2 a : Int) (s : ByteArray) (c : Int) (e : Ending) (w' : World) : Prop :=
  ∃ (cP : Option Addr) (capP : Nat) (cS : Option Addr) (capS : Nat), e = .returned (.tuple #[.slice cP nP capP, .agg #[.int .i64 y1, .int .i64 y2], .agg #[.slice cS nS capS, .int .i64 a, .string s, .int .i64 c], .int .i64 q]) ∧ OwnE w' w.heap.size cP nP (cA R) (cB R) ∧ OwnE w' w.heap.size cS nS fs gs ∧ (∀ b, BlkE cP b → ¬ BlkE cS b) ∧ Chg nob w w'
/-- Lists' blocks lie below the heap's end. -/
theorem RowsQ.lt {Q : Nat → Prop} {w : World} {c : Option Addr} {n N : Nat} {t : Nat → Nat → El} (h : RowsQ Q w c n N t) (hN : n = 0 ∨ 1 ≤ N) : RowsQ (fun b => b < w.heap.size) w c n N t := by
  intro i hi
  obtain ⟨xb, xo, A, C, e, l, hc, hp, q, qa⟩ := h i hi
  refine ⟨xb, xo, A, C, e, l, hc, hp, l, fun b o eA => ?_⟩
  obtain ⟨yb, yo, e2, hy, _, _⟩ := PairE.at_ hp (show 0 < N by omega)
  rw [eA] at e2
  cases e2
  exact hy
theorem szSS_c (c : Option Addr) (n cap : Nat) (A : Nat → Option Addr) (L C : Nat → Nat) (f g : Nat → Nat → Int) (l : Int) (w : World) (h : Hid (RowsV w c n A L C f g)) (h0 : (n : Int) + (tot L n : Int) ≤ l) (h1 : l ≤ 1048576) :
    Calls Tryz.prog 4 #[.slice c n cap, .int .i64 l] w fun e w' => e = .returned (.int .i64 (l - n - tot L n)) ∧ Chg nob w w' :=
  (szSS_ok c n cap A L C f g l w h h0 h1).mono (fun e w' ⟨he, hw⟩ => ⟨he, by rw [hw]; exact Chg.refl _ _⟩)
theorem szSS_n (c : Option Addr) (n cap : Nat) (A : Nat → Option Addr) (L C : Nat → Nat) (f g : Nat → Nat → Int) (l : Int) (w : World) (h : Hid (RowsV w c n A L C f g)) (hL : Hid (∀ i, i < n → (L i : Int) ≤ 9223372036854775807)) (hn : (n : Int) ≤ 9223372036854775807) (h0 : l < (n : Int) + (tot L n : Int)) (h1 : 0 ≤ l) (h2 : l ≤ 1048576) :
    Calls Tryz.prog 4 #[.slice c n cap, .int .i64 l] w fun e w' => e = .returned (.int .i64 (-1)) ∧ Chg nob w w' :=
  (szSS_no c n cap A L C f g l w h hL hn h0 h1 h2).mono (fun e w' ⟨he, hw⟩ => ⟨he, by rw [hw]; exact Chg.refl _ _⟩)

end Go.Proofs.YtccgjbdjbgefiaaGreatDoor
