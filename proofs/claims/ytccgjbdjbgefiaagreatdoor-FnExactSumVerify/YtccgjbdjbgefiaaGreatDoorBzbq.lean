/- Several texts in one: Lists of lists that come in as an argument: what their cells hold. No condition but those that each theorem states. · What the program's SumVerify answers: a contract. Conditions: lists that can be read. · The walk of the law of SumVerify. -/
import Derived.Test.YtccgjbdjbgefiaaGreatDoorBzag
import Derived.Deep.SlicePairs
import Derived.OpenShut
import Derived.Test.YtccgjbdjbgefiaaGreatDoorBzbl
import Derived.Test.YtccgjbdjbgefiaaGreatDoorBzah
import Derived.Test.YtccgjbdjbgefiaaGreatDoorBzba
import Derived.Test.YtccgjbdjbgefiaaGreatDoorBzbr
import Derived.Test.YtccgjbdjbgefiaaGreatDoorBzad
import Derived.Test.YtccgjbdjbgefiaaGreatDoorBzaf
import Derived.Test.YtccgjbdjbgefiaaGreatDoorBzan
import Derived.Deep.DeepCutAuto
import Derived.Deep.RegionHeld3
namespace Go.Proofs.YtccgjbdjbgefiaaGreatDoor
open Go.ChangeShapes Go.WideShapes Go.ChangeAt Go.RowKit Go.Deep
set_option linter.unusedVariables false
set_option maxRecDepth 100000
set_option linter.unusedSimpArgs false

/-- Lists of lists that came in. -/
def IsRows (w : World) (c : Option Addr) (n : Nat) (A : Nat → Option Addr) (L C : Nat → Nat) (f g : Nat → Nat → Int) : Prop :=
  (n : Int) ≤ 9223372036854775807 ∧ RowsV w c n A L C f g ∧ ∀ i, i < n → (L i : Int) ≤ 9223372036854775807
theorem cellsL2 : Tryz.prog.cellsOf 23 = 2 := by kernel_rfl
theorem cellsL1 : Tryz.prog.cellsOf 3 = 1 := by kernel_rfl
theorem cellsLS : Tryz.prog.cellsOf 25 = 1 := by kernel_rfl

section
variable {H : Type} {enc : TypeId × Value → H} {w : World} {base : Nat} {spare : Nat → Bool} {held : Bool}
theorem open_list {fuel : Nat} {v : Value} {x : DataW H × List MemPlace} (hf : DataW.trod enc Tryz.prog w base spare held fuel 25 [v] = some x) :
    ∃ q : (Option Addr × Nat × Nat) × (Nat → Int) × (Nat → Int), v = .slice q.1.1 q.1.2.1 q.1.2.2 ∧ IsPairs w q.1.1 q.1.2.1 q.1.2.2 q.2.1 q.2.2 := by
  rcases open_slice_pairs Tryz.underlying25 Tryz.underlying23 cellsL2 rfl rfl cellsL1 cellsL1 hf with ⟨hcs, _⟩ | ⟨x, l, c, m, n, V0, V1, D0, D1, P0, P1, hcs, _, hl, hm, hmm, _, hall⟩
  · simp at hcs
    subst hcs
    exact ⟨((none, 0, 0), (fun _ => 0), (fun _ => 0)), rfl, .inl ⟨rfl, rfl, rfl⟩⟩
  · simp at hcs
    subst hcs
    have hlm : l ≤ m := by rw [hmm]; split <;> omega
    refine ⟨((some x, l, c), (fun i => cint (w.cell? (x.add (i * 2)))), (fun i => cint (w.cell? (x.add (i * 2 + 1))))), rfl, .inr ⟨x, rfl, hl, hm, fun i hi => ?_⟩⟩
    have hi' : i < l := hi
    obtain ⟨h1, h2, h3, h4⟩ := hall i (by omega)
    obtain ⟨a, ea, _, _⟩ := DataW.trod_int Tryz.underlying3 h3
    obtain ⟨b, eb, _, _⟩ := DataW.trod_int Tryz.underlying3 h4
    simp at ea eb
    rw [ea] at h1
    rw [eb] at h2
    simp [h1, h2, cint]

theorem open_rows {fuel : Nat} {c : Option Addr} {n cap : Nat} {x : DataW H × List MemPlace} (hf : DataW.trod enc Tryz.prog w base spare held fuel 24 [.slice c n cap] = some x) :
    ∃ A L C f g, IsRows w c n A L C f g := by
  rcases open_slice1 Tryz.underlying24 cellsLS hf with ⟨hcs, _⟩ | ⟨a, l, cp, m, k, V, D, Pl, hcs, _, hl, hm, hmm, _, hall⟩
  · simp at hcs
    obtain ⟨rfl, rfl, rfl⟩ := hcs
    exact ⟨fun _ => none, fun _ => 0, fun _ => 0, fun _ _ => 0, fun _ _ => 0, by omega, fun i hi => absurd hi (by omega), fun i hi => absurd hi (by omega)⟩
  · simp at hcs
    obtain ⟨rfl, rfl, rfl⟩ := hcs
    have hlm : n ≤ m := by rw [hmm]; split <;> omega
    obtain ⟨q, hq⟩ := choose_lt (α := (Option Addr × Nat × Nat) × (Nat → Int) × (Nat → Int)) (n := n) (p := fun i q => w.cell? (a.add i) = some (.slice q.1.1 q.1.2.1 q.1.2.2) ∧ IsPairs w q.1.1 q.1.2.1 q.1.2.2 q.2.1 q.2.2) (fun i hi => by
      obtain ⟨h1, h2⟩ := hall i (by omega)
      obtain ⟨q, e, hp⟩ := open_list h2
      rw [e] at h1
      exact ⟨q, h1, hp⟩)
    unfold maxLen at hm
    refine ⟨fun i => (q i).1.1, fun i => (q i).1.2.1, fun i => (q i).1.2.2, fun i => (q i).2.1, fun i => (q i).2.2, by omega, fun i hi => ?_, fun i hi => (pairs_of (hq i hi).2).2⟩
    obtain ⟨h1, h2⟩ := hq i hi
    obtain ⟨b, o, spot⟩ := a
    have hs : spot = none := by simpa [Addr.add] using World.cell?_spot (hq 0 (by omega)).1
    subst hs
    rw [Go.WideShapes.add_plain] at h1
    exact ⟨b, o, rfl, block_lt_of_cell h1, h1, (pairs_of h2).1⟩
end

end Go.Proofs.YtccgjbdjbgefiaaGreatDoor

namespace Go.Proofs.YtccgjbdjbgefiaaGreatDoor
open Go.ChangeShapes Go.WideShapes Go.ChangeAt Go.RowKit
set_option linter.unusedVariables false
set_option maxRecDepth 100000
set_option linter.unusedSimpArgs false

theorem VIAns.zero {w w' : World} {q q' : Int} {nP nS : Nat} {R : Nat → El} {fs gs : Nat → Int} {y1 y2 a : Int} {s : ByteArray} {c : Int} {e : Ending} (hq : q = q') (h0 : ¬ q' = 0) (he : e = .returned (.tuple #[.slice none 0 0, .agg #[.int .i64 0, .int .i64 0], .agg #[.slice none 0 0, .int .i64 0, .string ⟨#[]⟩, .int .i64 0], .int .i64 q'])) (k : Chg nob w w') :
    VIAns w q (scn q nP) (scn q nS) R fs gs (scI q y1) (scI q y2) (scI q a) (scS q s) (scI q c) e w' := by
  subst hq
  have e1 : ∀ n, scn q n = 0 := fun n => if_neg h0
  have e2 : ∀ a, scI q a = 0 := fun a => if_neg h0
  have e3 : ∀ s, scS q s = ⟨#[]⟩ := fun s => if_neg h0
  rw [e1, e1, e2, e2, e2, e2, e3]
  exact ⟨none, 0, none, 0, he, .inl rfl, .inl rfl, fun b hb ⟨o, e⟩ => (by cases e), k⟩
theorem VIAns.full {w w' : World} {q : Int} {nP nS : Nat} {R : Nat → El} {fs gs : Nat → Int} {y1 y2 a : Int} {s : ByteArray} {c : Int} {e : Ending} (hq : q = 0) (h : VIAns w 0 nP nS R fs gs y1 y2 a s c e w') : VIAns w q (scn q nP) (scn q nS) R fs gs (scI q y1) (scI q y2) (scI q a) (scS q s) (scI q c) e w' := by
  subst hq
  exact h

set_option maxHeartbeats 4000000 in
theorem verZ_any (K x1 x2 : Int) (c : Option Addr) (m cap : Nat) (A : Nat → Option Addr) (L C : Nat → Nat) (f g : Nat → Nat → Int) (vars : Int) (cs : Option Addr) (len caps : Nat) (fs gs : Nat → Int) (at' : Int) (st : ByteArray) (ct : Int) (w : World) (h : Hid (RowsV w c m A L C f g)) (hL : Hid (∀ i, i < m → L i ≤ 1099511627776)) (hn : m ≤ 1099511627776) (hs : Hid (PairV w cs len fs gs)) (hl : (len : Int) ≤ 9223372036854775807) (hst : (st.size : Int) ≤ 9223372036854775807) (ht : Hid (Tabs w)) (hq : ¬ (vcc K x1 x2 m L f g vars fs gs len at' st ct) = 0) :
    Calls Tryz.prog 10 #[.int .i64 K, .agg #[.int .i64 x1, .int .i64 x2], .slice c m cap, .int .i64 vars, .agg #[.slice cs len caps, .int .i64 at', .string st, .int .i64 ct]] w fun e w' => VIAns w (svc8 K x1 x2 m L f g vars fs gs len at' st ct) (scn (svc8 K x1 x2 m L f g vars fs gs len at' st ct) m) (scn (svc8 K x1 x2 m L f g vars fs gs len at' st ct) len) (vpt fs gs len (K.toNat + 2) (fun i => elF (f i) (g i)) ⟨elP x1 x2, at', st, ct⟩) fs gs (scI (svc8 K x1 x2 m L f g vars fs gs len at' st ct) (vst fs gs len (K.toNat + 2) (fun i => elF (f i) (g i)) ⟨elP x1 x2, at', st, ct⟩ m).x.v.1) (scI (svc8 K x1 x2 m L f g vars fs gs len at' st ct) (vst fs gs len (K.toNat + 2) (fun i => elF (f i) (g i)) ⟨elP x1 x2, at', st, ct⟩ m).x.v.2) (scI (svc8 K x1 x2 m L f g vars fs gs len at' st ct) (vst fs gs len (K.toNat + 2) (fun i => elF (f i) (g i)) ⟨elP x1 x2, at', st, ct⟩ m).a) (scS (svc8 K x1 x2 m L f g vars fs gs len at' st ct) (vst fs gs len (K.toNat + 2) (fun i => elF (f i) (g i)) ⟨elP x1 x2, at', st, ct⟩ m).s) (scI (svc8 K x1 x2 m L f g vars fs gs len at' st ct) (vst fs gs len (K.toNat + 2) (fun i => elF (f i) (g i)) ⟨elP x1 x2, at', st, ct⟩ m).c) e w' := by
  have HQ := hik (show (svc8 K x1 x2 m L f g vars fs gs len at' st ct) = (vcc K x1 x2 m L f g vars fs gs len at' st ct) by rw [vcc_svc, if_neg hq])
  obtain ⟨q, hqq⟩ : ∃ q, q = (vcc K x1 x2 m L f g vars fs gs len at' st ct) := ⟨_, rfl⟩
  rw [← hqq] at hq HQ
  have HQQ := hik hqq.symm
  clear hqq
  have H0 := hik hq
  have hb : (q != 0) = true := bne_iff_ne.2 hq
  have F0 : Hid (ElB ((((w.alloc (.cells #[.int .i64 x1, .int .i64 x2] 31)).alloc (.cells #[.slice cs len caps, .int .i64 at', .string st, .int .i64 ct] 33)).alloc (.cells #[.int .i64 0, .int .i64 0] 31)).alloc (.cells #[.slice none 0 0, .int .i64 0, .string ⟨#[]⟩, .int .i64 0] 33)) (w.heap.size + 1 + 1) El.zr) := hik (by simpa using (ElB.zero ((w.alloc (.cells #[.int .i64 x1, .int .i64 x2] 31)).alloc (.cells #[.slice cs len caps, .int .i64 at', .string st, .int .i64 ct] 33))).keep ((Chg.refl nob _).alloc (.cells #[.slice none 0 0, .int .i64 0, .string ⟨#[]⟩, .int .i64 0] 33)))
  have Y0 : Hid (((((w.alloc (.cells #[.int .i64 x1, .int .i64 x2] 31)).alloc (.cells #[.slice cs len caps, .int .i64 at', .string st, .int .i64 ct] 33)).alloc (.cells #[.int .i64 0, .int .i64 0] 31)).alloc (.cells #[.slice none 0 0, .int .i64 0, .string ⟨#[]⟩, .int .i64 0] 33)).rowIs (w.heap.size + 1 + 1 + 1) 33 4 (pv4 (.slice none 0 0) (.int .i64 0) (.string ⟨#[]⟩) (.int .i64 0))) := hik (by simpa using row4_new (((w.alloc (.cells #[.int .i64 x1, .int .i64 x2] 31)).alloc (.cells #[.slice cs len caps, .int .i64 at', .string st, .int .i64 ct] 33)).alloc (.cells #[.int .i64 0, .int .i64 0] 31)) (.slice none 0 0) (.int .i64 0) (.string ⟨#[]⟩) (.int .i64 0) 33)
  have G0 := hik (((((Chg.refl nob w).alloc (.cells #[.int .i64 x1, .int .i64 x2] 31)).alloc (.cells #[.slice cs len caps, .int .i64 at', .string st, .int .i64 ct] 33)).alloc (.cells #[.int .i64 0, .int .i64 0] 31)).alloc (.cells #[.slice none 0 0, .int .i64 0, .string ⟨#[]⟩, .int .i64 0] 33))
  go_enter Tryz.func10, Tryz.ntmps10
  go_wp2_with fail
  generalize hE : (((w.alloc (.cells #[.int .i64 x1, .int .i64 x2] 31)).alloc (.cells #[.slice cs len caps, .int .i64 at', .string st, .int .i64 ct] 33)).alloc (.cells #[.int .i64 0, .int .i64 0] 31)).alloc (.cells #[.slice none 0 0, .int .i64 0, .string ⟨#[]⟩, .int .i64 0] 33) = W0 at F0 Y0 G0 ⊢
  clear hE
  refine (vcc_any K x1 x2 c m cap A L C f g vars cs len caps fs gs at' st ct _ (hik (RowsV.keep h.out G0.out)) hL hn (hik (PairV.keep hs.out G0.out)) hl hst).mono ?_
  rintro e W1 ⟨he, k1⟩
  rw [HQQ.out] at he
  subst he
  have HF := hik (F0.out.keep k1)
  have HY := hik (rowIs_keep Y0.out k1)
  have HG := hik (G0.out.trans k1)
  clear k1 F0 Y0 G0 hq
  have g0 : W1.cell? ⟨w.heap.size + 1 + 1, 0, none⟩ = some (.int .i64 0) := HF.out.c0
  have g1 : W1.cell? ⟨w.heap.size + 1 + 1, 1, none⟩ = some (.int .i64 0) := HF.out.c1
  have gf0 := HF.out.fz 0
  have gf1 := HF.out.fz 1
  have gl : w.heap.size + 1 + 1 < W1.heap.size := HF.out.lt
  have yy0 : W1.cell? ⟨w.heap.size + 1 + 1 + 1, 0, none⟩ = some (.slice none 0 0) := HY.out.cell (by omega)
  have yyf0 := HY.out.frozen 0
  have yy1 : W1.cell? ⟨w.heap.size + 1 + 1 + 1, 1, none⟩ = some (.int .i64 0) := HY.out.cell (by omega)
  have yyf1 := HY.out.frozen 1
  have yy2 : W1.cell? ⟨w.heap.size + 1 + 1 + 1, 2, none⟩ = some (.string ⟨#[]⟩) := HY.out.cell (by omega)
  have yyf2 := HY.out.frozen 2
  have yy3 : W1.cell? ⟨w.heap.size + 1 + 1 + 1, 3, none⟩ = some (.int .i64 0) := HY.out.cell (by omega)
  have yyf3 := HY.out.frozen 3
  have yl : w.heap.size + 1 + 1 + 1 < W1.heap.size := HY.out.lt
  go_wp2
  have qF := HF.out.set El.zr
  have qY := rowIs_chg HY.out (chg2_set (Chg.refl (fun x => x = w.heap.size + 1 + 1) W1) (w.heap.size + 1 + 1) (fun _ => rfl) (.int .i64 0) (.int .i64 0)) (by omega)
  have q4 := chg4_set (Chg.refl (fun x => x = w.heap.size + 1 + 1 + 1) (((W1.setCell ⟨w.heap.size + 1 + 1, 0, none⟩ (.int .i64 0)).setCell ⟨w.heap.size + 1 + 1, 1, none⟩ (.int .i64 0)))) (w.heap.size + 1 + 1 + 1) (fun _ => rfl) (.slice none 0 0) (.int .i64 0) (.string ⟨#[]⟩) (.int .i64 0)
  have rF := qF.chg q4 (by omega)
  have rY := row4_set qY (.slice none 0 0) (.int .i64 0) (.string ⟨#[]⟩) (.int .i64 0)
  have u0 := rF.c0
  have u1 := rF.c1
  have v0 := rY.cell (i := 0) (by omega)
  have v1 := rY.cell (i := 1) (by omega)
  have v2 := rY.cell (i := 2) (by omega)
  have v3 := rY.cell (i := 3) (by omega)
  have GE := chg4_set (chg2_set HG.out (w.heap.size + 1 + 1) (fun l => absurd l (by omega)) (.int .i64 0) (.int .i64 0)) (w.heap.size + 1 + 1 + 1) (fun l => absurd l (by omega)) (.slice none 0 0) (.int .i64 0) (.string ⟨#[]⟩) (.int .i64 0)
  exact bodyPost_ret (v := .tuple #[.slice none 0 0, .agg #[.int .i64 0, .int .i64 0], .agg #[.slice none 0 0, .int .i64 0, .string ⟨#[]⟩, .int .i64 0], .int .i64 q]) (by simp [results, Tryz.results10, go_sem, u0, u1, v0, v1, v2, v3, pv4]; exact ⟨rfl, rfl⟩) rfl (VIAns.zero HQ.out H0.out rfl GE)

theorem verX_any (K x1 x2 : Int) (c : Option Addr) (m cap : Nat) (A : Nat → Option Addr) (L C : Nat → Nat) (f g : Nat → Nat → Int) (vars : Int) (cs : Option Addr) (len caps : Nat) (fs gs : Nat → Int) (at' : Int) (st : ByteArray) (ct : Int) (w : World) (h : Hid (RowsV w c m A L C f g)) (hL : Hid (∀ i, i < m → L i ≤ 1099511627776)) (hn : m ≤ 1099511627776) (hs : Hid (PairV w cs len fs gs)) (hl : (len : Int) ≤ 9223372036854775807) (hst : (st.size : Int) ≤ 9223372036854775807) (ht : Hid (Tabs w)) :
    Calls Tryz.prog 10 #[.int .i64 K, .agg #[.int .i64 x1, .int .i64 x2], .slice c m cap, .int .i64 vars, .agg #[.slice cs len caps, .int .i64 at', .string st, .int .i64 ct]] w fun e w' => VIAns w (svc8 K x1 x2 m L f g vars fs gs len at' st ct) (scn (svc8 K x1 x2 m L f g vars fs gs len at' st ct) m) (scn (svc8 K x1 x2 m L f g vars fs gs len at' st ct) len) (vpt fs gs len (K.toNat + 2) (fun i => elF (f i) (g i)) ⟨elP x1 x2, at', st, ct⟩) fs gs (scI (svc8 K x1 x2 m L f g vars fs gs len at' st ct) (vst fs gs len (K.toNat + 2) (fun i => elF (f i) (g i)) ⟨elP x1 x2, at', st, ct⟩ m).x.v.1) (scI (svc8 K x1 x2 m L f g vars fs gs len at' st ct) (vst fs gs len (K.toNat + 2) (fun i => elF (f i) (g i)) ⟨elP x1 x2, at', st, ct⟩ m).x.v.2) (scI (svc8 K x1 x2 m L f g vars fs gs len at' st ct) (vst fs gs len (K.toNat + 2) (fun i => elF (f i) (g i)) ⟨elP x1 x2, at', st, ct⟩ m).a) (scS (svc8 K x1 x2 m L f g vars fs gs len at' st ct) (vst fs gs len (K.toNat + 2) (fun i => elF (f i) (g i)) ⟨elP x1 x2, at', st, ct⟩ m).s) (scI (svc8 K x1 x2 m L f g vars fs gs len at' st ct) (vst fs gs len (K.toNat + 2) (fun i => elF (f i) (g i)) ⟨elP x1 x2, at', st, ct⟩ m).c) e w' := by
  by_cases hq : (vcc K x1 x2 m L f g vars fs gs len at' st ct) = 0
  · obtain ⟨h1, h2, h3, h4, h5, h6, h7⟩ := vcc_ok hq
    obtain ⟨k, hKk, hk12⟩ := kdb_nat h4
    subst hKk
    subst h7
    obtain ⟨p1, p2, p3, p4, p5⟩ := sokb_parts h3
    have hb : at' + 6 ≤ 1000000 ∧ ct + 6 ≤ 1000000 := spb_no h6
    have hr : ∀ j, j < m → L j ≤ 8 ∧ okP (f j) (g j) (L j) = true := fun j hj => by have z := rkb_all m 0 h2 j hj; rwa [Nat.zero_add] at z
    obtain ⟨ex1, ex2⟩ : x1 = (elP x1 x2).v.1 ∧ x2 = (elP x1 x2).v.2 := by rw [elP_v h1]; exact ⟨rfl, rfl⟩
    have q := verT_any hk12 c m cap h5 A L C f g (fun i => elF (f i) (g i)) (fun i => (vst fs gs len (k + 2) (fun i => elF (f i) (g i)) ⟨elP x1 x2, at', st, ct⟩ i).x) (vpt fs gs len (k + 2) (fun i => elF (f i) (g i)) ⟨elP x1 x2, at', st, ct⟩) (fun i => (vst fs gs len (k + 2) (fun i => elF (f i) (g i)) ⟨elP x1 x2, at', st, ct⟩ i).a) (fun i => (vst fs gs len (k + 2) (fun i => elF (f i) (g i)) ⟨elP x1 x2, at', st, ct⟩ i).s) (fun i => (vst fs gs len (k + 2) (fun i => elF (f i) (g i)) ⟨elP x1 x2, at', st, ct⟩ i).c) (vcd fs gs len (k + 2) L (fun i => elF (f i) (g i)) ⟨elP x1 x2, at', st, ct⟩ 0 m) (vcd fs gs len (k + 2) L (fun i => elF (f i) (g i)) ⟨elP x1 x2, at', st, ct⟩) cs len caps fs gs w h hL (hik (RowsL.of h.out (fun i hi => (hr i hi).2))) (hik (fun i hi => (hr i hi).1)) hs ht p1 (hik p2) (hik (by show vcc (k : Int) (elP x1 x2).v.1 (elP x1 x2).v.2 m L f g (m : Int) fs gs len at' st ct = 0; rw [← ex1, ← ex2]; exact hq))
      (hik (fun i n => rfl)) (hik (fun i => by cases i <;> rfl)) (hik rfl) (hik (fun i => rfl)) (hik (fun i => rfl)) (hik (fun i => rfl)) (hik (fun i => rfl)) (hik (fun i => vsr_v p2 (k + 2) ((fun i => elF (f i) (g i)) i) _)) (hik (fun i => vst_size p4 i))
      (hik (fun i hi => by
        have z : at' ≤ (vst fs gs len (k + 2) (fun i => elF (f i) (g i)) ⟨elP x1 x2, at', st, ct⟩ i).a ∧ (vst fs gs len (k + 2) (fun i => elF (f i) (g i)) ⟨elP x1 x2, at', st, ct⟩ i).a ≤ at' + i := vst_a (f := fs) (g := gs) (len := len) (D := k + 2) (U := (fun i => elF (f i) (g i))) (q := ⟨elP x1 x2, at', st, ct⟩) i
        omega))
      (hik (fun i hi => by
        cases i with
        | zero => exact p5
        | succ i =>
          show 0 ≤ dnC len 0 1 ∧ dnC len 0 1 ≤ 1000000
          unfold dnC
          split <;> omega))
    simp only [show (vst fs gs len (k + 2) (fun i => elF (f i) (g i)) ⟨elP x1 x2, at', st, ct⟩ 0) = ⟨elP x1 x2, at', st, ct⟩ from rfl] at q
    rw [← ex1, ← ex2] at q
    refine q.mono (fun e w' r => ?_)
    have hs8 : svc8 (k : Int) x1 x2 m L f g (m : Int) fs gs len at' st ct = vcd fs gs len (k + 2) L (fun i => elF (f i) (g i)) ⟨elP x1 x2, at', st, ct⟩ 0 m := by rw [vcc_svc, if_pos hq, Int.toNat_natCast]
    rw [Int.toNat_natCast]
    rcases r with ⟨hc, r⟩ | ⟨hc, he, kk⟩
    · exact VIAns.full (hs8.trans hc) r
    · exact VIAns.zero hs8 hc he kk
  · exact verZ_any K x1 x2 c m cap A L C f g vars cs len caps fs gs at' st ct w h hL hn hs hl hst ht hq

end Go.Proofs.YtccgjbdjbgefiaaGreatDoor

namespace Go.Proofs.YtccgjbdjbgefiaaGreatDoor
open Go.ChangeShapes Go.WideShapes Go.ChangeAt Go.RowKit
set_option linter.unusedVariables false
set_option maxRecDepth 100000
set_option linter.unusedSimpArgs false

theorem OwnE.upper {w : World} {B : Nat} {c : Option Addr} {n : Nat} {f g : Nat → Int} (h : OwnE w B c n f g) (b : Nat) (e : c = some ⟨b, 0, none⟩) : n = 0 ∨ b < w.heap.size := by
  rcases h with h0 | ⟨b', N, hh, e', hb, hr, q⟩
  · exact .inl h0
  · rw [e'] at e
    cases e
    exact .inr hr.lt
theorem OwnE.farE {P : Nat → Prop} {w w' : World} {B : Nat} {c : Option Addr} {n : Nat} {f g : Nat → Int} (h : OwnE w B c n f g) (k : Chg P w w') (hp : ∀ b, B ≤ b → c = some ⟨b, 0, none⟩ → n = 0 ∨ ¬ P b) : OwnE w' B c n f g := by
  rcases h with h0 | ⟨b, N, hh, e, hb, hr, q⟩
  · exact .inl h0
  · rcases hp b hb e with h0 | h0
    · exact .inl h0
    · exact OwnE.chg (.inr ⟨b, N, hh, e, hb, hr, q⟩) k (fun b' _ ec => by rw [e] at ec; cases ec; exact h0)

set_option maxHeartbeats 1000000 in
theorem markNone8 (c : Option Addr) (cap : Nat) (q : Int) (w : World) : Calls Tryz.prog 17 #[.slice c 0 cap, .int .i64 q] w fun e w' => e = .returned (.int .i64 q) ∧ Chg nob w w' := by
  go_enter Tryz.func17, Tryz.ntmps17
  go_wp2
  go_loopw [1, 5] (fun v i W => i = .int .i64 0 ∧ v = .int .i64 q ∧ Hid (Chg nob w W)) (fun _ _ _ => 0)
  case atStart => exact ⟨rfl, rfl, hik (Chg.refl _ _)⟩
  case round =>
    obtain ⟨rfl, rfl, HC⟩ := hrel
    go_wp2
    go_ret
    exact ⟨rfl, HC.out⟩
theorem markExtS_p (B : Nat) (c : Option Addr) (n cap : Nat) (f g : Nat → Int) (q : Int) (w : World) (ho : Hid (OwnE w B c n f g)) (hn : n ≤ 1099511627776) (q0 : 0 ≤ q) (q1 : q ≤ 1099511627776) :
    Calls Tryz.prog 17 #[.slice c n cap, .int .i64 q] w fun e w' => e = .returned (.int .i64 (q + 2 * n)) ∧ OwnE w' B c n (mka q) (mkd q) ∧ Chg (fun b => B ≤ b ∧ 0 < n ∧ c = some ⟨b, 0, none⟩) w w' := by
  by_cases h0 : n = 0
  · subst h0
    refine (markNone8 c cap q w).mono ?_
    rintro e w' ⟨rfl, k⟩
    exact ⟨by simp, .inl rfl, k.wide⟩
  · refine (markExtS_own B c n cap f g q w ho hn q0 q1).mono ?_
    rintro e w' ⟨rfl, o, k⟩
    exact ⟨rfl, o, k.mono (fun i _ m => ⟨m.1, by omega, m.2.1⟩)⟩

set_option maxHeartbeats 1000000 in
theorem markSource_p (B : Nat) (c : Option Addr) (n cap : Nat) (f g : Nat → Int) (at' : Int) (st : ByteArray) (ct : Int) (q : Int) (w : World) (ho : Hid (OwnE w B c n f g)) (hn : n ≤ 1099511627776) (q0 : 0 ≤ q) (q1 : q ≤ 1099511627776) :
    Calls Tryz.prog 16 #[.agg #[.slice c n cap, .int .i64 at', .string st, .int .i64 ct], .int .i64 q] w fun e w' => e = .returned (.int .i64 (q + 2 * n)) ∧ OwnE w' B c n (mka q) (mkd q) ∧ Chg (fun b => B ≤ b ∧ 0 < n ∧ c = some ⟨b, 0, none⟩) w w' := by
  go_enter Tryz.func16, Tryz.ntmps16
  go_wp2_with (go_at_call 17; refine (markExtS_p B c n cap f g q _ (hik (ho.out.keep ((Chg.refl nob w).alloc _))) hn q0 q1).mono ?_; rintro e W1 ⟨rfl, o1, k1⟩; have K1 := hik (((Chg.refl (fun b => B ≤ b ∧ 0 < n ∧ c = some ⟨b, 0, none⟩) w).alloc _).trans k1); have O1 := hik o1; clear k1 o1)
  go_ret
  exact ⟨rfl, O1.out, K1.out⟩

set_option maxHeartbeats 16000000 in
theorem walkVerify (a0 : Int) (w0 : (Lit.int .i64 a0).wf = true) (a1 b1 : Int) (c2 : Option Addr) (len2 cap2 : Nat) (A2 : Nat → Option Addr) (L2 C2 : Nat → Nat) (f2 g2 : Nat → Nat → Int) (a3 : Int) (w3 : (Lit.int .i64 a3).wf = true) (c4 : Option Addr) (len4 cap4 : Nat) (f4 g4 : Nat → Int) (at4 : Int) (st4 : ByteArray) (ct4 : Int) (ws4 : st4.size ≤ maxLen) (w : World) (w2 : IsRows w c2 len2 A2 L2 C2 f2 g2) (w4 : IsPairs w c4 len4 cap4 f4 g4) (ht : Hid (Tabs w)) :
    Calls Tryz.prog 3 #[.int .i64 a0, .agg #[.int .i64 a1, .int .i64 b1], .slice c2 len2 cap2, .int .i64 a3, .agg #[.slice c4 len4 cap4, .int .i64 at4, .string st4, .int .i64 ct4]] w fun e w' => e = .returned (.bool true) ∧ Below w.heap.size w w' := by
  obtain ⟨hl2, hP2, hL2⟩ := w2
  have HP2 := hik hP2
  have HL2 := hik hL2
  obtain ⟨hP4, hl4⟩ := pairs_of w4
  have HP4 := hik hP4
  have hs4 : (st4.size : Int) ≤ 9223372036854775807 := by unfold maxLen at ws4; omega
  clear hP2 hL2 hP4 w4 ws4
  by_cases hm : (1048576 : Int) < (len2 : Int) + (tot L2 len2 : Int)
  · go_enter Tryz.func3, Tryz.ntmps3
    go_wp2_with fail
    refine (szSS_n _ len2 _ A2 L2 C2 f2 g2 _ _ (hik (RowsV.keep HP2.out (((Chg.refl nob w).alloc _).alloc _))) HL2 hl2 hm (by omega) (by omega)).mono ?_
    rintro e W1 ⟨rfl, k1⟩
    go_wp2
    go_ret
    exact ⟨rfl, ((((Chg.refl nob w).alloc _).alloc _).trans k1).belowAll⟩
  clear HL2
  have hn2 : len2 ≤ 1048576 := by omega
  have hT2 : tot L2 len2 ≤ 1048576 := by omega
  have hp : ¬ (1048576 : Int) - (len2 : Int) - (tot L2 len2 : Int) < 0 := by omega
  have HL := hik (show ∀ i, i < len2 → L2 i ≤ 1099511627776 from fun i hi => by have := tot_le L2 hi; omega)
  have hn2' : len2 ≤ 1099511627776 := by omega
  obtain ⟨lf, hlf⟩ : ∃ lf, lf = (1048576 : Int) - (len2 : Int) - (tot L2 len2 : Int) := ⟨_, rfl⟩
  rw [← hlf] at hp
  have hlf2 : lf ≤ 1048576 := by omega
  have HLF := hik hlf
  have hm0 : (len2 : Int) + (tot L2 len2 : Int) ≤ 1048576 := by omega
  clear hlf hm
  by_cases h4 : lf < (len4 : Int) + (st4.size : Int)
  · go_enter Tryz.func3, Tryz.ntmps3
    go_wp2_with fail
    refine (szSS_c _ len2 _ A2 L2 C2 f2 g2 _ _ (hik (RowsV.keep HP2.out (((Chg.refl nob w).alloc _).alloc _))) hm0 (by omega)).mono ?_
    rintro e W1 ⟨he, k1⟩
    rw [← HLF.out] at he
    subst he
    have A : Hid (W1.rowIs (w.heap.size + 1) 27 4 (pv4 (.slice c4 len4 cap4) (.int .i64 at4) (.string st4) (.int .i64 ct4))) := hik (by simpa using rowIs_keep (row4_new (w.alloc (.cells #[.int .i64 a1, .int .i64 b1] 23)) (.slice c4 len4 cap4) (.int .i64 at4) (.string st4) (.int .i64 ct4) 27) k1)
    have G := hik ((((Chg.refl nob w).alloc (.cells #[.int .i64 a1, .int .i64 b1] 23)).alloc (.cells #[.slice c4 len4 cap4, .int .i64 at4, .string st4, .int .i64 ct4] 27)).trans k1)
    have xA0 : W1.cell? ⟨w.heap.size + 1, 0, none⟩ = some (.slice c4 len4 cap4) := A.out.cell (by omega)
    have xA1 : W1.cell? ⟨w.heap.size + 1, 1, none⟩ = some (.int .i64 at4) := A.out.cell (by omega)
    have xA2 : W1.cell? ⟨w.heap.size + 1, 2, none⟩ = some (.string st4) := A.out.cell (by omega)
    have xA3 : W1.cell? ⟨w.heap.size + 1, 3, none⟩ = some (.int .i64 ct4) := A.out.cell (by omega)
    clear k1
    go_wp2_with fail
    refine (szSource_no _ _ _ _ _ _ _ _ h4 (by omega) (by omega) hl4 hs4).mono ?_
    rintro e W2 ⟨rfl, k2⟩
    go_wp2
    go_ret
    exact ⟨rfl, (G.out.trans k2).belowAll⟩
  have hn4 : len4 ≤ 1099511627776 := by omega
  have hp2 : ¬ lf - (len4 : Int) - (st4.size : Int) < 0 := by omega
  obtain ⟨q, hq⟩ : ∃ q, q = svc8 a0 a1 b1 len2 L2 f2 g2 a3 f4 g4 len4 at4 st4 ct4 := ⟨_, rfl⟩
  obtain ⟨nP, hnP⟩ : ∃ x, x = scn q len2 := ⟨_, rfl⟩
  obtain ⟨nS, hnS⟩ : ∃ x, x = scn q len4 := ⟨_, rfl⟩
  obtain ⟨Rr, hRr⟩ : ∃ x, x = vpt f4 g4 len4 (a0.toNat + 2) (fun i => elF (f2 i) (g2 i)) ⟨elP a1 b1, at4, st4, ct4⟩ := ⟨_, rfl⟩
  obtain ⟨y1, hy1⟩ : ∃ x, x = scI q (vst f4 g4 len4 (a0.toNat + 2) (fun i => elF (f2 i) (g2 i)) ⟨elP a1 b1, at4, st4, ct4⟩ len2).x.v.1 := ⟨_, rfl⟩
  obtain ⟨y2, hy2⟩ : ∃ x, x = scI q (vst f4 g4 len4 (a0.toNat + 2) (fun i => elF (f2 i) (g2 i)) ⟨elP a1 b1, at4, st4, ct4⟩ len2).x.v.2 := ⟨_, rfl⟩
  obtain ⟨aa, haa⟩ : ∃ x, x = scI q (vst f4 g4 len4 (a0.toNat + 2) (fun i => elF (f2 i) (g2 i)) ⟨elP a1 b1, at4, st4, ct4⟩ len2).a := ⟨_, rfl⟩
  obtain ⟨ss, hss⟩ : ∃ x, x = scS q (vst f4 g4 len4 (a0.toNat + 2) (fun i => elF (f2 i) (g2 i)) ⟨elP a1 b1, at4, st4, ct4⟩ len2).s := ⟨_, rfl⟩
  obtain ⟨cc, hcc⟩ : ∃ x, x = scI q (vst f4 g4 len4 (a0.toNat + 2) (fun i => elF (f2 i) (g2 i)) ⟨elP a1 b1, at4, st4, ct4⟩ len2).c := ⟨_, rfl⟩
  have bd1 : nP ≤ 1048576 := by rw [hnP]; unfold scn; split <;> omega
  have bd2 : nS ≤ 1048576 := by rw [hnS]; unfold scn; split <;> omega
  have HS := hik (fun (c : Option Addr) (A : Nat → Option Addr) (C : Nat → Nat) (cs : Option Addr) (w' : World) (h : Hid (RowsV w' c len2 A L2 C f2 g2)) (h2 : Hid (PairV w' cs len4 f4 g4)) => sVerX_any a0 a1 b1 c len2 len2 A L2 C f2 g2 a3 cs len4 len4 f4 g4 at4 st4 ct4 w' h HL hn2' h2 hl4 hs4)
  have HI := hik (fun (c : Option Addr) (A : Nat → Option Addr) (C : Nat → Nat) (cs : Option Addr) (w' : World) (h : Hid (RowsV w' c len2 A L2 C f2 g2)) (h2 : Hid (PairV w' cs len4 f4 g4)) (ht : Hid (Tabs w')) => verX_any a0 a1 b1 c len2 len2 A L2 C f2 g2 a3 cs len4 len4 f4 g4 at4 st4 ct4 w' h HL hn2' h2 hl4 hs4 ht)
  rw [← hq, ← hnP, ← hnS, ← hRr, ← hy1, ← hy2, ← haa, ← hss, ← hcc] at HS HI
  clear hq hnP hnS hRr hy1 hy2 haa hss hcc
  have t1 : ¬ (1 : Int) + 2 * (nP : Int) < 0 := by omega
  have t2 : ¬ (1 : Int) + 2 * (nP : Int) + 2 * (nS : Int) < 0 := by omega
  have t5 : ¬ (1 : Int) + 2 * (tot L2 len2 : Int) + 2 * (len4 : Int) < 0 := by omega
  have BD := hik (show nP ≤ 1048576 ∧ nS ≤ 1048576 from ⟨bd1, bd2⟩)
  have LL4 : (len4 : Int) + (st4.size : Int) ≤ lf := by omega
  have HH4 := hik LL4
  clear bd1 bd2 hl2 hl4 h4 LL4
  go_enter Tryz.func3, Tryz.ntmps3
  go_upto_region 1 with fail
  have CB : Hid (((w.alloc (.cells #[.int .i64 a1, .int .i64 b1] 23)).alloc (.cells #[.slice c4 len4 cap4, .int .i64 at4, .string st4, .int .i64 ct4] 27)).rowIs w.heap.size 23 2 (pv2 (.int .i64 a1) (.int .i64 b1))) := hik (World.rowIs.alloc (row2_new w _ _ _) _)
  have A : Hid (((w.alloc (.cells #[.int .i64 a1, .int .i64 b1] 23)).alloc (.cells #[.slice c4 len4 cap4, .int .i64 at4, .string st4, .int .i64 ct4] 27)).rowIs (w.heap.size + 1) 27 4 (pv4 (.slice c4 len4 cap4) (.int .i64 at4) (.string st4) (.int .i64 ct4))) := hik (by simpa using row4_new (w.alloc (.cells #[.int .i64 a1, .int .i64 b1] 23)) (.slice c4 len4 cap4) (.int .i64 at4) (.string st4) (.int .i64 ct4) 27)
  have G := hik (((Chg.refl nob w).alloc (.cells #[.int .i64 a1, .int .i64 b1] 23)).alloc (.cells #[.slice c4 len4 cap4, .int .i64 at4, .string st4, .int .i64 ct4] 27))
  have s1 : Hid (((w.alloc (.cells #[.int .i64 a1, .int .i64 b1] 23)).alloc (.cells #[.slice c4 len4 cap4, .int .i64 at4, .string st4, .int .i64 ct4] 27)).heap.size = w.heap.size + 2) := hik (by simp)
  generalize hE : (w.alloc (.cells #[.int .i64 a1, .int .i64 b1] 23)).alloc (.cells #[.slice c4 len4 cap4, .int .i64 at4, .string st4, .int .i64 ct4] 27) = W1 at CB A G s1 ⊢
  clear hE
  go_wp2_with fail
  refine (szSS_c _ len2 _ A2 L2 C2 f2 g2 _ _ (hik (RowsV.keep HP2.out G.out)) hm0 (by omega)).mono ?_
  rintro e W2 ⟨he, kk⟩
  have s2 := hik kk.size
  replace G := hik (G.out.trans kk)
  replace A := hik (rowIs_keep A.out kk)
  replace CB := hik (rowIs_keep CB.out kk)
  rw [← HLF.out] at he
  subst he
  clear kk
  have xA0 : W2.cell? ⟨w.heap.size + 1, 0, none⟩ = some (.slice c4 len4 cap4) := A.out.cell (by omega)
  have xA1 : W2.cell? ⟨w.heap.size + 1, 1, none⟩ = some (.int .i64 at4) := A.out.cell (by omega)
  have xA2 : W2.cell? ⟨w.heap.size + 1, 2, none⟩ = some (.string st4) := A.out.cell (by omega)
  have xA3 : W2.cell? ⟨w.heap.size + 1, 3, none⟩ = some (.int .i64 ct4) := A.out.cell (by omega)
  have zA := A.out.lt
  go_wp2_with fail
  refine (szSource_ok _ _ _ _ _ _ _ _ HH4.out hlf2).mono ?_
  rintro e W3 ⟨rfl, kk⟩
  clear xA0 xA1 xA2 xA3 zA
  have s3 := hik kk.size
  replace G := hik (G.out.trans kk)
  replace A := hik (rowIs_keep A.out kk)
  replace CB := hik (rowIs_keep CB.out kk)
  clear kk
  go_upto_region 8 with fail
  go_cut [12, 13, 14, 15] (fun u0 u1 pp qq W => ∃ (cP cS : Option Addr) (capP capS gE gZ lo hi : Nat), u0 = .slice cP nP capP ∧ u1 = .pointer (some ⟨gE, 0, none⟩) ∧ pp = .pointer (some ⟨gZ, 0, none⟩) ∧ qq = .int .i64 q ∧ Hid (OwnE W lo cP nP (cA Rr) (cB Rr)) ∧ Hid (OwnE W lo cS nS f4 g4) ∧ Hid (W.rowIs gE 31 2 (pv2 (.int .i64 y1) (.int .i64 y2))) ∧ Hid (W.rowIs gZ 33 4 (pv4 (.slice cS nS capS) (.int .i64 aa) (.string ss) (.int .i64 cc))) ∧ Hid (Chg nob W3 W) ∧ Hid (W3.heap.size ≤ gE ∧ W3.heap.size ≤ gZ ∧ W3.heap.size ≤ lo ∧ ¬ (lo ≤ gE ∧ gE < hi) ∧ ¬ (lo ≤ gZ ∧ gZ < hi) ∧ gE ≠ gZ ∧ lo ≤ hi ∧ hi ≤ W.heap.size) ∧ Hid ((∀ b, cP = some ⟨b, 0, none⟩ → nP = 0 ∨ b < hi) ∧ (∀ b, cS = some ⟨b, 0, none⟩ → nS = 0 ∨ b < hi)))
  case first =>
    focus
      have xCB0 : W3.cell? ⟨w.heap.size, 0, none⟩ = some (.int .i64 a1) := CB.out.cell (by omega)
      have xCB1 : W3.cell? ⟨w.heap.size, 1, none⟩ = some (.int .i64 b1) := CB.out.cell (by omega)
      have zCB := CB.out.lt
      have xA0 : W3.cell? ⟨w.heap.size + 1, 0, none⟩ = some (.slice c4 len4 cap4) := A.out.cell (by omega)
      have xA1 : W3.cell? ⟨w.heap.size + 1, 1, none⟩ = some (.int .i64 at4) := A.out.cell (by omega)
      have xA2 : W3.cell? ⟨w.heap.size + 1, 2, none⟩ = some (.string st4) := A.out.cell (by omega)
      have xA3 : W3.cell? ⟨w.heap.size + 1, 3, none⟩ = some (.int .i64 ct4) := A.out.cell (by omega)
      have zA := A.out.lt
      have SA := hik (fun (WW : World) (kW : Chg nob W3 WW) => (show (WW.cell? ⟨w.heap.size, 0, none⟩ = some (.int .i64 a1) ∧ WW.cell? ⟨w.heap.size, 1, none⟩ = some (.int .i64 b1) ∧ WW.cell? ⟨w.heap.size + 1, 0, none⟩ = some (.slice c4 len4 cap4) ∧ WW.cell? ⟨w.heap.size + 1, 1, none⟩ = some (.int .i64 at4) ∧ WW.cell? ⟨w.heap.size + 1, 2, none⟩ = some (.string st4) ∧ WW.cell? ⟨w.heap.size + 1, 3, none⟩ = some (.int .i64 ct4)) from ⟨kW.see xCB0, kW.see xCB1, kW.see xA0, kW.see xA1, kW.see xA2, kW.see xA3⟩))
      refine wp_regionC [⟨14, 13, .cells #[.int .i64 0, .int .i64 0] 31, fun b => .pointer (some ⟨b, 0, none⟩)⟩, ⟨15, 14, .cells #[.slice none 0 0, .int .i64 0, .string ⟨#[]⟩, .int .i64 0] 33, fun b => .pointer (some ⟨b, 0, none⟩)⟩] 18 (by kernel_rfl) (by rfl) (by rfl) (by kernel_rfl) ?_
      refine wpC_take (i := 0) (v := ?_) rfl (by kernel_rfl) (by kernel_rfl) (by rfl) (fun _ _ _ h => h) (fun u => Or.inl ⟨by rfl, ?_⟩) ?_
      rotate_left 1
      · (intro w' hSw; have hSw := SA.out _ hSw; (try dsimp only at hSw); try simp only [putF, Act.put, List.setIfInBounds_toArray, List.set_cons_zero, List.set_cons_succ, List.getElem_toArray, List.getElem_cons_zero, List.getElem_cons_succ]; go_simp; try with_reducible rfl)
      try simp only [Act.put, List.setIfInBounds_toArray, List.set_cons_zero, List.set_cons_succ, List.getElem_toArray, List.getElem_cons_zero, List.getElem_cons_succ]
      refine wpC_take (i := 1) (v := ?_) rfl (by kernel_rfl) (by kernel_rfl) (by rfl) (fun _ _ _ h => h) (fun u => Or.inl ⟨by rfl, ?_⟩) ?_
      rotate_left 1
      · (intro w' hSw; have hSw := SA.out _ hSw; (try dsimp only at hSw); try simp only [putF, Act.put, List.setIfInBounds_toArray, List.set_cons_zero, List.set_cons_succ, List.getElem_toArray, List.getElem_cons_zero, List.getElem_cons_succ]; go_simp; try with_reducible rfl)
      try simp only [Act.put, List.setIfInBounds_toArray, List.set_cons_zero, List.set_cons_succ, List.getElem_toArray, List.getElem_cons_zero, List.getElem_cons_succ]
      refine wpC_take (i := 3) (v := ?_) rfl (by kernel_rfl) (by kernel_rfl) (by rfl) (fun _ _ _ h => h) (fun u => Or.inl ⟨by rfl, ?_⟩) ?_
      rotate_left 1
      · (intro w' hSw; have hSw := SA.out _ hSw; (try dsimp only at hSw); try simp only [putF, Act.put, List.setIfInBounds_toArray, List.set_cons_zero, List.set_cons_succ, List.getElem_toArray, List.getElem_cons_zero, List.getElem_cons_succ]; go_simp; try with_reducible rfl)
      try simp only [Act.put, List.setIfInBounds_toArray, List.set_cons_zero, List.set_cons_succ, List.getElem_toArray, List.getElem_cons_zero, List.getElem_cons_succ]
      refine wpC_take (i := 5) (v := ?_) rfl (by kernel_rfl) (by kernel_rfl) (by rfl) (fun _ _ _ h => h) (fun u => Or.inl ⟨by rfl, ?_⟩) ?_
      rotate_left 1
      · (intro w' hSw; have hSw := SA.out _ hSw; (try dsimp only at hSw); try simp only [putF, Act.put, List.setIfInBounds_toArray, List.set_cons_zero, List.set_cons_succ, List.getElem_toArray, List.getElem_cons_zero, List.getElem_cons_succ]; go_simp; try with_reducible rfl)
      try simp only [Act.put, List.setIfInBounds_toArray, List.set_cons_zero, List.set_cons_succ, List.getElem_toArray, List.getElem_cons_zero, List.getElem_cons_succ]
      refine wpC_take (i := 6) (v := ?_) rfl (by kernel_rfl) (by kernel_rfl) (by rfl) (fun _ _ _ h => h) (fun u => Or.inl ⟨by rfl, ?_⟩) ?_
      rotate_left 1
      · (intro w' hSw; have hSw := SA.out _ hSw; (try dsimp only at hSw); try simp only [putF, Act.put, List.setIfInBounds_toArray, List.set_cons_zero, List.set_cons_succ, List.getElem_toArray, List.getElem_cons_zero, List.getElem_cons_succ]; go_simp; try with_reducible rfl)
      try simp only [Act.put, List.setIfInBounds_toArray, List.set_cons_zero, List.set_cons_succ, List.getElem_toArray, List.getElem_cons_zero, List.getElem_cons_succ]
      refine wpC_step (i := 2) rfl (by kernel_rfl) (by rfl) (List.forall_mem_cons.2 ⟨FloOK.alloc rfl 31 rfl rfl rfl (fun w => by go_simp), (List.forall_mem_cons.2 ⟨FloOK.alloc rfl 33 rfl rfl rfl (fun w => by go_simp), (fun _ h => absurd h List.not_mem_nil)⟩)⟩) (by rfl) ?_
      intro bb gg uu U1' hrd hB k0 kW K' hK
      clear hrd hB
      have KW := hik k0
      clear kW k0
      refine stepL_callN 7 #[.tmp 41] #[23] (by rfl) (by rfl) #[.agg #[.int .i64 a1, .int .i64 b1]] (by (try simp only [putF, Act.put, List.setIfInBounds_toArray, List.set_cons_zero, List.set_cons_succ, List.getElem_toArray, List.getElem_cons_zero, List.getElem_cons_succ]); simp only [List.map_toArray, List.map_cons, List.map_nil] <;> rfl) (run_go Tryz.func7 (by kernel_rfl) (by kernel_rfl) _ _) (toExt_any a1 b1 _) ?_
      rintro e U1 ⟨he, kk⟩
      refine ⟨_, he, hK _ _ kk ?_⟩
      have hsU1 := hik kk.size
      clear he kk hK K' KW bb gg uu
      try simp only [Act.put, List.setIfInBounds_toArray, List.set_cons_zero, List.set_cons_succ, List.getElem_toArray, List.getElem_cons_zero, List.getElem_cons_succ]
      refine wpC_step (i := 4) rfl (by kernel_rfl) (by rfl) (List.forall_mem_cons.2 ⟨FloOK.alloc rfl 31 rfl rfl rfl (fun w => by go_simp), (List.forall_mem_cons.2 ⟨FloOK.alloc rfl 33 rfl rfl rfl (fun w => by go_simp), (fun _ h => absurd h List.not_mem_nil)⟩)⟩) (by rfl) ?_
      intro bb gg uu U2' hrd hB k0 kW K' hK
      clear hrd hB
      have KW := hik k0
      clear kW k0
      refine stepL_callN 8 #[.tmp 43] #[24] (by rfl) (by rfl) #[.slice c2 len2 cap2] (by (try simp only [putF, Act.put, List.setIfInBounds_toArray, List.set_cons_zero, List.set_cons_succ, List.getElem_toArray, List.getElem_cons_zero, List.getElem_cons_succ]); simp only [List.map_toArray, List.map_cons, List.map_nil] <;> rfl) (run_go Tryz.func8 (by kernel_rfl) (by kernel_rfl) _ _) (toSS_any c2 len2 cap2 A2 L2 C2 f2 g2 _ (hik (RowsV.keep HP2.out (G.out.trans KW.out))) HL hn2') ?_
      rintro e U2 ⟨By, he, ry, ty, dy, kk⟩
      generalize hxb : (U2').heap.size = xb at he ry ty
      clear hxb
      have RY := hik ry
      have TY := hik (show ∀ i, i < len2 → U2.rowIs (By i) 31 (L2 i * 2) (pf (f2 i) (g2 i)) from fun i hi => (ty i hi).2)
      clear ry ty dy
      refine ⟨_, he, hK _ _ kk ?_⟩
      have hsU2 := hik kk.size
      clear he kk hK K' KW bb gg uu
      try simp only [Act.put, List.setIfInBounds_toArray, List.set_cons_zero, List.set_cons_succ, List.getElem_toArray, List.getElem_cons_zero, List.getElem_cons_succ]
      refine wpC_step (i := 7) rfl (by kernel_rfl) (by rfl) (List.forall_mem_cons.2 ⟨FloOK.alloc rfl 31 rfl rfl rfl (fun w => by go_simp), (List.forall_mem_cons.2 ⟨FloOK.alloc rfl 33 rfl rfl rfl (fun w => by go_simp), (fun _ h => absurd h List.not_mem_nil)⟩)⟩) (by rfl) ?_
      intro bb gg uu U3' hrd hB k0 kW K' hK
      clear hrd hB
      have KW := hik k0
      replace RY := hik (rowIs_keep RY.out kW)
      replace TY := hik (fun i hi => rowIs_keep (TY.out i hi) kW)
      clear kW k0
      refine stepL_callN 9 #[.tmp 46] #[27] (by rfl) (by rfl) #[.agg #[.slice c4 len4 cap4, .int .i64 at4, .string st4, .int .i64 ct4]] (by (try simp only [putF, Act.put, List.setIfInBounds_toArray, List.set_cons_zero, List.set_cons_succ, List.getElem_toArray, List.getElem_cons_zero, List.getElem_cons_succ]); simp only [List.map_toArray, List.map_cons, List.map_nil] <;> rfl) (run_go Tryz.func9 (by kernel_rfl) (by kernel_rfl) _ _) (toSource_any c4 len4 cap4 f4 g4 at4 st4 ct4 _ (hik (HP4.out.keep (G.out.trans KW.out))) hn4) ?_
      rintro e U3 ⟨by_, hby, he, hry, kk⟩
      replace RY := hik (rowIs_keep RY.out kk)
      replace TY := hik (fun i hi => rowIs_keep (TY.out i hi) kk)
      have OY := hik (OwnE.of_row hry (Nat.le_refl by_))
      clear hry hby
      refine ⟨_, he, hK _ _ kk ?_⟩
      have hsU3 := hik kk.size
      clear he kk hK K' KW bb gg uu
      try simp only [Act.put, List.setIfInBounds_toArray, List.set_cons_zero, List.set_cons_succ, List.getElem_toArray, List.getElem_cons_zero, List.getElem_cons_succ]
      refine wpC_step (i := 8) rfl (by kernel_rfl) (by rfl) (List.forall_mem_cons.2 ⟨FloOK.alloc rfl 31 rfl rfl rfl (fun w => by go_simp), (List.forall_mem_cons.2 ⟨FloOK.alloc rfl 33 rfl rfl rfl (fun w => by go_simp), (fun _ h => absurd h List.not_mem_nil)⟩)⟩) (by rfl) ?_
      intro bb gg uu U4' hrd hB k0 kW K' hK
      clear hrd hB
      have KW := hik k0
      replace RY := hik (rowIs_keep RY.out kW)
      replace TY := hik (fun i hi => rowIs_keep (TY.out i hi) kW)
      replace OY := hik (OY.out.keep kW)
      clear kW k0
      refine stepL_callN 6 #[.tmp 40, .tmp 42, .tmp 44, .tmp 45, .tmp 47] #[3, 31, 37, 3, 33] (by rfl) (by rfl) #[.int .i64 a0, .agg #[.int .i64 a1, .int .i64 b1], .slice (some ⟨xb, 0, none⟩) len2 len2, .int .i64 a3, .agg #[.slice (some ⟨by_, 0, none⟩) len4 len4, .int .i64 at4, .string st4, .int .i64 ct4]] (by (try simp only [putF, Act.put, List.setIfInBounds_toArray, List.set_cons_zero, List.set_cons_succ, List.getElem_toArray, List.getElem_cons_zero, List.getElem_cons_succ]); simp only [List.map_toArray, List.map_cons, List.map_nil] <;> rfl) (run_go Tryz.func6 (by kernel_rfl) (by kernel_rfl) _ _) (HS.out _ _ _ _ _ (hik (CopiedSS.rows (w := w) RY.out TY.out)) (hik OY.out.pairs)) ?_
      rintro e U4 ⟨cP, capP, cS, capS, he, rP, rS, kk⟩
      replace RY := hik (rowIs_keep RY.out kk)
      replace TY := hik (fun i hi => rowIs_keep (TY.out i hi) kk)
      replace OY := hik (OY.out.keep kk)
      have RP := hik rP
      have RS := hik rS
      have UPP := hik rP.upper
      have UPS := hik rS.upper
      have HLO := hik (show W3.heap.size ≤ U4'.heap.size from KW.out.size)
      clear rP rS
      refine ⟨_, he, hK _ _ kk ?_⟩
      have hsU4 := hik kk.size
      clear he kk hK K' KW bb gg uu
      try simp only [Act.put, List.setIfInBounds_toArray, List.set_cons_zero, List.set_cons_succ, List.getElem_toArray, List.getElem_cons_zero, List.getElem_cons_succ]
      refine wpC_take (i := 9) (v := ?_) rfl (by kernel_rfl) (by kernel_rfl) (by rfl) (fun _ _ _ h => h) (fun u => Or.inl ⟨by rfl, ?_⟩) ?_
      rotate_left 1
      · (intro w' hSw; have hSw := SA.out _ hSw; (try dsimp only at hSw); try simp only [putF, Act.put, List.setIfInBounds_toArray, List.set_cons_zero, List.set_cons_succ, List.getElem_toArray, List.getElem_cons_zero, List.getElem_cons_succ]; go_simp; try with_reducible rfl)
      try simp only [Act.put, List.setIfInBounds_toArray, List.set_cons_zero, List.set_cons_succ, List.getElem_toArray, List.getElem_cons_zero, List.getElem_cons_succ]
      refine wpC_take (i := 10) (v := ?_) rfl (by kernel_rfl) (by kernel_rfl) (by rfl) (fun _ _ _ h => h) (fun u => Or.inl ⟨by rfl, ?_⟩) ?_
      rotate_left 1
      · (intro w' hSw; have hSw := SA.out _ hSw; (try dsimp only at hSw); try simp only [putF, Act.put, List.setIfInBounds_toArray, List.set_cons_zero, List.set_cons_succ, List.getElem_toArray, List.getElem_cons_zero, List.getElem_cons_succ]; go_simp; try with_reducible rfl)
      try simp only [Act.put, List.setIfInBounds_toArray, List.set_cons_zero, List.set_cons_succ, List.getElem_toArray, List.getElem_cons_zero, List.getElem_cons_succ]
      refine wpC_take (i := 11) (v := ?_) rfl (by kernel_rfl) (by kernel_rfl) (by rfl) (fun _ _ _ h => h) (fun u => Or.inl ⟨by rfl, ?_⟩) ?_
      rotate_left 1
      · (intro w' hSw; have hSw := SA.out _ hSw; (try dsimp only at hSw); try simp only [putF, Act.put, List.setIfInBounds_toArray, List.set_cons_zero, List.set_cons_succ, List.getElem_toArray, List.getElem_cons_zero, List.getElem_cons_succ]; go_simp; try with_reducible rfl)
      try simp only [Act.put, List.setIfInBounds_toArray, List.set_cons_zero, List.set_cons_succ, List.getElem_toArray, List.getElem_cons_zero, List.getElem_cons_succ]
      refine wpC_take (i := 12) (v := ?_) rfl (by kernel_rfl) (by kernel_rfl) (by rfl) (fun _ _ _ h => h) (fun u => Or.inl ⟨by rfl, ?_⟩) ?_
      rotate_left 1
      · (intro w' hSw; have hSw := SA.out _ hSw; (try dsimp only at hSw); try simp only [putF, Act.put, List.setIfInBounds_toArray, List.set_cons_zero, List.set_cons_succ, List.getElem_toArray, List.getElem_cons_zero, List.getElem_cons_succ]; go_simp; try with_reducible rfl)
      try simp only [Act.put, List.setIfInBounds_toArray, List.set_cons_zero, List.set_cons_succ, List.getElem_toArray, List.getElem_cons_zero, List.getElem_cons_succ]
      refine wpC_take (i := 13) (v := ?_) rfl (by kernel_rfl) (by kernel_rfl) (by rfl) (fun _ _ _ h => h) (fun u => Or.inl ⟨by rfl, ?_⟩) ?_
      rotate_left 1
      · (intro w' hSw; have hSw := SA.out _ hSw; (try dsimp only at hSw); try simp only [putF, Act.put, List.setIfInBounds_toArray, List.set_cons_zero, List.set_cons_succ, List.getElem_toArray, List.getElem_cons_zero, List.getElem_cons_succ]; go_simp; try with_reducible rfl)
      try simp only [Act.put, List.setIfInBounds_toArray, List.set_cons_zero, List.set_cons_succ, List.getElem_toArray, List.getElem_cons_zero, List.getElem_cons_succ]
      refine wpC_all (by kernel_rfl) (by rfl) (List.forall_mem_cons.2 ⟨FloOK.alloc rfl 31 rfl rfl rfl (fun w => by go_simp), (List.forall_mem_cons.2 ⟨FloOK.alloc rfl 33 rfl rfl rfl (fun w => by go_simp), (fun _ h => absurd h List.not_mem_nil)⟩)⟩) ?_
      intro gg uu Uz hB k0 kW
      have KW := hik k0
      have HTOP := hik kW.size
      replace RY := hik (rowIs_keep RY.out kW)
      replace TY := hik (fun i hi => rowIs_keep (TY.out i hi) kW)
      replace OY := hik (OY.out.keep kW)
      replace RP := hik (RP.out.keep kW)
      replace RS := hik (RS.out.keep kW)
      obtain ⟨eu0, hg0, hl0, hc0, ha0, hd0⟩ := hB 0 _ rfl rfl
      have eu0 : uu 0 = .pointer (some ⟨gg 0, 0, none⟩) := eu0
      have BX0 := hik (rowN_at (n := 2) hc0 rfl)
      clear hd0 hc0 hl0
      obtain ⟨eu1, hg1, hl1, hc1, ha1, hd1⟩ := hB 1 _ rfl rfl
      have eu1 : uu 1 = .pointer (some ⟨gg 1, 0, none⟩) := eu1
      have hd01 : gg 0 ≠ gg 1 := hd1 0 (by omega) rfl
      have BX1 := hik (rowN_at (n := 4) hc1 rfl)
      clear hd1 hc1 hl1
      clear hB kW
      generalize gg 0 = g0 at eu0 hg0 ha0 BX0 eu1 hg1 ha1 BX1 hd01
      generalize gg 1 = g1 at eu0 hg0 ha0 BX0 eu1 hg1 ha1 BX1 hd01
      refine wpAnyH_as (fuel' := 4) rfl (listed' := #[true, true, true, true, true, true, true, true, true, true, true, true, true, true, true, true, false, false, false, false]) (by kernel_rfl) ?_
      simp only [putF, eu0, eu1, Act.put, List.setIfInBounds_toArray, List.set_cons_zero, List.set_cons_succ, List.getElem_toArray, List.getElem_cons_zero, List.getElem_cons_succ]
      clear eu0 eu1
      have hHeld := k0
      clear k0
      refine wpAnyH_take (i := 16) (v := ?_) rfl (by kernel_rfl) (by kernel_rfl) (by kernel_rfl) (fun _ _ _ h => h) (Or.inl ⟨by rfl, ?_⟩) (by assumption) ?_
      rotate_left 1
      · (intro w' hSw; (try dsimp only at hSw); go_simp; try with_reducible rfl)
      try simp only [Act.put, List.setIfInBounds_toArray, List.set_cons_zero, List.set_cons_succ, List.getElem_toArray, List.getElem_cons_zero, List.getElem_cons_succ]
      refine wpAnyH_ready (rs := [17]) (by kernel_rfl) (by simp) ?_
      refine AllReadyH.cons rfl (fun K hK => ?_) AllReadyH.nil
      have yy0 : Uz.cell? ⟨g0, 0, none⟩ = some (.int .i64 0) := BX0.out.cell (i := 0) (by omega)
      have fz0 := BX0.out.frozen 0
      have yy1 : Uz.cell? ⟨g0, 1, none⟩ = some (.int .i64 0) := BX0.out.cell (i := 1) (by omega)
      have fz1 := BX0.out.frozen 1
      have l7 := BX0.out.lt
      have C7 := hik ((((Chg.refl (fun b => b = g0) Uz).setCell (p := ⟨g0, 0, none⟩) (fun _ => rfl) (.int .i64 y1)).setCell (p := ⟨g0, 1, none⟩) (fun _ => rfl) (.int .i64 y2)))
      simp only [List.getElem_toArray, List.getElem_cons_zero, List.getElem_cons_succ]
      go_simp
      replace KW := hik (((KW.out.setCell (p := ⟨g0, 0, none⟩) (fun l => absurd (show g0 < W3.heap.size from l) (by omega)) (.int .i64 y1)).setCell (p := ⟨g0, 1, none⟩) (fun l => absurd (show g0 < W3.heap.size from l) (by omega)) (.int .i64 y2)))
      refine hK.out _ _ KW.out (fun hHeld => ?_)
      clear hK K
      try simp only [Act.put, List.setIfInBounds_toArray, List.set_cons_zero, List.set_cons_succ, List.getElem_toArray, List.getElem_cons_zero, List.getElem_cons_succ]
      clear yy0 fz0 yy1 fz1 l7
      replace BX1 := hik (rowIs_chg BX1.out C7.out (fun e => hd01 e.symm))
      replace RP := hik (RP.out.farE C7.out (fun b hb ec => (UPP.out b ec).elim .inl (fun q => .inr (fun e => ha0 (.inr ⟨by rw [← show b = g0 from e]; exact hb, by rw [← show b = g0 from e]; exact q⟩)))))
      replace RS := hik (RS.out.farE C7.out (fun b hb ec => (UPS.out b ec).elim .inl (fun q => .inr (fun e => ha0 (.inr ⟨by rw [← show b = g0 from e]; exact hb, by rw [← show b = g0 from e]; exact q⟩)))))
      have RB0 : Hid (World.rowIs _ g0 31 2 (fun i => (#[.int .i64 y1, .int .i64 y2] : Array Value).getD i undef)) := hik (((BX0.out.set 0 (.int .i64 y1)).set 1 (.int .i64 y2)).congr (fun i hi => by rcases (show i = 0 ∨ i = 1 by omega) with rfl | rfl <;> rfl))
      replace HTOP := hik (Nat.le_trans HTOP.out C7.out.size)
      clear C7 BX0
      generalize hUS : ((Uz.setCell ⟨g0, 0, none⟩ (.int .i64 y1)).setCell ⟨g0, 1, none⟩ (.int .i64 y2)) = Us1 at RB0 KW hHeld BX1 RP RS HTOP ⊢
      clear hUS
      refine wpAnyH_ready (rs := [18]) (by kernel_rfl) (by simp) ?_
      refine AllReadyH.cons rfl (fun K hK => ?_) AllReadyH.nil
      have yy0 : Us1.cell? ⟨g1, 0, none⟩ = some (.slice none 0 0) := BX1.out.cell (i := 0) (by omega)
      have fz0 := BX1.out.frozen 0
      have yy1 : Us1.cell? ⟨g1, 1, none⟩ = some (.int .i64 0) := BX1.out.cell (i := 1) (by omega)
      have fz1 := BX1.out.frozen 1
      have yy2 : Us1.cell? ⟨g1, 2, none⟩ = some (.string ⟨#[]⟩) := BX1.out.cell (i := 2) (by omega)
      have fz2 := BX1.out.frozen 2
      have yy3 : Us1.cell? ⟨g1, 3, none⟩ = some (.int .i64 0) := BX1.out.cell (i := 3) (by omega)
      have fz3 := BX1.out.frozen 3
      have l7 := BX1.out.lt
      have C7 := hik ((((((Chg.refl (fun b => b = g1) Us1).setCell (p := ⟨g1, 0, none⟩) (fun _ => rfl) (.slice cS nS capS)).setCell (p := ⟨g1, 1, none⟩) (fun _ => rfl) (.int .i64 aa)).setCell (p := ⟨g1, 2, none⟩) (fun _ => rfl) (.string ss)).setCell (p := ⟨g1, 3, none⟩) (fun _ => rfl) (.int .i64 cc)))
      simp only [List.getElem_toArray, List.getElem_cons_zero, List.getElem_cons_succ]
      go_simp
      replace KW := hik (((((KW.out.setCell (p := ⟨g1, 0, none⟩) (fun l => absurd (show g1 < W3.heap.size from l) (by omega)) (.slice cS nS capS)).setCell (p := ⟨g1, 1, none⟩) (fun l => absurd (show g1 < W3.heap.size from l) (by omega)) (.int .i64 aa)).setCell (p := ⟨g1, 2, none⟩) (fun l => absurd (show g1 < W3.heap.size from l) (by omega)) (.string ss)).setCell (p := ⟨g1, 3, none⟩) (fun l => absurd (show g1 < W3.heap.size from l) (by omega)) (.int .i64 cc)))
      refine hK.out _ _ KW.out (fun hHeld => ?_)
      clear hK K
      try simp only [Act.put, List.setIfInBounds_toArray, List.set_cons_zero, List.set_cons_succ, List.getElem_toArray, List.getElem_cons_zero, List.getElem_cons_succ]
      clear yy0 fz0 yy1 fz1 yy2 fz2 yy3 fz3 l7
      replace RB0 := hik (rowIs_chg RB0.out C7.out (fun e => hd01 e))
      replace RP := hik (RP.out.farE C7.out (fun b hb ec => (UPP.out b ec).elim .inl (fun q => .inr (fun e => ha1 (.inr ⟨by rw [← show b = g1 from e]; exact hb, by rw [← show b = g1 from e]; exact q⟩)))))
      replace RS := hik (RS.out.farE C7.out (fun b hb ec => (UPS.out b ec).elim .inl (fun q => .inr (fun e => ha1 (.inr ⟨by rw [← show b = g1 from e]; exact hb, by rw [← show b = g1 from e]; exact q⟩)))))
      have RB1 : Hid (World.rowIs _ g1 33 4 (fun i => (#[.slice cS nS capS, .int .i64 aa, .string ss, .int .i64 cc] : Array Value).getD i undef)) := hik (((((BX1.out.set 0 (.slice cS nS capS)).set 1 (.int .i64 aa)).set 2 (.string ss)).set 3 (.int .i64 cc)).congr (fun i hi => by rcases (show i = 0 ∨ i = 1 ∨ i = 2 ∨ i = 3 by omega) with rfl | rfl | rfl | rfl <;> rfl))
      replace HTOP := hik (Nat.le_trans HTOP.out C7.out.size)
      clear C7 BX1
      generalize hUS : ((((Us1.setCell ⟨g1, 0, none⟩ (.slice cS nS capS)).setCell ⟨g1, 1, none⟩ (.int .i64 aa)).setCell ⟨g1, 2, none⟩ (.string ss)).setCell ⟨g1, 3, none⟩ (.int .i64 cc)) = Us2 at RB1 KW hHeld RB0 RP RS HTOP ⊢
      clear hUS
      refine wpAnyH_take (i := 19) (v := ?_) rfl (by kernel_rfl) (by kernel_rfl) (by kernel_rfl) (fun _ _ _ h => h) (Or.inl ⟨by rfl, ?_⟩) (by assumption) ?_
      rotate_left 1
      · (intro w' hSw; (try dsimp only at hSw); go_simp; try with_reducible rfl)
      try simp only [Act.put, List.setIfInBounds_toArray, List.set_cons_zero, List.set_cons_succ, List.getElem_toArray, List.getElem_cons_zero, List.getElem_cons_succ]
      refine wpAnyH_done (by kernel_rfl) ?_ _
      have R0 := hik (show World.rowIs _ g0 31 2 (pv2 (.int .i64 y1) (.int .i64 y2)) from RB0.out.congr (fun i hi => by rcases (show i = 0 ∨ i = 1 by omega) with rfl | rfl <;> rfl))
      have R1 := hik (show World.rowIs _ g1 33 4 (pv4 (.slice cS nS capS) (.int .i64 aa) (.string ss) (.int .i64 cc)) from RB1.out.congr (fun i hi => by rcases (show i = 0 ∨ i = 1 ∨ i = 2 ∨ i = 3 by omega) with rfl | rfl | rfl | rfl <;> rfl))
      clear SA RB0 RB1
      go_wp2_with fail
      go_meet
      exact ⟨cP, cS, capP, capS, g0, g1, U4'.heap.size, U4.heap.size, rfl, rfl, rfl, rfl, RP, RS, R0, R1, KW, hik ⟨hg0, hg1, HLO.out, fun x => ha0 (.inr x), fun x => ha1 (.inr x), hd01, hsU4.out, HTOP.out⟩, hik ⟨UPP.out, UPS.out⟩⟩
  case rest =>
    as_aux_lemma =>
      obtain ⟨cP, cS, capP, capS, gw1, gw, lo1, hi1, rfl, rfl, rfl, rfl, PW0, SW0, RW1, RW, KW, BW, _⟩ := hcut
      rename World => W4
      have s4 := hik KW.out.size
      replace G := hik (G.out.trans KW.out)
      replace A := hik (rowIs_keep A.out KW.out)
      replace CB := hik (rowIs_keep CB.out KW.out)
      have PW := hik PW0.out.pairs
      have SW := hik SW0.out.pairs
      have GW := hik (Chg.refl nob W4)
      have lw1 := hik RW1.out.lt
      have lw := hik RW.out.lt
      clear KW PW0 SW0
      go_wp2_with fail
      refine (toSS_any c2 len2 cap2 A2 L2 C2 f2 g2 _ (hik (RowsV.keep HP2.out G.out)) HL hn2').mono ?_
      rintro e W5 ⟨B3, rfl, r3, t3, d3, kk⟩
      have s5 := hik kk.size
      replace G := hik (G.out.trans kk)
      replace A := hik (rowIs_keep A.out kk)
      replace CB := hik (rowIs_keep CB.out kk)
      replace RW1 := hik (rowIs_keep RW1.out kk)
      replace RW := hik (rowIs_keep RW.out kk)
      replace GW := hik (GW.out.trans kk)
      have XR := hik r3
      have XT := hik (show ∀ i, i < len2 → W5.rowIs (B3 i) 31 (L2 i * 2) (pf (f2 i) (g2 i)) from fun i hi => (t3 i hi).2)
      have XD := hik d3
      have HB := hik (show ∀ i, i < len2 → W4.heap.size < B3 i ∧ B3 i < W5.heap.size from fun i hi => ⟨(t3 i hi).1, (t3 i hi).2.lt⟩)
      clear r3 t3 d3
      clear kk
      have xA0 : W5.cell? ⟨w.heap.size + 1, 0, none⟩ = some (.slice c4 len4 cap4) := A.out.cell (by omega)
      have xA1 : W5.cell? ⟨w.heap.size + 1, 1, none⟩ = some (.int .i64 at4) := A.out.cell (by omega)
      have xA2 : W5.cell? ⟨w.heap.size + 1, 2, none⟩ = some (.string st4) := A.out.cell (by omega)
      have xA3 : W5.cell? ⟨w.heap.size + 1, 3, none⟩ = some (.int .i64 ct4) := A.out.cell (by omega)
      have zA := A.out.lt
      go_wp2_with fail
      refine (toSource_any c4 len4 cap4 f4 g4 at4 st4 ct4 _ (hik (HP4.out.keep G.out)) hn4).mono ?_
      rintro e W6 ⟨bx, hbx, rfl, hr, kk⟩
      clear xA0 xA1 xA2 xA3 zA
      have s6 := hik kk.size
      replace G := hik (G.out.trans kk)
      replace A := hik (rowIs_keep A.out kk)
      replace CB := hik (rowIs_keep CB.out kk)
      replace RW1 := hik (rowIs_keep RW1.out kk)
      replace RW := hik (rowIs_keep RW.out kk)
      replace GW := hik (GW.out.trans kk)
      replace XR := hik (rowIs_keep XR.out kk)
      replace XT := hik (fun i hi => rowIs_keep (XT.out i hi) kk)
      have Ox := hik (OwnE.of_row hr (Nat.le_refl bx))
      have lx := hik hr.lt
      have ux := hik hbx
      clear hr hbx
      clear kk
      go_upto_region 11 with fail
      have kk := (Chg.refl nob W6).alloc (.cells #[.slice (some ⟨bx, 0, none⟩) len4 len4, .int .i64 at4, .string st4, .int .i64 ct4] 33)
      have RX := hik (row4_new W6 (.slice (some ⟨bx, 0, none⟩) len4 len4) (.int .i64 at4) (.string st4) (.int .i64 ct4) 33)
      have s7 := hik (show W6.heap.size + 1 = (W6.alloc (.cells #[.slice (some ⟨bx, 0, none⟩) len4 len4, .int .i64 at4, .string st4, .int .i64 ct4] 33)).heap.size by simp)
      replace G := hik (G.out.trans kk)
      replace A := hik (rowIs_keep A.out kk)
      replace CB := hik (rowIs_keep CB.out kk)
      replace RW1 := hik (rowIs_keep RW1.out kk)
      replace RW := hik (rowIs_keep RW.out kk)
      replace GW := hik (GW.out.trans kk)
      replace XR := hik (rowIs_keep XR.out kk)
      replace XT := hik (fun i hi => rowIs_keep (XT.out i hi) kk)
      replace Ox := hik (Ox.out.keep kk)
      clear kk
      generalize hE : W6.alloc (.cells #[.slice (some ⟨bx, 0, none⟩) len4 len4, .int .i64 at4, .string st4, .int .i64 ct4] 33) = W7 at G A CB RW1 RW GW XR XT Ox RX s7 ⊢
      clear hE
      go_upto_region 11 with fail
      go_cut [18, 19, 20, 21] (fun u0 u1 pp qq W => ∃ (cP cS : Option Addr) (capP capS gE gZ lo hi : Nat), u0 = .slice cP nP capP ∧ u1 = .pointer (some ⟨gE, 0, none⟩) ∧ pp = .pointer (some ⟨gZ, 0, none⟩) ∧ qq = .int .i64 q ∧ Hid (OwnE W lo cP nP (cA Rr) (cB Rr)) ∧ Hid (OwnE W lo cS nS f4 g4) ∧ Hid (W.rowIs gE 31 2 (pv2 (.int .i64 y1) (.int .i64 y2))) ∧ Hid (W.rowIs gZ 33 4 (pv4 (.slice cS nS capS) (.int .i64 aa) (.string ss) (.int .i64 cc))) ∧ Hid (Chg nob W7 W) ∧ Hid (W7.heap.size ≤ gE ∧ W7.heap.size ≤ gZ ∧ W7.heap.size ≤ lo ∧ ¬ (lo ≤ gE ∧ gE < hi) ∧ ¬ (lo ≤ gZ ∧ gZ < hi) ∧ gE ≠ gZ ∧ lo ≤ hi ∧ hi ≤ W.heap.size) ∧ Hid ((∀ b, cP = some ⟨b, 0, none⟩ → nP = 0 ∨ b < hi) ∧ (∀ b, cS = some ⟨b, 0, none⟩ → nS = 0 ∨ b < hi)) ∧ Hid (∀ b, BlkE cP b → ¬ BlkE cS b))
      case first =>
        focus
          have xCB0 : W7.cell? ⟨w.heap.size, 0, none⟩ = some (.int .i64 a1) := CB.out.cell (by omega)
          have xCB1 : W7.cell? ⟨w.heap.size, 1, none⟩ = some (.int .i64 b1) := CB.out.cell (by omega)
          have zCB := CB.out.lt
          have xRX0 : W7.cell? ⟨W6.heap.size, 0, none⟩ = some (.slice (some ⟨bx, 0, none⟩) len4 len4) := RX.out.cell (by omega)
          have xRX1 : W7.cell? ⟨W6.heap.size, 1, none⟩ = some (.int .i64 at4) := RX.out.cell (by omega)
          have xRX2 : W7.cell? ⟨W6.heap.size, 2, none⟩ = some (.string st4) := RX.out.cell (by omega)
          have xRX3 : W7.cell? ⟨W6.heap.size, 3, none⟩ = some (.int .i64 ct4) := RX.out.cell (by omega)
          have zRX := RX.out.lt
          have SA := hik (fun (WW : World) (kW : Chg nob W7 WW) => (show (WW.cell? ⟨w.heap.size, 0, none⟩ = some (.int .i64 a1) ∧ WW.cell? ⟨w.heap.size, 1, none⟩ = some (.int .i64 b1) ∧ WW.cell? ⟨W6.heap.size, 0, none⟩ = some (.slice (some ⟨bx, 0, none⟩) len4 len4) ∧ WW.cell? ⟨W6.heap.size, 1, none⟩ = some (.int .i64 at4) ∧ WW.cell? ⟨W6.heap.size, 2, none⟩ = some (.string st4) ∧ WW.cell? ⟨W6.heap.size, 3, none⟩ = some (.int .i64 ct4)) from ⟨kW.see xCB0, kW.see xCB1, kW.see xRX0, kW.see xRX1, kW.see xRX2, kW.see xRX3⟩))
          refine wp_regionC [⟨12, 19, .cells #[.int .i64 0, .int .i64 0] 31, fun b => .pointer (some ⟨b, 0, none⟩)⟩, ⟨13, 20, .cells #[.slice none 0 0, .int .i64 0, .string ⟨#[]⟩, .int .i64 0] 33, fun b => .pointer (some ⟨b, 0, none⟩)⟩] 16 (by kernel_rfl) (by rfl) (by rfl) (by kernel_rfl) ?_
          refine wpC_take (i := 0) (v := ?_) rfl (by kernel_rfl) (by kernel_rfl) (by rfl) (fun _ _ _ h => h) (fun u => Or.inl ⟨by rfl, ?_⟩) ?_
          rotate_left 1
          · (intro w' hSw; have hSw := SA.out _ hSw; (try dsimp only at hSw); try simp only [putF, Act.put, List.setIfInBounds_toArray, List.set_cons_zero, List.set_cons_succ, List.getElem_toArray, List.getElem_cons_zero, List.getElem_cons_succ]; go_simp; try with_reducible rfl)
          try simp only [Act.put, List.setIfInBounds_toArray, List.set_cons_zero, List.set_cons_succ, List.getElem_toArray, List.getElem_cons_zero, List.getElem_cons_succ]
          refine wpC_take (i := 1) (v := ?_) rfl (by kernel_rfl) (by kernel_rfl) (by rfl) (fun _ _ _ h => h) (fun u => Or.inl ⟨by rfl, ?_⟩) ?_
          rotate_left 1
          · (intro w' hSw; have hSw := SA.out _ hSw; (try dsimp only at hSw); try simp only [putF, Act.put, List.setIfInBounds_toArray, List.set_cons_zero, List.set_cons_succ, List.getElem_toArray, List.getElem_cons_zero, List.getElem_cons_succ]; go_simp; try with_reducible rfl)
          try simp only [Act.put, List.setIfInBounds_toArray, List.set_cons_zero, List.set_cons_succ, List.getElem_toArray, List.getElem_cons_zero, List.getElem_cons_succ]
          refine wpC_take (i := 3) (v := ?_) rfl (by kernel_rfl) (by kernel_rfl) (by rfl) (fun _ _ _ h => h) (fun u => Or.inl ⟨by rfl, ?_⟩) ?_
          rotate_left 1
          · (intro w' hSw; have hSw := SA.out _ hSw; (try dsimp only at hSw); try simp only [putF, Act.put, List.setIfInBounds_toArray, List.set_cons_zero, List.set_cons_succ, List.getElem_toArray, List.getElem_cons_zero, List.getElem_cons_succ]; go_simp; try with_reducible rfl)
          try simp only [Act.put, List.setIfInBounds_toArray, List.set_cons_zero, List.set_cons_succ, List.getElem_toArray, List.getElem_cons_zero, List.getElem_cons_succ]
          refine wpC_take (i := 4) (v := ?_) rfl (by kernel_rfl) (by kernel_rfl) (by rfl) (fun _ _ _ h => h) (fun u => Or.inl ⟨by rfl, ?_⟩) ?_
          rotate_left 1
          · (intro w' hSw; have hSw := SA.out _ hSw; (try dsimp only at hSw); try simp only [putF, Act.put, List.setIfInBounds_toArray, List.set_cons_zero, List.set_cons_succ, List.getElem_toArray, List.getElem_cons_zero, List.getElem_cons_succ]; go_simp; try with_reducible rfl)
          try simp only [Act.put, List.setIfInBounds_toArray, List.set_cons_zero, List.set_cons_succ, List.getElem_toArray, List.getElem_cons_zero, List.getElem_cons_succ]
          refine wpC_take (i := 5) (v := ?_) rfl (by kernel_rfl) (by kernel_rfl) (by rfl) (fun _ _ _ h => h) (fun u => Or.inl ⟨by rfl, ?_⟩) ?_
          rotate_left 1
          · (intro w' hSw; have hSw := SA.out _ hSw; (try dsimp only at hSw); try simp only [putF, Act.put, List.setIfInBounds_toArray, List.set_cons_zero, List.set_cons_succ, List.getElem_toArray, List.getElem_cons_zero, List.getElem_cons_succ]; go_simp; try with_reducible rfl)
          try simp only [Act.put, List.setIfInBounds_toArray, List.set_cons_zero, List.set_cons_succ, List.getElem_toArray, List.getElem_cons_zero, List.getElem_cons_succ]
          refine wpC_step (i := 2) rfl (by kernel_rfl) (by rfl) (List.forall_mem_cons.2 ⟨FloOK.alloc rfl 31 rfl rfl rfl (fun w => by go_simp), (List.forall_mem_cons.2 ⟨FloOK.alloc rfl 33 rfl rfl rfl (fun w => by go_simp), (fun _ h => absurd h List.not_mem_nil)⟩)⟩) (by rfl) ?_
          intro bb gg uu V1' hrd hB k0 kW K' hK
          clear hrd hB
          have KW := hik k0
          clear kW k0
          refine stepL_callN 7 #[.tmp 59] #[23] (by rfl) (by rfl) #[.agg #[.int .i64 a1, .int .i64 b1]] (by (try simp only [putF, Act.put, List.setIfInBounds_toArray, List.set_cons_zero, List.set_cons_succ, List.getElem_toArray, List.getElem_cons_zero, List.getElem_cons_succ]); simp only [List.map_toArray, List.map_cons, List.map_nil] <;> rfl) (run_go Tryz.func7 (by kernel_rfl) (by kernel_rfl) _ _) (toExt_any a1 b1 _) ?_
          rintro e V1 ⟨he, kk⟩
          refine ⟨_, he, hK _ _ kk ?_⟩
          have hsV1 := hik kk.size
          clear he kk hK K' KW bb gg uu
          try simp only [Act.put, List.setIfInBounds_toArray, List.set_cons_zero, List.set_cons_succ, List.getElem_toArray, List.getElem_cons_zero, List.getElem_cons_succ]
          refine wpC_step (i := 6) rfl (by kernel_rfl) (by rfl) (List.forall_mem_cons.2 ⟨FloOK.alloc rfl 31 rfl rfl rfl (fun w => by go_simp), (List.forall_mem_cons.2 ⟨FloOK.alloc rfl 33 rfl rfl rfl (fun w => by go_simp), (fun _ h => absurd h List.not_mem_nil)⟩)⟩) (by rfl) ?_
          intro bb gg uu V2' hrd hB k0 kW K' hK
          clear hrd hB
          have KW := hik k0
          clear kW k0
          refine stepL_callN 10 #[.tmp 58, .tmp 60, .tmp 61, .tmp 62, .tmp 63] #[3, 31, 37, 3, 33] (by rfl) (by rfl) #[.int .i64 a0, .agg #[.int .i64 a1, .int .i64 b1], .slice (some ⟨W4.heap.size, 0, none⟩) len2 len2, .int .i64 a3, .agg #[.slice (some ⟨bx, 0, none⟩) len4 len4, .int .i64 at4, .string st4, .int .i64 ct4]] (by (try simp only [putF, Act.put, List.setIfInBounds_toArray, List.set_cons_zero, List.set_cons_succ, List.getElem_toArray, List.getElem_cons_zero, List.getElem_cons_succ]); simp only [List.map_toArray, List.map_cons, List.map_nil] <;> rfl) (run_go Tryz.func10 (by kernel_rfl) (by kernel_rfl) _ _) (HI.out _ _ _ _ _ (hik (CopiedSS.rows (w := w) (rowIs_keep XR.out KW.out) (fun i hi => rowIs_keep (XT.out i hi) KW.out))) (hik (Ox.out.keep KW.out).pairs) (hik (ht.out.keep (G.out.trans KW.out)))) ?_
          rintro e V2 ⟨cP, capP, cS, capS, he, rP, rS, rA, kk⟩
          have RP := hik rP
          have RS := hik rS
          have UPP := hik rP.upper
          have UPS := hik rS.upper
          have AP := hik rA
          clear rA
          have HLO := hik (show W7.heap.size ≤ V2'.heap.size from KW.out.size)
          clear rP rS
          refine ⟨_, he, hK _ _ kk ?_⟩
          have hsV2 := hik kk.size
          clear he kk hK K' KW bb gg uu
          try simp only [Act.put, List.setIfInBounds_toArray, List.set_cons_zero, List.set_cons_succ, List.getElem_toArray, List.getElem_cons_zero, List.getElem_cons_succ]
          refine wpC_take (i := 7) (v := ?_) rfl (by kernel_rfl) (by kernel_rfl) (by rfl) (fun _ _ _ h => h) (fun u => Or.inl ⟨by rfl, ?_⟩) ?_
          rotate_left 1
          · (intro w' hSw; have hSw := SA.out _ hSw; (try dsimp only at hSw); try simp only [putF, Act.put, List.setIfInBounds_toArray, List.set_cons_zero, List.set_cons_succ, List.getElem_toArray, List.getElem_cons_zero, List.getElem_cons_succ]; go_simp; try with_reducible rfl)
          try simp only [Act.put, List.setIfInBounds_toArray, List.set_cons_zero, List.set_cons_succ, List.getElem_toArray, List.getElem_cons_zero, List.getElem_cons_succ]
          refine wpC_take (i := 8) (v := ?_) rfl (by kernel_rfl) (by kernel_rfl) (by rfl) (fun _ _ _ h => h) (fun u => Or.inl ⟨by rfl, ?_⟩) ?_
          rotate_left 1
          · (intro w' hSw; have hSw := SA.out _ hSw; (try dsimp only at hSw); try simp only [putF, Act.put, List.setIfInBounds_toArray, List.set_cons_zero, List.set_cons_succ, List.getElem_toArray, List.getElem_cons_zero, List.getElem_cons_succ]; go_simp; try with_reducible rfl)
          try simp only [Act.put, List.setIfInBounds_toArray, List.set_cons_zero, List.set_cons_succ, List.getElem_toArray, List.getElem_cons_zero, List.getElem_cons_succ]
          refine wpC_take (i := 9) (v := ?_) rfl (by kernel_rfl) (by kernel_rfl) (by rfl) (fun _ _ _ h => h) (fun u => Or.inl ⟨by rfl, ?_⟩) ?_
          rotate_left 1
          · (intro w' hSw; have hSw := SA.out _ hSw; (try dsimp only at hSw); try simp only [putF, Act.put, List.setIfInBounds_toArray, List.set_cons_zero, List.set_cons_succ, List.getElem_toArray, List.getElem_cons_zero, List.getElem_cons_succ]; go_simp; try with_reducible rfl)
          try simp only [Act.put, List.setIfInBounds_toArray, List.set_cons_zero, List.set_cons_succ, List.getElem_toArray, List.getElem_cons_zero, List.getElem_cons_succ]
          refine wpC_take (i := 10) (v := ?_) rfl (by kernel_rfl) (by kernel_rfl) (by rfl) (fun _ _ _ h => h) (fun u => Or.inl ⟨by rfl, ?_⟩) ?_
          rotate_left 1
          · (intro w' hSw; have hSw := SA.out _ hSw; (try dsimp only at hSw); try simp only [putF, Act.put, List.setIfInBounds_toArray, List.set_cons_zero, List.set_cons_succ, List.getElem_toArray, List.getElem_cons_zero, List.getElem_cons_succ]; go_simp; try with_reducible rfl)
          try simp only [Act.put, List.setIfInBounds_toArray, List.set_cons_zero, List.set_cons_succ, List.getElem_toArray, List.getElem_cons_zero, List.getElem_cons_succ]
          refine wpC_take (i := 11) (v := ?_) rfl (by kernel_rfl) (by kernel_rfl) (by rfl) (fun _ _ _ h => h) (fun u => Or.inl ⟨by rfl, ?_⟩) ?_
          rotate_left 1
          · (intro w' hSw; have hSw := SA.out _ hSw; (try dsimp only at hSw); try simp only [putF, Act.put, List.setIfInBounds_toArray, List.set_cons_zero, List.set_cons_succ, List.getElem_toArray, List.getElem_cons_zero, List.getElem_cons_succ]; go_simp; try with_reducible rfl)
          try simp only [Act.put, List.setIfInBounds_toArray, List.set_cons_zero, List.set_cons_succ, List.getElem_toArray, List.getElem_cons_zero, List.getElem_cons_succ]
          refine wpC_all (by kernel_rfl) (by rfl) (List.forall_mem_cons.2 ⟨FloOK.alloc rfl 31 rfl rfl rfl (fun w => by go_simp), (List.forall_mem_cons.2 ⟨FloOK.alloc rfl 33 rfl rfl rfl (fun w => by go_simp), (fun _ h => absurd h List.not_mem_nil)⟩)⟩) ?_
          intro gg uu Vz hB k0 kW
          have KW := hik k0
          have HTOP := hik kW.size
          replace RP := hik (RP.out.keep kW)
          replace RS := hik (RS.out.keep kW)
          obtain ⟨eu0, hg0, hl0, hc0, ha0, hd0⟩ := hB 0 _ rfl rfl
          have eu0 : uu 0 = .pointer (some ⟨gg 0, 0, none⟩) := eu0
          have BX0 := hik (rowN_at (n := 2) hc0 rfl)
          clear hd0 hc0 hl0
          obtain ⟨eu1, hg1, hl1, hc1, ha1, hd1⟩ := hB 1 _ rfl rfl
          have eu1 : uu 1 = .pointer (some ⟨gg 1, 0, none⟩) := eu1
          have hd01 : gg 0 ≠ gg 1 := hd1 0 (by omega) rfl
          have BX1 := hik (rowN_at (n := 4) hc1 rfl)
          clear hd1 hc1 hl1
          clear hB kW
          generalize gg 0 = g0 at eu0 hg0 ha0 BX0 eu1 hg1 ha1 BX1 hd01
          generalize gg 1 = g1 at eu0 hg0 ha0 BX0 eu1 hg1 ha1 BX1 hd01
          refine wpAnyH_as (fuel' := 4) rfl (listed' := #[true, true, true, true, true, true, true, true, true, true, true, true, true, true, false, false, false, false]) (by kernel_rfl) ?_
          simp only [putF, eu0, eu1, Act.put, List.setIfInBounds_toArray, List.set_cons_zero, List.set_cons_succ, List.getElem_toArray, List.getElem_cons_zero, List.getElem_cons_succ]
          clear eu0 eu1
          have hHeld := k0
          clear k0
          refine wpAnyH_take (i := 14) (v := ?_) rfl (by kernel_rfl) (by kernel_rfl) (by kernel_rfl) (fun _ _ _ h => h) (Or.inl ⟨by rfl, ?_⟩) (by assumption) ?_
          rotate_left 1
          · (intro w' hSw; (try dsimp only at hSw); go_simp; try with_reducible rfl)
          try simp only [Act.put, List.setIfInBounds_toArray, List.set_cons_zero, List.set_cons_succ, List.getElem_toArray, List.getElem_cons_zero, List.getElem_cons_succ]
          refine wpAnyH_ready (rs := [15]) (by kernel_rfl) (by simp) ?_
          refine AllReadyH.cons rfl (fun K hK => ?_) AllReadyH.nil
          have yy0 : Vz.cell? ⟨g0, 0, none⟩ = some (.int .i64 0) := BX0.out.cell (i := 0) (by omega)
          have fz0 := BX0.out.frozen 0
          have yy1 : Vz.cell? ⟨g0, 1, none⟩ = some (.int .i64 0) := BX0.out.cell (i := 1) (by omega)
          have fz1 := BX0.out.frozen 1
          have l7 := BX0.out.lt
          have C7 := hik ((((Chg.refl (fun b => b = g0) Vz).setCell (p := ⟨g0, 0, none⟩) (fun _ => rfl) (.int .i64 y1)).setCell (p := ⟨g0, 1, none⟩) (fun _ => rfl) (.int .i64 y2)))
          simp only [List.getElem_toArray, List.getElem_cons_zero, List.getElem_cons_succ]
          go_simp
          replace KW := hik (((KW.out.setCell (p := ⟨g0, 0, none⟩) (fun l => absurd (show g0 < W7.heap.size from l) (by omega)) (.int .i64 y1)).setCell (p := ⟨g0, 1, none⟩) (fun l => absurd (show g0 < W7.heap.size from l) (by omega)) (.int .i64 y2)))
          refine hK.out _ _ KW.out (fun hHeld => ?_)
          clear hK K
          try simp only [Act.put, List.setIfInBounds_toArray, List.set_cons_zero, List.set_cons_succ, List.getElem_toArray, List.getElem_cons_zero, List.getElem_cons_succ]
          clear yy0 fz0 yy1 fz1 l7
          replace BX1 := hik (rowIs_chg BX1.out C7.out (fun e => hd01 e.symm))
          replace RP := hik (RP.out.farE C7.out (fun b hb ec => (UPP.out b ec).elim .inl (fun q => .inr (fun e => ha0 (.inr ⟨by rw [← show b = g0 from e]; exact hb, by rw [← show b = g0 from e]; exact q⟩)))))
          replace RS := hik (RS.out.farE C7.out (fun b hb ec => (UPS.out b ec).elim .inl (fun q => .inr (fun e => ha0 (.inr ⟨by rw [← show b = g0 from e]; exact hb, by rw [← show b = g0 from e]; exact q⟩)))))
          have RB0 : Hid (World.rowIs _ g0 31 2 (fun i => (#[.int .i64 y1, .int .i64 y2] : Array Value).getD i undef)) := hik (((BX0.out.set 0 (.int .i64 y1)).set 1 (.int .i64 y2)).congr (fun i hi => by rcases (show i = 0 ∨ i = 1 by omega) with rfl | rfl <;> rfl))
          replace HTOP := hik (Nat.le_trans HTOP.out C7.out.size)
          clear C7 BX0
          generalize hUS : ((Vz.setCell ⟨g0, 0, none⟩ (.int .i64 y1)).setCell ⟨g0, 1, none⟩ (.int .i64 y2)) = Vs1 at RB0 KW hHeld BX1 RP RS HTOP ⊢
          clear hUS
          refine wpAnyH_ready (rs := [16]) (by kernel_rfl) (by simp) ?_
          refine AllReadyH.cons rfl (fun K hK => ?_) AllReadyH.nil
          have yy0 : Vs1.cell? ⟨g1, 0, none⟩ = some (.slice none 0 0) := BX1.out.cell (i := 0) (by omega)
          have fz0 := BX1.out.frozen 0
          have yy1 : Vs1.cell? ⟨g1, 1, none⟩ = some (.int .i64 0) := BX1.out.cell (i := 1) (by omega)
          have fz1 := BX1.out.frozen 1
          have yy2 : Vs1.cell? ⟨g1, 2, none⟩ = some (.string ⟨#[]⟩) := BX1.out.cell (i := 2) (by omega)
          have fz2 := BX1.out.frozen 2
          have yy3 : Vs1.cell? ⟨g1, 3, none⟩ = some (.int .i64 0) := BX1.out.cell (i := 3) (by omega)
          have fz3 := BX1.out.frozen 3
          have l7 := BX1.out.lt
          have C7 := hik ((((((Chg.refl (fun b => b = g1) Vs1).setCell (p := ⟨g1, 0, none⟩) (fun _ => rfl) (.slice cS nS capS)).setCell (p := ⟨g1, 1, none⟩) (fun _ => rfl) (.int .i64 aa)).setCell (p := ⟨g1, 2, none⟩) (fun _ => rfl) (.string ss)).setCell (p := ⟨g1, 3, none⟩) (fun _ => rfl) (.int .i64 cc)))
          simp only [List.getElem_toArray, List.getElem_cons_zero, List.getElem_cons_succ]
          go_simp
          replace KW := hik (((((KW.out.setCell (p := ⟨g1, 0, none⟩) (fun l => absurd (show g1 < W7.heap.size from l) (by omega)) (.slice cS nS capS)).setCell (p := ⟨g1, 1, none⟩) (fun l => absurd (show g1 < W7.heap.size from l) (by omega)) (.int .i64 aa)).setCell (p := ⟨g1, 2, none⟩) (fun l => absurd (show g1 < W7.heap.size from l) (by omega)) (.string ss)).setCell (p := ⟨g1, 3, none⟩) (fun l => absurd (show g1 < W7.heap.size from l) (by omega)) (.int .i64 cc)))
          refine hK.out _ _ KW.out (fun hHeld => ?_)
          clear hK K
          try simp only [Act.put, List.setIfInBounds_toArray, List.set_cons_zero, List.set_cons_succ, List.getElem_toArray, List.getElem_cons_zero, List.getElem_cons_succ]
          clear yy0 fz0 yy1 fz1 yy2 fz2 yy3 fz3 l7
          replace RB0 := hik (rowIs_chg RB0.out C7.out (fun e => hd01 e))
          replace RP := hik (RP.out.farE C7.out (fun b hb ec => (UPP.out b ec).elim .inl (fun q => .inr (fun e => ha1 (.inr ⟨by rw [← show b = g1 from e]; exact hb, by rw [← show b = g1 from e]; exact q⟩)))))
          replace RS := hik (RS.out.farE C7.out (fun b hb ec => (UPS.out b ec).elim .inl (fun q => .inr (fun e => ha1 (.inr ⟨by rw [← show b = g1 from e]; exact hb, by rw [← show b = g1 from e]; exact q⟩)))))
          have RB1 : Hid (World.rowIs _ g1 33 4 (fun i => (#[.slice cS nS capS, .int .i64 aa, .string ss, .int .i64 cc] : Array Value).getD i undef)) := hik (((((BX1.out.set 0 (.slice cS nS capS)).set 1 (.int .i64 aa)).set 2 (.string ss)).set 3 (.int .i64 cc)).congr (fun i hi => by rcases (show i = 0 ∨ i = 1 ∨ i = 2 ∨ i = 3 by omega) with rfl | rfl | rfl | rfl <;> rfl))
          replace HTOP := hik (Nat.le_trans HTOP.out C7.out.size)
          clear C7 BX1
          generalize hUS : ((((Vs1.setCell ⟨g1, 0, none⟩ (.slice cS nS capS)).setCell ⟨g1, 1, none⟩ (.int .i64 aa)).setCell ⟨g1, 2, none⟩ (.string ss)).setCell ⟨g1, 3, none⟩ (.int .i64 cc)) = Vs2 at RB1 KW hHeld RB0 RP RS HTOP ⊢
          clear hUS
          refine wpAnyH_take (i := 17) (v := ?_) rfl (by kernel_rfl) (by kernel_rfl) (by kernel_rfl) (fun _ _ _ h => h) (Or.inl ⟨by rfl, ?_⟩) (by assumption) ?_
          rotate_left 1
          · (intro w' hSw; (try dsimp only at hSw); go_simp; try with_reducible rfl)
          try simp only [Act.put, List.setIfInBounds_toArray, List.set_cons_zero, List.set_cons_succ, List.getElem_toArray, List.getElem_cons_zero, List.getElem_cons_succ]
          refine wpAnyH_done (by kernel_rfl) ?_ _
          have R0 := hik (show World.rowIs _ g0 31 2 (pv2 (.int .i64 y1) (.int .i64 y2)) from RB0.out.congr (fun i hi => by rcases (show i = 0 ∨ i = 1 by omega) with rfl | rfl <;> rfl))
          have R1 := hik (show World.rowIs _ g1 33 4 (pv4 (.slice cS nS capS) (.int .i64 aa) (.string ss) (.int .i64 cc)) from RB1.out.congr (fun i hi => by rcases (show i = 0 ∨ i = 1 ∨ i = 2 ∨ i = 3 by omega) with rfl | rfl | rfl | rfl <;> rfl))
          clear SA RB0 RB1
          go_wp2_with fail
          go_meet
          exact ⟨cP, cS, capP, capS, g0, g1, V2'.heap.size, V2.heap.size, rfl, rfl, rfl, rfl, RP, RS, R0, R1, KW, hik ⟨hg0, hg1, HLO.out, fun x => ha0 (.inr x), fun x => ha1 (.inr x), hd01, hsV2.out, HTOP.out⟩, hik ⟨UPP.out, UPS.out⟩, AP⟩
      case rest =>
        as_aux_lemma =>
          obtain ⟨gP, gS, gpc, gsc, gE, gZ, lo2, hi2, rfl, rfl, rfl, rfl, OP, OS, RG1, RG, KW, BG, UG, AP⟩ := hcut
          rename World => W8
          have s8 := hik KW.out.size
          replace G := hik (G.out.trans KW.out)
          replace A := hik (rowIs_keep A.out KW.out)
          replace CB := hik (rowIs_keep CB.out KW.out)
          replace RW1 := hik (rowIs_keep RW1.out KW.out)
          replace RW := hik (rowIs_keep RW.out KW.out)
          replace GW := hik (GW.out.trans KW.out)
          replace XR := hik (rowIs_keep XR.out KW.out)
          replace XT := hik (fun i hi => rowIs_keep (XT.out i hi) KW.out)
          replace Ox := hik (Ox.out.keep KW.out)
          replace RX := hik (rowIs_keep RX.out KW.out)
          have le_ := hik RG1.out.lt
          have lz := hik RG.out.lt
          clear KW
          go_wp2_with fail
          refine (eqExtS_any gP cP nP nP gpc capP _ _ _ _ _ (hik OP.out.pairs) (hik (PW.out.keep GW.out)) rfl (fun _ _ => ⟨rfl, rfl⟩) (by have := BD.out; omega)).mono ?_
          rintro e W9 ⟨rfl, kk⟩
          have s9 := hik kk.size
          replace G := hik (G.out.trans kk)
          replace A := hik (rowIs_keep A.out kk)
          replace CB := hik (rowIs_keep CB.out kk)
          replace RW1 := hik (rowIs_keep RW1.out kk)
          replace RW := hik (rowIs_keep RW.out kk)
          replace GW := hik (GW.out.trans kk)
          replace XR := hik (rowIs_keep XR.out kk)
          replace XT := hik (fun i hi => rowIs_keep (XT.out i hi) kk)
          replace Ox := hik (Ox.out.keep kk)
          replace RX := hik (rowIs_keep RX.out kk)
          replace OP := hik (OP.out.keep kk)
          replace OS := hik (OS.out.keep kk)
          replace RG1 := hik (rowIs_keep RG1.out kk)
          replace RG := hik (rowIs_keep RG.out kk)
          clear kk
          have xRG10 : W9.cell? ⟨gE, 0, none⟩ = some (.int .i64 y1) := RG1.out.cell (by omega)
          have xRG11 : W9.cell? ⟨gE, 1, none⟩ = some (.int .i64 y2) := RG1.out.cell (by omega)
          have zRG1 := RG1.out.lt
          have xRW10 : W9.cell? ⟨gw1, 0, none⟩ = some (.int .i64 y1) := RW1.out.cell (by omega)
          have xRW11 : W9.cell? ⟨gw1, 1, none⟩ = some (.int .i64 y2) := RW1.out.cell (by omega)
          have zRW1 := RW1.out.lt
          go_wp2_with fail
          refine (eqExt_any y1 y2 _).mono ?_
          rintro e W10 ⟨rfl, kk⟩
          clear xRG10 xRG11 zRG1 xRW10 xRW11 zRW1
          have s10 := hik kk.size
          replace G := hik (G.out.trans kk)
          replace A := hik (rowIs_keep A.out kk)
          replace CB := hik (rowIs_keep CB.out kk)
          replace RW1 := hik (rowIs_keep RW1.out kk)
          replace RW := hik (rowIs_keep RW.out kk)
          replace GW := hik (GW.out.trans kk)
          replace XR := hik (rowIs_keep XR.out kk)
          replace XT := hik (fun i hi => rowIs_keep (XT.out i hi) kk)
          replace Ox := hik (Ox.out.keep kk)
          replace RX := hik (rowIs_keep RX.out kk)
          replace OP := hik (OP.out.keep kk)
          replace OS := hik (OS.out.keep kk)
          replace RG1 := hik (rowIs_keep RG1.out kk)
          replace RG := hik (rowIs_keep RG.out kk)
          clear kk
          have xRG0 : W10.cell? ⟨gZ, 0, none⟩ = some (.slice gS nS gsc) := RG.out.cell (by omega)
          have xRG1 : W10.cell? ⟨gZ, 1, none⟩ = some (.int .i64 aa) := RG.out.cell (by omega)
          have xRG2 : W10.cell? ⟨gZ, 2, none⟩ = some (.string ss) := RG.out.cell (by omega)
          have xRG3 : W10.cell? ⟨gZ, 3, none⟩ = some (.int .i64 cc) := RG.out.cell (by omega)
          have zRG := RG.out.lt
          have xRW0 : W10.cell? ⟨gw, 0, none⟩ = some (.slice cS nS capS) := RW.out.cell (by omega)
          have xRW1 : W10.cell? ⟨gw, 1, none⟩ = some (.int .i64 aa) := RW.out.cell (by omega)
          have xRW2 : W10.cell? ⟨gw, 2, none⟩ = some (.string ss) := RW.out.cell (by omega)
          have xRW3 : W10.cell? ⟨gw, 3, none⟩ = some (.int .i64 cc) := RW.out.cell (by omega)
          have zRW := RW.out.lt
          go_wp2_with fail
          refine (eqSource_any gS cS nS nS gsc capS f4 g4 f4 g4 aa ss cc _ (hik OS.out.pairs) (hik (SW.out.keep GW.out)) rfl (fun _ _ => ⟨rfl, rfl⟩) (by have := BD.out; omega)).mono ?_
          rintro e W11 ⟨rfl, kk⟩
          clear xRG0 xRG1 xRG2 xRG3 zRG xRW0 xRW1 xRW2 xRW3 zRW
          have s11 := hik kk.size
          replace G := hik (G.out.trans kk)
          replace A := hik (rowIs_keep A.out kk)
          replace CB := hik (rowIs_keep CB.out kk)
          replace RW1 := hik (rowIs_keep RW1.out kk)
          replace RW := hik (rowIs_keep RW.out kk)
          replace GW := hik (GW.out.trans kk)
          replace XR := hik (rowIs_keep XR.out kk)
          replace XT := hik (fun i hi => rowIs_keep (XT.out i hi) kk)
          replace Ox := hik (Ox.out.keep kk)
          replace RX := hik (rowIs_keep RX.out kk)
          replace OP := hik (OP.out.keep kk)
          replace OS := hik (OS.out.keep kk)
          replace RG1 := hik (rowIs_keep RG1.out kk)
          replace RG := hik (rowIs_keep RG.out kk)
          clear kk
          go_wp2_with fail
          refine (toSS_any c2 len2 cap2 A2 L2 C2 f2 g2 _ (hik (RowsV.keep HP2.out G.out)) HL hn2').mono ?_
          rintro e W12 ⟨By, rfl, ry, ty, dy, kk⟩
          have s12 := hik kk.size
          replace G := hik (G.out.trans kk)
          replace A := hik (rowIs_keep A.out kk)
          replace CB := hik (rowIs_keep CB.out kk)
          replace RW1 := hik (rowIs_keep RW1.out kk)
          replace RW := hik (rowIs_keep RW.out kk)
          replace GW := hik (GW.out.trans kk)
          replace XR := hik (rowIs_keep XR.out kk)
          replace XT := hik (fun i hi => rowIs_keep (XT.out i hi) kk)
          replace Ox := hik (Ox.out.keep kk)
          replace RX := hik (rowIs_keep RX.out kk)
          replace OP := hik (OP.out.keep kk)
          replace OS := hik (OS.out.keep kk)
          replace RG1 := hik (rowIs_keep RG1.out kk)
          replace RG := hik (rowIs_keep RG.out kk)
          have RY := hik (CopiedSS.rows (w := w) ry (fun i hi => (ty i hi).2))
          clear ry ty dy
          clear kk
          go_wp2_with fail
          refine (eqSS_any _ _ len2 len2 len2 _ _ L2 _ _ f2 g2 f2 g2 _ (hik (CopiedSS.rows (w := w) XR.out XT.out)) RY (fun _ _ _ _ => ⟨rfl, rfl⟩) HL hn2').mono ?_
          rintro e W13 ⟨rfl, kk⟩
          have s13 := hik kk.size
          replace G := hik (G.out.trans kk)
          replace A := hik (rowIs_keep A.out kk)
          replace CB := hik (rowIs_keep CB.out kk)
          replace RW1 := hik (rowIs_keep RW1.out kk)
          replace RW := hik (rowIs_keep RW.out kk)
          replace GW := hik (GW.out.trans kk)
          replace XR := hik (rowIs_keep XR.out kk)
          replace XT := hik (fun i hi => rowIs_keep (XT.out i hi) kk)
          replace Ox := hik (Ox.out.keep kk)
          replace RX := hik (rowIs_keep RX.out kk)
          replace OP := hik (OP.out.keep kk)
          replace OS := hik (OS.out.keep kk)
          replace RG1 := hik (rowIs_keep RG1.out kk)
          replace RG := hik (rowIs_keep RG.out kk)
          clear RY
          clear kk
          have xA0 : W13.cell? ⟨w.heap.size + 1, 0, none⟩ = some (.slice c4 len4 cap4) := A.out.cell (by omega)
          have xA1 : W13.cell? ⟨w.heap.size + 1, 1, none⟩ = some (.int .i64 at4) := A.out.cell (by omega)
          have xA2 : W13.cell? ⟨w.heap.size + 1, 2, none⟩ = some (.string st4) := A.out.cell (by omega)
          have xA3 : W13.cell? ⟨w.heap.size + 1, 3, none⟩ = some (.int .i64 ct4) := A.out.cell (by omega)
          have zA := A.out.lt
          have xRX0 : W13.cell? ⟨W6.heap.size, 0, none⟩ = some (.slice (some ⟨bx, 0, none⟩) len4 len4) := RX.out.cell (by omega)
          have xRX1 : W13.cell? ⟨W6.heap.size, 1, none⟩ = some (.int .i64 at4) := RX.out.cell (by omega)
          have xRX2 : W13.cell? ⟨W6.heap.size, 2, none⟩ = some (.string st4) := RX.out.cell (by omega)
          have xRX3 : W13.cell? ⟨W6.heap.size, 3, none⟩ = some (.int .i64 ct4) := RX.out.cell (by omega)
          have zRX := RX.out.lt
          go_wp2_with fail
          go_region_held3 (fun w' => (w'.cell? ⟨w.heap.size + 1, 0, none⟩ = some (.slice c4 len4 cap4) ∧ w'.cell? ⟨w.heap.size + 1, 1, none⟩ = some (.int .i64 at4) ∧ w'.cell? ⟨w.heap.size + 1, 2, none⟩ = some (.string st4) ∧ w'.cell? ⟨w.heap.size + 1, 3, none⟩ = some (.int .i64 ct4)) ∧ w'.cell? ⟨W6.heap.size, 0, none⟩ = some (.slice (some ⟨bx, 0, none⟩) len4 len4) ∧ w'.cell? ⟨W6.heap.size, 1, none⟩ = some (.int .i64 at4) ∧ w'.cell? ⟨W6.heap.size, 2, none⟩ = some (.string st4) ∧ w'.cell? ⟨W6.heap.size, 3, none⟩ = some (.int .i64 ct4)) (first | (exact ⟨⟨xA0, xA1, xA2, xA3⟩, xRX0, xRX1, xRX2, xRX3⟩) | (exact ⟨⟨k6.look xA0, k6.look xA1, k6.look xA2, k6.look xA3⟩, k6.look xRX0, k6.look xRX1, k6.look xRX2, k6.look xRX3⟩) | (exact ⟨⟨k7.look (k6.look xA0), k7.look (k6.look xA1), k7.look (k6.look xA2), k7.look (k6.look xA3)⟩, k7.look (k6.look xRX0), k7.look (k6.look xRX1), k7.look (k6.look xRX2), k7.look (k6.look xRX3)⟩)) (first | (go_at_call 9; refine (toSource_any c4 len4 cap4 f4 g4 at4 st4 ct4 _ (hik (HP4.out.keep G.out.drew1)) hn4).mono ?_; rintro e W14 ⟨by_, hby, rfl, hry, k6⟩) | (go_at_call 13; refine (eqSource_any (some ⟨bx, 0, none⟩) (some ⟨by_, 0, none⟩) len4 len4 len4 len4 f4 g4 f4 g4 at4 st4 ct4 _ (hik (Ox.out.pairs.keep (((Chg.refl nob _).drew1).trans k6))) (hik (PairV.of_row hry (Nat.le_refl _))) rfl (fun _ _ => ⟨rfl, rfl⟩) hn4).mono ?_; rintro e W15 ⟨rfl, k7⟩))
          clear xA0 xA1 xA2 xA3 zA xRX0 xRX1 xRX2 xRX3 zRX
          have kk := ((Chg.refl nob W13).drew1).trans (k6.trans k7)
          have s15 := hik kk.size
          replace G := hik (G.out.trans kk)
          replace A := hik (rowIs_keep A.out kk)
          replace CB := hik (rowIs_keep CB.out kk)
          replace RW1 := hik (rowIs_keep RW1.out kk)
          replace RW := hik (rowIs_keep RW.out kk)
          replace GW := hik (GW.out.trans kk)
          replace XR := hik (rowIs_keep XR.out kk)
          replace XT := hik (fun i hi => rowIs_keep (XT.out i hi) kk)
          replace Ox := hik (Ox.out.keep kk)
          replace RX := hik (rowIs_keep RX.out kk)
          replace OP := hik (OP.out.keep kk)
          replace OS := hik (OS.out.keep kk)
          replace RG1 := hik (rowIs_keep RG1.out kk)
          replace RG := hik (rowIs_keep RG.out kk)
          clear k6 k7 kk hry
          go_wp2_with fail
          refine (markSS_own W4.heap.size len2 L2 B3 f2 g2 1 _ XR (hik (fun i hi => ⟨(HB.out i hi).1, XT.out i hi⟩)) XD (hik hT2) hn2 (by omega) (by omega)).mono ?_
          rintro e W16 ⟨rfl, kk⟩
          have s16 := hik kk.size
          replace G := hik (G.out.near kk (fun b ⟨i, hi, e⟩ => by have hB := HB.out i hi; have := s1.out; have := s2.out; have := s3.out; have := s4.out; have := lw1.out; have := lw.out; have := BW.out; have := s5.out; have := s6.out; have := lx.out; have := ux.out; have := s7.out; have := s8.out; have := BG.out; have := le_.out; have := lz.out; have := s9.out; have := s10.out; have := s11.out; have := s12.out; have := s13.out; have := s15.out; have := s16.out; omega))
          replace A := hik (rowIs_chg A.out kk (fun ⟨i, hi, e⟩ => by have hB := HB.out i hi; have := s1.out; have := s2.out; have := s3.out; have := s4.out; have := lw1.out; have := lw.out; have := BW.out; have := s5.out; have := s6.out; have := lx.out; have := ux.out; have := s7.out; have := s8.out; have := BG.out; have := le_.out; have := lz.out; have := s9.out; have := s10.out; have := s11.out; have := s12.out; have := s13.out; have := s15.out; have := s16.out; omega))
          replace CB := hik (rowIs_chg CB.out kk (fun ⟨i, hi, e⟩ => by have hB := HB.out i hi; have := s1.out; have := s2.out; have := s3.out; have := s4.out; have := lw1.out; have := lw.out; have := BW.out; have := s5.out; have := s6.out; have := lx.out; have := ux.out; have := s7.out; have := s8.out; have := BG.out; have := le_.out; have := lz.out; have := s9.out; have := s10.out; have := s11.out; have := s12.out; have := s13.out; have := s15.out; have := s16.out; omega))
          replace RW1 := hik (rowIs_chg RW1.out kk (fun ⟨i, hi, e⟩ => by have hB := HB.out i hi; have := s1.out; have := s2.out; have := s3.out; have := s4.out; have := lw1.out; have := lw.out; have := BW.out; have := s5.out; have := s6.out; have := lx.out; have := ux.out; have := s7.out; have := s8.out; have := BG.out; have := le_.out; have := lz.out; have := s9.out; have := s10.out; have := s11.out; have := s12.out; have := s13.out; have := s15.out; have := s16.out; omega))
          replace RW := hik (rowIs_chg RW.out kk (fun ⟨i, hi, e⟩ => by have hB := HB.out i hi; have := s1.out; have := s2.out; have := s3.out; have := s4.out; have := lw1.out; have := lw.out; have := BW.out; have := s5.out; have := s6.out; have := lx.out; have := ux.out; have := s7.out; have := s8.out; have := BG.out; have := le_.out; have := lz.out; have := s9.out; have := s10.out; have := s11.out; have := s12.out; have := s13.out; have := s15.out; have := s16.out; omega))
          replace GW := hik (GW.out.near kk (fun b ⟨i, hi, e⟩ => by have hB := HB.out i hi; have := s1.out; have := s2.out; have := s3.out; have := s4.out; have := lw1.out; have := lw.out; have := BW.out; have := s5.out; have := s6.out; have := lx.out; have := ux.out; have := s7.out; have := s8.out; have := BG.out; have := le_.out; have := lz.out; have := s9.out; have := s10.out; have := s11.out; have := s12.out; have := s13.out; have := s15.out; have := s16.out; omega))
          replace Ox := hik (Ox.out.chg kk (fun b hb _ ⟨i, hi, e⟩ => by have hB := HB.out i hi; have := s1.out; have := s2.out; have := s3.out; have := s4.out; have := lw1.out; have := lw.out; have := BW.out; have := s5.out; have := s6.out; have := lx.out; have := ux.out; have := s7.out; have := s8.out; have := BG.out; have := le_.out; have := lz.out; have := s9.out; have := s10.out; have := s11.out; have := s12.out; have := s13.out; have := s15.out; have := s16.out; omega))
          replace RX := hik (rowIs_chg RX.out kk (fun ⟨i, hi, e⟩ => by have hB := HB.out i hi; have := s1.out; have := s2.out; have := s3.out; have := s4.out; have := lw1.out; have := lw.out; have := BW.out; have := s5.out; have := s6.out; have := lx.out; have := ux.out; have := s7.out; have := s8.out; have := BG.out; have := le_.out; have := lz.out; have := s9.out; have := s10.out; have := s11.out; have := s12.out; have := s13.out; have := s15.out; have := s16.out; omega))
          replace OP := hik (OP.out.chg kk (fun b hb _ ⟨i, hi, e⟩ => by have hB := HB.out i hi; have := s1.out; have := s2.out; have := s3.out; have := s4.out; have := lw1.out; have := lw.out; have := BW.out; have := s5.out; have := s6.out; have := lx.out; have := ux.out; have := s7.out; have := s8.out; have := BG.out; have := le_.out; have := lz.out; have := s9.out; have := s10.out; have := s11.out; have := s12.out; have := s13.out; have := s15.out; have := s16.out; omega))
          replace OS := hik (OS.out.chg kk (fun b hb _ ⟨i, hi, e⟩ => by have hB := HB.out i hi; have := s1.out; have := s2.out; have := s3.out; have := s4.out; have := lw1.out; have := lw.out; have := BW.out; have := s5.out; have := s6.out; have := lx.out; have := ux.out; have := s7.out; have := s8.out; have := BG.out; have := le_.out; have := lz.out; have := s9.out; have := s10.out; have := s11.out; have := s12.out; have := s13.out; have := s15.out; have := s16.out; omega))
          replace RG1 := hik (rowIs_chg RG1.out kk (fun ⟨i, hi, e⟩ => by have hB := HB.out i hi; have := s1.out; have := s2.out; have := s3.out; have := s4.out; have := lw1.out; have := lw.out; have := BW.out; have := s5.out; have := s6.out; have := lx.out; have := ux.out; have := s7.out; have := s8.out; have := BG.out; have := le_.out; have := lz.out; have := s9.out; have := s10.out; have := s11.out; have := s12.out; have := s13.out; have := s15.out; have := s16.out; omega))
          replace RG := hik (rowIs_chg RG.out kk (fun ⟨i, hi, e⟩ => by have hB := HB.out i hi; have := s1.out; have := s2.out; have := s3.out; have := s4.out; have := lw1.out; have := lw.out; have := BW.out; have := s5.out; have := s6.out; have := lx.out; have := ux.out; have := s7.out; have := s8.out; have := BG.out; have := le_.out; have := lz.out; have := s9.out; have := s10.out; have := s11.out; have := s12.out; have := s13.out; have := s15.out; have := s16.out; omega))
          clear XR XT XD
          clear kk
          have xRX0 : W16.cell? ⟨W6.heap.size, 0, none⟩ = some (.slice (some ⟨bx, 0, none⟩) len4 len4) := RX.out.cell (by omega)
          have xRX1 : W16.cell? ⟨W6.heap.size, 1, none⟩ = some (.int .i64 at4) := RX.out.cell (by omega)
          have xRX2 : W16.cell? ⟨W6.heap.size, 2, none⟩ = some (.string st4) := RX.out.cell (by omega)
          have xRX3 : W16.cell? ⟨W6.heap.size, 3, none⟩ = some (.int .i64 ct4) := RX.out.cell (by omega)
          have zRX := RX.out.lt
          go_wp2_with fail
          refine (markSource_own bx (some ⟨bx, 0, none⟩) len4 len4 f4 g4 at4 st4 ct4 (1 + 2 * (tot L2 len2 : Int)) _ Ox hn4 (by omega) (by omega) (by have := s1.out; have := s2.out; have := s3.out; have := s4.out; have := lw1.out; have := lw.out; have := BW.out; have := s5.out; have := s6.out; have := lx.out; have := ux.out; have := s7.out; have := s8.out; have := BG.out; have := le_.out; have := lz.out; have := s9.out; have := s10.out; have := s11.out; have := s12.out; have := s13.out; have := s15.out; have := s16.out; omega)).mono ?_
          rintro e W17 ⟨rfl, ox, kk⟩
          clear xRX0 xRX1 xRX2 xRX3 zRX
          have s17 := hik kk.size
          replace G := hik (G.out.near kk (fun b m => by have m1 := m.2.1; simp at m1; have := s1.out; have := s2.out; have := s3.out; have := s4.out; have := lw1.out; have := lw.out; have := BW.out; have := s5.out; have := s6.out; have := lx.out; have := ux.out; have := s7.out; have := s8.out; have := BG.out; have := le_.out; have := lz.out; have := s9.out; have := s10.out; have := s11.out; have := s12.out; have := s13.out; have := s15.out; have := s16.out; have := s17.out; omega))
          replace A := hik (rowIs_chg A.out kk (fun m => by have m1 := m.2.1; simp at m1; have := s1.out; have := s2.out; have := s3.out; have := s4.out; have := lw1.out; have := lw.out; have := BW.out; have := s5.out; have := s6.out; have := lx.out; have := ux.out; have := s7.out; have := s8.out; have := BG.out; have := le_.out; have := lz.out; have := s9.out; have := s10.out; have := s11.out; have := s12.out; have := s13.out; have := s15.out; have := s16.out; have := s17.out; omega))
          replace CB := hik (rowIs_chg CB.out kk (fun m => by have m1 := m.2.1; simp at m1; have := s1.out; have := s2.out; have := s3.out; have := s4.out; have := lw1.out; have := lw.out; have := BW.out; have := s5.out; have := s6.out; have := lx.out; have := ux.out; have := s7.out; have := s8.out; have := BG.out; have := le_.out; have := lz.out; have := s9.out; have := s10.out; have := s11.out; have := s12.out; have := s13.out; have := s15.out; have := s16.out; have := s17.out; omega))
          replace RW1 := hik (rowIs_chg RW1.out kk (fun m => by have m1 := m.2.1; simp at m1; have := s1.out; have := s2.out; have := s3.out; have := s4.out; have := lw1.out; have := lw.out; have := BW.out; have := s5.out; have := s6.out; have := lx.out; have := ux.out; have := s7.out; have := s8.out; have := BG.out; have := le_.out; have := lz.out; have := s9.out; have := s10.out; have := s11.out; have := s12.out; have := s13.out; have := s15.out; have := s16.out; have := s17.out; omega))
          replace RW := hik (rowIs_chg RW.out kk (fun m => by have m1 := m.2.1; simp at m1; have := s1.out; have := s2.out; have := s3.out; have := s4.out; have := lw1.out; have := lw.out; have := BW.out; have := s5.out; have := s6.out; have := lx.out; have := ux.out; have := s7.out; have := s8.out; have := BG.out; have := le_.out; have := lz.out; have := s9.out; have := s10.out; have := s11.out; have := s12.out; have := s13.out; have := s15.out; have := s16.out; have := s17.out; omega))
          replace GW := hik (GW.out.near kk (fun b m => by have m1 := m.2.1; simp at m1; have := s1.out; have := s2.out; have := s3.out; have := s4.out; have := lw1.out; have := lw.out; have := BW.out; have := s5.out; have := s6.out; have := lx.out; have := ux.out; have := s7.out; have := s8.out; have := BG.out; have := le_.out; have := lz.out; have := s9.out; have := s10.out; have := s11.out; have := s12.out; have := s13.out; have := s15.out; have := s16.out; have := s17.out; omega))
          replace OP := hik (OP.out.chg kk (fun b hb _ m => by have m1 := m.2.1; simp at m1; have := s1.out; have := s2.out; have := s3.out; have := s4.out; have := lw1.out; have := lw.out; have := BW.out; have := s5.out; have := s6.out; have := lx.out; have := ux.out; have := s7.out; have := s8.out; have := BG.out; have := le_.out; have := lz.out; have := s9.out; have := s10.out; have := s11.out; have := s12.out; have := s13.out; have := s15.out; have := s16.out; have := s17.out; omega))
          replace OS := hik (OS.out.chg kk (fun b hb _ m => by have m1 := m.2.1; simp at m1; have := s1.out; have := s2.out; have := s3.out; have := s4.out; have := lw1.out; have := lw.out; have := BW.out; have := s5.out; have := s6.out; have := lx.out; have := ux.out; have := s7.out; have := s8.out; have := BG.out; have := le_.out; have := lz.out; have := s9.out; have := s10.out; have := s11.out; have := s12.out; have := s13.out; have := s15.out; have := s16.out; have := s17.out; omega))
          replace RG1 := hik (rowIs_chg RG1.out kk (fun m => by have m1 := m.2.1; simp at m1; have := s1.out; have := s2.out; have := s3.out; have := s4.out; have := lw1.out; have := lw.out; have := BW.out; have := s5.out; have := s6.out; have := lx.out; have := ux.out; have := s7.out; have := s8.out; have := BG.out; have := le_.out; have := lz.out; have := s9.out; have := s10.out; have := s11.out; have := s12.out; have := s13.out; have := s15.out; have := s16.out; have := s17.out; omega))
          replace RG := hik (rowIs_chg RG.out kk (fun m => by have m1 := m.2.1; simp at m1; have := s1.out; have := s2.out; have := s3.out; have := s4.out; have := lw1.out; have := lw.out; have := BW.out; have := s5.out; have := s6.out; have := lx.out; have := ux.out; have := s7.out; have := s8.out; have := BG.out; have := le_.out; have := lz.out; have := s9.out; have := s10.out; have := s11.out; have := s12.out; have := s13.out; have := s15.out; have := s16.out; have := s17.out; omega))
          clear ox Ox RX
          clear kk
          go_wp2_with fail
          refine (eqExtS_any gP cP nP nP gpc capP _ _ _ _ _ (hik OP.out.pairs) (hik (PW.out.keep GW.out)) rfl (fun _ _ => ⟨rfl, rfl⟩) (by have := BD.out; omega)).mono ?_
          rintro e W18 ⟨rfl, kk⟩
          have s18 := hik kk.size
          replace G := hik (G.out.trans kk)
          replace A := hik (rowIs_keep A.out kk)
          replace CB := hik (rowIs_keep CB.out kk)
          replace RW1 := hik (rowIs_keep RW1.out kk)
          replace RW := hik (rowIs_keep RW.out kk)
          replace GW := hik (GW.out.trans kk)
          replace OP := hik (OP.out.keep kk)
          replace OS := hik (OS.out.keep kk)
          replace RG1 := hik (rowIs_keep RG1.out kk)
          replace RG := hik (rowIs_keep RG.out kk)
          clear kk
          have xRG10 : W18.cell? ⟨gE, 0, none⟩ = some (.int .i64 y1) := RG1.out.cell (by omega)
          have xRG11 : W18.cell? ⟨gE, 1, none⟩ = some (.int .i64 y2) := RG1.out.cell (by omega)
          have zRG1 := RG1.out.lt
          have xRW10 : W18.cell? ⟨gw1, 0, none⟩ = some (.int .i64 y1) := RW1.out.cell (by omega)
          have xRW11 : W18.cell? ⟨gw1, 1, none⟩ = some (.int .i64 y2) := RW1.out.cell (by omega)
          have zRW1 := RW1.out.lt
          go_wp2_with fail
          refine (eqExt_any y1 y2 _).mono ?_
          rintro e W19 ⟨rfl, kk⟩
          clear xRG10 xRG11 zRG1 xRW10 xRW11 zRW1
          have s19 := hik kk.size
          replace G := hik (G.out.trans kk)
          replace A := hik (rowIs_keep A.out kk)
          replace CB := hik (rowIs_keep CB.out kk)
          replace RW1 := hik (rowIs_keep RW1.out kk)
          replace RW := hik (rowIs_keep RW.out kk)
          replace GW := hik (GW.out.trans kk)
          replace OP := hik (OP.out.keep kk)
          replace OS := hik (OS.out.keep kk)
          replace RG1 := hik (rowIs_keep RG1.out kk)
          replace RG := hik (rowIs_keep RG.out kk)
          clear kk
          have xRG0 : W19.cell? ⟨gZ, 0, none⟩ = some (.slice gS nS gsc) := RG.out.cell (by omega)
          have xRG1 : W19.cell? ⟨gZ, 1, none⟩ = some (.int .i64 aa) := RG.out.cell (by omega)
          have xRG2 : W19.cell? ⟨gZ, 2, none⟩ = some (.string ss) := RG.out.cell (by omega)
          have xRG3 : W19.cell? ⟨gZ, 3, none⟩ = some (.int .i64 cc) := RG.out.cell (by omega)
          have zRG := RG.out.lt
          have xRW0 : W19.cell? ⟨gw, 0, none⟩ = some (.slice cS nS capS) := RW.out.cell (by omega)
          have xRW1 : W19.cell? ⟨gw, 1, none⟩ = some (.int .i64 aa) := RW.out.cell (by omega)
          have xRW2 : W19.cell? ⟨gw, 2, none⟩ = some (.string ss) := RW.out.cell (by omega)
          have xRW3 : W19.cell? ⟨gw, 3, none⟩ = some (.int .i64 cc) := RW.out.cell (by omega)
          have zRW := RW.out.lt
          go_wp2_with fail
          refine (eqSource_any gS cS nS nS gsc capS f4 g4 f4 g4 aa ss cc _ (hik OS.out.pairs) (hik (SW.out.keep GW.out)) rfl (fun _ _ => ⟨rfl, rfl⟩) (by have := BD.out; omega)).mono ?_
          rintro e W20 ⟨rfl, kk⟩
          clear xRG0 xRG1 xRG2 xRG3 zRG xRW0 xRW1 xRW2 xRW3 zRW
          have s20 := hik kk.size
          replace G := hik (G.out.trans kk)
          replace A := hik (rowIs_keep A.out kk)
          replace CB := hik (rowIs_keep CB.out kk)
          replace RW1 := hik (rowIs_keep RW1.out kk)
          replace RW := hik (rowIs_keep RW.out kk)
          replace GW := hik (GW.out.trans kk)
          replace OP := hik (OP.out.keep kk)
          replace OS := hik (OS.out.keep kk)
          replace RG1 := hik (rowIs_keep RG1.out kk)
          replace RG := hik (rowIs_keep RG.out kk)
          clear kk
          go_wp2_with fail
          refine (markExtS_p lo2 gP nP gpc _ _ 1 _ OP (by have := BD.out; omega) (by omega) (by omega)).mono ?_
          rintro e W21 ⟨rfl, og, kk⟩
          have s21 := hik kk.size
          replace G := hik (G.out.near kk (fun b m => by have m1 := m.1; have m3 := (UG.out.1 _ m.2.2).resolve_left (by have := m.2.1; omega); have := s1.out; have := s2.out; have := s3.out; have := s4.out; have := lw1.out; have := lw.out; have := BW.out; have := s5.out; have := s6.out; have := lx.out; have := ux.out; have := s7.out; have := s8.out; have := BG.out; have := le_.out; have := lz.out; have := s9.out; have := s10.out; have := s11.out; have := s12.out; have := s13.out; have := s15.out; have := s16.out; have := s17.out; have := s18.out; have := s19.out; have := s20.out; have := s21.out; omega))
          replace A := hik (rowIs_chg A.out kk (fun m => by have m1 := m.1; have m3 := (UG.out.1 _ m.2.2).resolve_left (by have := m.2.1; omega); have := s1.out; have := s2.out; have := s3.out; have := s4.out; have := lw1.out; have := lw.out; have := BW.out; have := s5.out; have := s6.out; have := lx.out; have := ux.out; have := s7.out; have := s8.out; have := BG.out; have := le_.out; have := lz.out; have := s9.out; have := s10.out; have := s11.out; have := s12.out; have := s13.out; have := s15.out; have := s16.out; have := s17.out; have := s18.out; have := s19.out; have := s20.out; have := s21.out; omega))
          replace CB := hik (rowIs_chg CB.out kk (fun m => by have m1 := m.1; have m3 := (UG.out.1 _ m.2.2).resolve_left (by have := m.2.1; omega); have := s1.out; have := s2.out; have := s3.out; have := s4.out; have := lw1.out; have := lw.out; have := BW.out; have := s5.out; have := s6.out; have := lx.out; have := ux.out; have := s7.out; have := s8.out; have := BG.out; have := le_.out; have := lz.out; have := s9.out; have := s10.out; have := s11.out; have := s12.out; have := s13.out; have := s15.out; have := s16.out; have := s17.out; have := s18.out; have := s19.out; have := s20.out; have := s21.out; omega))
          replace RW1 := hik (rowIs_chg RW1.out kk (fun m => by have m1 := m.1; have m3 := (UG.out.1 _ m.2.2).resolve_left (by have := m.2.1; omega); have := s1.out; have := s2.out; have := s3.out; have := s4.out; have := lw1.out; have := lw.out; have := BW.out; have := s5.out; have := s6.out; have := lx.out; have := ux.out; have := s7.out; have := s8.out; have := BG.out; have := le_.out; have := lz.out; have := s9.out; have := s10.out; have := s11.out; have := s12.out; have := s13.out; have := s15.out; have := s16.out; have := s17.out; have := s18.out; have := s19.out; have := s20.out; have := s21.out; omega))
          replace RW := hik (rowIs_chg RW.out kk (fun m => by have m1 := m.1; have m3 := (UG.out.1 _ m.2.2).resolve_left (by have := m.2.1; omega); have := s1.out; have := s2.out; have := s3.out; have := s4.out; have := lw1.out; have := lw.out; have := BW.out; have := s5.out; have := s6.out; have := lx.out; have := ux.out; have := s7.out; have := s8.out; have := BG.out; have := le_.out; have := lz.out; have := s9.out; have := s10.out; have := s11.out; have := s12.out; have := s13.out; have := s15.out; have := s16.out; have := s17.out; have := s18.out; have := s19.out; have := s20.out; have := s21.out; omega))
          replace GW := hik (GW.out.near kk (fun b m => by have m1 := m.1; have m3 := (UG.out.1 _ m.2.2).resolve_left (by have := m.2.1; omega); have := s1.out; have := s2.out; have := s3.out; have := s4.out; have := lw1.out; have := lw.out; have := BW.out; have := s5.out; have := s6.out; have := lx.out; have := ux.out; have := s7.out; have := s8.out; have := BG.out; have := le_.out; have := lz.out; have := s9.out; have := s10.out; have := s11.out; have := s12.out; have := s13.out; have := s15.out; have := s16.out; have := s17.out; have := s18.out; have := s19.out; have := s20.out; have := s21.out; omega))
          replace OS := hik (OS.out.chg kk (fun b hb ec m => AP.out b ⟨0, m.2.2⟩ ⟨0, ec⟩))
          replace RG1 := hik (rowIs_chg RG1.out kk (fun m => by have m1 := m.1; have m3 := (UG.out.1 _ m.2.2).resolve_left (by have := m.2.1; omega); have := s1.out; have := s2.out; have := s3.out; have := s4.out; have := lw1.out; have := lw.out; have := BW.out; have := s5.out; have := s6.out; have := lx.out; have := ux.out; have := s7.out; have := s8.out; have := BG.out; have := le_.out; have := lz.out; have := s9.out; have := s10.out; have := s11.out; have := s12.out; have := s13.out; have := s15.out; have := s16.out; have := s17.out; have := s18.out; have := s19.out; have := s20.out; have := s21.out; omega))
          replace RG := hik (rowIs_chg RG.out kk (fun m => by have m1 := m.1; have m3 := (UG.out.1 _ m.2.2).resolve_left (by have := m.2.1; omega); have := s1.out; have := s2.out; have := s3.out; have := s4.out; have := lw1.out; have := lw.out; have := BW.out; have := s5.out; have := s6.out; have := lx.out; have := ux.out; have := s7.out; have := s8.out; have := BG.out; have := le_.out; have := lz.out; have := s9.out; have := s10.out; have := s11.out; have := s12.out; have := s13.out; have := s15.out; have := s16.out; have := s17.out; have := s18.out; have := s19.out; have := s20.out; have := s21.out; omega))
          replace OP := hik og
          clear og
          clear kk
          have xRG0 : W21.cell? ⟨gZ, 0, none⟩ = some (.slice gS nS gsc) := RG.out.cell (by omega)
          have xRG1 : W21.cell? ⟨gZ, 1, none⟩ = some (.int .i64 aa) := RG.out.cell (by omega)
          have xRG2 : W21.cell? ⟨gZ, 2, none⟩ = some (.string ss) := RG.out.cell (by omega)
          have xRG3 : W21.cell? ⟨gZ, 3, none⟩ = some (.int .i64 cc) := RG.out.cell (by omega)
          have zRG := RG.out.lt
          go_wp2_with fail
          refine (markSource_p lo2 gS nS gsc _ _ aa ss cc (1 + 2 * (nP : Int)) _ OS (by have := BD.out; omega) (by have := BD.out; omega) (by have := BD.out; omega)).mono ?_
          rintro e W22 ⟨rfl, og, kk⟩
          clear xRG0 xRG1 xRG2 xRG3 zRG
          have s22 := hik kk.size
          replace G := hik (G.out.near kk (fun b m => by have m1 := m.1; have m3 := (UG.out.2 _ m.2.2).resolve_left (by have := m.2.1; omega); have := s1.out; have := s2.out; have := s3.out; have := s4.out; have := lw1.out; have := lw.out; have := BW.out; have := s5.out; have := s6.out; have := lx.out; have := ux.out; have := s7.out; have := s8.out; have := BG.out; have := le_.out; have := lz.out; have := s9.out; have := s10.out; have := s11.out; have := s12.out; have := s13.out; have := s15.out; have := s16.out; have := s17.out; have := s18.out; have := s19.out; have := s20.out; have := s21.out; have := s22.out; omega))
          replace A := hik (rowIs_chg A.out kk (fun m => by have m1 := m.1; have m3 := (UG.out.2 _ m.2.2).resolve_left (by have := m.2.1; omega); have := s1.out; have := s2.out; have := s3.out; have := s4.out; have := lw1.out; have := lw.out; have := BW.out; have := s5.out; have := s6.out; have := lx.out; have := ux.out; have := s7.out; have := s8.out; have := BG.out; have := le_.out; have := lz.out; have := s9.out; have := s10.out; have := s11.out; have := s12.out; have := s13.out; have := s15.out; have := s16.out; have := s17.out; have := s18.out; have := s19.out; have := s20.out; have := s21.out; have := s22.out; omega))
          replace CB := hik (rowIs_chg CB.out kk (fun m => by have m1 := m.1; have m3 := (UG.out.2 _ m.2.2).resolve_left (by have := m.2.1; omega); have := s1.out; have := s2.out; have := s3.out; have := s4.out; have := lw1.out; have := lw.out; have := BW.out; have := s5.out; have := s6.out; have := lx.out; have := ux.out; have := s7.out; have := s8.out; have := BG.out; have := le_.out; have := lz.out; have := s9.out; have := s10.out; have := s11.out; have := s12.out; have := s13.out; have := s15.out; have := s16.out; have := s17.out; have := s18.out; have := s19.out; have := s20.out; have := s21.out; have := s22.out; omega))
          replace RW1 := hik (rowIs_chg RW1.out kk (fun m => by have m1 := m.1; have m3 := (UG.out.2 _ m.2.2).resolve_left (by have := m.2.1; omega); have := s1.out; have := s2.out; have := s3.out; have := s4.out; have := lw1.out; have := lw.out; have := BW.out; have := s5.out; have := s6.out; have := lx.out; have := ux.out; have := s7.out; have := s8.out; have := BG.out; have := le_.out; have := lz.out; have := s9.out; have := s10.out; have := s11.out; have := s12.out; have := s13.out; have := s15.out; have := s16.out; have := s17.out; have := s18.out; have := s19.out; have := s20.out; have := s21.out; have := s22.out; omega))
          replace RW := hik (rowIs_chg RW.out kk (fun m => by have m1 := m.1; have m3 := (UG.out.2 _ m.2.2).resolve_left (by have := m.2.1; omega); have := s1.out; have := s2.out; have := s3.out; have := s4.out; have := lw1.out; have := lw.out; have := BW.out; have := s5.out; have := s6.out; have := lx.out; have := ux.out; have := s7.out; have := s8.out; have := BG.out; have := le_.out; have := lz.out; have := s9.out; have := s10.out; have := s11.out; have := s12.out; have := s13.out; have := s15.out; have := s16.out; have := s17.out; have := s18.out; have := s19.out; have := s20.out; have := s21.out; have := s22.out; omega))
          replace GW := hik (GW.out.near kk (fun b m => by have m1 := m.1; have m3 := (UG.out.2 _ m.2.2).resolve_left (by have := m.2.1; omega); have := s1.out; have := s2.out; have := s3.out; have := s4.out; have := lw1.out; have := lw.out; have := BW.out; have := s5.out; have := s6.out; have := lx.out; have := ux.out; have := s7.out; have := s8.out; have := BG.out; have := le_.out; have := lz.out; have := s9.out; have := s10.out; have := s11.out; have := s12.out; have := s13.out; have := s15.out; have := s16.out; have := s17.out; have := s18.out; have := s19.out; have := s20.out; have := s21.out; have := s22.out; omega))
          replace OP := hik (OP.out.chg kk (fun b hb ec m => AP.out b ⟨0, ec⟩ ⟨0, m.2.2⟩))
          replace RG1 := hik (rowIs_chg RG1.out kk (fun m => by have m1 := m.1; have m3 := (UG.out.2 _ m.2.2).resolve_left (by have := m.2.1; omega); have := s1.out; have := s2.out; have := s3.out; have := s4.out; have := lw1.out; have := lw.out; have := BW.out; have := s5.out; have := s6.out; have := lx.out; have := ux.out; have := s7.out; have := s8.out; have := BG.out; have := le_.out; have := lz.out; have := s9.out; have := s10.out; have := s11.out; have := s12.out; have := s13.out; have := s15.out; have := s16.out; have := s17.out; have := s18.out; have := s19.out; have := s20.out; have := s21.out; have := s22.out; omega))
          replace RG := hik (rowIs_chg RG.out kk (fun m => by have m1 := m.1; have m3 := (UG.out.2 _ m.2.2).resolve_left (by have := m.2.1; omega); have := s1.out; have := s2.out; have := s3.out; have := s4.out; have := lw1.out; have := lw.out; have := BW.out; have := s5.out; have := s6.out; have := lx.out; have := ux.out; have := s7.out; have := s8.out; have := BG.out; have := le_.out; have := lz.out; have := s9.out; have := s10.out; have := s11.out; have := s12.out; have := s13.out; have := s15.out; have := s16.out; have := s17.out; have := s18.out; have := s19.out; have := s20.out; have := s21.out; have := s22.out; omega))
          replace OS := hik og
          clear og
          clear kk
          go_wp2_with fail
          refine (heldExtS_own gP nP gpc 1 _ (hik OP.out.pairs) (by have := BD.out; omega) (by omega) (by omega)).mono ?_
          rintro e W23 ⟨rfl, kk⟩
          have s23 := hik kk.size
          replace G := hik (G.out.trans kk)
          replace A := hik (rowIs_keep A.out kk)
          replace CB := hik (rowIs_keep CB.out kk)
          replace RW1 := hik (rowIs_keep RW1.out kk)
          replace RW := hik (rowIs_keep RW.out kk)
          replace GW := hik (GW.out.trans kk)
          replace OP := hik (OP.out.keep kk)
          replace OS := hik (OS.out.keep kk)
          replace RG1 := hik (rowIs_keep RG1.out kk)
          replace RG := hik (rowIs_keep RG.out kk)
          clear kk
          have xRG0 : W23.cell? ⟨gZ, 0, none⟩ = some (.slice gS nS gsc) := RG.out.cell (by omega)
          have xRG1 : W23.cell? ⟨gZ, 1, none⟩ = some (.int .i64 aa) := RG.out.cell (by omega)
          have xRG2 : W23.cell? ⟨gZ, 2, none⟩ = some (.string ss) := RG.out.cell (by omega)
          have xRG3 : W23.cell? ⟨gZ, 3, none⟩ = some (.int .i64 cc) := RG.out.cell (by omega)
          have zRG := RG.out.lt
          go_wp2_with fail
          refine (heldSource_own gS nS gsc aa ss cc (1 + 2 * (nP : Int)) _ (hik OS.out.pairs) (by have := BD.out; omega) (by have := BD.out; omega) (by have := BD.out; omega)).mono ?_
          rintro e W24 ⟨rfl, kk⟩
          clear xRG0 xRG1 xRG2 xRG3 zRG
          have s24 := hik kk.size
          replace G := hik (G.out.trans kk)
          replace A := hik (rowIs_keep A.out kk)
          replace CB := hik (rowIs_keep CB.out kk)
          replace RW1 := hik (rowIs_keep RW1.out kk)
          replace RW := hik (rowIs_keep RW.out kk)
          replace GW := hik (GW.out.trans kk)
          replace OP := hik (OP.out.keep kk)
          replace OS := hik (OS.out.keep kk)
          replace RG1 := hik (rowIs_keep RG1.out kk)
          replace RG := hik (rowIs_keep RG.out kk)
          clear kk
          go_upto_region 35 with fail
          go_cut [25, 26, 27, 28] (fun u0 u1 pp qq W => ∃ (cP cS : Option Addr) (capP capS gE gZ lo hi : Nat), u0 = .slice cP nP capP ∧ u1 = .pointer (some ⟨gE, 0, none⟩) ∧ pp = .pointer (some ⟨gZ, 0, none⟩) ∧ qq = .int .i64 q ∧ Hid (OwnE W lo cP nP (cA Rr) (cB Rr)) ∧ Hid (OwnE W lo cS nS f4 g4) ∧ Hid (W.rowIs gE 31 2 (pv2 (.int .i64 y1) (.int .i64 y2))) ∧ Hid (W.rowIs gZ 33 4 (pv4 (.slice cS nS capS) (.int .i64 aa) (.string ss) (.int .i64 cc))) ∧ Hid (Chg nob W24 W) ∧ Hid (W24.heap.size ≤ gE ∧ W24.heap.size ≤ gZ ∧ W24.heap.size ≤ lo ∧ ¬ (lo ≤ gE ∧ gE < hi) ∧ ¬ (lo ≤ gZ ∧ gZ < hi) ∧ gE ≠ gZ ∧ lo ≤ hi ∧ hi ≤ W.heap.size) ∧ Hid ((∀ b, cP = some ⟨b, 0, none⟩ → nP = 0 ∨ b < hi) ∧ (∀ b, cS = some ⟨b, 0, none⟩ → nS = 0 ∨ b < hi)) ∧ Hid (∀ b, BlkE cP b → ¬ BlkE cS b))
          case first =>
            focus
              have xCB0 : W24.cell? ⟨w.heap.size, 0, none⟩ = some (.int .i64 a1) := CB.out.cell (by omega)
              have xCB1 : W24.cell? ⟨w.heap.size, 1, none⟩ = some (.int .i64 b1) := CB.out.cell (by omega)
              have zCB := CB.out.lt
              have xA0 : W24.cell? ⟨w.heap.size + 1, 0, none⟩ = some (.slice c4 len4 cap4) := A.out.cell (by omega)
              have xA1 : W24.cell? ⟨w.heap.size + 1, 1, none⟩ = some (.int .i64 at4) := A.out.cell (by omega)
              have xA2 : W24.cell? ⟨w.heap.size + 1, 2, none⟩ = some (.string st4) := A.out.cell (by omega)
              have xA3 : W24.cell? ⟨w.heap.size + 1, 3, none⟩ = some (.int .i64 ct4) := A.out.cell (by omega)
              have zA := A.out.lt
              have SA := hik (fun (WW : World) (kW : Chg nob W24 WW) => (show (WW.cell? ⟨w.heap.size, 0, none⟩ = some (.int .i64 a1) ∧ WW.cell? ⟨w.heap.size, 1, none⟩ = some (.int .i64 b1) ∧ WW.cell? ⟨w.heap.size + 1, 0, none⟩ = some (.slice c4 len4 cap4) ∧ WW.cell? ⟨w.heap.size + 1, 1, none⟩ = some (.int .i64 at4) ∧ WW.cell? ⟨w.heap.size + 1, 2, none⟩ = some (.string st4) ∧ WW.cell? ⟨w.heap.size + 1, 3, none⟩ = some (.int .i64 ct4)) from ⟨kW.see xCB0, kW.see xCB1, kW.see xA0, kW.see xA1, kW.see xA2, kW.see xA3⟩))
              refine wp_regionC [⟨14, 26, .cells #[.int .i64 0, .int .i64 0] 31, fun b => .pointer (some ⟨b, 0, none⟩)⟩, ⟨15, 27, .cells #[.slice none 0 0, .int .i64 0, .string ⟨#[]⟩, .int .i64 0] 33, fun b => .pointer (some ⟨b, 0, none⟩)⟩] 18 (by kernel_rfl) (by rfl) (by rfl) (by kernel_rfl) ?_
              refine wpC_take (i := 0) (v := ?_) rfl (by kernel_rfl) (by kernel_rfl) (by rfl) (fun _ _ _ h => h) (fun u => Or.inl ⟨by rfl, ?_⟩) ?_
              rotate_left 1
              · (intro w' hSw; have hSw := SA.out _ hSw; (try dsimp only at hSw); try simp only [putF, Act.put, List.setIfInBounds_toArray, List.set_cons_zero, List.set_cons_succ, List.getElem_toArray, List.getElem_cons_zero, List.getElem_cons_succ]; go_simp; try with_reducible rfl)
              try simp only [Act.put, List.setIfInBounds_toArray, List.set_cons_zero, List.set_cons_succ, List.getElem_toArray, List.getElem_cons_zero, List.getElem_cons_succ]
              refine wpC_take (i := 1) (v := ?_) rfl (by kernel_rfl) (by kernel_rfl) (by rfl) (fun _ _ _ h => h) (fun u => Or.inl ⟨by rfl, ?_⟩) ?_
              rotate_left 1
              · (intro w' hSw; have hSw := SA.out _ hSw; (try dsimp only at hSw); try simp only [putF, Act.put, List.setIfInBounds_toArray, List.set_cons_zero, List.set_cons_succ, List.getElem_toArray, List.getElem_cons_zero, List.getElem_cons_succ]; go_simp; try with_reducible rfl)
              try simp only [Act.put, List.setIfInBounds_toArray, List.set_cons_zero, List.set_cons_succ, List.getElem_toArray, List.getElem_cons_zero, List.getElem_cons_succ]
              refine wpC_take (i := 3) (v := ?_) rfl (by kernel_rfl) (by kernel_rfl) (by rfl) (fun _ _ _ h => h) (fun u => Or.inl ⟨by rfl, ?_⟩) ?_
              rotate_left 1
              · (intro w' hSw; have hSw := SA.out _ hSw; (try dsimp only at hSw); try simp only [putF, Act.put, List.setIfInBounds_toArray, List.set_cons_zero, List.set_cons_succ, List.getElem_toArray, List.getElem_cons_zero, List.getElem_cons_succ]; go_simp; try with_reducible rfl)
              try simp only [Act.put, List.setIfInBounds_toArray, List.set_cons_zero, List.set_cons_succ, List.getElem_toArray, List.getElem_cons_zero, List.getElem_cons_succ]
              refine wpC_take (i := 5) (v := ?_) rfl (by kernel_rfl) (by kernel_rfl) (by rfl) (fun _ _ _ h => h) (fun u => Or.inl ⟨by rfl, ?_⟩) ?_
              rotate_left 1
              · (intro w' hSw; have hSw := SA.out _ hSw; (try dsimp only at hSw); try simp only [putF, Act.put, List.setIfInBounds_toArray, List.set_cons_zero, List.set_cons_succ, List.getElem_toArray, List.getElem_cons_zero, List.getElem_cons_succ]; go_simp; try with_reducible rfl)
              try simp only [Act.put, List.setIfInBounds_toArray, List.set_cons_zero, List.set_cons_succ, List.getElem_toArray, List.getElem_cons_zero, List.getElem_cons_succ]
              refine wpC_take (i := 6) (v := ?_) rfl (by kernel_rfl) (by kernel_rfl) (by rfl) (fun _ _ _ h => h) (fun u => Or.inl ⟨by rfl, ?_⟩) ?_
              rotate_left 1
              · (intro w' hSw; have hSw := SA.out _ hSw; (try dsimp only at hSw); try simp only [putF, Act.put, List.setIfInBounds_toArray, List.set_cons_zero, List.set_cons_succ, List.getElem_toArray, List.getElem_cons_zero, List.getElem_cons_succ]; go_simp; try with_reducible rfl)
              try simp only [Act.put, List.setIfInBounds_toArray, List.set_cons_zero, List.set_cons_succ, List.getElem_toArray, List.getElem_cons_zero, List.getElem_cons_succ]
              refine wpC_step (i := 2) rfl (by kernel_rfl) (by rfl) (List.forall_mem_cons.2 ⟨FloOK.alloc rfl 31 rfl rfl rfl (fun w => by go_simp), (List.forall_mem_cons.2 ⟨FloOK.alloc rfl 33 rfl rfl rfl (fun w => by go_simp), (fun _ h => absurd h List.not_mem_nil)⟩)⟩) (by rfl) ?_
              intro bb gg uu P1' hrd hB k0 kW K' hK
              clear hrd hB
              have KW := hik k0
              clear kW k0
              refine stepL_callN 7 #[.tmp 152] #[23] (by rfl) (by rfl) #[.agg #[.int .i64 a1, .int .i64 b1]] (by (try simp only [putF, Act.put, List.setIfInBounds_toArray, List.set_cons_zero, List.set_cons_succ, List.getElem_toArray, List.getElem_cons_zero, List.getElem_cons_succ]); simp only [List.map_toArray, List.map_cons, List.map_nil] <;> rfl) (run_go Tryz.func7 (by kernel_rfl) (by kernel_rfl) _ _) (toExt_any a1 b1 _) ?_
              rintro e P1 ⟨he, kk⟩
              refine ⟨_, he, hK _ _ kk ?_⟩
              have hsP1 := hik kk.size
              clear he kk hK K' KW bb gg uu
              try simp only [Act.put, List.setIfInBounds_toArray, List.set_cons_zero, List.set_cons_succ, List.getElem_toArray, List.getElem_cons_zero, List.getElem_cons_succ]
              refine wpC_step (i := 4) rfl (by kernel_rfl) (by rfl) (List.forall_mem_cons.2 ⟨FloOK.alloc rfl 31 rfl rfl rfl (fun w => by go_simp), (List.forall_mem_cons.2 ⟨FloOK.alloc rfl 33 rfl rfl rfl (fun w => by go_simp), (fun _ h => absurd h List.not_mem_nil)⟩)⟩) (by rfl) ?_
              intro bb gg uu P2' hrd hB k0 kW K' hK
              clear hrd hB
              have KW := hik k0
              clear kW k0
              refine stepL_callN 8 #[.tmp 154] #[24] (by rfl) (by rfl) #[.slice c2 len2 cap2] (by (try simp only [putF, Act.put, List.setIfInBounds_toArray, List.set_cons_zero, List.set_cons_succ, List.getElem_toArray, List.getElem_cons_zero, List.getElem_cons_succ]); simp only [List.map_toArray, List.map_cons, List.map_nil] <;> rfl) (run_go Tryz.func8 (by kernel_rfl) (by kernel_rfl) _ _) (toSS_any c2 len2 cap2 A2 L2 C2 f2 g2 _ (hik (RowsV.keep HP2.out (G.out.trans KW.out))) HL hn2') ?_
              rintro e P2 ⟨By, he, ry, ty, dy, kk⟩
              generalize hxb : (P2').heap.size = xb at he ry ty
              clear hxb
              have RY := hik ry
              have TY := hik (show ∀ i, i < len2 → P2.rowIs (By i) 31 (L2 i * 2) (pf (f2 i) (g2 i)) from fun i hi => (ty i hi).2)
              clear ry ty dy
              refine ⟨_, he, hK _ _ kk ?_⟩
              have hsP2 := hik kk.size
              clear he kk hK K' KW bb gg uu
              try simp only [Act.put, List.setIfInBounds_toArray, List.set_cons_zero, List.set_cons_succ, List.getElem_toArray, List.getElem_cons_zero, List.getElem_cons_succ]
              refine wpC_step (i := 7) rfl (by kernel_rfl) (by rfl) (List.forall_mem_cons.2 ⟨FloOK.alloc rfl 31 rfl rfl rfl (fun w => by go_simp), (List.forall_mem_cons.2 ⟨FloOK.alloc rfl 33 rfl rfl rfl (fun w => by go_simp), (fun _ h => absurd h List.not_mem_nil)⟩)⟩) (by rfl) ?_
              intro bb gg uu P3' hrd hB k0 kW K' hK
              clear hrd hB
              have KW := hik k0
              replace RY := hik (rowIs_keep RY.out kW)
              replace TY := hik (fun i hi => rowIs_keep (TY.out i hi) kW)
              clear kW k0
              refine stepL_callN 9 #[.tmp 157] #[27] (by rfl) (by rfl) #[.agg #[.slice c4 len4 cap4, .int .i64 at4, .string st4, .int .i64 ct4]] (by (try simp only [putF, Act.put, List.setIfInBounds_toArray, List.set_cons_zero, List.set_cons_succ, List.getElem_toArray, List.getElem_cons_zero, List.getElem_cons_succ]); simp only [List.map_toArray, List.map_cons, List.map_nil] <;> rfl) (run_go Tryz.func9 (by kernel_rfl) (by kernel_rfl) _ _) (toSource_any c4 len4 cap4 f4 g4 at4 st4 ct4 _ (hik (HP4.out.keep (G.out.trans KW.out))) hn4) ?_
              rintro e P3 ⟨by_, hby, he, hry, kk⟩
              replace RY := hik (rowIs_keep RY.out kk)
              replace TY := hik (fun i hi => rowIs_keep (TY.out i hi) kk)
              have OY := hik (OwnE.of_row hry (Nat.le_refl by_))
              clear hry hby
              refine ⟨_, he, hK _ _ kk ?_⟩
              have hsP3 := hik kk.size
              clear he kk hK K' KW bb gg uu
              try simp only [Act.put, List.setIfInBounds_toArray, List.set_cons_zero, List.set_cons_succ, List.getElem_toArray, List.getElem_cons_zero, List.getElem_cons_succ]
              refine wpC_step (i := 8) rfl (by kernel_rfl) (by rfl) (List.forall_mem_cons.2 ⟨FloOK.alloc rfl 31 rfl rfl rfl (fun w => by go_simp), (List.forall_mem_cons.2 ⟨FloOK.alloc rfl 33 rfl rfl rfl (fun w => by go_simp), (fun _ h => absurd h List.not_mem_nil)⟩)⟩) (by rfl) ?_
              intro bb gg uu P4' hrd hB k0 kW K' hK
              clear hrd hB
              have KW := hik k0
              replace RY := hik (rowIs_keep RY.out kW)
              replace TY := hik (fun i hi => rowIs_keep (TY.out i hi) kW)
              replace OY := hik (OY.out.keep kW)
              clear kW k0
              refine stepL_callN 10 #[.tmp 151, .tmp 153, .tmp 155, .tmp 156, .tmp 158] #[3, 31, 37, 3, 33] (by rfl) (by rfl) #[.int .i64 a0, .agg #[.int .i64 a1, .int .i64 b1], .slice (some ⟨xb, 0, none⟩) len2 len2, .int .i64 a3, .agg #[.slice (some ⟨by_, 0, none⟩) len4 len4, .int .i64 at4, .string st4, .int .i64 ct4]] (by (try simp only [putF, Act.put, List.setIfInBounds_toArray, List.set_cons_zero, List.set_cons_succ, List.getElem_toArray, List.getElem_cons_zero, List.getElem_cons_succ]); simp only [List.map_toArray, List.map_cons, List.map_nil] <;> rfl) (run_go Tryz.func10 (by kernel_rfl) (by kernel_rfl) _ _) (HI.out _ _ _ _ _ (hik (CopiedSS.rows (w := w) RY.out TY.out)) (hik OY.out.pairs) (hik (ht.out.keep (G.out.trans KW.out)))) ?_
              rintro e P4 ⟨cP, capP, cS, capS, he, rP, rS, rA, kk⟩
              replace RY := hik (rowIs_keep RY.out kk)
              replace TY := hik (fun i hi => rowIs_keep (TY.out i hi) kk)
              replace OY := hik (OY.out.keep kk)
              have RP := hik rP
              have RS := hik rS
              have UPP := hik rP.upper
              have UPS := hik rS.upper
              have AP := hik rA
              clear rA
              have HLO := hik (show W24.heap.size ≤ P4'.heap.size from KW.out.size)
              clear rP rS
              refine ⟨_, he, hK _ _ kk ?_⟩
              have hsP4 := hik kk.size
              clear he kk hK K' KW bb gg uu
              try simp only [Act.put, List.setIfInBounds_toArray, List.set_cons_zero, List.set_cons_succ, List.getElem_toArray, List.getElem_cons_zero, List.getElem_cons_succ]
              refine wpC_take (i := 9) (v := ?_) rfl (by kernel_rfl) (by kernel_rfl) (by rfl) (fun _ _ _ h => h) (fun u => Or.inl ⟨by rfl, ?_⟩) ?_
              rotate_left 1
              · (intro w' hSw; have hSw := SA.out _ hSw; (try dsimp only at hSw); try simp only [putF, Act.put, List.setIfInBounds_toArray, List.set_cons_zero, List.set_cons_succ, List.getElem_toArray, List.getElem_cons_zero, List.getElem_cons_succ]; go_simp; try with_reducible rfl)
              try simp only [Act.put, List.setIfInBounds_toArray, List.set_cons_zero, List.set_cons_succ, List.getElem_toArray, List.getElem_cons_zero, List.getElem_cons_succ]
              refine wpC_take (i := 10) (v := ?_) rfl (by kernel_rfl) (by kernel_rfl) (by rfl) (fun _ _ _ h => h) (fun u => Or.inl ⟨by rfl, ?_⟩) ?_
              rotate_left 1
              · (intro w' hSw; have hSw := SA.out _ hSw; (try dsimp only at hSw); try simp only [putF, Act.put, List.setIfInBounds_toArray, List.set_cons_zero, List.set_cons_succ, List.getElem_toArray, List.getElem_cons_zero, List.getElem_cons_succ]; go_simp; try with_reducible rfl)
              try simp only [Act.put, List.setIfInBounds_toArray, List.set_cons_zero, List.set_cons_succ, List.getElem_toArray, List.getElem_cons_zero, List.getElem_cons_succ]
              refine wpC_take (i := 11) (v := ?_) rfl (by kernel_rfl) (by kernel_rfl) (by rfl) (fun _ _ _ h => h) (fun u => Or.inl ⟨by rfl, ?_⟩) ?_
              rotate_left 1
              · (intro w' hSw; have hSw := SA.out _ hSw; (try dsimp only at hSw); try simp only [putF, Act.put, List.setIfInBounds_toArray, List.set_cons_zero, List.set_cons_succ, List.getElem_toArray, List.getElem_cons_zero, List.getElem_cons_succ]; go_simp; try with_reducible rfl)
              try simp only [Act.put, List.setIfInBounds_toArray, List.set_cons_zero, List.set_cons_succ, List.getElem_toArray, List.getElem_cons_zero, List.getElem_cons_succ]
              refine wpC_take (i := 12) (v := ?_) rfl (by kernel_rfl) (by kernel_rfl) (by rfl) (fun _ _ _ h => h) (fun u => Or.inl ⟨by rfl, ?_⟩) ?_
              rotate_left 1
              · (intro w' hSw; have hSw := SA.out _ hSw; (try dsimp only at hSw); try simp only [putF, Act.put, List.setIfInBounds_toArray, List.set_cons_zero, List.set_cons_succ, List.getElem_toArray, List.getElem_cons_zero, List.getElem_cons_succ]; go_simp; try with_reducible rfl)
              try simp only [Act.put, List.setIfInBounds_toArray, List.set_cons_zero, List.set_cons_succ, List.getElem_toArray, List.getElem_cons_zero, List.getElem_cons_succ]
              refine wpC_take (i := 13) (v := ?_) rfl (by kernel_rfl) (by kernel_rfl) (by rfl) (fun _ _ _ h => h) (fun u => Or.inl ⟨by rfl, ?_⟩) ?_
              rotate_left 1
              · (intro w' hSw; have hSw := SA.out _ hSw; (try dsimp only at hSw); try simp only [putF, Act.put, List.setIfInBounds_toArray, List.set_cons_zero, List.set_cons_succ, List.getElem_toArray, List.getElem_cons_zero, List.getElem_cons_succ]; go_simp; try with_reducible rfl)
              try simp only [Act.put, List.setIfInBounds_toArray, List.set_cons_zero, List.set_cons_succ, List.getElem_toArray, List.getElem_cons_zero, List.getElem_cons_succ]
              refine wpC_all (by kernel_rfl) (by rfl) (List.forall_mem_cons.2 ⟨FloOK.alloc rfl 31 rfl rfl rfl (fun w => by go_simp), (List.forall_mem_cons.2 ⟨FloOK.alloc rfl 33 rfl rfl rfl (fun w => by go_simp), (fun _ h => absurd h List.not_mem_nil)⟩)⟩) ?_
              intro gg uu Pz hB k0 kW
              have KW := hik k0
              have HTOP := hik kW.size
              replace RY := hik (rowIs_keep RY.out kW)
              replace TY := hik (fun i hi => rowIs_keep (TY.out i hi) kW)
              replace OY := hik (OY.out.keep kW)
              replace RP := hik (RP.out.keep kW)
              replace RS := hik (RS.out.keep kW)
              obtain ⟨eu0, hg0, hl0, hc0, ha0, hd0⟩ := hB 0 _ rfl rfl
              have eu0 : uu 0 = .pointer (some ⟨gg 0, 0, none⟩) := eu0
              have BX0 := hik (rowN_at (n := 2) hc0 rfl)
              clear hd0 hc0 hl0
              obtain ⟨eu1, hg1, hl1, hc1, ha1, hd1⟩ := hB 1 _ rfl rfl
              have eu1 : uu 1 = .pointer (some ⟨gg 1, 0, none⟩) := eu1
              have hd01 : gg 0 ≠ gg 1 := hd1 0 (by omega) rfl
              have BX1 := hik (rowN_at (n := 4) hc1 rfl)
              clear hd1 hc1 hl1
              clear hB kW
              generalize gg 0 = g0 at eu0 hg0 ha0 BX0 eu1 hg1 ha1 BX1 hd01
              generalize gg 1 = g1 at eu0 hg0 ha0 BX0 eu1 hg1 ha1 BX1 hd01
              refine wpAnyH_as (fuel' := 4) rfl (listed' := #[true, true, true, true, true, true, true, true, true, true, true, true, true, true, true, true, false, false, false, false]) (by kernel_rfl) ?_
              simp only [putF, eu0, eu1, Act.put, List.setIfInBounds_toArray, List.set_cons_zero, List.set_cons_succ, List.getElem_toArray, List.getElem_cons_zero, List.getElem_cons_succ]
              clear eu0 eu1
              have hHeld := k0
              clear k0
              refine wpAnyH_take (i := 16) (v := ?_) rfl (by kernel_rfl) (by kernel_rfl) (by kernel_rfl) (fun _ _ _ h => h) (Or.inl ⟨by rfl, ?_⟩) (by assumption) ?_
              rotate_left 1
              · (intro w' hSw; (try dsimp only at hSw); go_simp; try with_reducible rfl)
              try simp only [Act.put, List.setIfInBounds_toArray, List.set_cons_zero, List.set_cons_succ, List.getElem_toArray, List.getElem_cons_zero, List.getElem_cons_succ]
              refine wpAnyH_ready (rs := [17]) (by kernel_rfl) (by simp) ?_
              refine AllReadyH.cons rfl (fun K hK => ?_) AllReadyH.nil
              have yy0 : Pz.cell? ⟨g0, 0, none⟩ = some (.int .i64 0) := BX0.out.cell (i := 0) (by omega)
              have fz0 := BX0.out.frozen 0
              have yy1 : Pz.cell? ⟨g0, 1, none⟩ = some (.int .i64 0) := BX0.out.cell (i := 1) (by omega)
              have fz1 := BX0.out.frozen 1
              have l7 := BX0.out.lt
              have C7 := hik ((((Chg.refl (fun b => b = g0) Pz).setCell (p := ⟨g0, 0, none⟩) (fun _ => rfl) (.int .i64 y1)).setCell (p := ⟨g0, 1, none⟩) (fun _ => rfl) (.int .i64 y2)))
              simp only [List.getElem_toArray, List.getElem_cons_zero, List.getElem_cons_succ]
              go_simp
              replace KW := hik (((KW.out.setCell (p := ⟨g0, 0, none⟩) (fun l => absurd (show g0 < W24.heap.size from l) (by omega)) (.int .i64 y1)).setCell (p := ⟨g0, 1, none⟩) (fun l => absurd (show g0 < W24.heap.size from l) (by omega)) (.int .i64 y2)))
              refine hK.out _ _ KW.out (fun hHeld => ?_)
              clear hK K
              try simp only [Act.put, List.setIfInBounds_toArray, List.set_cons_zero, List.set_cons_succ, List.getElem_toArray, List.getElem_cons_zero, List.getElem_cons_succ]
              clear yy0 fz0 yy1 fz1 l7
              replace BX1 := hik (rowIs_chg BX1.out C7.out (fun e => hd01 e.symm))
              replace RP := hik (RP.out.farE C7.out (fun b hb ec => (UPP.out b ec).elim .inl (fun q => .inr (fun e => ha0 (.inr ⟨by rw [← show b = g0 from e]; exact hb, by rw [← show b = g0 from e]; exact q⟩)))))
              replace RS := hik (RS.out.farE C7.out (fun b hb ec => (UPS.out b ec).elim .inl (fun q => .inr (fun e => ha0 (.inr ⟨by rw [← show b = g0 from e]; exact hb, by rw [← show b = g0 from e]; exact q⟩)))))
              have RB0 : Hid (World.rowIs _ g0 31 2 (fun i => (#[.int .i64 y1, .int .i64 y2] : Array Value).getD i undef)) := hik (((BX0.out.set 0 (.int .i64 y1)).set 1 (.int .i64 y2)).congr (fun i hi => by rcases (show i = 0 ∨ i = 1 by omega) with rfl | rfl <;> rfl))
              replace HTOP := hik (Nat.le_trans HTOP.out C7.out.size)
              clear C7 BX0
              generalize hUS : ((Pz.setCell ⟨g0, 0, none⟩ (.int .i64 y1)).setCell ⟨g0, 1, none⟩ (.int .i64 y2)) = Ps1 at RB0 KW hHeld BX1 RP RS HTOP ⊢
              clear hUS
              refine wpAnyH_ready (rs := [18]) (by kernel_rfl) (by simp) ?_
              refine AllReadyH.cons rfl (fun K hK => ?_) AllReadyH.nil
              have yy0 : Ps1.cell? ⟨g1, 0, none⟩ = some (.slice none 0 0) := BX1.out.cell (i := 0) (by omega)
              have fz0 := BX1.out.frozen 0
              have yy1 : Ps1.cell? ⟨g1, 1, none⟩ = some (.int .i64 0) := BX1.out.cell (i := 1) (by omega)
              have fz1 := BX1.out.frozen 1
              have yy2 : Ps1.cell? ⟨g1, 2, none⟩ = some (.string ⟨#[]⟩) := BX1.out.cell (i := 2) (by omega)
              have fz2 := BX1.out.frozen 2
              have yy3 : Ps1.cell? ⟨g1, 3, none⟩ = some (.int .i64 0) := BX1.out.cell (i := 3) (by omega)
              have fz3 := BX1.out.frozen 3
              have l7 := BX1.out.lt
              have C7 := hik ((((((Chg.refl (fun b => b = g1) Ps1).setCell (p := ⟨g1, 0, none⟩) (fun _ => rfl) (.slice cS nS capS)).setCell (p := ⟨g1, 1, none⟩) (fun _ => rfl) (.int .i64 aa)).setCell (p := ⟨g1, 2, none⟩) (fun _ => rfl) (.string ss)).setCell (p := ⟨g1, 3, none⟩) (fun _ => rfl) (.int .i64 cc)))
              simp only [List.getElem_toArray, List.getElem_cons_zero, List.getElem_cons_succ]
              go_simp
              replace KW := hik (((((KW.out.setCell (p := ⟨g1, 0, none⟩) (fun l => absurd (show g1 < W24.heap.size from l) (by omega)) (.slice cS nS capS)).setCell (p := ⟨g1, 1, none⟩) (fun l => absurd (show g1 < W24.heap.size from l) (by omega)) (.int .i64 aa)).setCell (p := ⟨g1, 2, none⟩) (fun l => absurd (show g1 < W24.heap.size from l) (by omega)) (.string ss)).setCell (p := ⟨g1, 3, none⟩) (fun l => absurd (show g1 < W24.heap.size from l) (by omega)) (.int .i64 cc)))
              refine hK.out _ _ KW.out (fun hHeld => ?_)
              clear hK K
              try simp only [Act.put, List.setIfInBounds_toArray, List.set_cons_zero, List.set_cons_succ, List.getElem_toArray, List.getElem_cons_zero, List.getElem_cons_succ]
              clear yy0 fz0 yy1 fz1 yy2 fz2 yy3 fz3 l7
              replace RB0 := hik (rowIs_chg RB0.out C7.out (fun e => hd01 e))
              replace RP := hik (RP.out.farE C7.out (fun b hb ec => (UPP.out b ec).elim .inl (fun q => .inr (fun e => ha1 (.inr ⟨by rw [← show b = g1 from e]; exact hb, by rw [← show b = g1 from e]; exact q⟩)))))
              replace RS := hik (RS.out.farE C7.out (fun b hb ec => (UPS.out b ec).elim .inl (fun q => .inr (fun e => ha1 (.inr ⟨by rw [← show b = g1 from e]; exact hb, by rw [← show b = g1 from e]; exact q⟩)))))
              have RB1 : Hid (World.rowIs _ g1 33 4 (fun i => (#[.slice cS nS capS, .int .i64 aa, .string ss, .int .i64 cc] : Array Value).getD i undef)) := hik (((((BX1.out.set 0 (.slice cS nS capS)).set 1 (.int .i64 aa)).set 2 (.string ss)).set 3 (.int .i64 cc)).congr (fun i hi => by rcases (show i = 0 ∨ i = 1 ∨ i = 2 ∨ i = 3 by omega) with rfl | rfl | rfl | rfl <;> rfl))
              replace HTOP := hik (Nat.le_trans HTOP.out C7.out.size)
              clear C7 BX1
              generalize hUS : ((((Ps1.setCell ⟨g1, 0, none⟩ (.slice cS nS capS)).setCell ⟨g1, 1, none⟩ (.int .i64 aa)).setCell ⟨g1, 2, none⟩ (.string ss)).setCell ⟨g1, 3, none⟩ (.int .i64 cc)) = Ps2 at RB1 KW hHeld RB0 RP RS HTOP ⊢
              clear hUS
              refine wpAnyH_take (i := 19) (v := ?_) rfl (by kernel_rfl) (by kernel_rfl) (by kernel_rfl) (fun _ _ _ h => h) (Or.inl ⟨by rfl, ?_⟩) (by assumption) ?_
              rotate_left 1
              · (intro w' hSw; (try dsimp only at hSw); go_simp; try with_reducible rfl)
              try simp only [Act.put, List.setIfInBounds_toArray, List.set_cons_zero, List.set_cons_succ, List.getElem_toArray, List.getElem_cons_zero, List.getElem_cons_succ]
              refine wpAnyH_done (by kernel_rfl) ?_ _
              have R0 := hik (show World.rowIs _ g0 31 2 (pv2 (.int .i64 y1) (.int .i64 y2)) from RB0.out.congr (fun i hi => by rcases (show i = 0 ∨ i = 1 by omega) with rfl | rfl <;> rfl))
              have R1 := hik (show World.rowIs _ g1 33 4 (pv4 (.slice cS nS capS) (.int .i64 aa) (.string ss) (.int .i64 cc)) from RB1.out.congr (fun i hi => by rcases (show i = 0 ∨ i = 1 ∨ i = 2 ∨ i = 3 by omega) with rfl | rfl | rfl | rfl <;> rfl))
              clear SA RB0 RB1
              go_wp2_with fail
              go_meet
              exact ⟨cP, cS, capP, capS, g0, g1, P4'.heap.size, P4.heap.size, rfl, rfl, rfl, rfl, RP, RS, R0, R1, KW, hik ⟨hg0, hg1, HLO.out, fun x => ha0 (.inr x), fun x => ha1 (.inr x), hd01, hsP4.out, HTOP.out⟩, hik ⟨UPP.out, UPS.out⟩, AP⟩
          case rest =>
            as_aux_lemma =>
              obtain ⟨hP, hS, hpc, hsc, gE2, gZ2, lo3, hi3, rfl, rfl, rfl, rfl, OH, OJ, RH1, RH, KW, _, _, _⟩ := hcut
              rename World => W25
              have s25 := hik KW.out.size
              replace G := hik (G.out.trans KW.out)
              replace A := hik (rowIs_keep A.out KW.out)
              replace CB := hik (rowIs_keep CB.out KW.out)
              replace RW1 := hik (rowIs_keep RW1.out KW.out)
              replace RW := hik (rowIs_keep RW.out KW.out)
              replace GW := hik (GW.out.trans KW.out)
              replace OP := hik (OP.out.keep KW.out)
              replace OS := hik (OS.out.keep KW.out)
              replace RG1 := hik (rowIs_keep RG1.out KW.out)
              replace RG := hik (rowIs_keep RG.out KW.out)
              clear KW
              go_wp2_with fail
              refine (eqExtS_any hP cP nP nP hpc capP _ _ _ _ _ (hik OH.out.pairs) (hik (PW.out.keep GW.out)) rfl (fun _ _ => ⟨rfl, rfl⟩) (by have := BD.out; omega)).mono ?_
              rintro e W26 ⟨rfl, kk⟩
              have s26 := hik kk.size
              replace G := hik (G.out.trans kk)
              replace A := hik (rowIs_keep A.out kk)
              replace CB := hik (rowIs_keep CB.out kk)
              replace RW1 := hik (rowIs_keep RW1.out kk)
              replace RW := hik (rowIs_keep RW.out kk)
              replace GW := hik (GW.out.trans kk)
              replace OP := hik (OP.out.keep kk)
              replace OS := hik (OS.out.keep kk)
              replace RG1 := hik (rowIs_keep RG1.out kk)
              replace RG := hik (rowIs_keep RG.out kk)
              replace OH := hik (OH.out.keep kk)
              replace OJ := hik (OJ.out.keep kk)
              replace RH1 := hik (rowIs_keep RH1.out kk)
              replace RH := hik (rowIs_keep RH.out kk)
              clear kk
              have xRH10 : W26.cell? ⟨gE2, 0, none⟩ = some (.int .i64 y1) := RH1.out.cell (by omega)
              have xRH11 : W26.cell? ⟨gE2, 1, none⟩ = some (.int .i64 y2) := RH1.out.cell (by omega)
              have zRH1 := RH1.out.lt
              have xRW10 : W26.cell? ⟨gw1, 0, none⟩ = some (.int .i64 y1) := RW1.out.cell (by omega)
              have xRW11 : W26.cell? ⟨gw1, 1, none⟩ = some (.int .i64 y2) := RW1.out.cell (by omega)
              have zRW1 := RW1.out.lt
              go_wp2_with fail
              refine (eqExt_any y1 y2 _).mono ?_
              rintro e W27 ⟨rfl, kk⟩
              clear xRH10 xRH11 zRH1 xRW10 xRW11 zRW1
              have s27 := hik kk.size
              replace G := hik (G.out.trans kk)
              replace A := hik (rowIs_keep A.out kk)
              replace CB := hik (rowIs_keep CB.out kk)
              replace RW1 := hik (rowIs_keep RW1.out kk)
              replace RW := hik (rowIs_keep RW.out kk)
              replace GW := hik (GW.out.trans kk)
              replace OP := hik (OP.out.keep kk)
              replace OS := hik (OS.out.keep kk)
              replace RG1 := hik (rowIs_keep RG1.out kk)
              replace RG := hik (rowIs_keep RG.out kk)
              replace OH := hik (OH.out.keep kk)
              replace OJ := hik (OJ.out.keep kk)
              replace RH1 := hik (rowIs_keep RH1.out kk)
              replace RH := hik (rowIs_keep RH.out kk)
              clear kk
              have xRH0 : W27.cell? ⟨gZ2, 0, none⟩ = some (.slice hS nS hsc) := RH.out.cell (by omega)
              have xRH1 : W27.cell? ⟨gZ2, 1, none⟩ = some (.int .i64 aa) := RH.out.cell (by omega)
              have xRH2 : W27.cell? ⟨gZ2, 2, none⟩ = some (.string ss) := RH.out.cell (by omega)
              have xRH3 : W27.cell? ⟨gZ2, 3, none⟩ = some (.int .i64 cc) := RH.out.cell (by omega)
              have zRH := RH.out.lt
              have xRW0 : W27.cell? ⟨gw, 0, none⟩ = some (.slice cS nS capS) := RW.out.cell (by omega)
              have xRW1 : W27.cell? ⟨gw, 1, none⟩ = some (.int .i64 aa) := RW.out.cell (by omega)
              have xRW2 : W27.cell? ⟨gw, 2, none⟩ = some (.string ss) := RW.out.cell (by omega)
              have xRW3 : W27.cell? ⟨gw, 3, none⟩ = some (.int .i64 cc) := RW.out.cell (by omega)
              have zRW := RW.out.lt
              go_wp2_with fail
              refine (eqSource_any hS cS nS nS hsc capS f4 g4 f4 g4 aa ss cc _ (hik OJ.out.pairs) (hik (SW.out.keep GW.out)) rfl (fun _ _ => ⟨rfl, rfl⟩) (by have := BD.out; omega)).mono ?_
              rintro e W28 ⟨rfl, kk⟩
              clear xRH0 xRH1 xRH2 xRH3 zRH xRW0 xRW1 xRW2 xRW3 zRW
              have s28 := hik kk.size
              replace G := hik (G.out.trans kk)
              replace A := hik (rowIs_keep A.out kk)
              replace CB := hik (rowIs_keep CB.out kk)
              replace RW1 := hik (rowIs_keep RW1.out kk)
              replace RW := hik (rowIs_keep RW.out kk)
              replace GW := hik (GW.out.trans kk)
              replace OP := hik (OP.out.keep kk)
              replace OS := hik (OS.out.keep kk)
              replace RG1 := hik (rowIs_keep RG1.out kk)
              replace RG := hik (rowIs_keep RG.out kk)
              replace OH := hik (OH.out.keep kk)
              replace OJ := hik (OJ.out.keep kk)
              replace RH1 := hik (rowIs_keep RH1.out kk)
              replace RH := hik (rowIs_keep RH.out kk)
              clear kk
              go_wp2_with fail
              refine (heldExtS_own gP nP gpc 1 _ (hik OP.out.pairs) (by have := BD.out; omega) (by omega) (by omega)).mono ?_
              rintro e W29 ⟨rfl, kk⟩
              have s29 := hik kk.size
              replace G := hik (G.out.trans kk)
              replace A := hik (rowIs_keep A.out kk)
              replace CB := hik (rowIs_keep CB.out kk)
              replace RW1 := hik (rowIs_keep RW1.out kk)
              replace RW := hik (rowIs_keep RW.out kk)
              replace GW := hik (GW.out.trans kk)
              replace OP := hik (OP.out.keep kk)
              replace OS := hik (OS.out.keep kk)
              replace RG1 := hik (rowIs_keep RG1.out kk)
              replace RG := hik (rowIs_keep RG.out kk)
              replace OH := hik (OH.out.keep kk)
              replace OJ := hik (OJ.out.keep kk)
              replace RH1 := hik (rowIs_keep RH1.out kk)
              replace RH := hik (rowIs_keep RH.out kk)
              clear kk
              have xRG0 : W29.cell? ⟨gZ, 0, none⟩ = some (.slice gS nS gsc) := RG.out.cell (by omega)
              have xRG1 : W29.cell? ⟨gZ, 1, none⟩ = some (.int .i64 aa) := RG.out.cell (by omega)
              have xRG2 : W29.cell? ⟨gZ, 2, none⟩ = some (.string ss) := RG.out.cell (by omega)
              have xRG3 : W29.cell? ⟨gZ, 3, none⟩ = some (.int .i64 cc) := RG.out.cell (by omega)
              have zRG := RG.out.lt
              go_wp2_with fail
              refine (heldSource_own gS nS gsc aa ss cc (1 + 2 * (nP : Int)) _ (hik OS.out.pairs) (by have := BD.out; omega) (by have := BD.out; omega) (by have := BD.out; omega)).mono ?_
              rintro e W30 ⟨rfl, kk⟩
              clear xRG0 xRG1 xRG2 xRG3 zRG
              have s30 := hik kk.size
              replace G := hik (G.out.trans kk)
              replace A := hik (rowIs_keep A.out kk)
              replace CB := hik (rowIs_keep CB.out kk)
              replace RW1 := hik (rowIs_keep RW1.out kk)
              replace RW := hik (rowIs_keep RW.out kk)
              replace GW := hik (GW.out.trans kk)
              replace OP := hik (OP.out.keep kk)
              replace OS := hik (OS.out.keep kk)
              replace RG1 := hik (rowIs_keep RG1.out kk)
              replace RG := hik (rowIs_keep RG.out kk)
              replace OH := hik (OH.out.keep kk)
              replace OJ := hik (OJ.out.keep kk)
              replace RH1 := hik (rowIs_keep RH1.out kk)
              replace RH := hik (rowIs_keep RH.out kk)
              clear kk
              go_wp2
              go_ret
              exact ⟨rfl, G.out.belowAll⟩

end Go.Proofs.YtccgjbdjbgefiaaGreatDoor
