/- Several texts in one: What the program's Combine and DegreeOf answer: contracts. Conditions: lists that can be read, of at most 2 to the 40. · What the program's SumVerify answers: a contract. Conditions: lists that can be read. · Lists and codes told by elements: words. No condition but those that each theorem states. · The calls on sums at right arguments, by elements: contracts. Conditions: right tables of one length that can be read, a right source with draws left. -/
import Derived.Test.YtgiefpipflcbgadGreatDoorBzag
import Derived.Test.YtgiefpipflcbgadGreatDoorBzai
import Derived.Test.YtgiefpipflcbgadGreatDoorVerX
import Derived.Test.YtgiefpipflcbgadGreatDoorBzbb
import Derived.Test.YtgiefpipflcbgadGreatDoorBzam
import Derived.Test.YtgiefpipflcbgadGreatDoorBzba
namespace Go.Proofs.YtgiefpipflcbgadGreatDoor
open Go.ChangeShapes Go.WideShapes Go.ChangeAt Go.RowKit
set_option linter.unusedVariables false
set_option maxRecDepth 100000
set_option linter.unusedSimpArgs false

end Go.Proofs.YtgiefpipflcbgadGreatDoor

namespace Go.Proofs.YtgiefpipflcbgadGreatDoor
open Go.ChangeShapes Go.WideShapes Go.ChangeAt Go.RowKit
set_option linter.unusedVariables false
set_option maxRecDepth 100000
set_option linter.unusedSimpArgs false

theorem VIAns.zero {w w' : World} {q q' : Int} {nP nS : Nat} {R : Nat → El} {fs gs : Nat → Int} {y1 y2 a : Int} {s : ByteArray} {c : Int} {e : Ending} (hq : q = q') (h0 : ¬ q' = 0) (he : e = .returned (.tuple #[.slice none 0 0, .agg #[.int .i64 0, .int .i64 0], .agg #[.slice none 0 0, .int .i64 0, .string ⟨#[]⟩, .int .i64 0], .int .i64 q'])) (k : Chg nob w w') :
    VIAns w q (scn q nP) (scn q nS) R fs gs (scI q y1) (scI q y2) (scI q a) (scS q s) (scI q c) e w' := by
  subst hq
  have e1 : ∀ n, scn q n = 0 := fun n => if_neg h0
  have e2 : ∀ a, scI q a = 0 := fun a => if_neg h0
  have e3 : ∀ s, scS q s = ⟨#[]⟩ := fun s => if_neg h0
  rw [e1, e1, e2, e2, e2, e2, e3]
  exact ⟨none, 0, none, 0, he, .inl rfl, .inl rfl, fun b hb ⟨o, e⟩ => (by cases e), k⟩
theorem VIAns.full {w w' : World} {q : Int} {nP nS : Nat} {R : Nat → El} {fs gs : Nat → Int} {y1 y2 a : Int} {s : ByteArray} {c : Int} {e : Ending} (hq : q = 0) (h : VIAns w 0 nP nS R fs gs y1 y2 a s c e w') : VIAns w q (scn q nP) (scn q nS) R fs gs (scI q y1) (scI q y2) (scI q a) (scS q s) (scI q c) e w' := by
  subst hq
  exact h

set_option maxHeartbeats 4000000 in
theorem verZ_any (K x1 x2 : Int) (c : Option Addr) (m cap : Nat) (A : Nat → Option Addr) (L C : Nat → Nat) (f g : Nat → Nat → Int) (vars : Int) (cs : Option Addr) (len caps : Nat) (fs gs : Nat → Int) (at' : Int) (st : ByteArray) (ct : Int) (w : World) (h : Hid (RowsV w c m A L C f g)) (hL : Hid (∀ i, i < m → L i ≤ 1099511627776)) (hn : m ≤ 1099511627776) (hs : Hid (PairV w cs len fs gs)) (hl : (len : Int) ≤ 9223372036854775807) (hst : (st.size : Int) ≤ 9223372036854775807) (ht : Hid (Tabs w)) (hq : ¬ (vcc K x1 x2 m L f g vars fs gs len at' st ct) = 0) :
    Calls Tryz.prog 14 #[.int .i64 K, .agg #[.int .i64 x1, .int .i64 x2], .slice c m cap, .int .i64 vars, .agg #[.slice cs len caps, .int .i64 at', .string st, .int .i64 ct]] w fun e w' => VIAns w (svc8 K x1 x2 m L f g vars fs gs len at' st ct) (scn (svc8 K x1 x2 m L f g vars fs gs len at' st ct) m) (scn (svc8 K x1 x2 m L f g vars fs gs len at' st ct) len) (vpt fs gs len (K.toNat + 2) (fun i => elF (f i) (g i)) ⟨elP x1 x2, at', st, ct⟩) fs gs (scI (svc8 K x1 x2 m L f g vars fs gs len at' st ct) (vst fs gs len (K.toNat + 2) (fun i => elF (f i) (g i)) ⟨elP x1 x2, at', st, ct⟩ m).x.v.1) (scI (svc8 K x1 x2 m L f g vars fs gs len at' st ct) (vst fs gs len (K.toNat + 2) (fun i => elF (f i) (g i)) ⟨elP x1 x2, at', st, ct⟩ m).x.v.2) (scI (svc8 K x1 x2 m L f g vars fs gs len at' st ct) (vst fs gs len (K.toNat + 2) (fun i => elF (f i) (g i)) ⟨elP x1 x2, at', st, ct⟩ m).a) (scS (svc8 K x1 x2 m L f g vars fs gs len at' st ct) (vst fs gs len (K.toNat + 2) (fun i => elF (f i) (g i)) ⟨elP x1 x2, at', st, ct⟩ m).s) (scI (svc8 K x1 x2 m L f g vars fs gs len at' st ct) (vst fs gs len (K.toNat + 2) (fun i => elF (f i) (g i)) ⟨elP x1 x2, at', st, ct⟩ m).c) e w' := by
  have HQ := hik (show (svc8 K x1 x2 m L f g vars fs gs len at' st ct) = (vcc K x1 x2 m L f g vars fs gs len at' st ct) by rw [vcc_svc, if_neg hq])
  obtain ⟨q, hqq⟩ : ∃ q, q = (vcc K x1 x2 m L f g vars fs gs len at' st ct) := ⟨_, rfl⟩
  rw [← hqq] at hq HQ
  have HQQ := hik hqq.symm
  clear hqq
  have H0 := hik hq
  have hb : (q != 0) = true := bne_iff_ne.2 hq
  have F0 : Hid (ElB ((((w.alloc (.cells #[.int .i64 x1, .int .i64 x2] 31)).alloc (.cells #[.slice cs len caps, .int .i64 at', .string st, .int .i64 ct] 28)).alloc (.cells #[.int .i64 0, .int .i64 0] 31)).alloc (.cells #[.slice none 0 0, .int .i64 0, .string ⟨#[]⟩, .int .i64 0] 28)) (w.heap.size + 1 + 1) El.zr) := hik (by simpa using (ElB.zero ((w.alloc (.cells #[.int .i64 x1, .int .i64 x2] 31)).alloc (.cells #[.slice cs len caps, .int .i64 at', .string st, .int .i64 ct] 28))).keep ((Chg.refl nob _).alloc (.cells #[.slice none 0 0, .int .i64 0, .string ⟨#[]⟩, .int .i64 0] 28)))
  have Y0 : Hid (((((w.alloc (.cells #[.int .i64 x1, .int .i64 x2] 31)).alloc (.cells #[.slice cs len caps, .int .i64 at', .string st, .int .i64 ct] 28)).alloc (.cells #[.int .i64 0, .int .i64 0] 31)).alloc (.cells #[.slice none 0 0, .int .i64 0, .string ⟨#[]⟩, .int .i64 0] 28)).rowIs (w.heap.size + 1 + 1 + 1) 28 4 (pv4 (.slice none 0 0) (.int .i64 0) (.string ⟨#[]⟩) (.int .i64 0))) := hik (by simpa using row4_new (((w.alloc (.cells #[.int .i64 x1, .int .i64 x2] 31)).alloc (.cells #[.slice cs len caps, .int .i64 at', .string st, .int .i64 ct] 28)).alloc (.cells #[.int .i64 0, .int .i64 0] 31)) (.slice none 0 0) (.int .i64 0) (.string ⟨#[]⟩) (.int .i64 0) 28)
  have G0 := hik (((((Chg.refl nob w).alloc (.cells #[.int .i64 x1, .int .i64 x2] 31)).alloc (.cells #[.slice cs len caps, .int .i64 at', .string st, .int .i64 ct] 28)).alloc (.cells #[.int .i64 0, .int .i64 0] 31)).alloc (.cells #[.slice none 0 0, .int .i64 0, .string ⟨#[]⟩, .int .i64 0] 28))
  go_enter Tryz.func14, Tryz.ntmps14
  go_wp2_with fail
  generalize hE : (((w.alloc (.cells #[.int .i64 x1, .int .i64 x2] 31)).alloc (.cells #[.slice cs len caps, .int .i64 at', .string st, .int .i64 ct] 28)).alloc (.cells #[.int .i64 0, .int .i64 0] 31)).alloc (.cells #[.slice none 0 0, .int .i64 0, .string ⟨#[]⟩, .int .i64 0] 28) = W0 at F0 Y0 G0 ⊢
  clear hE
  refine (vcc_any K x1 x2 c m cap A L C f g vars cs len caps fs gs at' st ct _ (hik (RowsV.keep h.out G0.out)) hL hn (hik (PairV.keep hs.out G0.out)) hl hst).mono ?_
  rintro e W1 ⟨he, k1⟩
  rw [HQQ.out] at he
  subst he
  have HF := hik (F0.out.keep k1)
  have HY := hik (rowIs_keep Y0.out k1)
  have HG := hik (G0.out.trans k1)
  clear k1 F0 Y0 G0 hq
  have g0 : W1.cell? ⟨w.heap.size + 1 + 1, 0, none⟩ = some (.int .i64 0) := HF.out.c0
  have g1 : W1.cell? ⟨w.heap.size + 1 + 1, 1, none⟩ = some (.int .i64 0) := HF.out.c1
  have gf0 := HF.out.fz 0
  have gf1 := HF.out.fz 1
  have gl : w.heap.size + 1 + 1 < W1.heap.size := HF.out.lt
  have yy0 : W1.cell? ⟨w.heap.size + 1 + 1 + 1, 0, none⟩ = some (.slice none 0 0) := HY.out.cell (by omega)
  have yyf0 := HY.out.frozen 0
  have yy1 : W1.cell? ⟨w.heap.size + 1 + 1 + 1, 1, none⟩ = some (.int .i64 0) := HY.out.cell (by omega)
  have yyf1 := HY.out.frozen 1
  have yy2 : W1.cell? ⟨w.heap.size + 1 + 1 + 1, 2, none⟩ = some (.string ⟨#[]⟩) := HY.out.cell (by omega)
  have yyf2 := HY.out.frozen 2
  have yy3 : W1.cell? ⟨w.heap.size + 1 + 1 + 1, 3, none⟩ = some (.int .i64 0) := HY.out.cell (by omega)
  have yyf3 := HY.out.frozen 3
  have yl : w.heap.size + 1 + 1 + 1 < W1.heap.size := HY.out.lt
  go_wp2
  have qF := HF.out.set El.zr
  have qY := rowIs_chg HY.out (chg2_set (Chg.refl (fun x => x = w.heap.size + 1 + 1) W1) (w.heap.size + 1 + 1) (fun _ => rfl) (.int .i64 0) (.int .i64 0)) (by omega)
  have q4 := chg4_set (Chg.refl (fun x => x = w.heap.size + 1 + 1 + 1) (((W1.setCell ⟨w.heap.size + 1 + 1, 0, none⟩ (.int .i64 0)).setCell ⟨w.heap.size + 1 + 1, 1, none⟩ (.int .i64 0)))) (w.heap.size + 1 + 1 + 1) (fun _ => rfl) (.slice none 0 0) (.int .i64 0) (.string ⟨#[]⟩) (.int .i64 0)
  have rF := qF.chg q4 (by omega)
  have rY := row4_set qY (.slice none 0 0) (.int .i64 0) (.string ⟨#[]⟩) (.int .i64 0)
  have u0 := rF.c0
  have u1 := rF.c1
  have v0 := rY.cell (i := 0) (by omega)
  have v1 := rY.cell (i := 1) (by omega)
  have v2 := rY.cell (i := 2) (by omega)
  have v3 := rY.cell (i := 3) (by omega)
  have GE := chg4_set (chg2_set HG.out (w.heap.size + 1 + 1) (fun l => absurd l (by omega)) (.int .i64 0) (.int .i64 0)) (w.heap.size + 1 + 1 + 1) (fun l => absurd l (by omega)) (.slice none 0 0) (.int .i64 0) (.string ⟨#[]⟩) (.int .i64 0)
  exact bodyPost_ret (v := .tuple #[.slice none 0 0, .agg #[.int .i64 0, .int .i64 0], .agg #[.slice none 0 0, .int .i64 0, .string ⟨#[]⟩, .int .i64 0], .int .i64 q]) (by simp [results, Tryz.results14, go_sem, u0, u1, v0, v1, v2, v3, pv4]; exact ⟨rfl, rfl⟩) rfl (VIAns.zero HQ.out H0.out rfl GE)

theorem verX_any (K x1 x2 : Int) (c : Option Addr) (m cap : Nat) (A : Nat → Option Addr) (L C : Nat → Nat) (f g : Nat → Nat → Int) (vars : Int) (cs : Option Addr) (len caps : Nat) (fs gs : Nat → Int) (at' : Int) (st : ByteArray) (ct : Int) (w : World) (h : Hid (RowsV w c m A L C f g)) (hL : Hid (∀ i, i < m → L i ≤ 1099511627776)) (hn : m ≤ 1099511627776) (hs : Hid (PairV w cs len fs gs)) (hl : (len : Int) ≤ 9223372036854775807) (hst : (st.size : Int) ≤ 9223372036854775807) (ht : Hid (Tabs w)) :
    Calls Tryz.prog 14 #[.int .i64 K, .agg #[.int .i64 x1, .int .i64 x2], .slice c m cap, .int .i64 vars, .agg #[.slice cs len caps, .int .i64 at', .string st, .int .i64 ct]] w fun e w' => VIAns w (svc8 K x1 x2 m L f g vars fs gs len at' st ct) (scn (svc8 K x1 x2 m L f g vars fs gs len at' st ct) m) (scn (svc8 K x1 x2 m L f g vars fs gs len at' st ct) len) (vpt fs gs len (K.toNat + 2) (fun i => elF (f i) (g i)) ⟨elP x1 x2, at', st, ct⟩) fs gs (scI (svc8 K x1 x2 m L f g vars fs gs len at' st ct) (vst fs gs len (K.toNat + 2) (fun i => elF (f i) (g i)) ⟨elP x1 x2, at', st, ct⟩ m).x.v.1) (scI (svc8 K x1 x2 m L f g vars fs gs len at' st ct) (vst fs gs len (K.toNat + 2) (fun i => elF (f i) (g i)) ⟨elP x1 x2, at', st, ct⟩ m).x.v.2) (scI (svc8 K x1 x2 m L f g vars fs gs len at' st ct) (vst fs gs len (K.toNat + 2) (fun i => elF (f i) (g i)) ⟨elP x1 x2, at', st, ct⟩ m).a) (scS (svc8 K x1 x2 m L f g vars fs gs len at' st ct) (vst fs gs len (K.toNat + 2) (fun i => elF (f i) (g i)) ⟨elP x1 x2, at', st, ct⟩ m).s) (scI (svc8 K x1 x2 m L f g vars fs gs len at' st ct) (vst fs gs len (K.toNat + 2) (fun i => elF (f i) (g i)) ⟨elP x1 x2, at', st, ct⟩ m).c) e w' := by
  by_cases hq : (vcc K x1 x2 m L f g vars fs gs len at' st ct) = 0
  · obtain ⟨h1, h2, h3, h4, h5, h6, h7⟩ := vcc_ok hq
    obtain ⟨k, hKk, hk12⟩ := kdb_nat h4
    subst hKk
    subst h7
    obtain ⟨p1, p2, p3, p4, p5⟩ := sokb_parts h3
    have hb : at' + 6 ≤ 1000000 ∧ ct + 6 ≤ 1000000 := spb_no h6
    have hr : ∀ j, j < m → L j ≤ 8 ∧ okP (f j) (g j) (L j) = true := fun j hj => by have z := rkb_all m 0 h2 j hj; rwa [Nat.zero_add] at z
    obtain ⟨ex1, ex2⟩ : x1 = (elP x1 x2).v.1 ∧ x2 = (elP x1 x2).v.2 := by rw [elP_v h1]; exact ⟨rfl, rfl⟩
    have q := verT_any hk12 c m cap h5 A L C f g (fun i => elF (f i) (g i)) (fun i => (vst fs gs len (k + 2) (fun i => elF (f i) (g i)) ⟨elP x1 x2, at', st, ct⟩ i).x) (vpt fs gs len (k + 2) (fun i => elF (f i) (g i)) ⟨elP x1 x2, at', st, ct⟩) (fun i => (vst fs gs len (k + 2) (fun i => elF (f i) (g i)) ⟨elP x1 x2, at', st, ct⟩ i).a) (fun i => (vst fs gs len (k + 2) (fun i => elF (f i) (g i)) ⟨elP x1 x2, at', st, ct⟩ i).s) (fun i => (vst fs gs len (k + 2) (fun i => elF (f i) (g i)) ⟨elP x1 x2, at', st, ct⟩ i).c) (vcd fs gs len (k + 2) L (fun i => elF (f i) (g i)) ⟨elP x1 x2, at', st, ct⟩ 0 m) (vcd fs gs len (k + 2) L (fun i => elF (f i) (g i)) ⟨elP x1 x2, at', st, ct⟩) cs len caps fs gs w h hL (hik (RowsL.of h.out (fun i hi => (hr i hi).2))) (hik (fun i hi => (hr i hi).1)) hs ht p1 (hik p2) (hik (by show vcc (k : Int) (elP x1 x2).v.1 (elP x1 x2).v.2 m L f g (m : Int) fs gs len at' st ct = 0; rw [← ex1, ← ex2]; exact hq))
      (hik (fun i n => rfl)) (hik (fun i => by cases i <;> rfl)) (hik rfl) (hik (fun i => rfl)) (hik (fun i => rfl)) (hik (fun i => rfl)) (hik (fun i => rfl)) (hik (fun i => vsr_v p2 (k + 2) ((fun i => elF (f i) (g i)) i) _)) (hik (fun i => vst_size p4 i))
      (hik (fun i hi => by
        have z : at' ≤ (vst fs gs len (k + 2) (fun i => elF (f i) (g i)) ⟨elP x1 x2, at', st, ct⟩ i).a ∧ (vst fs gs len (k + 2) (fun i => elF (f i) (g i)) ⟨elP x1 x2, at', st, ct⟩ i).a ≤ at' + i := vst_a (f := fs) (g := gs) (len := len) (D := k + 2) (U := (fun i => elF (f i) (g i))) (q := ⟨elP x1 x2, at', st, ct⟩) i
        omega))
      (hik (fun i hi => by
        cases i with
        | zero => exact p5
        | succ i =>
          show 0 ≤ dnC len 0 1 ∧ dnC len 0 1 ≤ 1000000
          unfold dnC
          split <;> omega))
    simp only [show (vst fs gs len (k + 2) (fun i => elF (f i) (g i)) ⟨elP x1 x2, at', st, ct⟩ 0) = ⟨elP x1 x2, at', st, ct⟩ from rfl] at q
    rw [← ex1, ← ex2] at q
    refine q.mono (fun e w' r => ?_)
    have hs8 : svc8 (k : Int) x1 x2 m L f g (m : Int) fs gs len at' st ct = vcd fs gs len (k + 2) L (fun i => elF (f i) (g i)) ⟨elP x1 x2, at', st, ct⟩ 0 m := by rw [vcc_svc, if_pos hq, Int.toNat_natCast]
    rw [Int.toNat_natCast]
    rcases r with ⟨hc, r⟩ | ⟨hc, he, kk⟩
    · exact VIAns.full (hs8.trans hc) r
    · exact VIAns.zero hs8 hc he kk
  · exact verZ_any K x1 x2 c m cap A L C f g vars cs len caps fs gs at' st ct w h hL hn hs hl hst ht hq

end Go.Proofs.YtgiefpipflcbgadGreatDoor

namespace Go.Proofs.YtgiefpipflcbgadGreatDoor
open Go.ChangeShapes Go.WideShapes Go.ChangeAt Go.RowKit
set_option linter.unusedVariables false
set_option linter.unusedSimpArgs false

theorem elF_el (t : Nat → El) : elF (cA t) (cB t) = t := by
  funext i
  exact El.eq (elP_v (eok_el (t i)))
theorem elP_el (x : El) : elP x.v.1 x.v.2 = x := El.eq (elP_v (eok_el x))
/-- A slice of elements of a call's own, and the code of no fault. -/
def TbE (w : World) (m : Nat) (t : Nat → El) (e : Ending) (w' : World) : Prop :=
  ∃ (c : Option Addr) (cap : Nat), e = .returned (.tuple #[.slice c m cap, .int .i64 0]) ∧ OwnE w' w.heap.size c m (cA t) (cB t) ∧ Chg nob w w'
theorem TbE.of {w : World} {code : Int} {m m' : Nat} {t t' : Nat → El} {e : Ending} {w' : World} (h : TbC w code m t e w') (hc : code = 0) (hm : m = m') (ht : t = t') : TbE w m' t' e w' := by
  subst hc hm ht
  obtain ⟨c, cap, rfl, _, _, ho, k⟩ := h
  exact ⟨c, cap, rfl, ho, k⟩

end Go.Proofs.YtgiefpipflcbgadGreatDoor

namespace Go.Proofs.YtgiefpipflcbgadGreatDoor
open Go.ChangeShapes Go.WideShapes Go.ChangeAt Go.RowKit
set_option linter.unusedVariables false
set_option maxRecDepth 100000
set_option linter.unusedSimpArgs false

theorem tok_el8 (t : Nat → El) {n N : Nat} (h : n ≤ 6) (hN : N = 2 ^ n) : tok (cA t) (cB t) N = true := by unfold tok; rw [okP_el, p6_yes h hN]; rfl
theorem tqc_el {v : Nat} (hv : v ≤ 6) (t : Nat → Nat → El) : ∀ (m i : Nat), tqc (fun _ => 2 ^ v) (fun i => cA (t i)) (fun i => cB (t i)) i m = 0
  | 0, _ => rfl
  | m + 1, i => by rw [tqc, tok_el8 (t i) hv rfl, if_pos rfl, if_pos rfl]; exact tqc_el hv t m (i + 1)
theorem ac8_el {k v : Nat} (hk : k = 1 ∨ k = 2) (hv : v ≤ 6) (t : Nat → Nat → El) : ac8 (k : Int) (2 * k) (fun _ => 2 ^ v) (fun i => cA (t i)) (fun i => cB (t i)) = 0 := by
  unfold ac8
  rw [if_neg (by omega), if_pos ⟨decide_eq_true (by omega), by omega⟩]
  exact tqc_el hv t _ _
theorem elFs (t : Nat → Nat → El) : (fun i => elF (cA (t i)) (cB (t i))) = t := by funext i; exact elF_el (t i)
theorem rkb_el {m : Nat} (hm : m ≤ 8) (t : Nat → Nat → El) : ∀ (n i : Nat), rkb (fun _ => m) (fun i => cA (t i)) (fun i => cB (t i)) i n = true
  | 0, _ => rfl
  | n + 1, i => by rw [rkb, okP_el, decide_eq_true hm, rkb_el hm t n (i + 1)]; rfl

section
variable {k v : Nat} (hk : k = 1 ∨ k = 2) (hv : v ≤ 6) (t : Nat → Nat → El) (c : Option Addr) (cap : Nat) (w : World) (h : Hid (RowsE w c (2 * k) (2 ^ v) t))

theorem sum_el (hk : k = 1 ∨ k = 2) (hv : v ≤ 6) (t : Nat → Nat → El) (c : Option Addr) (cap : Nat) (w : World) (h : Hid (RowsE w c (2 * k) (2 ^ v) t)) : Calls Tryz.prog 8 #[.int .i64 (k : Int), .slice c (2 * k) cap] w fun e w' => e = .returned (.tuple #[.agg #[.int .i64 (sms k t (2 ^ v)).v.1, .int .i64 (sms k t (2 ^ v)).v.2], .int .i64 0]) ∧ Chg nob w w' := by
  obtain ⟨A, C, hV⟩ := RowsE.toV h.out
  have h64 := pow_le6 hv
  have q := sumX_any (k : Int) c (2 * k) cap A (fun _ => 2 ^ v) C _ _ w (hik hV) (hik (fun i _ => by show 2 ^ v ≤ _; omega)) (by omega)
  have e1 : sov (k : Int) (2 * k) (fun _ => 2 ^ v) (fun i => cA (t i)) (fun i => cB (t i)) = sms k t (2 ^ v) := by
    unfold sov
    rw [if_pos (ac8_el hk hv t), Int.toNat_natCast, elFs]
  rw [ac8_el hk hv t, e1] at q
  exact q

end
section
variable {k v : Nat} {f g : Nat → Int} {len : Nat} {at' : Int} {st : ByteArray} {ct : Int} {t : Nat → Nat → El}

theorem vcc_el (hk : k = 1 ∨ k = 2) (hv : v ≤ 6) (hok : sokb f g len at' st ct = true) (ha : at' ≤ 3) (hc : ct ≤ 3) (x : El) (G : Nat → Nat → El) : vcc (k : Int) x.v.1 x.v.2 v (fun _ => k + 2) (fun i => cA (G i)) (fun i => cB (G i)) (v : Int) f g len at' st ct = 0 := by
  unfold vcc
  rw [if_neg (by omega), if_pos (eok_el x), if_pos (rkb_el (by omega) G _ _), if_pos hok, if_pos (show kdb (k : Int) = true from decide_eq_true (by omega)), if_neg (by omega), if_neg (by omega), if_neg (by unfold spb; simp; omega), if_pos rfl]

end

end Go.Proofs.YtgiefpipflcbgadGreatDoor
