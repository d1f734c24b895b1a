/- Several texts in one: Openings that are the same part by part: words. No condition but those that each theorem states. · Proofs that are the same part by part; what a proof's reader needs: words. No condition but those that each theorem states. · A whole row read and written in a region that draws its order: words. No condition but those that each theorem states. · What the model's reader of a proof answers: a contract. Conditions: sizes in their bounds, a text of at most 2 to the 16 bytes. -/
import Derived.Test.YtppiilbcnkphbaaGreatBzap
import Derived.Test.YtppiilbcnkphbaaGreatBzah
import Derived.Test.YtppiilbcnkphbaaGreatBzao
import Derived.Test.YtppiilbcnkphbaaGreatBzba
import Derived.Test.YtppiilbcnkphbaaGreatBzat
import Derived.Test.YtppiilbcnkphbaaGreatBzaq
import Derived.Test.YtppiilbcnkphbaaGreatBzaz
import Derived.Deep.RegionHeld
import Derived.Test.YtppiilbcnkphbaaGreatBzbc
namespace Go.Proofs.YtppiilbcnkphbaaGreat
open Go.ChangeShapes Go.WideShapes Go.ChangeAt Go.RowKit
set_option linter.unusedVariables false
set_option maxRecDepth 100000
set_option linter.unusedSimpArgs false

theorem exF_eq {n n' : Nat} {f g f' g' : Nat → Int} (hn : n = n') (e : ∀ i, i < n' → f i = f' i ∧ g i = g' i) {w : World} {S M : Nat → Prop} {v : Value} (h : (exF n f g).Own w S M v) : (exF n' f' g').Own w S M v := by
  subst hn
  obtain ⟨hs, c, cap, ev, h0 | ⟨b, ec, hb, ho⟩⟩ := h
  · exact ⟨hs, c, cap, ev, .inl h0⟩
  · exact ⟨hs, c, cap, ev, .inr ⟨b, ec, hb, ho.congr e⟩⟩
theorem txF_eq {n n' : Nat} {L M' : Nat → ByteArray} (hn : n = n') (e : ∀ i, i < n' → L i = M' i) {w : World} {S M : Nat → Prop} {v : Value} (h : (txF n L).Own w S M v) : (txF n' M').Own w S M v := by
  subst hn
  obtain ⟨hs, c, cap, ev, h0 | ⟨b, ec, hb, ho⟩⟩ := h
  · exact ⟨hs, c, cap, ev, .inl h0⟩
  · exact ⟨hs, c, cap, ev, .inr ⟨b, ec, hb, ho.lt, fun i hi => by rw [ho.cell i hi]; unfold sb; rw [e i hi], ho.fro⟩⟩
theorem liF_eq {n n' m : Nat} {x y : Nat → Nat → Df} (hn : n = n') (e : ∀ i j, i < n' → j < m → ∀ w S M u, (x i j).Own w S M u → (y i j).Own w S M u) {w : World} {S M : Nat → Prop} {v : Value} (h : (liF n m x).Own w S M v) : (liF n' m y).Own w S M v := by
  subst hn
  obtain ⟨hs, c, cap, ev, h0 | ⟨b, Si, Mi, ec, hb, o, hS, hM⟩⟩ := h
  · exact ⟨hs, c, cap, ev, .inl h0⟩
  · refine ⟨hs, c, cap, ev, .inr ⟨b, Si, Mi, ec, hb, ⟨o.lt, fun i j hi hj => ?_, o.top, o.dis⟩, hS, hM⟩⟩
    obtain ⟨u, hc, hr⟩ := o.cell i j hi hj
    exact ⟨u, hc, e i j hi hj _ _ _ _ hr⟩
theorem OpF.eq9 {w : World} {S : Nat → Prop} {a b : OD} {cR : Option Addr} {pR : Nat} {cT : Option Addr} {pT : Nat} {cQ : Option Addr} {pQ : Nat} (h : OE9 a b) (o : OpF w S a cR pR cT pT cQ pQ) : OpF w S b cR pR cT pT cQ pQ := by
  obtain ⟨h1, h2, h3, h4, h5, h6, h7, h8, h9⟩ := h
  obtain ⟨SR, MR, ST, MT, SQ, MQ, oR, oT, oQ, q⟩ := o
  rw [h1] at oR
  rw [h3] at oT
  rw [h8] at oQ
  refine ⟨SR, MR, ST, MT, SQ, MQ, liF_eq rfl (fun i j hi hj w S M u x => exF_eq (h2 i hi).1 (h2 i hi).2 x) oR, txF_eq rfl h4 oT, liF_eq rfl (fun i j hi hj w S M u x => ?_) oQ, q⟩
  obtain ⟨k1, k2, k3, k4⟩ := h9 i hi
  rcases (show j = 0 ∨ j = 1 by omega) with rfl | rfl
  · exact exF_eq (f := (a.q i).f) (g := (a.q i).g) k1 k2 x
  · exact liF_eq (x := fun y _ => txF ((a.q i).l y) ((a.q i).T y)) (y := fun y _ => txF ((b.q i).l y) ((b.q i).T y)) k3 (fun y _ hy _ w S M u z => txF_eq (k4 y hy).1 (k4 y hy).2 z) x

end Go.Proofs.YtppiilbcnkphbaaGreat

namespace Go.Proofs.YtppiilbcnkphbaaGreat
open Go.ChangeShapes Go.WideShapes Go.ChangeAt Go.RowKit
set_option linter.unusedVariables false
set_option maxRecDepth 100000
set_option linter.unusedSimpArgs false

theorem RdG_ofk {n v r q k : Nat} {g : Int} {z : Nat → Int} (hn : k + osN v r q ≤ n) (h : ook (rdO z v r q k) v r q g = true) : RdG n k v r q z := by
  unfold ook at h
  simp only [Bool.and_eq_true, decide_eq_true_eq] at h
  obtain ⟨_, _, hr, _, _, he, _, _, hq⟩ := h
  refine ⟨hn, fun i hi => ?_, ?_, fun i hi => ?_⟩
  · unfold rnB at hr
    simp only [Bool.and_eq_true] at hr
    have a := allN_at hr.2 (show i < (rdO z v r q k).nr from hi)
    unfold r1B at a
    simp only [Bool.and_eq_true] at a
    exact a.2
  · refine okP_of _ _ 1 (fun i hi => ?_)
    obtain rfl : i = 0 := by omega
    have e1 : rf (zk z (k + oL9 v)) 0 = w4 z (k + oL9 v) := by
      show w4 (zk z (k + oL9 v)) (0 * 8) = _
      rw [zk_w4, Nat.zero_mul, Nat.add_zero]
    have e2 : rg (zk z (k + oL9 v)) 0 = w4 z (k + oL9 v + 4) := by
      show w4 (zk z (k + oL9 v)) (0 * 8 + 4) = _
      rw [zk_w4, Nat.zero_mul, Nat.zero_add]
    rw [e1, e2]
    exact he
  · unfold qsB at hq
    simp only [Bool.and_eq_true] at hq
    have a := allN_at hq.2 (show i < (rdO z v r q k).nq from hi)
    unfold qrB at a
    simp only [Bool.and_eq_true] at a
    exact a.1.1.2
/-- The same proof. -/
def PE9 (a b : PD) : Prop := a.rt = b.rt ∧ a.ng = b.ng ∧ (∀ i, i < b.ng → a.gl i = b.gl i ∧ ∀ j, j < b.gl i → a.gf i j = b.gf i j ∧ a.gg i j = b.gg i j) ∧ (a.a0 = b.a0 ∧ a.a1 = b.a1) ∧ (a.b0 = b.b0 ∧ a.b1 = b.b1) ∧ (a.c0 = b.c0 ∧ a.c1 = b.c1) ∧ a.nw = b.nw ∧ (∀ i, i < b.nw → a.wl i = b.wl i ∧ ∀ j, j < b.wl i → a.wf i j = b.wf i j ∧ a.wg i j = b.wg i j) ∧ (a.v0 = b.v0 ∧ a.v1 = b.v1) ∧ OE9 a.op b.op
theorem PrO.eq9 {w : World} {lo hi : Nat} {a b : PD} {x : PA} (h : PE9 a b) (o : PrO w lo hi a x) : PrO w lo hi b x := by
  obtain ⟨h1, h2, h3, _, _, _, i1, i2, _, i5⟩ := h
  obtain ⟨SG, MG, SW, MW, SO, oG, oW, oO, q⟩ := o
  rw [h2] at oG
  rw [i1] at oW
  exact ⟨SG, MG, SW, MW, SO, liF_eq rfl (fun i j hi hj w S M u x => exF_eq (h3 i hi).1 (h3 i hi).2 x) oG, liF_eq rfl (fun i j hi hj w S M u x => exF_eq (i2 i hi).1 (i2 i hi).2 x) oW, oO.eq9 i5, q⟩
theorem pfv_eq {a b : PD} (h : PE9 a b) (x : PA) (i : Nat) : pfv a x i = pfv b x i := by
  obtain ⟨h1, h2, h3, ⟨h4, h5⟩, ⟨h6, h7⟩, ⟨h8, h9⟩, i1, i2, ⟨i3, i4⟩, j1, _, j2, _, j3, j4, j5, j6, _⟩ := h
  unfold pfv
  rw [h1, h2, h4, h5, h6, h7, h8, h9, i1, i3, i4, j1, j2, j3, j4, j5, j6]
/-- What the reader of a proof needs where all goes well. -/
def PdG (n k R C r q : Nat) (z : Nat → Int) : Prop :=
  k + prN R C r q ≤ n ∧ (∀ i, i < R → okP (rf (zk z (k + 32 + 8 * 4 * i))) (rg (zk z (k + 32 + 8 * 4 * i))) 4 = true) ∧ (∀ j, j < 3 → okP (rf (zk z (k + 32 + 32 * R + 8 * j))) (rg (zk z (k + 32 + 32 * R + 8 * j))) 1 = true) ∧ (∀ i, i < C → okP (rf (zk z (k + 32 + 32 * R + 24 + 8 * 3 * i))) (rg (zk z (k + 32 + 32 * R + 24 + 8 * 3 * i))) 3 = true) ∧ okP (rf (zk z (k + 32 + 32 * R + 24 + 24 * C))) (rg (zk z (k + 32 + 32 * R + 24 + 24 * C))) 1 = true ∧ RdG n (k + 32 + 32 * R + 24 + 24 * C + 8) (C - 1) r q z
theorem okP_one {z : Nat → Int} {k : Nat} (h : eok (w4 z k) (w4 z (k + 4)) = true) : okP (rf (zk z k)) (rg (zk z k)) 1 = true := by
  refine okP_of _ _ 1 (fun i hi => ?_)
  obtain rfl : i = 0 := by omega
  have e1 : rf (zk z k) 0 = w4 z k := by
    show w4 (zk z k) (0 * 8) = _
    rw [zk_w4, Nat.zero_mul, Nat.add_zero]
  have e2 : rg (zk z k) 0 = w4 z (k + 4) := by
    show w4 (zk z k) (0 * 8 + 4) = _
    rw [zk_w4, Nat.zero_mul, Nat.zero_add]
  rw [e1, e2]
  exact h
theorem PdG_of {n R C r q k : Nat} {g : Int} {z : Nat → Int} {s : Sy} (hn : k + prN R C r q ≤ n) (hR : s.r = (R : Int)) (hC : s.q = (C : Int)) (hC2 : 1 ≤ C) (h : pfb (rdP z R C r q k) s r q g = true) : PdG n k R C r q z := by
  unfold pfb at h
  simp only [Bool.and_eq_true, decide_eq_true_eq] at h
  obtain ⟨_, _, hg, ⟨ha, hb, hc⟩, hw, hv, ho⟩ := h
  unfold rfB at hg hw
  simp only [Bool.and_eq_true] at hg hw
  refine ⟨hn, fun i hi => ?_, fun j hj => ?_, fun i hi => ?_, okP_one hv, RdG_ofk (by unfold prN at hn; omega) (by rw [hC, show ((C : Int) - 1) = ((C - 1 : Nat) : Int) by omega] at ho; exact ho)⟩
  · have a := allN_at hg.2 (show i < (rdP z R C r q k).ng from hi)
    simp only [Bool.and_eq_true] at a
    exact a.2
  · rcases (show j = 0 ∨ j = 1 ∨ j = 2 by omega) with rfl | rfl | rfl
    · exact okP_one ha
    · exact okP_one hb
    · exact okP_one hc
  · have a := allN_at hw.2 (show i < (rdP z R C r q k).nw from hi)
    simp only [Bool.and_eq_true] at a
    exact a.2

end Go.Proofs.YtppiilbcnkphbaaGreat

namespace Go.Proofs.YtppiilbcnkphbaaGreat
open Go.ChangeShapes Go.WideShapes Go.ChangeAt Go.RowKit
set_option linter.unusedVariables false

theorem yields_row {P : Program} {ops : Array Oper} {S : World → Prop} {o : Oper} {a : Act} (hw : Region.wanted o (yielded ops a.tmps) = true) (ty : TypeId) (x : Operand) (ho : o.op = .load ty x) (g : Nat) (hx : a.eval x = .pointer (some ⟨g, 0, none⟩)) (n : Nat) (f : Nat → Value) (t : TypeId) (d : TypeDesc) (hS : ∀ w, S w → w.rowIs g t n f)
    (hu : P.underlying ty = some d) (hd : (match d with | .struct _ | .array _ _ => true | _ => false) = true) (hi : (P.info? ty).map (·.size) = some n) : YieldsIf P ops S o (.agg (rowA n f)) a :=
  .inl ⟨hw, fun w hw' => by
    unfold execOp
    simp only [ho, hx, Instr.loadAt, Instr.sureAddr, Sem.run_bind, Sem.run_pure, Result.andThen_ok, run_loadVar_row w g t ty (rowA n f) (0, 0) d (rowA_of (hS w hw')) hu hd (by rw [rowA_size]; exact hi)]⟩
theorem stepL_store_row {P : Program} {ops : Array Oper} {o : Oper} {a : Act} {w : World} {K : Act → World → Prop} {Q : Exit → Act → World → Prop} {E : Prop} (ty : TypeId) (x y : Operand) (ho : o.op = .store ty x y) (hw : Region.wanted o (yielded ops a.tmps) = true) (g n : Nat) (f : Nat → Value) (hx : a.eval x = .pointer (some ⟨g, 0, none⟩)) (hy : a.eval y = .agg (rowA n f))
    (t : TypeId) (f0 : Nat → Value) (hr : w.rowIs g t n f0) (hi : (P.info? ty).map (·.size) = some n) (h1 : ∀ i, i < n → (f i).oneCell' = true) (h : ∀ w', w'.rowIs g t n f → Chg (fun b => b = g) w w' → K (a.put o.dst undef) w') :
    if Region.wanted o (yielded ops a.tmps) = true then Oper.wp P o a w K Q else E := by
  rw [if_pos hw]
  refine wp_store_row ty x y ho g (rowA n f) hx hy t (rowA n f0) (rowA_of hr) (by rw [rowA_size]; exact hi) (by rw [rowA_size, rowA_size]) ?_ (h _ ?_ ?_)
  · rw [Array.all_eq_true_iff_forall_mem]
    intro v hv
    simp only [rowA, List.mem_toArray, List.mem_map, List.mem_range] at hv
    obtain ⟨i, hi, rfl⟩ := hv
    exact h1 i hi
  · apply rowIs_of
    have := rowA_of hr
    simp [World.setRow, Array.getElem?_modify, this]
  · refine ⟨rfl, rfl, rfl, by simp [World.setRow], fun k hk hp => ?_⟩
    simp only [World.setRow, Array.getElem?_modify]
    rw [if_neg (fun e => hp e.symm)]
theorem infoSy9 : (Tryz.prog.info? 43).map (·.size) = some 6 := by kernel_rfl
theorem infoSe9 : (Tryz.prog.info? 45).map (·.size) = some 3 := by kernel_rfl
theorem PrO.wide8 {w : World} {lo hi lo' hi' : Nat} {p : PD} {a : PA} (h : PrO w lo hi p a) (h1 : lo' ≤ lo) (h2 : hi ≤ hi') : PrO w lo' hi' p a := by
  obtain ⟨SG, MG, SW, MW, SO, oG, oW, oO, hs, q⟩ := h
  exact ⟨SG, MG, SW, MW, SO, oG, oW, oO, fun c hc => ⟨Nat.le_trans h1 (hs c hc).1, Nat.lt_of_lt_of_le (hs c hc).2 h2⟩, q⟩
/-- What a reader's last region looks at. -/
def S16 (gx go bs bt : Nat) (t5 : ByteArray) (b5 : Bool) (f fs ft : Nat → Value) (w : World) : Prop :=
  w.cell? ⟨gx, 0, none⟩ = some (.string t5) ∧ w.cell? ⟨gx, 1, none⟩ = some (.bool b5) ∧ w.rowIs go 37 17 f ∧ w.rowIs bs 43 6 fs ∧ w.rowIs bt 45 3 ft
theorem S16.chg {P : Nat → Prop} {gx go bs bt : Nat} {t5 : ByteArray} {b5 : Bool} {f fs ft : Nat → Value} {w w' : World} (h : S16 gx go bs bt t5 b5 f fs ft w) (k : Chg P w w') (h1 : ¬ P gx) (h2 : ¬ P go) (h3 : ¬ P bs) (h4 : ¬ P bt) : S16 gx go bs bt t5 b5 f fs ft w' :=
  ⟨k.seeP h.1 h1, k.seeP h.2.1 h1, rowIs_chg h.2.2.1 k h2, rowIs_chg h.2.2.2.1 k h3, rowIs_chg h.2.2.2.2 k h4⟩
theorem S16.keep {gx go bs bt : Nat} {t5 : ByteArray} {b5 : Bool} {f fs ft : Nat → Value} {w w' : World} (h : S16 gx go bs bt t5 b5 f fs ft w) (k : Chg nob w w') : S16 gx go bs bt t5 b5 f fs ft w' :=
  h.chg k (fun x => x) (fun x => x) (fun x => x) (fun x => x)
/-- The same, the row written out. -/
theorem yields_rowL {P : Program} {ops : Array Oper} {S : World → Prop} {o : Oper} {a : Act} (hw : Region.wanted o (yielded ops a.tmps) = true) (ty : TypeId) (x : Operand) (ho : o.op = .load ty x) (g : Nat) (hx : a.eval x = .pointer (some ⟨g, 0, none⟩)) (n : Nat) (f : Nat → Value) (cs : Array Value) (hcs : rowA n f = cs) (t : TypeId) (d : TypeDesc) (hS : ∀ w, S w → w.rowIs g t n f)
    (hu : P.underlying ty = some d) (hd : (match d with | .struct _ | .array _ _ => true | _ => false) = true) (hi : (P.info? ty).map (·.size) = some n) : YieldsIf P ops S o (.agg cs) a := by
  subst hcs
  exact yields_row hw ty x ho g hx n f t d hS hu hd hi

end Go.Proofs.YtppiilbcnkphbaaGreat

namespace Go.Proofs.YtppiilbcnkphbaaGreat
open Go.ChangeShapes Go.WideShapes Go.ChangeAt Go.RowKit
set_option linter.unusedVariables false
set_option maxRecDepth 100000
set_option linter.unusedSimpArgs false

theorem sProofOK_row (p : PD) (a : PA) (s : Sy) (y : SyA) (r n g : Int) (w : World) (h : Hid (PrV w p a)) (hs : Hid p.small) (hv : Hid (SyV w s y)) (hsy : s.small) :
    Calls Tryz.prog 39 #[.agg (rowA 17 (pfv p a)), .agg #[.int .i64 s.r, .int .i64 s.q, .int .i64 s.p, .slice y.cA s.nA y.pA, .slice y.cB s.nB y.pB, .slice y.cC s.nC y.pC], .agg #[.int .i64 r, .int .i64 n, .int .i64 g]] w fun e w' => e = .returned (.bool (pfb p s r n g)) ∧ Chg nob w w' := sProofOK_any p a s y r n g w h hs hv hsy
/-- What the model's reader of a proof answers. -/
def L14Ans (w : World) (n R C r q : Nat) (g : Int) (z : Nat → Int) (s : Sy) (e : Ending) (w' : World) : Prop :=
  ∃ (d : PD) (a : PA) (b : Bool), e = .returned (.tuple #[.agg (rowA 17 (pfv d a)), .bool b]) ∧ PrO w' w.heap.size w'.heap.size d a ∧ Chg nob w w' ∧ (b = true → PE9 d (rdP z R C r q 0) ∧ n = prN R C r q ∧ pfb (rdP z R C r q 0) s r q g = true) ∧ (n = prN R C r q ∧ pfb (rdP z R C r q 0) s r q g = true → b = true)
set_option maxHeartbeats 16000000 in
theorem l14Read_any (t : ByteArray) (n R C r q : Nat) (g : Int) (z : Nat → Int) (s : Sy) (y : SyA) (w : World) (HTS : Hid (t.size = n)) (hn : n ≤ 65536) (HTZ : Hid (∀ i, i < n → sz t i = z i)) (hv : Hid (SyV w s y)) (hsy : s.small) (hR : s.r = (R : Int)) (hC : s.q = (C : Int)) (R0 : 1 ≤ R) (R1 : R ≤ 5) (C0 : 2 ≤ C) (C1 : C ≤ 5) (r0 : 1 ≤ r) (r1 : r ≤ 3) (q0 : 1 ≤ q) (q1 : q ≤ 8) :
    Calls Tryz.prog 20 #[.string t, .agg #[.int .i64 s.r, .int .i64 s.q, .int .i64 s.p, .slice y.cA s.nA y.pA, .slice y.cB s.nB y.pB, .slice y.cC s.nC y.pC], .agg #[.int .i64 (r : Int), .int .i64 (q : Int), .int .i64 g]] w fun e w' => L14Ans w n R C r q g z s e w' := by
  obtain ⟨G, hGe⟩ : ∃ G, G = (n = prN R C r q ∧ pfb (rdP z R C r q 0) s r q g = true) := ⟨_, rfl⟩
  have HGE := hik hGe
  have hG := hik (show G → PdG n 0 R C r q z from fun u => by rw [hGe] at u; exact PdG_of (by have := u.1; omega) hR hC (by omega) u.2)
  have HR := hik hR
  have HC9 := hik hC
  clear hR hC hGe
  have K0 := hik (((((Chg.refl nob w).alloc (.cells #[.int .i64 s.r, .int .i64 s.q, .int .i64 s.p, .slice y.cA s.nA y.pA, .slice y.cB s.nB y.pB, .slice y.cC s.nC y.pC] 43)).alloc (.cells #[.int .i64 (r : Int), .int .i64 (q : Int), .int .i64 g] 45)).alloc (.cells #[.string ⟨#[]⟩, .slice none 0 0, .int .i64 0, .int .i64 0, .int .i64 0, .int .i64 0, .int .i64 0, .int .i64 0, .slice none 0 0, .int .i64 0, .int .i64 0, .slice none 0 0, .slice none 0 0, .int .i64 0, .int .i64 0, .int .i64 0, .slice none 0 0] 37)).alloc (.cells #[.string t, .bool true] 79))
  have RS := hik (rowIs_keep (rowN_new w 6 #[.int .i64 s.r, .int .i64 s.q, .int .i64 s.p, .slice y.cA s.nA y.pA, .slice y.cB s.nB y.pB, .slice y.cC s.nC y.pC] 43 rfl) ((((Chg.refl nob _).alloc (.cells #[.int .i64 (r : Int), .int .i64 (q : Int), .int .i64 g] 45)).alloc (.cells #[.string ⟨#[]⟩, .slice none 0 0, .int .i64 0, .int .i64 0, .int .i64 0, .int .i64 0, .int .i64 0, .int .i64 0, .slice none 0 0, .int .i64 0, .int .i64 0, .slice none 0 0, .slice none 0 0, .int .i64 0, .int .i64 0, .int .i64 0, .slice none 0 0] 37)).alloc (.cells #[.string t, .bool true] 79)))
  have RT := hik (rowIs_keep (rowN_new (w.alloc (.cells #[.int .i64 s.r, .int .i64 s.q, .int .i64 s.p, .slice y.cA s.nA y.pA, .slice y.cB s.nB y.pB, .slice y.cC s.nC y.pC] 43)) 3 #[.int .i64 (r : Int), .int .i64 (q : Int), .int .i64 g] 45 rfl) (((Chg.refl nob _).alloc (.cells #[.string ⟨#[]⟩, .slice none 0 0, .int .i64 0, .int .i64 0, .int .i64 0, .int .i64 0, .int .i64 0, .int .i64 0, .slice none 0 0, .int .i64 0, .int .i64 0, .slice none 0 0, .slice none 0 0, .int .i64 0, .int .i64 0, .int .i64 0, .slice none 0 0] 37)).alloc (.cells #[.string t, .bool true] 79)))
  have RX := hik (rowIs_keep (rowN_new ((w.alloc (.cells #[.int .i64 s.r, .int .i64 s.q, .int .i64 s.p, .slice y.cA s.nA y.pA, .slice y.cB s.nB y.pB, .slice y.cC s.nC y.pC] 43)).alloc (.cells #[.int .i64 (r : Int), .int .i64 (q : Int), .int .i64 g] 45)) 17 #[.string ⟨#[]⟩, .slice none 0 0, .int .i64 0, .int .i64 0, .int .i64 0, .int .i64 0, .int .i64 0, .int .i64 0, .slice none 0 0, .int .i64 0, .int .i64 0, .slice none 0 0, .slice none 0 0, .int .i64 0, .int .i64 0, .int .i64 0, .slice none 0 0] 37 rfl) ((Chg.refl nob _).alloc (.cells #[.string t, .bool true] 79)))
  have RG9 := hik (rowN_new (((w.alloc (.cells #[.int .i64 s.r, .int .i64 s.q, .int .i64 s.p, .slice y.cA s.nA y.pA, .slice y.cB s.nB y.pB, .slice y.cC s.nC y.pC] 43)).alloc (.cells #[.int .i64 (r : Int), .int .i64 (q : Int), .int .i64 g] 45)).alloc (.cells #[.string ⟨#[]⟩, .slice none 0 0, .int .i64 0, .int .i64 0, .int .i64 0, .int .i64 0, .int .i64 0, .int .i64 0, .slice none 0 0, .int .i64 0, .int .i64 0, .slice none 0 0, .slice none 0 0, .int .i64 0, .int .i64 0, .int .i64 0, .slice none 0 0] 37)) 2 #[.string t, .bool true] 79 rfl)
  rw [asz] at RT
  rw [asz, asz] at RX
  simp only [asz] at RG9
  go_enter Tryz.func20, Tryz.ntmps20
  go_upto_region 2 with fail
  go_wp2_with fail
  generalize hW : (((w.alloc (.cells #[.int .i64 s.r, .int .i64 s.q, .int .i64 s.p, .slice y.cA s.nA y.pA, .slice y.cB s.nB y.pB, .slice y.cC s.nC y.pC] 43)).alloc (.cells #[.int .i64 (r : Int), .int .i64 (q : Int), .int .i64 g] 45)).alloc (.cells #[.string ⟨#[]⟩, .slice none 0 0, .int .i64 0, .int .i64 0, .int .i64 0, .int .i64 0, .int .i64 0, .int .i64 0, .slice none 0 0, .int .i64 0, .int .i64 0, .slice none 0 0, .slice none 0 0, .int .i64 0, .int .i64 0, .int .i64 0, .slice none 0 0] 37)).alloc (.cells #[.string t, .bool true] 79) = W0 at K0 RS RT RX RG9 ⊢
  clear hW
  obtain ⟨gx, hgx⟩ : ∃ b, b = w.heap.size + 1 + 1 + 1 := ⟨_, rfl⟩
  rw [← hgx] at RG9 ⊢
  have HC := hik (show CtI W0 gx n 0 z G true from ⟨t, RG9.out.congr (fun i hi => by rcases (show i = 0 ∨ i = 1 by omega) with rfl | rfl <;> rfl), by rw [HTS.out]; exact hn, fun _ => ⟨by omega, by rw [HTS.out, Nat.sub_zero], fun i hi => by rw [Nat.zero_add]; exact HTZ.out i (by omega)⟩, fun _ => rfl⟩)
  have HG3 := hik (show gx = w.heap.size + 3 by omega)
  clear RG9 hgx
  refine (cutTake_any gx n 0 32 z G true _ HC (by omega) (hik (fun u => by have a := (hG.out u).1; unfold prN at a; omega))).mono ?_
  rintro e W1 ⟨s0, ok0, rfl, hs0, hk0, hc0, kk⟩
  have HS0 := hik hs0
  have HK0 := hik (show ok0 = true → s0 = tz9 z 0 0 from fun u => tz9_of hs0 (fun j hj => by have a := (hk0 u).2.2 j hj; rw [a]))
  replace HC := hik hc0
  have HL1 := hik (show gx < W1.heap.size from hc0.lt)
  replace RS := hik (rowIs_chg RS.out kk (fun e => by have e' : _ = gx := e; have := HG3.out; omega))
  replace RT := hik (rowIs_chg RT.out kk (fun e => by have e' : _ = gx := e; have := HG3.out; omega))
  replace RX := hik (rowIs_chg RX.out kk (fun e => by have e' : _ = gx := e; have := HG3.out; omega))
  replace K0 := hik (K0.out.near kk (fun b e => by have e' : b = gx := e; have := HG3.out; omega))
  clear kk hc0 hk0 hs0
  have X1 := hik ((show Emp (W1.alloc (.cells #[] 81)) W1.heap.size 81 from new_blk _ _ _).chg (((Chg.refl nob (W1.alloc (.cells #[] 81))).alloc (.cells #[] 81)).alloc (.cells #[.string s0, .slice (some ⟨W1.heap.size, 0, none⟩) 0 0, .int .i64 0, .int .i64 0, .int .i64 0, .int .i64 0, .int .i64 0, .int .i64 0, .slice (some ⟨(W1.heap.size + 1), 0, none⟩) 0 0, .int .i64 0, .int .i64 0, .slice none 0 0, .slice none 0 0, .int .i64 0, .int .i64 0, .int .i64 0, .slice none 0 0] 37)) (fun x => x))
  have X2 := hik ((show Emp ((W1.alloc (.cells #[] 81)).alloc (.cells #[] 81)) (W1.alloc (.cells #[] 81)).heap.size 81 from new_blk _ _ _).chg ((Chg.refl nob ((W1.alloc (.cells #[] 81)).alloc (.cells #[] 81))).alloc (.cells #[.string s0, .slice (some ⟨W1.heap.size, 0, none⟩) 0 0, .int .i64 0, .int .i64 0, .int .i64 0, .int .i64 0, .int .i64 0, .int .i64 0, .slice (some ⟨(W1.heap.size + 1), 0, none⟩) 0 0, .int .i64 0, .int .i64 0, .slice none 0 0, .slice none 0 0, .int .i64 0, .int .i64 0, .int .i64 0, .slice none 0 0] 37)) (fun x => x))
  have RO := hik (rowN_new ((W1.alloc (.cells #[] 81)).alloc (.cells #[] 81)) 17 #[.string s0, .slice (some ⟨W1.heap.size, 0, none⟩) 0 0, .int .i64 0, .int .i64 0, .int .i64 0, .int .i64 0, .int .i64 0, .int .i64 0, .slice (some ⟨(W1.heap.size + 1), 0, none⟩) 0 0, .int .i64 0, .int .i64 0, .slice none 0 0, .slice none 0 0, .int .i64 0, .int .i64 0, .int .i64 0, .slice none 0 0] 37 rfl)
  have kk := (((Chg.refl nob W1).alloc (.cells #[] 81)).alloc (.cells #[] 81)).alloc (.cells #[.string s0, .slice (some ⟨W1.heap.size, 0, none⟩) 0 0, .int .i64 0, .int .i64 0, .int .i64 0, .int .i64 0, .int .i64 0, .int .i64 0, .slice (some ⟨(W1.heap.size + 1), 0, none⟩) 0 0, .int .i64 0, .int .i64 0, .slice none 0 0, .slice none 0 0, .int .i64 0, .int .i64 0, .int .i64 0, .slice none 0 0] 37)
  replace K0 := hik (K0.out.trans kk)
  replace RS := hik (rowIs_keep RS.out kk)
  replace RT := hik (rowIs_keep RT.out kk)
  replace RX := hik (rowIs_keep RX.out kk)
  replace HC := hik (HC.out.keep kk)
  have HSZ := hik (show W1.heap.size + 1 + 1 + 1 = (((W1.alloc (.cells #[] 81)).alloc (.cells #[] 81)).alloc (.cells #[.string s0, .slice (some ⟨W1.heap.size, 0, none⟩) 0 0, .int .i64 0, .int .i64 0, .int .i64 0, .int .i64 0, .int .i64 0, .int .i64 0, .slice (some ⟨(W1.heap.size + 1), 0, none⟩) 0 0, .int .i64 0, .int .i64 0, .slice none 0 0, .slice none 0 0, .int .i64 0, .int .i64 0, .int .i64 0, .slice none 0 0] 37)).heap.size by simp)
  clear kk
  simp only [asz] at X2 RO
  go_upto_region 3 with fail
  generalize hW : (((W1.alloc (.cells #[] 81)).alloc (.cells #[] 81)).alloc (.cells #[.string s0, .slice (some ⟨W1.heap.size, 0, none⟩) 0 0, .int .i64 0, .int .i64 0, .int .i64 0, .int .i64 0, .int .i64 0, .int .i64 0, .slice (some ⟨(W1.heap.size + 1), 0, none⟩) 0 0, .int .i64 0, .int .i64 0, .slice none 0 0, .slice none 0 0, .int .i64 0, .int .i64 0, .int .i64 0, .slice none 0 0] 37)) = W2 at K0 RS RT RX X1 X2 RO HC HSZ ⊢
  clear hW
  obtain ⟨b1, hb1⟩ : ∃ b, b = W1.heap.size := ⟨_, rfl⟩
  obtain ⟨b2, hb2⟩ : ∃ b, b = W1.heap.size + 1 := ⟨_, rfl⟩
  obtain ⟨go, hgo⟩ : ∃ b, b = W1.heap.size + 1 + 1 := ⟨_, rfl⟩
  rw [← hgo, ← hb2, ← hb1] at RO
  rw [← hb1] at X1
  rw [← hb2] at X2
  rw [← hgo] at HSZ
  rw [← hgo]
  have HB := hik (show gx = w.heap.size + 3 ∧ gx < b1 ∧ b2 = b1 + 1 ∧ go = b1 + 2 by have := HG3.out; have := HL1.out; omega)
  clear hb1 hb2 hgo HG3 HL1
  obtain ⟨i1, hi, hz0, hz1, hz2⟩ := info_parts infoRow
  have HJ := hik hi
  have HJ0 := hik hz0
  have HJ1 := hik hz1
  have HJ2 := hik hz2
  clear hi hz0 hz1 hz2
  go_wp2
  have HXX := hik (show go + 1 ≤ go + 1 ∧ go + 1 ≤ W2.heap.size by have := HSZ.out; omega)
  go_loopw [10] (fun i W => ∃ (k' : Nat) (vG : Value) (HG_ : Nat) (LG : Nat → Nat) (fG gG : Nat → Nat → Int) (vs : Nat → Value) (Si Mi : Nat → Nat → Prop) (okg : Bool), k' ≤ R ∧ i = .int .i64 (k' : Int) ∧ Hid (W.rowIs go 37 17 (fun i => (#[.string s0, vG, .int .i64 0, .int .i64 0, .int .i64 0, .int .i64 0, .int .i64 0, .int .i64 0, .slice (some ⟨b2, 0, none⟩) 0 0, .int .i64 0, .int .i64 0, .slice none 0 0, .slice none 0 0, .int .i64 0, .int .i64 0, .int .i64 0, .slice none 0 0] : Array Value).getD i undef)) ∧ Hid (Gl W 81 1 b1 HG_ (go + 1) vG k' (fun p => exF (LG p) (fG p) (gG p)) vs Si Mi) ∧ Hid (CtI W gx n (0 + 32 + 8 * 4 * k') z G okg) ∧ Hid (okg = true → ok0 = true ∧ ∀ i, i < k' → LG i = 4 ∧ ∀ j, j < 4 → fG i j = rf (zk z (0 + 32 + 8 * 4 * i)) j ∧ gG i j = rg (zk z (0 + 32 + 8 * 4 * i)) j) ∧ Hid (W.rowIs (w.heap.size) 43 6 (fun i => (#[.int .i64 s.r, .int .i64 s.q, .int .i64 s.p, .slice y.cA s.nA y.pA, .slice y.cB s.nB y.pB, .slice y.cC s.nC y.pC] : Array Value).getD i undef)) ∧ Hid (W.rowIs (w.heap.size + 1) 45 3 (fun i => (#[.int .i64 (r : Int), .int .i64 (q : Int), .int .i64 g] : Array Value).getD i undef)) ∧ Hid (W.rowIs (w.heap.size + 1 + 1) 37 17 (fun i => (#[.string ⟨#[]⟩, .slice none 0 0, .int .i64 0, .int .i64 0, .int .i64 0, .int .i64 0, .int .i64 0, .int .i64 0, .slice none 0 0, .int .i64 0, .int .i64 0, .slice none 0 0, .slice none 0 0, .int .i64 0, .int .i64 0, .int .i64 0, .slice none 0 0] : Array Value).getD i undef)) ∧ Hid (Emp W b2 81) ∧ Hid (Chg nob w W)) (fun i _ => R - (intOf i).toNat)
  case atStart => exact ⟨0, _, go + 1, fun _ => 0, fun _ _ => 0, fun _ _ => 0, _, _, _, ok0, Nat.zero_le _, rfl, RO, hik (Gl.fresh (x := fun p => exF 0 (fun _ => 0) (fun _ => 0)) X1.out (by have := HB.out; have := HXX.out; omega) (Nat.le_refl _) (by have := HXX.out; omega)), hik (by rw [Nat.mul_zero, Nat.add_zero]; exact HC.out), hik (fun e => ⟨e, fun i hi => absurd hi (by omega)⟩), RS, RT, RX, X2, K0⟩
  case round =>
    clear RO HC RS RT RX X2 X1 K0
    obtain ⟨k', vG, HG_, LG, fG, gG, vs, Si, Mi, okg, hk, rfl, RO, GL, HC, HQK1, RS, RT, RX, X2, K0⟩ := hrel
    rename World => wi
    have xs0 : wi.cell? ⟨w.heap.size, 0, none⟩ = some (.int .i64 (R : Int)) := by rw [← HR.out]; exact RS.out.cell (i := 0) (by omega)
    by_cases hlt : k' < R
    · have hk1 : (k' : Int) < (R : Int) := by omega
      have xo0 : wi.cell? ⟨go, 1, none⟩ = some vG := RO.out.cell (i := 1) (by omega)
      have hPgo : ¬ PR9 gx vG go := fun e => by
        rcases e with e | e
        · have := HB.out; omega
        · have := GL.out.xg go e; have := HB.out; have := HXX.out; omega
      have HPB := hik (show ∀ c, PR9 gx vG c → c = gx ∨ c = b1 ∨ go + 1 ≤ c from fun c e => by
        rcases e with e | e
        · exact .inl e
        · exact .inr (GL.out.xg c e))
      go_wp2
      have KW := hik ((Chg.refl (PR9 gx vG) wi).drew1)
      have SA := hik (fun (WW : World) (kW : Chg (PR9 gx vG) wi WW) => (show (WW.cell? ⟨go, 1, none⟩ = some (vG)) from kW.seeP xo0 hPgo))
      refine wp_regionL (L := 7) (S := fun w' => w'.cell? ⟨go, 1, none⟩ = some (vG)) (by kernel_rfl) (SA.out _ KW.out) (fun hHeld => ?_)
      refine wpAnyL_take (i := 0) (v := ?_) rfl (by kernel_rfl) (by kernel_rfl) (by kernel_rfl) (fun _ _ _ h => h) (by rfl) (by kernel_rfl) (by kernel_rfl) (Or.inl ⟨by rfl, ?_⟩) (by assumption) ?_
      rotate_left 1
      · (intro w' hSw; (try dsimp only at hSw); go_simp; try with_reducible rfl)
      try simp only [Act.put, List.setIfInBounds_toArray, List.set_cons_zero, List.set_cons_succ, List.getElem_toArray, List.getElem_cons_zero, List.getElem_cons_succ]
      refine wpAnyL_take (i := 1) (v := ?_) rfl (by kernel_rfl) (by kernel_rfl) (by kernel_rfl) (fun _ _ _ h => h) (by rfl) (by kernel_rfl) (by kernel_rfl) (Or.inl ⟨by rfl, ?_⟩) (by assumption) ?_
      rotate_left 1
      · (intro w' hSw; (try dsimp only at hSw); go_simp; try with_reducible rfl)
      try simp only [Act.put, List.setIfInBounds_toArray, List.set_cons_zero, List.set_cons_succ, List.getElem_toArray, List.getElem_cons_zero, List.getElem_cons_succ]
      refine wpAnyL_take (i := 2) (v := ?_) rfl (by kernel_rfl) (by kernel_rfl) (by kernel_rfl) (fun _ _ _ h => h) (by rfl) (by kernel_rfl) (by kernel_rfl) (Or.inl ⟨by rfl, ?_⟩) (by assumption) ?_
      rotate_left 1
      · (intro w' hSw; (try dsimp only at hSw); go_simp; try with_reducible rfl)
      try simp only [Act.put, List.setIfInBounds_toArray, List.set_cons_zero, List.set_cons_succ, List.getElem_toArray, List.getElem_cons_zero, List.getElem_cons_succ]
      refine wpAnyL_ready (rs := [3]) (by kernel_rfl) (by simp) ?_
      refine AllReadyL.cons rfl (fun K hK => ?_) AllReadyL.nil
      refine stepL_callN 36 #[.tmp 28, .const (.int .i64 4)] #[77, 3] (by rfl) (by rfl) #[.pointer (some ⟨gx, 0, none⟩), .int .i64 4] (by simp only [List.map_toArray, List.map_cons, List.map_nil] <;> rfl) (run_go Tryz.func36 (by kernel_rfl) (by kernel_rfl) _ _) (cutExts_any gx n (0 + 32 + 8 * 4 * k') 4 z G okg _ (hik (HC.out.keep ((Chg.refl nob wi).drew1))) (by omega) (hik (fun u => by have a := hG.out u; have a1 := a.1; unfold prN at a1; exact ⟨by omega, a.2.1 k' hlt⟩))) ?_
      rintro e U1 ⟨c1, l1, p1, f1, g1, ok1, he, hl1, ho1, hok1, hc1, kk⟩
      have HS0_ := hik kk.size
      have GL1 := hik (GL.out.chg (((Chg.refl (RG gx) wi).drew1).trans kk) (fun c hc hl e => by have e' : c = gx := e; have := HB.out; have := HXX.out; omega))
      have HL1 := hik hl1
      have HO1 := hik ho1
      have HOK1 := hik hok1
      have HC1 := hik hc1
      replace kk : Chg (PR9 gx vG) _ _ := kk.mono (fun i _ m => .inl m)
      clear hl1 ho1 hok1 hc1
      refine ⟨_, he, ?_⟩
      replace KW := hik (KW.out.trans kk)
      refine hK.out _ _ (SA.out _ KW.out) (fun hHeld => ?_)
      clear hK K
      try simp only [Act.put, List.setIfInBounds_toArray, List.set_cons_zero, List.set_cons_succ, List.getElem_toArray, List.getElem_cons_zero, List.getElem_cons_succ]
      clear he kk
      refine wpAnyL_ready (rs := [4]) (by kernel_rfl) (by simp) ?_
      refine AllReadyL.cons rfl (fun K hK => ?_) AllReadyL.nil
      simp only [List.getElem_toArray, List.getElem_cons_zero, List.getElem_cons_succ]
      go_simp
      replace KW := hik (KW.out.alloc (.cells #[.slice c1 l1 p1] 81))
      replace HO1 := hik (HO1.out.keep ((Chg.refl nob _).alloc (.cells #[.slice c1 l1 p1] 81)))
      replace HC1 := hik (HC1.out.keep ((Chg.refl nob _).alloc (.cells #[.slice c1 l1 p1] 81)))
      replace GL1 := hik (GL1.out.keep ((Chg.refl nob _).alloc (.cells #[.slice c1 l1 p1] 81)))
      refine hK.out _ _ (SA.out _ KW.out) (fun hHeld => ?_)
      clear hK K
      try simp only [Act.put, List.setIfInBounds_toArray, List.set_cons_zero, List.set_cons_succ, List.getElem_toArray, List.getElem_cons_zero, List.getElem_cons_succ]
      refine wpAnyL_ready (rs := [5]) (by kernel_rfl) (by simp) ?_
      refine AllReadyL.cons rfl (fun K hK => ?_) AllReadyL.nil
      refine step_append_lies _ (by rfl) (.tmp 27) (.tmp 30) 29 (by rfl) b1 81 i1 (.slice none 0 0) 1 24 Tryz.underlying29 HJ.out HJ0.out HJ1.out HJ2.out rfl (by decide) vG k' _ (by rfl) (GL1.out.own) ⟨_, 0, none⟩ 1 1 [.slice c1 l1 p1] (by rfl) rfl (rwNews _ _ _) (rwOne _ _ _) (by decide) (by unfold maxLen; omega) (by omega) (by have := GL1.out.hH; have := GL1.out.xH; omega) _ rfl ?_
      intro g7 cp7 w7 o7 hg7 hat7 hlt7
      have hsu : wi.heap.size ≤ U1.heap.size ∧ ((World.alloc U1 (.cells #[.slice c1 l1 p1] 81))).heap.size = U1.heap.size + 1 := ⟨HS0_.out, by simp⟩
      have GLN := hik ((GL1.out.step (fun _ => exF l1 f1 g1) (fun _ => .slice c1 l1 p1) (fun _ => Iv wi.heap.size ((World.alloc U1 (.cells #[.slice c1 l1 p1] 81))).heap.size) (fun _ => Iv wi.heap.size ((World.alloc U1 (.cells #[.slice c1 l1 p1] 81))).heap.size) o7 hg7 hat7 hlt7 (by have := GL1.out.xH; omega) (fun j _ => exF_of_own HO1.out) (fun j c _ hc => by have := GL.out.hH; unfold Iv at hc; omega) (fun j j' c hj hj' hne => absurd hne (by omega))).congr (fun p _ => ext9_ex k' LG fG gG l1 f1 g1 p))
      replace KW : Hid (Chg (PR9 gx vG) wi w7) := hik (KW.out.grown hg7 (fun b e _ => .inr e))
      have HC7 := hik (HC1.out.chg ((Chg.refl (fun y => vG.ownBlock = some y) _).grown hg7 (fun b e _ => e)) (fun e => by have := GL.out.xg gx e; have := HB.out; have := HXX.out; omega))
      clear o7 hg7 hat7 hlt7 hsu GL1 HC1 HO1
      refine hK.out _ _ (SA.out _ KW.out) (fun hHeld => ?_)
      clear hK K
      try simp only [Act.put, List.setIfInBounds_toArray, List.set_cons_zero, List.set_cons_succ, List.getElem_toArray, List.getElem_cons_zero, List.getElem_cons_succ]
      refine wpAnyL_take (i := 6) (v := ?_) rfl (by kernel_rfl) (by kernel_rfl) (by kernel_rfl) (fun _ _ _ h => h) (by rfl) (by kernel_rfl) (by kernel_rfl) (Or.inl ⟨by rfl, ?_⟩) (by assumption) ?_
      rotate_left 1
      · (intro w' hSw; (try dsimp only at hSw); go_simp; try with_reducible rfl)
      try simp only [Act.put, List.setIfInBounds_toArray, List.set_cons_zero, List.set_cons_succ, List.getElem_toArray, List.getElem_cons_zero, List.getElem_cons_succ]
      refine wpAnyL_ready (rs := [7]) (by kernel_rfl) (by simp) ?_
      refine AllReadyL.last rfl (by kernel_rfl) (fun K hK => ?_)
      have y0 : w7.cell? ⟨go, 1, none⟩ = some vG := KW.out.seeP xo0 hPgo
      have y1 : w7.frozen? ⟨go, 1, none⟩ = false := (rowIs_chg RO.out KW.out hPgo).frozen 1
      have y2 : go < w7.heap.size := (rowIs_chg RO.out KW.out hPgo).lt
      simp only [List.getElem_toArray, List.getElem_cons_zero, List.getElem_cons_succ]
      go_simp
      refine hK.out _ _ ?_
      clear hK K
      try simp only [Act.put, List.setIfInBounds_toArray, List.set_cons_zero, List.set_cons_succ, List.getElem_toArray, List.getElem_cons_zero, List.getElem_cons_succ]
      clear y0 y1 y2
      refine wpAnyL_done (by kernel_rfl) ?_ _
      have kS := (Chg.refl (fun b => b = go) w7).setCell (p := ⟨go, 1, none⟩) (fun _ => rfl) (.slice (some ⟨g7, 0, none⟩) (k' + 1) cp7)
      have GLF := hik ((GLN.out.chg kS (fun c hc hl e => by have e' : c = go := e; have := HB.out; have := HXX.out; omega)))
      have ROF := hik (((rowIs_chg RO.out KW.out hPgo).set 1 (.slice (some ⟨g7, 0, none⟩) (k' + 1) cp7)).congr (g := (fun i => (#[.string s0, (.slice (some ⟨g7, 0, none⟩) (k' + 1) cp7), .int .i64 0, .int .i64 0, .int .i64 0, .int .i64 0, .int .i64 0, .int .i64 0, .slice (some ⟨b2, 0, none⟩) 0 0, .int .i64 0, .int .i64 0, .slice none 0 0, .slice none 0 0, .int .i64 0, .int .i64 0, .int .i64 0, .slice none 0 0] : Array Value).getD i undef)) (fun i hi => by rcases (show i = 0 ∨ i = 1 ∨ i = 2 ∨ i = 3 ∨ i = 4 ∨ i = 5 ∨ i = 6 ∨ i = 7 ∨ i = 8 ∨ i = 9 ∨ i = 10 ∨ i = 11 ∨ i = 12 ∨ i = 13 ∨ i = 14 ∨ i = 15 ∨ i = 16 by omega) with rfl | rfl | rfl | rfl | rfl | rfl | rfl | rfl | rfl | rfl | rfl | rfl | rfl | rfl | rfl | rfl | rfl <;> rfl))
      have HCF := hik (show CtI (w7.setCell ⟨go, 1, none⟩ (.slice (some ⟨g7, 0, none⟩) (k' + 1) cp7)) gx n (0 + 32 + 8 * 4 * (k' + 1)) z G ok1 from by rw [show 0 + 32 + 8 * 4 * (k' + 1) = 0 + 32 + 8 * 4 * k' + 8 * 4 by omega]; exact HC7.out.chg kS (fun e => by have e' : gx = go := e; have := HB.out; omega))
      have HOKF := hik (show ok1 = true → ok0 = true ∧ ∀ i, i < k' + 1 → ext9 k' LG (fun _ => l1) i = 4 ∧ ∀ j, j < 4 → ext9 k' fG (fun _ => f1) i j = rf (zk z (0 + 32 + 8 * 4 * i)) j ∧ ext9 k' gG (fun _ => g1) i j = rg (zk z (0 + 32 + 8 * 4 * i)) j from fun u => by
        have a := HOK1.out u
        have b := HQK1.out a.1
        refine ⟨b.1, fun i hi => ?_⟩
        by_cases e : i < k'
        · rw [ext9_lo _ _ _ e, ext9_lo _ _ _ e, ext9_lo _ _ _ e]
          exact b.2 i e
        · obtain rfl : i = k' := by omega
          have h0 := ext9_hi i LG (fun _ => l1) 0
          have h1 := ext9_hi i fG (fun _ => f1) 0
          have h2 := ext9_hi i gG (fun _ => g1) 0
          rw [Nat.add_zero] at h0 h1 h2
          rw [h0, h1, h2]
          exact a.2.2)
      have RSM := hik (rowIs_chg RS.out KW.out (fun e => (by have a := HPB.out _ e; have := HB.out; have := HXX.out; omega)))
      have RTM := hik (rowIs_chg RT.out KW.out (fun e => (by have a := HPB.out _ e; have := HB.out; have := HXX.out; omega)))
      have RXM := hik (rowIs_chg RX.out KW.out (fun e => (by have a := HPB.out _ e; have := HB.out; have := HXX.out; omega)))
      have X2M := hik (X2.out.chg KW.out (fun e => (by have a := HPB.out _ e; have := HB.out; have := HXX.out; omega)))
      have RSF := hik (rowIs_chg RSM.out kS (fun e => (by have e' : _ = go := e; have := HB.out; have := HXX.out; omega)))
      have RTF := hik (rowIs_chg RTM.out kS (fun e => (by have e' : _ = go := e; have := HB.out; have := HXX.out; omega)))
      have RXF := hik (rowIs_chg RXM.out kS (fun e => (by have e' : _ = go := e; have := HB.out; have := HXX.out; omega)))
      have X2F := hik (X2M.out.chg kS (fun e => (by have e' : _ = go := e; have := HB.out; have := HXX.out; omega)))
      have K0F := hik ((K0.out.near KW.out (fun i e => by have a := HPB.out i e; have := HB.out; have := HXX.out; omega)).near kS (fun i e => by have e' : i = go := e; have := HB.out; omega))
      have HF8 := hik (show w7.heap.size = ((w7.setCell ⟨go, 1, none⟩ (.slice (some ⟨g7, 0, none⟩) (k' + 1) cp7))).heap.size by simp)
      generalize hE : (w7.setCell ⟨go, 1, none⟩ (.slice (some ⟨g7, 0, none⟩) (k' + 1) cp7)) = W8 at GLF ROF HCF RSF RTF RXF X2F K0F HF8 ⊢
      clear hE kS KW SA hHeld GLN HC7 HOK1 HQK1 GL HC RO RS RT RX X2 RSM RTM RXM X2M K0 HPB hPgo xo0 xs0
      go_wp2
      go_roundw
      case rel => exact ⟨k' + 1, _, _, _, _, _, _, _, _, ok1, by omega, by go_num, ROF, GLF, HCF, HOKF, RSF, RTF, RXF, X2F, K0F⟩
      case measure => simp [intOf]; omega
    · obtain rfl : R = k' := by omega
      have hv1 : ¬ (R : Int) < (R : Int) := by omega
      have OR0 : (dEEf R LG fG gG).Own wi (fun c => c = b1 ∨ Iv (go + 1) HG_ c) (fun c => ∃ p, p < R * 1 ∧ Mi p c) vG := GL.out.done (fun i j hi hj => (by obtain rfl : j = 0 := (by omega); rw [Nat.mul_one, Nat.add_zero]))
      obtain ⟨cG, pG, hvR⟩ : ∃ (cR : Option Addr) (pR : Nat), vG = .slice cR R pR := by
        obtain ⟨_, c, cap, e, _⟩ := OR0
        exact ⟨c, cap, e⟩
      subst hvR
      have HH1 := hik (show go + 1 ≤ HG_ ∧ HG_ ≤ wi.heap.size from ⟨GL.out.xH.2, GL.out.hH⟩)
      obtain ⟨MG, OR1, hmr⟩ : ∃ M : Nat → Prop, (dEEf R LG fG gG).Own wi (fun c => c = b1 ∨ Iv (go + 1) HG_ c) M (.slice cG R pG) ∧ ∀ c, M c → Iv (go + 1) HG_ c := ⟨_, OR0, fun c ⟨p, hp, hc⟩ => GL.out.bd p c hp ((exF (LG p) (fG p) (gG p)).sub (GL.out.it p hp) c hc)⟩
      have OG := hik OR1
      have HM1 := hik hmr
      clear OR1 hmr GL OR0
      have HGS := hik HH1.out.2
      go_wp2_with fail
      clear xs0
      replace HC := hik (show CtI wi gx n (0 + 32 + 32 * R) z G okg from by rw [show 0 + 32 + 32 * R = 0 + 32 + 8 * 4 * R by omega]; exact HC.out)
      refine (cutOne_any gx n (0 + 32 + 32 * R) z G okg _ HC (hik (fun u => by have a := hG.out u; have a1 := a.1; unfold prN at a1; exact ⟨by omega, a.2.2.1 0 (by omega)⟩))).mono ?_
      rintro e A1 ⟨ax, ay, ok1, rfl, hok_, hc, kk⟩
      have Hok1 := hik hok_
      clear hok_
      replace RS := hik (rowIs_chg RS.out kk (fun e => (by have e' : _ = gx := e; have := HB.out; have := HXX.out; omega)))
      replace RT := hik (rowIs_chg RT.out kk (fun e => (by have e' : _ = gx := e; have := HB.out; have := HXX.out; omega)))
      replace RX := hik (rowIs_chg RX.out kk (fun e => (by have e' : _ = gx := e; have := HB.out; have := HXX.out; omega)))
      replace X2 := hik (X2.out.chg kk (fun e => (by have e' : _ = gx := e; have := HB.out; have := HXX.out; omega)))
      replace OG := hik ((dEEf R LG fG gG).chg kk OG.out (fun c hc e => (by have e' : c = gx := e; have := HB.out; have := HXX.out; unfold Iv at hc; omega)))
      replace RO := hik (rowIs_chg RO.out kk (fun e => by have e' : _ = gx := e; have := HB.out; omega))
      replace K0 := hik (K0.out.near kk (fun b e => by have e' : b = gx := e; have := HB.out; omega))
      replace HC := hik hc
      replace HGS := hik (Nat.le_trans HGS.out (kk).size)
      clear kk hc
      have y2 : A1.cell? ⟨go, 2, none⟩ = some (.int .i64 0) := RO.out.cell (i := 2) (by omega)
      have u2 := RO.out.frozen 2
      have y3 : A1.cell? ⟨go, 3, none⟩ = some (.int .i64 0) := RO.out.cell (i := 3) (by omega)
      have u3 := RO.out.frozen 3
      have lo9 := RO.out.lt
      go_wp2_with fail
      have kS := (((Chg.refl (fun b => b = go) A1).setCell (p := ⟨go, 2, none⟩) (fun _ => rfl) (.int .i64 ax)).setCell (p := ⟨go, 3, none⟩) (fun _ => rfl) (.int .i64 ay))
      replace RS := hik (rowIs_chg RS.out kS (fun e => (by have e' : _ = go := e; have := HB.out; have := HXX.out; omega)))
      replace RT := hik (rowIs_chg RT.out kS (fun e => (by have e' : _ = go := e; have := HB.out; have := HXX.out; omega)))
      replace RX := hik (rowIs_chg RX.out kS (fun e => (by have e' : _ = go := e; have := HB.out; have := HXX.out; omega)))
      replace X2 := hik (X2.out.chg kS (fun e => (by have e' : _ = go := e; have := HB.out; have := HXX.out; omega)))
      replace OG := hik ((dEEf R LG fG gG).chg kS OG.out (fun c hc e => (by have e' : c = go := e; have := HB.out; have := HXX.out; unfold Iv at hc; omega)))
      replace RO := hik (((RO.out.set 2 (.int .i64 ax)).set 3 (.int .i64 ay)).congr (g := (fun i => (#[.string s0, .slice cG R pG, .int .i64 ax, .int .i64 ay, .int .i64 0, .int .i64 0, .int .i64 0, .int .i64 0, .slice (some ⟨b2, 0, none⟩) 0 0, .int .i64 0, .int .i64 0, .slice none 0 0, .slice none 0 0, .int .i64 0, .int .i64 0, .int .i64 0, .slice none 0 0] : Array Value).getD i undef)) (fun i hi => by rcases (show i = 0 ∨ i = 1 ∨ i = 2 ∨ i = 3 ∨ i = 4 ∨ i = 5 ∨ i = 6 ∨ i = 7 ∨ i = 8 ∨ i = 9 ∨ i = 10 ∨ i = 11 ∨ i = 12 ∨ i = 13 ∨ i = 14 ∨ i = 15 ∨ i = 16 by omega) with rfl | rfl | rfl | rfl | rfl | rfl | rfl | rfl | rfl | rfl | rfl | rfl | rfl | rfl | rfl | rfl | rfl <;> rfl))
      replace K0 := hik (K0.out.near kS (fun b e => by have e' : b = go := e; have := HB.out; omega))
      replace HC := hik (HC.out.chg kS (fun e => by have e' : gx = go := e; have := HB.out; omega))
      replace HGS := hik (Nat.le_trans HGS.out kS.size)
      clear kS y2 u2 y3 u3 lo9
      generalize (A1.setCell ⟨go, 2, none⟩ (.int .i64 ax)).setCell ⟨go, 3, none⟩ (.int .i64 ay) = B1 at RS RT RX RO HC K0 HGS X2 OG ⊢
      refine (cutOne_any gx n (0 + 32 + 32 * R + 8) z G ok1 _ HC (hik (fun u => by have a := hG.out u; have a1 := a.1; unfold prN at a1; exact ⟨by omega, a.2.2.1 1 (by omega)⟩))).mono ?_
      rintro e A2 ⟨bx, by_, ok2, rfl, hok_, hc, kk⟩
      have Hok2 := hik hok_
      clear hok_
      replace RS := hik (rowIs_chg RS.out kk (fun e => (by have e' : _ = gx := e; have := HB.out; have := HXX.out; omega)))
      replace RT := hik (rowIs_chg RT.out kk (fun e => (by have e' : _ = gx := e; have := HB.out; have := HXX.out; omega)))
      replace RX := hik (rowIs_chg RX.out kk (fun e => (by have e' : _ = gx := e; have := HB.out; have := HXX.out; omega)))
      replace X2 := hik (X2.out.chg kk (fun e => (by have e' : _ = gx := e; have := HB.out; have := HXX.out; omega)))
      replace OG := hik ((dEEf R LG fG gG).chg kk OG.out (fun c hc e => (by have e' : c = gx := e; have := HB.out; have := HXX.out; unfold Iv at hc; omega)))
      replace RO := hik (rowIs_chg RO.out kk (fun e => by have e' : _ = gx := e; have := HB.out; omega))
      replace K0 := hik (K0.out.near kk (fun b e => by have e' : b = gx := e; have := HB.out; omega))
      replace HC := hik hc
      replace HGS := hik (Nat.le_trans HGS.out (kk).size)
      clear kk hc
      have y4 : A2.cell? ⟨go, 4, none⟩ = some (.int .i64 0) := RO.out.cell (i := 4) (by omega)
      have u4 := RO.out.frozen 4
      have y5 : A2.cell? ⟨go, 5, none⟩ = some (.int .i64 0) := RO.out.cell (i := 5) (by omega)
      have u5 := RO.out.frozen 5
      have lo9 := RO.out.lt
      go_wp2_with fail
      have kS := (((Chg.refl (fun b => b = go) A2).setCell (p := ⟨go, 4, none⟩) (fun _ => rfl) (.int .i64 bx)).setCell (p := ⟨go, 5, none⟩) (fun _ => rfl) (.int .i64 by_))
      replace RS := hik (rowIs_chg RS.out kS (fun e => (by have e' : _ = go := e; have := HB.out; have := HXX.out; omega)))
      replace RT := hik (rowIs_chg RT.out kS (fun e => (by have e' : _ = go := e; have := HB.out; have := HXX.out; omega)))
      replace RX := hik (rowIs_chg RX.out kS (fun e => (by have e' : _ = go := e; have := HB.out; have := HXX.out; omega)))
      replace X2 := hik (X2.out.chg kS (fun e => (by have e' : _ = go := e; have := HB.out; have := HXX.out; omega)))
      replace OG := hik ((dEEf R LG fG gG).chg kS OG.out (fun c hc e => (by have e' : c = go := e; have := HB.out; have := HXX.out; unfold Iv at hc; omega)))
      replace RO := hik (((RO.out.set 4 (.int .i64 bx)).set 5 (.int .i64 by_)).congr (g := (fun i => (#[.string s0, .slice cG R pG, .int .i64 ax, .int .i64 ay, .int .i64 bx, .int .i64 by_, .int .i64 0, .int .i64 0, .slice (some ⟨b2, 0, none⟩) 0 0, .int .i64 0, .int .i64 0, .slice none 0 0, .slice none 0 0, .int .i64 0, .int .i64 0, .int .i64 0, .slice none 0 0] : Array Value).getD i undef)) (fun i hi => by rcases (show i = 0 ∨ i = 1 ∨ i = 2 ∨ i = 3 ∨ i = 4 ∨ i = 5 ∨ i = 6 ∨ i = 7 ∨ i = 8 ∨ i = 9 ∨ i = 10 ∨ i = 11 ∨ i = 12 ∨ i = 13 ∨ i = 14 ∨ i = 15 ∨ i = 16 by omega) with rfl | rfl | rfl | rfl | rfl | rfl | rfl | rfl | rfl | rfl | rfl | rfl | rfl | rfl | rfl | rfl | rfl <;> rfl))
      replace K0 := hik (K0.out.near kS (fun b e => by have e' : b = go := e; have := HB.out; omega))
      replace HC := hik (HC.out.chg kS (fun e => by have e' : gx = go := e; have := HB.out; omega))
      replace HGS := hik (Nat.le_trans HGS.out kS.size)
      clear kS y4 u4 y5 u5 lo9
      generalize (A2.setCell ⟨go, 4, none⟩ (.int .i64 bx)).setCell ⟨go, 5, none⟩ (.int .i64 by_) = B2 at RS RT RX RO HC K0 HGS X2 OG ⊢
      refine (cutOne_any gx n (0 + 32 + 32 * R + 8 + 8) z G ok2 _ HC (hik (fun u => by have a := hG.out u; have a1 := a.1; unfold prN at a1; exact ⟨by omega, a.2.2.1 2 (by omega)⟩))).mono ?_
      rintro e A3 ⟨cx, cy, ok3, rfl, hok_, hc, kk⟩
      have Hok3 := hik hok_
      clear hok_
      replace RS := hik (rowIs_chg RS.out kk (fun e => (by have e' : _ = gx := e; have := HB.out; have := HXX.out; omega)))
      replace RT := hik (rowIs_chg RT.out kk (fun e => (by have e' : _ = gx := e; have := HB.out; have := HXX.out; omega)))
      replace RX := hik (rowIs_chg RX.out kk (fun e => (by have e' : _ = gx := e; have := HB.out; have := HXX.out; omega)))
      replace X2 := hik (X2.out.chg kk (fun e => (by have e' : _ = gx := e; have := HB.out; have := HXX.out; omega)))
      replace OG := hik ((dEEf R LG fG gG).chg kk OG.out (fun c hc e => (by have e' : c = gx := e; have := HB.out; have := HXX.out; unfold Iv at hc; omega)))
      replace RO := hik (rowIs_chg RO.out kk (fun e => by have e' : _ = gx := e; have := HB.out; omega))
      replace K0 := hik (K0.out.near kk (fun b e => by have e' : b = gx := e; have := HB.out; omega))
      replace HC := hik hc
      replace HGS := hik (Nat.le_trans HGS.out (kk).size)
      clear kk hc
      have y6 : A3.cell? ⟨go, 6, none⟩ = some (.int .i64 0) := RO.out.cell (i := 6) (by omega)
      have u6 := RO.out.frozen 6
      have y7 : A3.cell? ⟨go, 7, none⟩ = some (.int .i64 0) := RO.out.cell (i := 7) (by omega)
      have u7 := RO.out.frozen 7
      have lo9 := RO.out.lt
      go_wp2
      have kS := (((Chg.refl (fun b => b = go) A3).setCell (p := ⟨go, 6, none⟩) (fun _ => rfl) (.int .i64 cx)).setCell (p := ⟨go, 7, none⟩) (fun _ => rfl) (.int .i64 cy))
      replace RS := hik (rowIs_chg RS.out kS (fun e => (by have e' : _ = go := e; have := HB.out; have := HXX.out; omega)))
      replace RT := hik (rowIs_chg RT.out kS (fun e => (by have e' : _ = go := e; have := HB.out; have := HXX.out; omega)))
      replace RX := hik (rowIs_chg RX.out kS (fun e => (by have e' : _ = go := e; have := HB.out; have := HXX.out; omega)))
      replace X2 := hik (X2.out.chg kS (fun e => (by have e' : _ = go := e; have := HB.out; have := HXX.out; omega)))
      replace OG := hik ((dEEf R LG fG gG).chg kS OG.out (fun c hc e => (by have e' : c = go := e; have := HB.out; have := HXX.out; unfold Iv at hc; omega)))
      replace RO := hik (((RO.out.set 6 (.int .i64 cx)).set 7 (.int .i64 cy)).congr (g := (fun i => (#[.string s0, .slice cG R pG, .int .i64 ax, .int .i64 ay, .int .i64 bx, .int .i64 by_, .int .i64 cx, .int .i64 cy, .slice (some ⟨b2, 0, none⟩) 0 0, .int .i64 0, .int .i64 0, .slice none 0 0, .slice none 0 0, .int .i64 0, .int .i64 0, .int .i64 0, .slice none 0 0] : Array Value).getD i undef)) (fun i hi => by rcases (show i = 0 ∨ i = 1 ∨ i = 2 ∨ i = 3 ∨ i = 4 ∨ i = 5 ∨ i = 6 ∨ i = 7 ∨ i = 8 ∨ i = 9 ∨ i = 10 ∨ i = 11 ∨ i = 12 ∨ i = 13 ∨ i = 14 ∨ i = 15 ∨ i = 16 by omega) with rfl | rfl | rfl | rfl | rfl | rfl | rfl | rfl | rfl | rfl | rfl | rfl | rfl | rfl | rfl | rfl | rfl <;> rfl))
      replace K0 := hik (K0.out.near kS (fun b e => by have e' : b = go := e; have := HB.out; omega))
      replace HC := hik (HC.out.chg kS (fun e => by have e' : gx = go := e; have := HB.out; omega))
      replace HGS := hik (Nat.le_trans HGS.out kS.size)
      clear kS y6 u6 y7 u7 lo9
      generalize (A3.setCell ⟨go, 6, none⟩ (.int .i64 cx)).setCell ⟨go, 7, none⟩ (.int .i64 cy) = B3 at RS RT RX RO HC K0 HGS X2 OG ⊢
      replace HC := hik (show CtI B3 gx n (0 + 32 + 32 * R + 24) z G ok3 from by rw [show 0 + 32 + 32 * R + 24 = 0 + 32 + 32 * R + 8 + 8 + 8 by omega]; exact HC.out)
      obtain ⟨u1, hu1⟩ : ∃ u, u = B3.heap.size := ⟨_, rfl⟩
      have HXX := hik (show go + 1 ≤ u1 ∧ u1 ≤ B3.heap.size ∧ HG_ ≤ u1 by have h1 := HH1.out; have h2 := HGS.out; omega)
      clear hu1 HSZ
      go_loopw [11] (fun i W => ∃ (k' : Nat) (vW : Value) (HW_ : Nat) (LW : Nat → Nat) (fW gW : Nat → Nat → Int) (vs : Nat → Value) (Si Mi : Nat → Nat → Prop) (okw : Bool), k' ≤ C ∧ i = .int .i64 (k' : Int) ∧ Hid (W.rowIs go 37 17 (fun i => (#[.string s0, .slice cG R pG, .int .i64 ax, .int .i64 ay, .int .i64 bx, .int .i64 by_, .int .i64 cx, .int .i64 cy, vW, .int .i64 0, .int .i64 0, .slice none 0 0, .slice none 0 0, .int .i64 0, .int .i64 0, .int .i64 0, .slice none 0 0] : Array Value).getD i undef)) ∧ Hid (Gl W 81 1 b2 HW_ (u1) vW k' (fun p => exF (LW p) (fW p) (gW p)) vs Si Mi) ∧ Hid (CtI W gx n (0 + 32 + 32 * R + 24 + 8 * 3 * k') z G okw) ∧ Hid (okw = true → ok3 = true ∧ ∀ i, i < k' → LW i = 3 ∧ ∀ j, j < 3 → fW i j = rf (zk z (0 + 32 + 32 * R + 24 + 8 * 3 * i)) j ∧ gW i j = rg (zk z (0 + 32 + 32 * R + 24 + 8 * 3 * i)) j) ∧ Hid (W.rowIs (w.heap.size) 43 6 (fun i => (#[.int .i64 s.r, .int .i64 s.q, .int .i64 s.p, .slice y.cA s.nA y.pA, .slice y.cB s.nB y.pB, .slice y.cC s.nC y.pC] : Array Value).getD i undef)) ∧ Hid (W.rowIs (w.heap.size + 1) 45 3 (fun i => (#[.int .i64 (r : Int), .int .i64 (q : Int), .int .i64 g] : Array Value).getD i undef)) ∧ Hid (W.rowIs (w.heap.size + 1 + 1) 37 17 (fun i => (#[.string ⟨#[]⟩, .slice none 0 0, .int .i64 0, .int .i64 0, .int .i64 0, .int .i64 0, .int .i64 0, .int .i64 0, .slice none 0 0, .int .i64 0, .int .i64 0, .slice none 0 0, .slice none 0 0, .int .i64 0, .int .i64 0, .int .i64 0, .slice none 0 0] : Array Value).getD i undef)) ∧ Hid ((dEEf R LG fG gG).Own W (fun c => c = b1 ∨ Iv (go + 1) HG_ c) MG (.slice cG R pG)) ∧ Hid (Chg nob w W)) (fun i _ => C - (intOf i).toNat)
      case atStart => exact ⟨0, _, u1, fun _ => 0, fun _ _ => 0, fun _ _ => 0, _, _, _, ok3, Nat.zero_le _, rfl, RO, hik (Gl.fresh (x := fun p => exF 0 (fun _ => 0) (fun _ => 0)) X2.out (by have := HB.out; have := HXX.out; omega) (Nat.le_refl _) (by have := HXX.out; omega)), hik (by rw [Nat.mul_zero, Nat.add_zero]; exact HC.out), hik (fun e => ⟨e, fun i hi => absurd hi (by omega)⟩), RS, RT, RX, OG, K0⟩
      case round =>
        clear RO HC RS RT RX OG X2 K0
        obtain ⟨k', vW, HW_, LW, fW, gW, vs, Si, Mi, okw, hk, rfl, RO, GL, HC, HQK2, RS, RT, RX, OG, K0⟩ := hrel
        rename World => wi
        have xs0 : wi.cell? ⟨w.heap.size, 1, none⟩ = some (.int .i64 (C : Int)) := by rw [← HC9.out]; exact RS.out.cell (i := 1) (by omega)
        by_cases hlt : k' < C
        · have hk1 : (k' : Int) < (C : Int) := by omega
          have xo0 : wi.cell? ⟨go, 8, none⟩ = some vW := RO.out.cell (i := 8) (by omega)
          have hPgo : ¬ PR9 gx vW go := fun e => by
            rcases e with e | e
            · have := HB.out; omega
            · have := GL.out.xg go e; have := HB.out; have := HXX.out; omega
          have HPB := hik (show ∀ c, PR9 gx vW c → c = gx ∨ c = b2 ∨ u1 ≤ c from fun c e => by
            rcases e with e | e
            · exact .inl e
            · exact .inr (GL.out.xg c e))
          go_wp2
          have KW := hik ((Chg.refl (PR9 gx vW) wi).drew1)
          have SA := hik (fun (WW : World) (kW : Chg (PR9 gx vW) wi WW) => (show (WW.cell? ⟨go, 8, none⟩ = some (vW)) from kW.seeP xo0 hPgo))
          refine wp_regionL (L := 7) (S := fun w' => w'.cell? ⟨go, 8, none⟩ = some (vW)) (by kernel_rfl) (SA.out _ KW.out) (fun hHeld => ?_)
          refine wpAnyL_take (i := 0) (v := ?_) rfl (by kernel_rfl) (by kernel_rfl) (by kernel_rfl) (fun _ _ _ h => h) (by rfl) (by kernel_rfl) (by kernel_rfl) (Or.inl ⟨by rfl, ?_⟩) (by assumption) ?_
          rotate_left 1
          · (intro w' hSw; (try dsimp only at hSw); go_simp; try with_reducible rfl)
          try simp only [Act.put, List.setIfInBounds_toArray, List.set_cons_zero, List.set_cons_succ, List.getElem_toArray, List.getElem_cons_zero, List.getElem_cons_succ]
          refine wpAnyL_take (i := 1) (v := ?_) rfl (by kernel_rfl) (by kernel_rfl) (by kernel_rfl) (fun _ _ _ h => h) (by rfl) (by kernel_rfl) (by kernel_rfl) (Or.inl ⟨by rfl, ?_⟩) (by assumption) ?_
          rotate_left 1
          · (intro w' hSw; (try dsimp only at hSw); go_simp; try with_reducible rfl)
          try simp only [Act.put, List.setIfInBounds_toArray, List.set_cons_zero, List.set_cons_succ, List.getElem_toArray, List.getElem_cons_zero, List.getElem_cons_succ]
          refine wpAnyL_take (i := 2) (v := ?_) rfl (by kernel_rfl) (by kernel_rfl) (by kernel_rfl) (fun _ _ _ h => h) (by rfl) (by kernel_rfl) (by kernel_rfl) (Or.inl ⟨by rfl, ?_⟩) (by assumption) ?_
          rotate_left 1
          · (intro w' hSw; (try dsimp only at hSw); go_simp; try with_reducible rfl)
          try simp only [Act.put, List.setIfInBounds_toArray, List.set_cons_zero, List.set_cons_succ, List.getElem_toArray, List.getElem_cons_zero, List.getElem_cons_succ]
          refine wpAnyL_ready (rs := [3]) (by kernel_rfl) (by simp) ?_
          refine AllReadyL.cons rfl (fun K hK => ?_) AllReadyL.nil
          refine stepL_callN 36 #[.tmp 50, .const (.int .i64 3)] #[77, 3] (by rfl) (by rfl) #[.pointer (some ⟨gx, 0, none⟩), .int .i64 3] (by simp only [List.map_toArray, List.map_cons, List.map_nil] <;> rfl) (run_go Tryz.func36 (by kernel_rfl) (by kernel_rfl) _ _) (cutExts_any gx n (0 + 32 + 32 * R + 24 + 8 * 3 * k') 3 z G okw _ (hik (HC.out.keep ((Chg.refl nob wi).drew1))) (by omega) (hik (fun u => by have a := hG.out u; have a1 := a.1; unfold prN at a1; exact ⟨by omega, a.2.2.2.1 k' hlt⟩))) ?_
          rintro e U1 ⟨c1, l1, p1, f1, g1, ok1, he, hl1, ho1, hok1, hc1, kk⟩
          have HS0_ := hik kk.size
          have GL1 := hik (GL.out.chg (((Chg.refl (RG gx) wi).drew1).trans kk) (fun c hc hl e => by have e' : c = gx := e; have := HB.out; have := HXX.out; omega))
          have HL1 := hik hl1
          have HO1 := hik ho1
          have HOK1 := hik hok1
          have HC1 := hik hc1
          replace kk : Chg (PR9 gx vW) _ _ := kk.mono (fun i _ m => .inl m)
          clear hl1 ho1 hok1 hc1
          refine ⟨_, he, ?_⟩
          replace KW := hik (KW.out.trans kk)
          refine hK.out _ _ (SA.out _ KW.out) (fun hHeld => ?_)
          clear hK K
          try simp only [Act.put, List.setIfInBounds_toArray, List.set_cons_zero, List.set_cons_succ, List.getElem_toArray, List.getElem_cons_zero, List.getElem_cons_succ]
          clear he kk
          refine wpAnyL_ready (rs := [4]) (by kernel_rfl) (by simp) ?_
          refine AllReadyL.cons rfl (fun K hK => ?_) AllReadyL.nil
          simp only [List.getElem_toArray, List.getElem_cons_zero, List.getElem_cons_succ]
          go_simp
          replace KW := hik (KW.out.alloc (.cells #[.slice c1 l1 p1] 81))
          replace HO1 := hik (HO1.out.keep ((Chg.refl nob _).alloc (.cells #[.slice c1 l1 p1] 81)))
          replace HC1 := hik (HC1.out.keep ((Chg.refl nob _).alloc (.cells #[.slice c1 l1 p1] 81)))
          replace GL1 := hik (GL1.out.keep ((Chg.refl nob _).alloc (.cells #[.slice c1 l1 p1] 81)))
          refine hK.out _ _ (SA.out _ KW.out) (fun hHeld => ?_)
          clear hK K
          try simp only [Act.put, List.setIfInBounds_toArray, List.set_cons_zero, List.set_cons_succ, List.getElem_toArray, List.getElem_cons_zero, List.getElem_cons_succ]
          refine wpAnyL_ready (rs := [5]) (by kernel_rfl) (by simp) ?_
          refine AllReadyL.cons rfl (fun K hK => ?_) AllReadyL.nil
          refine step_append_lies _ (by rfl) (.tmp 49) (.tmp 52) 29 (by rfl) b2 81 i1 (.slice none 0 0) 1 24 Tryz.underlying29 HJ.out HJ0.out HJ1.out HJ2.out rfl (by decide) vW k' _ (by rfl) (GL1.out.own) ⟨_, 0, none⟩ 1 1 [.slice c1 l1 p1] (by rfl) rfl (rwNews _ _ _) (rwOne _ _ _) (by decide) (by unfold maxLen; omega) (by omega) (by have := GL1.out.hH; have := GL1.out.xH; omega) _ rfl ?_
          intro g7 cp7 w7 o7 hg7 hat7 hlt7
          have hsu : wi.heap.size ≤ U1.heap.size ∧ ((World.alloc U1 (.cells #[.slice c1 l1 p1] 81))).heap.size = U1.heap.size + 1 := ⟨HS0_.out, by simp⟩
          have GLN := hik ((GL1.out.step (fun _ => exF l1 f1 g1) (fun _ => .slice c1 l1 p1) (fun _ => Iv wi.heap.size ((World.alloc U1 (.cells #[.slice c1 l1 p1] 81))).heap.size) (fun _ => Iv wi.heap.size ((World.alloc U1 (.cells #[.slice c1 l1 p1] 81))).heap.size) o7 hg7 hat7 hlt7 (by have := GL1.out.xH; omega) (fun j _ => exF_of_own HO1.out) (fun j c _ hc => by have := GL.out.hH; unfold Iv at hc; omega) (fun j j' c hj hj' hne => absurd hne (by omega))).congr (fun p _ => ext9_ex k' LW fW gW l1 f1 g1 p))
          replace KW : Hid (Chg (PR9 gx vW) wi w7) := hik (KW.out.grown hg7 (fun b e _ => .inr e))
          have HC7 := hik (HC1.out.chg ((Chg.refl (fun y => vW.ownBlock = some y) _).grown hg7 (fun b e _ => e)) (fun e => by have := GL.out.xg gx e; have := HB.out; have := HXX.out; omega))
          clear o7 hg7 hat7 hlt7 hsu GL1 HC1 HO1
          refine hK.out _ _ (SA.out _ KW.out) (fun hHeld => ?_)
          clear hK K
          try simp only [Act.put, List.setIfInBounds_toArray, List.set_cons_zero, List.set_cons_succ, List.getElem_toArray, List.getElem_cons_zero, List.getElem_cons_succ]
          refine wpAnyL_take (i := 6) (v := ?_) rfl (by kernel_rfl) (by kernel_rfl) (by kernel_rfl) (fun _ _ _ h => h) (by rfl) (by kernel_rfl) (by kernel_rfl) (Or.inl ⟨by rfl, ?_⟩) (by assumption) ?_
          rotate_left 1
          · (intro w' hSw; (try dsimp only at hSw); go_simp; try with_reducible rfl)
          try simp only [Act.put, List.setIfInBounds_toArray, List.set_cons_zero, List.set_cons_succ, List.getElem_toArray, List.getElem_cons_zero, List.getElem_cons_succ]
          refine wpAnyL_ready (rs := [7]) (by kernel_rfl) (by simp) ?_
          refine AllReadyL.last rfl (by kernel_rfl) (fun K hK => ?_)
          have y0 : w7.cell? ⟨go, 8, none⟩ = some vW := KW.out.seeP xo0 hPgo
          have y1 : w7.frozen? ⟨go, 8, none⟩ = false := (rowIs_chg RO.out KW.out hPgo).frozen 8
          have y2 : go < w7.heap.size := (rowIs_chg RO.out KW.out hPgo).lt
          simp only [List.getElem_toArray, List.getElem_cons_zero, List.getElem_cons_succ]
          go_simp
          refine hK.out _ _ ?_
          clear hK K
          try simp only [Act.put, List.setIfInBounds_toArray, List.set_cons_zero, List.set_cons_succ, List.getElem_toArray, List.getElem_cons_zero, List.getElem_cons_succ]
          clear y0 y1 y2
          refine wpAnyL_done (by kernel_rfl) ?_ _
          have kS := (Chg.refl (fun b => b = go) w7).setCell (p := ⟨go, 8, none⟩) (fun _ => rfl) (.slice (some ⟨g7, 0, none⟩) (k' + 1) cp7)
          have GLF := hik ((GLN.out.chg kS (fun c hc hl e => by have e' : c = go := e; have := HB.out; have := HXX.out; omega)))
          have ROF := hik (((rowIs_chg RO.out KW.out hPgo).set 8 (.slice (some ⟨g7, 0, none⟩) (k' + 1) cp7)).congr (g := (fun i => (#[.string s0, .slice cG R pG, .int .i64 ax, .int .i64 ay, .int .i64 bx, .int .i64 by_, .int .i64 cx, .int .i64 cy, (.slice (some ⟨g7, 0, none⟩) (k' + 1) cp7), .int .i64 0, .int .i64 0, .slice none 0 0, .slice none 0 0, .int .i64 0, .int .i64 0, .int .i64 0, .slice none 0 0] : Array Value).getD i undef)) (fun i hi => by rcases (show i = 0 ∨ i = 1 ∨ i = 2 ∨ i = 3 ∨ i = 4 ∨ i = 5 ∨ i = 6 ∨ i = 7 ∨ i = 8 ∨ i = 9 ∨ i = 10 ∨ i = 11 ∨ i = 12 ∨ i = 13 ∨ i = 14 ∨ i = 15 ∨ i = 16 by omega) with rfl | rfl | rfl | rfl | rfl | rfl | rfl | rfl | rfl | rfl | rfl | rfl | rfl | rfl | rfl | rfl | rfl <;> rfl))
          have HCF := hik (show CtI (w7.setCell ⟨go, 8, none⟩ (.slice (some ⟨g7, 0, none⟩) (k' + 1) cp7)) gx n (0 + 32 + 32 * R + 24 + 8 * 3 * (k' + 1)) z G ok1 from by rw [show 0 + 32 + 32 * R + 24 + 8 * 3 * (k' + 1) = 0 + 32 + 32 * R + 24 + 8 * 3 * k' + 8 * 3 by omega]; exact HC7.out.chg kS (fun e => by have e' : gx = go := e; have := HB.out; omega))
          have HOKF := hik (show ok1 = true → ok3 = true ∧ ∀ i, i < k' + 1 → ext9 k' LW (fun _ => l1) i = 3 ∧ ∀ j, j < 3 → ext9 k' fW (fun _ => f1) i j = rf (zk z (0 + 32 + 32 * R + 24 + 8 * 3 * i)) j ∧ ext9 k' gW (fun _ => g1) i j = rg (zk z (0 + 32 + 32 * R + 24 + 8 * 3 * i)) j from fun u => by
            have a := HOK1.out u
            have b := HQK2.out a.1
            refine ⟨b.1, fun i hi => ?_⟩
            by_cases e : i < k'
            · rw [ext9_lo _ _ _ e, ext9_lo _ _ _ e, ext9_lo _ _ _ e]
              exact b.2 i e
            · obtain rfl : i = k' := by omega
              have h0 := ext9_hi i LW (fun _ => l1) 0
              have h1 := ext9_hi i fW (fun _ => f1) 0
              have h2 := ext9_hi i gW (fun _ => g1) 0
              rw [Nat.add_zero] at h0 h1 h2
              rw [h0, h1, h2]
              exact a.2.2)
          have RSM := hik (rowIs_chg RS.out KW.out (fun e => (by have a := HPB.out _ e; have := HB.out; have := HXX.out; omega)))
          have RTM := hik (rowIs_chg RT.out KW.out (fun e => (by have a := HPB.out _ e; have := HB.out; have := HXX.out; omega)))
          have RXM := hik (rowIs_chg RX.out KW.out (fun e => (by have a := HPB.out _ e; have := HB.out; have := HXX.out; omega)))
          have OGM := hik ((dEEf R LG fG gG).chg KW.out OG.out (fun c hc e => (by have a := HPB.out _ e; have := HB.out; have := HXX.out; unfold Iv at hc; omega)))
          have RSF := hik (rowIs_chg RSM.out kS (fun e => (by have e' : _ = go := e; have := HB.out; have := HXX.out; omega)))
          have RTF := hik (rowIs_chg RTM.out kS (fun e => (by have e' : _ = go := e; have := HB.out; have := HXX.out; omega)))
          have RXF := hik (rowIs_chg RXM.out kS (fun e => (by have e' : _ = go := e; have := HB.out; have := HXX.out; omega)))
          have OGF := hik ((dEEf R LG fG gG).chg kS OGM.out (fun c hc e => (by have e' : c = go := e; have := HB.out; have := HXX.out; unfold Iv at hc; omega)))
          have K0F := hik ((K0.out.near KW.out (fun i e => by have a := HPB.out i e; have := HB.out; have := HXX.out; omega)).near kS (fun i e => by have e' : i = go := e; have := HB.out; omega))
          have HF8 := hik (show w7.heap.size = ((w7.setCell ⟨go, 8, none⟩ (.slice (some ⟨g7, 0, none⟩) (k' + 1) cp7))).heap.size by simp)
          generalize hE : (w7.setCell ⟨go, 8, none⟩ (.slice (some ⟨g7, 0, none⟩) (k' + 1) cp7)) = W8 at GLF ROF HCF RSF RTF RXF OGF K0F HF8 ⊢
          clear hE kS KW SA hHeld GLN HC7 HOK1 HQK2 GL HC RO RS RT RX OG RSM RTM RXM OGM K0 HPB hPgo xo0 xs0
          go_wp2
          go_roundw
          case rel => exact ⟨k' + 1, _, _, _, _, _, _, _, _, ok1, by omega, by go_num, ROF, GLF, HCF, HOKF, RSF, RTF, RXF, OGF, K0F⟩
          case measure => simp [intOf]; omega
        · obtain rfl : C = k' := by omega
          have hv2 : ¬ (C : Int) < (C : Int) := by omega
          have OR0 : (dEEf C LW fW gW).Own wi (fun c => c = b2 ∨ Iv (u1) HW_ c) (fun c => ∃ p, p < C * 1 ∧ Mi p c) vW := GL.out.done (fun i j hi hj => (by obtain rfl : j = 0 := (by omega); rw [Nat.mul_one, Nat.add_zero]))
          obtain ⟨cW, pW, hvR⟩ : ∃ (cR : Option Addr) (pR : Nat), vW = .slice cR C pR := by
            obtain ⟨_, c, cap, e, _⟩ := OR0
            exact ⟨c, cap, e⟩
          subst hvR
          have HH2 := hik (show u1 ≤ HW_ ∧ HW_ ≤ wi.heap.size from ⟨GL.out.xH.2, GL.out.hH⟩)
          obtain ⟨MW, OR1, hmr⟩ : ∃ M : Nat → Prop, (dEEf C LW fW gW).Own wi (fun c => c = b2 ∨ Iv (u1) HW_ c) M (.slice cW C pW) ∧ ∀ c, M c → Iv (u1) HW_ c := ⟨_, OR0, fun c ⟨p, hp, hc⟩ => GL.out.bd p c hp ((exF (LW p) (fW p) (gW p)).sub (GL.out.it p hp) c hc)⟩
          have OW := hik OR1
          have HM2 := hik hmr
          clear OR1 hmr GL OR0
          have HGS := hik HH2.out.2
          go_wp2_with fail
          clear xs0
          replace HC := hik (show CtI wi gx n (0 + 32 + 32 * R + 24 + 24 * C) z G okw from by rw [show 0 + 32 + 32 * R + 24 + 24 * C = 0 + 32 + 32 * R + 24 + 8 * 3 * C by omega]; exact HC.out)
          refine (cutOne_any gx n (0 + 32 + 32 * R + 24 + 24 * C) z G okw _ HC (hik (fun u => by have a := hG.out u; have a1 := a.1; unfold prN at a1; exact ⟨by omega, a.2.2.2.2.1⟩))).mono ?_
          rintro e A4 ⟨vx, vy, ok4, rfl, hok_, hc, kk⟩
          have Hok4 := hik hok_
          clear hok_
          replace RS := hik (rowIs_chg RS.out kk (fun e => (by have e' : _ = gx := e; have := HB.out; have := HXX.out; omega)))
          replace RT := hik (rowIs_chg RT.out kk (fun e => (by have e' : _ = gx := e; have := HB.out; have := HXX.out; omega)))
          replace RX := hik (rowIs_chg RX.out kk (fun e => (by have e' : _ = gx := e; have := HB.out; have := HXX.out; omega)))
          replace OG := hik ((dEEf R LG fG gG).chg kk OG.out (fun c hc e => (by have e' : c = gx := e; have := HB.out; have := HXX.out; unfold Iv at hc; omega)))
          replace OW := hik ((dEEf C LW fW gW).chg kk OW.out (fun c hc e => (by have e' : c = gx := e; have := HB.out; have := HXX.out; unfold Iv at hc; omega)))
          replace RO := hik (rowIs_chg RO.out kk (fun e => by have e' : _ = gx := e; have := HB.out; omega))
          replace K0 := hik (K0.out.near kk (fun b e => by have e' : b = gx := e; have := HB.out; omega))
          replace HC := hik hc
          replace HGS := hik (Nat.le_trans HGS.out (kk).size)
          clear kk hc
          have y9 : A4.cell? ⟨go, 9, none⟩ = some (.int .i64 0) := RO.out.cell (i := 9) (by omega)
          have u9 := RO.out.frozen 9
          have y10 : A4.cell? ⟨go, 10, none⟩ = some (.int .i64 0) := RO.out.cell (i := 10) (by omega)
          have u10 := RO.out.frozen 10
          have lo9 := RO.out.lt
          have xs1 : A4.cell? ⟨w.heap.size, 1, none⟩ = some (.int .i64 (C : Int)) := by rw [← HC9.out]; exact RS.out.cell (i := 1) (by omega)
          have xt0 : A4.cell? ⟨w.heap.size + 1, 0, none⟩ = some (.int .i64 (r : Int)) := RT.out.cell (i := 0) (by omega)
          have xt1 : A4.cell? ⟨w.heap.size + 1, 1, none⟩ = some (.int .i64 (q : Int)) := RT.out.cell (i := 1) (by omega)
          have xt2 : A4.cell? ⟨w.heap.size + 1, 2, none⟩ = some (.int .i64 g) := RT.out.cell (i := 2) (by omega)
          go_wp2_with fail
          clear xs1 xt0 xt1 xt2
          have kS := (((Chg.refl (fun b => b = go) A4).setCell (p := ⟨go, 9, none⟩) (fun _ => rfl) (.int .i64 vx)).setCell (p := ⟨go, 10, none⟩) (fun _ => rfl) (.int .i64 vy))
          replace RS := hik (rowIs_chg RS.out kS (fun e => (by have e' : _ = go := e; have := HB.out; have := HXX.out; omega)))
          replace RT := hik (rowIs_chg RT.out kS (fun e => (by have e' : _ = go := e; have := HB.out; have := HXX.out; omega)))
          replace RX := hik (rowIs_chg RX.out kS (fun e => (by have e' : _ = go := e; have := HB.out; have := HXX.out; omega)))
          replace OG := hik ((dEEf R LG fG gG).chg kS OG.out (fun c hc e => (by have e' : c = go := e; have := HB.out; have := HXX.out; unfold Iv at hc; omega)))
          replace OW := hik ((dEEf C LW fW gW).chg kS OW.out (fun c hc e => (by have e' : c = go := e; have := HB.out; have := HXX.out; unfold Iv at hc; omega)))
          replace RO := hik (((RO.out.set 9 (.int .i64 vx)).set 10 (.int .i64 vy)).congr (g := (fun i => (#[.string s0, .slice cG R pG, .int .i64 ax, .int .i64 ay, .int .i64 bx, .int .i64 by_, .int .i64 cx, .int .i64 cy, .slice cW C pW, .int .i64 vx, .int .i64 vy, .slice none 0 0, .slice none 0 0, .int .i64 0, .int .i64 0, .int .i64 0, .slice none 0 0] : Array Value).getD i undef)) (fun i hi => by rcases (show i = 0 ∨ i = 1 ∨ i = 2 ∨ i = 3 ∨ i = 4 ∨ i = 5 ∨ i = 6 ∨ i = 7 ∨ i = 8 ∨ i = 9 ∨ i = 10 ∨ i = 11 ∨ i = 12 ∨ i = 13 ∨ i = 14 ∨ i = 15 ∨ i = 16 by omega) with rfl | rfl | rfl | rfl | rfl | rfl | rfl | rfl | rfl | rfl | rfl | rfl | rfl | rfl | rfl | rfl | rfl <;> rfl))
          replace K0 := hik (K0.out.near kS (fun b e => by have e' : b = go := e; have := HB.out; omega))
          replace HC := hik (HC.out.chg kS (fun e => by have e' : gx = go := e; have := HB.out; omega))
          replace HGS := hik (Nat.le_trans HGS.out kS.size)
          clear kS y9 u9 y10 u10 lo9
          generalize (A4.setCell ⟨go, 9, none⟩ (.int .i64 vx)).setCell ⟨go, 10, none⟩ (.int .i64 vy) = B4 at RS RT RX RO HC K0 HGS OG OW ⊢
          have hcv : ((C : Int) - 1) = ((C - 1 : Nat) : Int) := by omega
          rw [hcv]
          refine (l09Read_any gx n (0 + 32 + 32 * R + 24 + 24 * C + 8) (C - 1) r q g z G ok4 _ HC (hik (fun u => (hG.out u).2.2.2.2.2)) (by omega) (by omega) r0 r1 q0 q1).mono ?_
          rintro e A5 ⟨d, a, ok5, rfl, hop, hc, kk, hok_, hnr, hnt, hnq⟩
          have Hok5 := hik hok_
          have HOP := hik hop
          have HNQ := hik (And.intro hnr (And.intro hnt hnq))
          have HSB := hik (show HW_ ≤ B4.heap.size from HGS.out)
          clear hok_ hop hcv
          replace RS := hik (rowIs_chg RS.out kk (fun e => (by have e' : _ = gx := e; have := HB.out; have := HXX.out; omega)))
          replace RT := hik (rowIs_chg RT.out kk (fun e => (by have e' : _ = gx := e; have := HB.out; have := HXX.out; omega)))
          replace RX := hik (rowIs_chg RX.out kk (fun e => (by have e' : _ = gx := e; have := HB.out; have := HXX.out; omega)))
          replace OG := hik ((dEEf R LG fG gG).chg kk OG.out (fun c hc e => (by have e' : c = gx := e; have := HB.out; have := HXX.out; unfold Iv at hc; omega)))
          replace OW := hik ((dEEf C LW fW gW).chg kk OW.out (fun c hc e => (by have e' : c = gx := e; have := HB.out; have := HXX.out; unfold Iv at hc; omega)))
          replace RO := hik (rowIs_chg RO.out kk (fun e => by have e' : _ = gx := e; have := HB.out; omega))
          replace K0 := hik (K0.out.near kk (fun b e => by have e' : b = gx := e; have := HB.out; omega))
          replace HC := hik hc
          replace HGS := hik (Nat.le_trans HGS.out (kk).size)
          clear kk hc
          have HSC := hik (show HW_ ≤ A5.heap.size from HGS.out)
          replace HGS := hik (Nat.le_refl A5.heap.size)
          have y11 : A5.cell? ⟨go, 11, none⟩ = some (.slice none 0 0) := RO.out.cell (i := 11) (by omega)
          have u11 := RO.out.frozen 11
          have y12 : A5.cell? ⟨go, 12, none⟩ = some (.slice none 0 0) := RO.out.cell (i := 12) (by omega)
          have u12 := RO.out.frozen 12
          have y13 : A5.cell? ⟨go, 13, none⟩ = some (.int .i64 0) := RO.out.cell (i := 13) (by omega)
          have u13 := RO.out.frozen 13
          have y14 : A5.cell? ⟨go, 14, none⟩ = some (.int .i64 0) := RO.out.cell (i := 14) (by omega)
          have u14 := RO.out.frozen 14
          have y15 : A5.cell? ⟨go, 15, none⟩ = some (.int .i64 0) := RO.out.cell (i := 15) (by omega)
          have u15 := RO.out.frozen 15
          have y16 : A5.cell? ⟨go, 16, none⟩ = some (.slice none 0 0) := RO.out.cell (i := 16) (by omega)
          have u16 := RO.out.frozen 16
          have lo9 := RO.out.lt
          go_wp2
          have kS := (((((((Chg.refl (fun b => b = go) A5).setCell (p := ⟨go, 11, none⟩) (fun _ => rfl) (.slice a.cR (C - 1) a.pR)).setCell (p := ⟨go, 12, none⟩) (fun _ => rfl) (.slice a.cT (C - 1 - 1) a.pT)).setCell (p := ⟨go, 13, none⟩) (fun _ => rfl) (.int .i64 d.la)).setCell (p := ⟨go, 14, none⟩) (fun _ => rfl) (.int .i64 d.lb)).setCell (p := ⟨go, 15, none⟩) (fun _ => rfl) (.int .i64 d.no)).setCell (p := ⟨go, 16, none⟩) (fun _ => rfl) (.slice a.cQ q a.pQ))
          replace RS := hik (rowIs_chg RS.out kS (fun e => (by have e' : _ = go := e; have := HB.out; have := HXX.out; omega)))
          replace RT := hik (rowIs_chg RT.out kS (fun e => (by have e' : _ = go := e; have := HB.out; have := HXX.out; omega)))
          replace RX := hik (rowIs_chg RX.out kS (fun e => (by have e' : _ = go := e; have := HB.out; have := HXX.out; omega)))
          replace OG := hik ((dEEf R LG fG gG).chg kS OG.out (fun c hc e => (by have e' : c = go := e; have := HB.out; have := HXX.out; unfold Iv at hc; omega)))
          replace OW := hik ((dEEf C LW fW gW).chg kS OW.out (fun c hc e => (by have e' : c = go := e; have := HB.out; have := HXX.out; unfold Iv at hc; omega)))
          replace HOP := hik (HOP.out.chg kS (fun c hc e => (by have e' : c = go := e; have := HB.out; have := HXX.out; have := HSB.out; have := HH2.out; unfold Iv at hc; omega)))
          replace RO := hik (((((((RO.out.set 11 (.slice a.cR (C - 1) a.pR)).set 12 (.slice a.cT (C - 1 - 1) a.pT)).set 13 (.int .i64 d.la)).set 14 (.int .i64 d.lb)).set 15 (.int .i64 d.no)).set 16 (.slice a.cQ q a.pQ)).congr (g := (fun i => (#[.string s0, .slice cG R pG, .int .i64 ax, .int .i64 ay, .int .i64 bx, .int .i64 by_, .int .i64 cx, .int .i64 cy, .slice cW C pW, .int .i64 vx, .int .i64 vy, .slice a.cR (C - 1) a.pR, .slice a.cT (C - 1 - 1) a.pT, .int .i64 d.la, .int .i64 d.lb, .int .i64 d.no, .slice a.cQ q a.pQ] : Array Value).getD i undef)) (fun i hi => by rcases (show i = 0 ∨ i = 1 ∨ i = 2 ∨ i = 3 ∨ i = 4 ∨ i = 5 ∨ i = 6 ∨ i = 7 ∨ i = 8 ∨ i = 9 ∨ i = 10 ∨ i = 11 ∨ i = 12 ∨ i = 13 ∨ i = 14 ∨ i = 15 ∨ i = 16 by omega) with rfl | rfl | rfl | rfl | rfl | rfl | rfl | rfl | rfl | rfl | rfl | rfl | rfl | rfl | rfl | rfl | rfl <;> rfl))
          replace K0 := hik (K0.out.near kS (fun b e => by have e' : b = go := e; have := HB.out; omega))
          replace HC := hik (HC.out.chg kS (fun e => by have e' : gx = go := e; have := HB.out; omega))
          replace HGS := hik (Nat.le_trans HGS.out kS.size)
          clear kS y11 u11 y12 u12 y13 u13 y14 u14 y15 u15 y16 u16 lo9
          generalize (((((A5.setCell ⟨go, 11, none⟩ (.slice a.cR (C - 1) a.pR)).setCell ⟨go, 12, none⟩ (.slice a.cT (C - 1 - 1) a.pT)).setCell ⟨go, 13, none⟩ (.int .i64 d.la)).setCell ⟨go, 14, none⟩ (.int .i64 d.lb)).setCell ⟨go, 15, none⟩ (.int .i64 d.no)).setCell ⟨go, 16, none⟩ (.slice a.cQ q a.pQ) = B5 at RS RT RX RO HC K0 HGS OG OW HOP ⊢
          have hcR : ¬ (C : Int) < (C : Int) := by omega
          have HPO : Hid (PrO B5 (gx + 1) B5.heap.size ({ rt := s0, ng := R, gl := LG, gf := fG, gg := gG, a0 := ax, a1 := ay, b0 := bx, b1 := by_, c0 := cx, c1 := cy, nw := C, wl := LW, wf := fW, wg := gW, v0 := vx, v1 := vy, op := d } : PD) (⟨cG, pG, cW, pW, a.cR, a.pR, a.cT, a.pT, a.cQ, a.pQ⟩ : PA)) := hik (by
            have h1 := HB.out
            have h2 := HH1.out
            have h3 := HH2.out
            have h4 := HXX.out
            have h5 := HSB.out
            have h6 := HGS.out
            have h7 := HSC.out
            refine ⟨_, MG, _, MW, _, OG.out, OW.out, HOP.out, fun c hc => ?_, fun c hc => ?_, fun c hc => ?_, fun c hc => ?_⟩
            · unfold Iv at hc
              omega
            · have m1 := HM1.out c hc
              unfold Iv at m1 ⊢
              omega
            · have m1 := HM2.out c hc
              unfold Iv at m1 ⊢
              omega
            · unfold Iv at hc ⊢
              omega)
          have HPE : Hid (ok5 = true → PE9 ({ rt := s0, ng := R, gl := LG, gf := fG, gg := gG, a0 := ax, a1 := ay, b0 := bx, b1 := by_, c0 := cx, c1 := cy, nw := C, wl := LW, wf := fW, wg := gW, v0 := vx, v1 := vy, op := d } : PD) (rdP z R C r q 0)) := hik (fun u => by
            have a5 := Hok5.out u
            have a4 := Hok4.out a5.1
            have a3 := HQK2.out a4.1
            have a2 := Hok3.out a3.1
            have a1 := Hok2.out a2.1
            have a0 := Hok1.out a1.1
            have ag := HQK1.out a0.1
            exact ⟨HK0.out ag.1, rfl, fun i hi => ag.2 i hi, ⟨a0.2.2.1, a0.2.2.2⟩, ⟨a1.2.2.1, a1.2.2.2⟩, ⟨a2.2.2.1, a2.2.2.2⟩, rfl, fun i hi => a3.2 i hi, ⟨a4.2.2.1, a4.2.2.2⟩, a5.2⟩)
          obtain ⟨t5, hrow5, ht5, hk5, hk6⟩ := HC.out
          have HRW := hik hrow5
          have HK5 := hik hk5
          have HK6 := hik hk6
          replace RO : Hid (B5.rowIs go 37 17 (pfv ({ rt := s0, ng := R, gl := LG, gf := fG, gg := gG, a0 := ax, a1 := ay, b0 := bx, b1 := by_, c0 := cx, c1 := cy, nw := C, wl := LW, wf := fW, wg := gW, v0 := vx, v1 := vy, op := d } : PD) (⟨cG, pG, cW, pW, a.cR, a.pR, a.cT, a.pT, a.cQ, a.pQ⟩ : PA))) := hik (World.rowIs.congr RO.out (fun i hi => by
            have hi' : i < 17 := hi
            rcases (show i = 0 ∨ i = 1 ∨ i = 2 ∨ i = 3 ∨ i = 4 ∨ i = 5 ∨ i = 6 ∨ i = 7 ∨ i = 8 ∨ i = 9 ∨ i = 10 ∨ i = 11 ∨ i = 12 ∨ i = 13 ∨ i = 14 ∨ i = 15 ∨ i = 16 by omega) with rfl | rfl | rfl | rfl | rfl | rfl | rfl | rfl | rfl | rfl | rfl | rfl | rfl | rfl | rfl | rfl | rfl <;> first | rfl | (show Value.slice a.cR (C - 1) a.pR = Value.slice a.cR d.nr a.pR; rw [HNQ.out.1]) | (show Value.slice a.cT (C - 1 - 1) a.pT = Value.slice a.cT d.nt a.pT; rw [HNQ.out.2.1]) | (show Value.slice a.cQ q a.pQ = Value.slice a.cQ d.nq a.pQ; rw [HNQ.out.2.2])))
          clear HNQ HC hrow5 ht5 hk5 hk6 OG OW HOP Hok5 Hok4 HQK2 Hok3 Hok2 Hok1 HQK1 HK0 HM1 HM2 HJ HJ0 HJ1 HJ2 HH1 HH2 HXX HSB HSC HGS
          generalize hDD : ({ rt := s0, ng := R, gl := LG, gf := fG, gg := gG, a0 := ax, a1 := ay, b0 := bx, b1 := by_, c0 := cx, c1 := cy, nw := C, wl := LW, wf := fW, wg := gW, v0 := vx, v1 := vy, op := d } : PD) = D9 at RO HPO HPE
          generalize hAA : (⟨cG, pG, cW, pW, a.cR, a.pR, a.cT, a.pT, a.cQ, a.pQ⟩ : PA) = A9 at RO HPO
          clear hDD hAA
          have HS5 := hik (show SyV B5 s y from hv.out.keep K0.out)
          cases ok5
          · have HNO := hik (show ¬ G from fun u => by have a := HK6.out u; cases a)
            have HS0 : Hid ((S16 gx go w.heap.size (w.heap.size + 1) t5 false (pfv D9 A9) (fun i => (#[.int .i64 s.r, .int .i64 s.q, .int .i64 s.p, .slice y.cA s.nA y.pA, .slice y.cB s.nB y.pB, .slice y.cC s.nC y.pC] : Array Value).getD i undef) (fun i => (#[.int .i64 (r : Int), .int .i64 (q : Int), .int .i64 g] : Array Value).getD i undef)) B5) := hik ⟨HRW.out.cell (i := 0) (by omega), HRW.out.cell (i := 1) (by omega), RO.out, RS.out, RT.out⟩
            have KW := hik ((Chg.refl nob B5).drew1)
            refine wp_region_held_drew (S := (S16 gx go w.heap.size (w.heap.size + 1) t5 false (pfv D9 A9) (fun i => (#[.int .i64 s.r, .int .i64 s.q, .int .i64 s.p, .slice y.cA s.nA y.pA, .slice y.cB s.nB y.pB, .slice y.cC s.nC y.pC] : Array Value).getD i undef) (fun i => (#[.int .i64 (r : Int), .int .i64 (q : Int), .int .i64 g] : Array Value).getD i undef))) (by kernel_rfl) (S16.keep HS0.out KW.out) (fun hHeld => ?_)
            refine wpAnyH_take (i := 0) (v := .agg (rowA 17 (pfv D9 A9))) rfl (by kernel_rfl) (by kernel_rfl) (by kernel_rfl) (fun _ _ _ h => h) (yields_row (by rfl) 37 (.tmp 9) rfl go (by rfl) 17 _ _ _ (fun w9 h9 => h9.2.2.1) Tryz.underlying37 rfl infoPf) (by assumption) ?_
            try simp only [Act.put, List.setIfInBounds_toArray, List.set_cons_zero, List.set_cons_succ, List.getElem_toArray, List.getElem_cons_zero, List.getElem_cons_succ]
            refine wpAnyH_take (i := 1) (v := ?_) rfl (by kernel_rfl) (by kernel_rfl) (by kernel_rfl) (fun _ _ _ h => h) (Or.inl ⟨by rfl, ?_⟩) (by assumption) ?_
            rotate_left 1
            · (intro w' hSw; (try dsimp only at hSw); go_simp; try with_reducible rfl)
            try simp only [Act.put, List.setIfInBounds_toArray, List.set_cons_zero, List.set_cons_succ, List.getElem_toArray, List.getElem_cons_zero, List.getElem_cons_succ]
            refine wpAnyH_take (i := 2) (v := ?_) rfl (by kernel_rfl) (by kernel_rfl) (by kernel_rfl) (fun _ _ _ h => h) (Or.inl ⟨by rfl, ?_⟩) (by assumption) ?_
            rotate_left 1
            · (intro w' hSw; (try dsimp only at hSw); go_simp; try with_reducible rfl)
            try simp only [Act.put, List.setIfInBounds_toArray, List.set_cons_zero, List.set_cons_succ, List.getElem_toArray, List.getElem_cons_zero, List.getElem_cons_succ]
            refine wpAnyH_take (i := 3) (v := ?_) rfl (by kernel_rfl) (by kernel_rfl) (by kernel_rfl) (fun _ _ _ h => h) (Or.inl ⟨by rfl, ?_⟩) (by assumption) ?_
            rotate_left 1
            · (intro w' hSw; (try dsimp only at hSw); go_simp; try with_reducible rfl)
            try simp only [Act.put, List.setIfInBounds_toArray, List.set_cons_zero, List.set_cons_succ, List.getElem_toArray, List.getElem_cons_zero, List.getElem_cons_succ]
            refine wpAnyH_take (i := 4) (v := .bool false) rfl (by kernel_rfl) (by kernel_rfl) (by kernel_rfl) (fun _ _ _ h => h) (Or.inl ⟨by rfl, by intro w9 hSw; have q1 := hSw.2.1; go_simp⟩) (by assumption) ?_
            try simp only [Act.put, List.setIfInBounds_toArray, List.set_cons_zero, List.set_cons_succ, List.getElem_toArray, List.getElem_cons_zero, List.getElem_cons_succ]
            refine wpAnyH_take (i := 5) (v := ?_) rfl (by kernel_rfl) (by kernel_rfl) (by kernel_rfl) (fun _ _ _ h => h) (Or.inl ⟨by rfl, ?_⟩) (by assumption) ?_
            rotate_left 1
            · (intro w' hSw; (try dsimp only at hSw); go_simp; try with_reducible rfl)
            try simp only [Act.put, List.setIfInBounds_toArray, List.set_cons_zero, List.set_cons_succ, List.getElem_toArray, List.getElem_cons_zero, List.getElem_cons_succ]
            refine wpAnyH_take (i := 6) (v := undef) rfl (by kernel_rfl) (by kernel_rfl) (by kernel_rfl) (fun _ _ _ h => h) (Or.inr ⟨by rfl, rfl⟩) (by assumption) ?_
            try simp only [Act.put, List.setIfInBounds_toArray, List.set_cons_zero, List.set_cons_succ, List.getElem_toArray, List.getElem_cons_zero, List.getElem_cons_succ]
            refine wpAnyH_take (i := 7) (v := undef) rfl (by kernel_rfl) (by kernel_rfl) (by kernel_rfl) (fun _ _ _ h => h) (Or.inr ⟨by rfl, rfl⟩) (by assumption) ?_
            try simp only [Act.put, List.setIfInBounds_toArray, List.set_cons_zero, List.set_cons_succ, List.getElem_toArray, List.getElem_cons_zero, List.getElem_cons_succ]
            refine wpAnyH_take (i := 8) (v := undef) rfl (by kernel_rfl) (by kernel_rfl) (by kernel_rfl) (fun _ _ _ h => h) (Or.inr ⟨by rfl, rfl⟩) (by assumption) ?_
            try simp only [Act.put, List.setIfInBounds_toArray, List.set_cons_zero, List.set_cons_succ, List.getElem_toArray, List.getElem_cons_zero, List.getElem_cons_succ]
            refine wpAnyH_take (i := 9) (v := undef) rfl (by kernel_rfl) (by kernel_rfl) (by kernel_rfl) (fun _ _ _ h => h) (Or.inr ⟨by rfl, rfl⟩) (by assumption) ?_
            try simp only [Act.put, List.setIfInBounds_toArray, List.set_cons_zero, List.set_cons_succ, List.getElem_toArray, List.getElem_cons_zero, List.getElem_cons_succ]
            refine wpAnyH_take (i := 10) (v := undef) rfl (by kernel_rfl) (by kernel_rfl) (by kernel_rfl) (fun _ _ _ h => h) (Or.inr ⟨by rfl, rfl⟩) (by assumption) ?_
            try simp only [Act.put, List.setIfInBounds_toArray, List.set_cons_zero, List.set_cons_succ, List.getElem_toArray, List.getElem_cons_zero, List.getElem_cons_succ]
            refine wpAnyH_take (i := 11) (v := ?_) rfl (by kernel_rfl) (by kernel_rfl) (by kernel_rfl) (fun _ _ _ h => h) (Or.inl ⟨by rfl, ?_⟩) (by assumption) ?_
            rotate_left 1
            · (intro w' hSw; (try dsimp only at hSw); go_simp; try with_reducible rfl)
            try simp only [Act.put, List.setIfInBounds_toArray, List.set_cons_zero, List.set_cons_succ, List.getElem_toArray, List.getElem_cons_zero, List.getElem_cons_succ]
            refine wpAnyH_take (i := 12) (v := ?_) rfl (by kernel_rfl) (by kernel_rfl) (by kernel_rfl) (fun _ _ _ h => h) (Or.inl ⟨by rfl, ?_⟩) (by assumption) ?_
            rotate_left 1
            · (intro w' hSw; (try dsimp only at hSw); go_simp; try with_reducible rfl)
            try simp only [Act.put, List.setIfInBounds_toArray, List.set_cons_zero, List.set_cons_succ, List.getElem_toArray, List.getElem_cons_zero, List.getElem_cons_succ]
            refine wpAnyH_take (i := 13) (v := undef) rfl (by kernel_rfl) (by kernel_rfl) (by kernel_rfl) (fun _ _ _ h => h) (Or.inr ⟨by rfl, rfl⟩) (by assumption) ?_
            try simp only [Act.put, List.setIfInBounds_toArray, List.set_cons_zero, List.set_cons_succ, List.getElem_toArray, List.getElem_cons_zero, List.getElem_cons_succ]
            refine wpAnyH_take (i := 14) (v := undef) rfl (by kernel_rfl) (by kernel_rfl) (by kernel_rfl) (fun _ _ _ h => h) (Or.inr ⟨by rfl, rfl⟩) (by assumption) ?_
            try simp only [Act.put, List.setIfInBounds_toArray, List.set_cons_zero, List.set_cons_succ, List.getElem_toArray, List.getElem_cons_zero, List.getElem_cons_succ]
            refine wpAnyH_take (i := 15) (v := undef) rfl (by kernel_rfl) (by kernel_rfl) (by kernel_rfl) (fun _ _ _ h => h) (Or.inr ⟨by rfl, rfl⟩) (by assumption) ?_
            try simp only [Act.put, List.setIfInBounds_toArray, List.set_cons_zero, List.set_cons_succ, List.getElem_toArray, List.getElem_cons_zero, List.getElem_cons_succ]
            refine wpAnyH_take (i := 16) (v := undef) rfl (by kernel_rfl) (by kernel_rfl) (by kernel_rfl) (fun _ _ _ h => h) (Or.inr ⟨by rfl, rfl⟩) (by assumption) ?_
            try simp only [Act.put, List.setIfInBounds_toArray, List.set_cons_zero, List.set_cons_succ, List.getElem_toArray, List.getElem_cons_zero, List.getElem_cons_succ]
            refine wpAnyH_take (i := 17) (v := ?_) rfl (by kernel_rfl) (by kernel_rfl) (by kernel_rfl) (fun _ _ _ h => h) (Or.inl ⟨by rfl, ?_⟩) (by assumption) ?_
            rotate_left 1
            · (intro w' hSw; (try dsimp only at hSw); go_simp; try with_reducible rfl)
            try simp only [Act.put, List.setIfInBounds_toArray, List.set_cons_zero, List.set_cons_succ, List.getElem_toArray, List.getElem_cons_zero, List.getElem_cons_succ]
            refine wpAnyH_ready (rs := [18]) (by kernel_rfl) (by simp) ?_
            refine AllReadyH.cons rfl (fun K hK => ?_) AllReadyH.nil
            have HRX := hik (rowIs_keep RX.out KW.out)
            refine stepL_store_row 37 (.tmp 6) (.tmp 65) rfl (by rfl) (w.heap.size + 1 + 1) 17 (pfv D9 A9) (by rfl) (by rfl) 37 _ HRX.out infoPf (fun i hi => pfv_one _ _ i hi) ?_
            intro V9 r9 g9
            have HR9 := hik r9
            have HG9 := hik g9
            clear r9 g9
            refine hK.out _ _ ((S16.keep HS0.out KW.out).chg HG9.out (fun e => by have e' : gx = (w.heap.size + 1 + 1) := e; have := HB.out; omega) (fun e => by have e' : go = (w.heap.size + 1 + 1) := e; have := HB.out; omega) (fun e => by have e' : w.heap.size = (w.heap.size + 1 + 1) := e; omega) (fun e => by have e' : w.heap.size + 1 = (w.heap.size + 1 + 1) := e; omega)) (fun hHeld => ?_)
            clear hK K
            try simp only [Act.put, List.setIfInBounds_toArray, List.set_cons_zero, List.set_cons_succ, List.getElem_toArray, List.getElem_cons_zero, List.getElem_cons_succ]
            refine wpAnyH_take (i := 19) (v := ?_) rfl (by kernel_rfl) (by kernel_rfl) (by kernel_rfl) (fun _ _ _ h => h) (Or.inl ⟨by rfl, ?_⟩) (by assumption) ?_
            rotate_left 1
            · (intro w' hSw; (try dsimp only at hSw); go_simp; try with_reducible rfl)
            try simp only [Act.put, List.setIfInBounds_toArray, List.set_cons_zero, List.set_cons_succ, List.getElem_toArray, List.getElem_cons_zero, List.getElem_cons_succ]
            refine wpAnyH_done (by kernel_rfl) ?_ _
            have KF : Chg nob w V9 := (K0.out.trans KW.out).near HG9.out (fun b e => by have e' : b = (w.heap.size + 1 + 1) := e; omega)
            have HPF := PrO.wide8 (((HPO.out.keep KW.out)).chg HG9.out (fun b l1 l2 e => by have e' : b = (w.heap.size + 1 + 1) := e; have := HB.out; omega)) (lo' := w.heap.size) (hi' := V9.heap.size) (by have := HB.out; omega) (Nat.le_trans KW.out.size HG9.out.size)
            have r9 := HR9.out
            clear hHeld
            go_wp2
            exact bodyPost_ret (results_row_tmp Tryz.results20 _ _ (w.heap.size + 1 + 1) 37 (rowA 17 (pfv D9 A9)) (0, 0) _ rfl (rowA_of r9) Tryz.underlying37 rfl (by rw [rowA_size]; exact infoPf)) rfl ⟨D9, A9, false, rfl, HPF, KF, fun u => absurd u (by decide), fun u => (HNO.out (by rw [HGE.out]; exact u)).elim⟩
          · by_cases ht0 : t5.size = 0
            rotate_left 1
            · have hne : ¬ t5.toList = [] := fun e => ht0 (by rw [ByteArray.toList_eq] at e; show t5.data.size = 0; rw [← Array.length_toList, e]; rfl)
              have hie : t5.toList.isEmpty = false := by cases hx : t5.toList with
                | nil => exact absurd hx hne
                | cons _ _ => rfl
              have HNO := hik (show ¬ G from fun u => by
                rw [HGE.out] at u
                have a1 := HK5.out rfl
                have a2 := u.1
                unfold prN at a2
                omega)
              clear ht0 hne
              have HS0 : Hid ((S16 gx go w.heap.size (w.heap.size + 1) t5 true (pfv D9 A9) (fun i => (#[.int .i64 s.r, .int .i64 s.q, .int .i64 s.p, .slice y.cA s.nA y.pA, .slice y.cB s.nB y.pB, .slice y.cC s.nC y.pC] : Array Value).getD i undef) (fun i => (#[.int .i64 (r : Int), .int .i64 (q : Int), .int .i64 g] : Array Value).getD i undef)) B5) := hik ⟨HRW.out.cell (i := 0) (by omega), HRW.out.cell (i := 1) (by omega), RO.out, RS.out, RT.out⟩
              have KW := hik ((Chg.refl nob B5).drew1)
              refine wp_region_held_drew (S := (S16 gx go w.heap.size (w.heap.size + 1) t5 true (pfv D9 A9) (fun i => (#[.int .i64 s.r, .int .i64 s.q, .int .i64 s.p, .slice y.cA s.nA y.pA, .slice y.cB s.nB y.pB, .slice y.cC s.nC y.pC] : Array Value).getD i undef) (fun i => (#[.int .i64 (r : Int), .int .i64 (q : Int), .int .i64 g] : Array Value).getD i undef))) (by kernel_rfl) (S16.keep HS0.out KW.out) (fun hHeld => ?_)
              refine wpAnyH_take (i := 0) (v := .agg (rowA 17 (pfv D9 A9))) rfl (by kernel_rfl) (by kernel_rfl) (by kernel_rfl) (fun _ _ _ h => h) (yields_row (by rfl) 37 (.tmp 9) rfl go (by rfl) 17 _ _ _ (fun w9 h9 => h9.2.2.1) Tryz.underlying37 rfl infoPf) (by assumption) ?_
              try simp only [Act.put, List.setIfInBounds_toArray, List.set_cons_zero, List.set_cons_succ, List.getElem_toArray, List.getElem_cons_zero, List.getElem_cons_succ]
              refine wpAnyH_take (i := 1) (v := ?_) rfl (by kernel_rfl) (by kernel_rfl) (by kernel_rfl) (fun _ _ _ h => h) (Or.inl ⟨by rfl, ?_⟩) (by assumption) ?_
              rotate_left 1
              · (intro w' hSw; (try dsimp only at hSw); go_simp; try with_reducible rfl)
              try simp only [Act.put, List.setIfInBounds_toArray, List.set_cons_zero, List.set_cons_succ, List.getElem_toArray, List.getElem_cons_zero, List.getElem_cons_succ]
              refine wpAnyH_take (i := 2) (v := ?_) rfl (by kernel_rfl) (by kernel_rfl) (by kernel_rfl) (fun _ _ _ h => h) (Or.inl ⟨by rfl, ?_⟩) (by assumption) ?_
              rotate_left 1
              · (intro w' hSw; (try dsimp only at hSw); go_simp; try with_reducible rfl)
              try simp only [Act.put, List.setIfInBounds_toArray, List.set_cons_zero, List.set_cons_succ, List.getElem_toArray, List.getElem_cons_zero, List.getElem_cons_succ]
              refine wpAnyH_take (i := 3) (v := ?_) rfl (by kernel_rfl) (by kernel_rfl) (by kernel_rfl) (fun _ _ _ h => h) (Or.inl ⟨by rfl, ?_⟩) (by assumption) ?_
              rotate_left 1
              · (intro w' hSw; (try dsimp only at hSw); go_simp; try with_reducible rfl)
              try simp only [Act.put, List.setIfInBounds_toArray, List.set_cons_zero, List.set_cons_succ, List.getElem_toArray, List.getElem_cons_zero, List.getElem_cons_succ]
              refine wpAnyH_take (i := 4) (v := .bool true) rfl (by kernel_rfl) (by kernel_rfl) (by kernel_rfl) (fun _ _ _ h => h) (Or.inl ⟨by rfl, by intro w9 hSw; have q1 := hSw.2.1; go_simp⟩) (by assumption) ?_
              try simp only [Act.put, List.setIfInBounds_toArray, List.set_cons_zero, List.set_cons_succ, List.getElem_toArray, List.getElem_cons_zero, List.getElem_cons_succ]
              refine wpAnyH_take (i := 5) (v := ?_) rfl (by kernel_rfl) (by kernel_rfl) (by kernel_rfl) (fun _ _ _ h => h) (Or.inl ⟨by rfl, ?_⟩) (by assumption) ?_
              rotate_left 1
              · (intro w' hSw; (try dsimp only at hSw); go_simp; try with_reducible rfl)
              try simp only [Act.put, List.setIfInBounds_toArray, List.set_cons_zero, List.set_cons_succ, List.getElem_toArray, List.getElem_cons_zero, List.getElem_cons_succ]
              refine wpAnyH_take (i := 6) (v := ?_) rfl (by kernel_rfl) (by kernel_rfl) (by kernel_rfl) (fun _ _ _ h => h) (Or.inl ⟨by rfl, ?_⟩) (by assumption) ?_
              rotate_left 1
              · (intro w' hSw; (try dsimp only at hSw); go_simp; try with_reducible rfl)
              try simp only [Act.put, List.setIfInBounds_toArray, List.set_cons_zero, List.set_cons_succ, List.getElem_toArray, List.getElem_cons_zero, List.getElem_cons_succ]
              refine wpAnyH_take (i := 7) (v := ?_) rfl (by kernel_rfl) (by kernel_rfl) (by kernel_rfl) (fun _ _ _ h => h) (Or.inl ⟨by rfl, ?_⟩) (by assumption) ?_
              rotate_left 1
              · (intro w' hSw; (try dsimp only at hSw); go_simp; try with_reducible rfl)
              try simp only [Act.put, List.setIfInBounds_toArray, List.set_cons_zero, List.set_cons_succ, List.getElem_toArray, List.getElem_cons_zero, List.getElem_cons_succ]
              refine wpAnyH_take (i := 8) (v := ?_) rfl (by kernel_rfl) (by kernel_rfl) (by kernel_rfl) (fun _ _ _ h => h) (Or.inl ⟨by rfl, ?_⟩) (by assumption) ?_
              rotate_left 1
              · (intro w' hSw; (try dsimp only at hSw); go_simp; try with_reducible rfl)
              try simp only [Act.put, List.setIfInBounds_toArray, List.set_cons_zero, List.set_cons_succ, List.getElem_toArray, List.getElem_cons_zero, List.getElem_cons_succ]
              refine wpAnyH_take (i := 9) (v := .string t5) rfl (by kernel_rfl) (by kernel_rfl) (by kernel_rfl) (fun _ _ _ h => h) (Or.inl ⟨by rfl, by intro w9 hSw; have q0 := hSw.1; go_simp⟩) (by assumption) ?_
              try simp only [Act.put, List.setIfInBounds_toArray, List.set_cons_zero, List.set_cons_succ, List.getElem_toArray, List.getElem_cons_zero, List.getElem_cons_succ]
              refine wpAnyH_take (i := 10) (v := ?_) rfl (by kernel_rfl) (by kernel_rfl) (by kernel_rfl) (fun _ _ _ h => h) (Or.inl ⟨by rfl, ?_⟩) (by assumption) ?_
              rotate_left 1
              · (intro w' hSw; (try dsimp only at hSw); go_simp; try with_reducible rfl)
              try simp only [Act.put, List.setIfInBounds_toArray, List.set_cons_zero, List.set_cons_succ, List.getElem_toArray, List.getElem_cons_zero, List.getElem_cons_succ]
              refine wpAnyH_take (i := 11) (v := ?_) rfl (by kernel_rfl) (by kernel_rfl) (by kernel_rfl) (fun _ _ _ h => h) (Or.inl ⟨by rfl, ?_⟩) (by assumption) ?_
              rotate_left 1
              · (intro w' hSw; (try dsimp only at hSw); go_simp; try with_reducible rfl)
              try simp only [Act.put, List.setIfInBounds_toArray, List.set_cons_zero, List.set_cons_succ, List.getElem_toArray, List.getElem_cons_zero, List.getElem_cons_succ]
              refine wpAnyH_take (i := 12) (v := ?_) rfl (by kernel_rfl) (by kernel_rfl) (by kernel_rfl) (fun _ _ _ h => h) (Or.inl ⟨by rfl, ?_⟩) (by assumption) ?_
              rotate_left 1
              · (intro w' hSw; (try dsimp only at hSw); go_simp; try with_reducible rfl)
              try simp only [Act.put, List.setIfInBounds_toArray, List.set_cons_zero, List.set_cons_succ, List.getElem_toArray, List.getElem_cons_zero, List.getElem_cons_succ]
              refine wpAnyH_take (i := 13) (v := undef) rfl (by kernel_rfl) (by kernel_rfl) (by kernel_rfl) (fun _ _ _ h => h) (Or.inr ⟨by rfl, rfl⟩) (by assumption) ?_
              try simp only [Act.put, List.setIfInBounds_toArray, List.set_cons_zero, List.set_cons_succ, List.getElem_toArray, List.getElem_cons_zero, List.getElem_cons_succ]
              refine wpAnyH_take (i := 14) (v := undef) rfl (by kernel_rfl) (by kernel_rfl) (by kernel_rfl) (fun _ _ _ h => h) (Or.inr ⟨by rfl, rfl⟩) (by assumption) ?_
              try simp only [Act.put, List.setIfInBounds_toArray, List.set_cons_zero, List.set_cons_succ, List.getElem_toArray, List.getElem_cons_zero, List.getElem_cons_succ]
              refine wpAnyH_take (i := 15) (v := undef) rfl (by kernel_rfl) (by kernel_rfl) (by kernel_rfl) (fun _ _ _ h => h) (Or.inr ⟨by rfl, rfl⟩) (by assumption) ?_
              try simp only [Act.put, List.setIfInBounds_toArray, List.set_cons_zero, List.set_cons_succ, List.getElem_toArray, List.getElem_cons_zero, List.getElem_cons_succ]
              refine wpAnyH_take (i := 16) (v := undef) rfl (by kernel_rfl) (by kernel_rfl) (by kernel_rfl) (fun _ _ _ h => h) (Or.inr ⟨by rfl, rfl⟩) (by assumption) ?_
              try simp only [Act.put, List.setIfInBounds_toArray, List.set_cons_zero, List.set_cons_succ, List.getElem_toArray, List.getElem_cons_zero, List.getElem_cons_succ]
              refine wpAnyH_take (i := 17) (v := ?_) rfl (by kernel_rfl) (by kernel_rfl) (by kernel_rfl) (fun _ _ _ h => h) (Or.inl ⟨by rfl, ?_⟩) (by assumption) ?_
              rotate_left 1
              · (intro w' hSw; (try dsimp only at hSw); go_simp; try with_reducible rfl)
              try simp only [Act.put, List.setIfInBounds_toArray, List.set_cons_zero, List.set_cons_succ, List.getElem_toArray, List.getElem_cons_zero, List.getElem_cons_succ]
              refine wpAnyH_ready (rs := [18]) (by kernel_rfl) (by simp) ?_
              refine AllReadyH.cons rfl (fun K hK => ?_) AllReadyH.nil
              have HRX := hik (rowIs_keep RX.out KW.out)
              refine stepL_store_row 37 (.tmp 6) (.tmp 65) rfl (by rfl) (w.heap.size + 1 + 1) 17 (pfv D9 A9) (by rfl) (by rfl) 37 _ HRX.out infoPf (fun i hi => pfv_one _ _ i hi) ?_
              intro V9 r9 g9
              have HR9 := hik r9
              have HG9 := hik g9
              clear r9 g9
              refine hK.out _ _ ((S16.keep HS0.out KW.out).chg HG9.out (fun e => by have e' : gx = (w.heap.size + 1 + 1) := e; have := HB.out; omega) (fun e => by have e' : go = (w.heap.size + 1 + 1) := e; have := HB.out; omega) (fun e => by have e' : w.heap.size = (w.heap.size + 1 + 1) := e; omega) (fun e => by have e' : w.heap.size + 1 = (w.heap.size + 1 + 1) := e; omega)) (fun hHeld => ?_)
              clear hK K
              try simp only [Act.put, List.setIfInBounds_toArray, List.set_cons_zero, List.set_cons_succ, List.getElem_toArray, List.getElem_cons_zero, List.getElem_cons_succ]
              refine wpAnyH_take (i := 19) (v := ?_) rfl (by kernel_rfl) (by kernel_rfl) (by kernel_rfl) (fun _ _ _ h => h) (Or.inl ⟨by rfl, ?_⟩) (by assumption) ?_
              rotate_left 1
              · (intro w' hSw; (try dsimp only at hSw); go_simp; try with_reducible rfl)
              try simp only [Act.put, List.setIfInBounds_toArray, List.set_cons_zero, List.set_cons_succ, List.getElem_toArray, List.getElem_cons_zero, List.getElem_cons_succ]
              refine wpAnyH_done (by kernel_rfl) ?_ _
              have KF : Chg nob w V9 := (K0.out.trans KW.out).near HG9.out (fun b e => by have e' : b = (w.heap.size + 1 + 1) := e; omega)
              have HPF := PrO.wide8 (((HPO.out.keep KW.out)).chg HG9.out (fun b l1 l2 e => by have e' : b = (w.heap.size + 1 + 1) := e; have := HB.out; omega)) (lo' := w.heap.size) (hi' := V9.heap.size) (by have := HB.out; omega) (Nat.le_trans KW.out.size HG9.out.size)
              have r9 := HR9.out
              clear hHeld
              go_wp2
              exact bodyPost_ret (results_row_tmp Tryz.results20 _ _ (w.heap.size + 1 + 1) 37 (rowA 17 (pfv D9 A9)) (0, 0) _ rfl (rowA_of r9) Tryz.underlying37 rfl (by rw [rowA_size]; exact infoPf)) rfl ⟨D9, A9, false, rfl, HPF, KF, fun u => absurd u (by decide), fun u => (HNO.out (by rw [HGE.out]; exact u)).elim⟩
            · obtain rfl : t5 = ⟨#[]⟩ := by
                have hd : t5.data.size = 0 := ht0
                exact ByteArray.ext (Array.eq_empty_of_size_eq_zero hd)
              have HPX := hik (HPE.out rfl)
              have HSM := hik (rdP_small z R C r q 0 R1 C1 r1 q1)
              have hfe : pfv D9 A9 = pfv (rdP z R C r q 0) A9 := funext (fun i => pfv_eq HPX.out A9 i)
              have HNP := hik (show n = prN R C r q by have a1 := HK5.out rfl; have a2 := a1.2.1; have a3 : (0 : Nat) = _ := a2; unfold prN; omega)
              rw [hfe] at RO
              generalize hDR : (rdP z R C r q 0) = DR at RO HPX HSM HGE hfe ⊢
              have HDR := hik hDR
              clear hDR
              clear ht0
              have HS0 : Hid ((S16 gx go w.heap.size (w.heap.size + 1) ⟨#[]⟩ true (pfv DR A9) (fun i => (#[.int .i64 s.r, .int .i64 s.q, .int .i64 s.p, .slice y.cA s.nA y.pA, .slice y.cB s.nB y.pB, .slice y.cC s.nC y.pC] : Array Value).getD i undef) (fun i => (#[.int .i64 (r : Int), .int .i64 (q : Int), .int .i64 g] : Array Value).getD i undef)) B5) := hik ⟨HRW.out.cell (i := 0) (by omega), HRW.out.cell (i := 1) (by omega), RO.out, RS.out, RT.out⟩
              have KW := hik ((Chg.refl nob B5).drew1)
              refine wp_region_held_drew (S := (S16 gx go w.heap.size (w.heap.size + 1) ⟨#[]⟩ true (pfv DR A9) (fun i => (#[.int .i64 s.r, .int .i64 s.q, .int .i64 s.p, .slice y.cA s.nA y.pA, .slice y.cB s.nB y.pB, .slice y.cC s.nC y.pC] : Array Value).getD i undef) (fun i => (#[.int .i64 (r : Int), .int .i64 (q : Int), .int .i64 g] : Array Value).getD i undef))) (by kernel_rfl) (S16.keep HS0.out KW.out) (fun hHeld => ?_)
              refine wpAnyH_take (i := 0) (v := .agg (rowA 17 (pfv DR A9))) rfl (by kernel_rfl) (by kernel_rfl) (by kernel_rfl) (fun _ _ _ h => h) (yields_row (by rfl) 37 (.tmp 9) rfl go (by rfl) 17 _ _ _ (fun w9 h9 => h9.2.2.1) Tryz.underlying37 rfl infoPf) (by assumption) ?_
              try simp only [Act.put, List.setIfInBounds_toArray, List.set_cons_zero, List.set_cons_succ, List.getElem_toArray, List.getElem_cons_zero, List.getElem_cons_succ]
              refine wpAnyH_take (i := 1) (v := ?_) rfl (by kernel_rfl) (by kernel_rfl) (by kernel_rfl) (fun _ _ _ h => h) (Or.inl ⟨by rfl, ?_⟩) (by assumption) ?_
              rotate_left 1
              · (intro w' hSw; (try dsimp only at hSw); go_simp; try with_reducible rfl)
              try simp only [Act.put, List.setIfInBounds_toArray, List.set_cons_zero, List.set_cons_succ, List.getElem_toArray, List.getElem_cons_zero, List.getElem_cons_succ]
              refine wpAnyH_take (i := 2) (v := ?_) rfl (by kernel_rfl) (by kernel_rfl) (by kernel_rfl) (fun _ _ _ h => h) (Or.inl ⟨by rfl, ?_⟩) (by assumption) ?_
              rotate_left 1
              · (intro w' hSw; (try dsimp only at hSw); go_simp; try with_reducible rfl)
              try simp only [Act.put, List.setIfInBounds_toArray, List.set_cons_zero, List.set_cons_succ, List.getElem_toArray, List.getElem_cons_zero, List.getElem_cons_succ]
              refine wpAnyH_take (i := 3) (v := ?_) rfl (by kernel_rfl) (by kernel_rfl) (by kernel_rfl) (fun _ _ _ h => h) (Or.inl ⟨by rfl, ?_⟩) (by assumption) ?_
              rotate_left 1
              · (intro w' hSw; (try dsimp only at hSw); go_simp; try with_reducible rfl)
              try simp only [Act.put, List.setIfInBounds_toArray, List.set_cons_zero, List.set_cons_succ, List.getElem_toArray, List.getElem_cons_zero, List.getElem_cons_succ]
              refine wpAnyH_take (i := 4) (v := .bool true) rfl (by kernel_rfl) (by kernel_rfl) (by kernel_rfl) (fun _ _ _ h => h) (Or.inl ⟨by rfl, by intro w9 hSw; have q1 := hSw.2.1; go_simp⟩) (by assumption) ?_
              try simp only [Act.put, List.setIfInBounds_toArray, List.set_cons_zero, List.set_cons_succ, List.getElem_toArray, List.getElem_cons_zero, List.getElem_cons_succ]
              refine wpAnyH_take (i := 5) (v := ?_) rfl (by kernel_rfl) (by kernel_rfl) (by kernel_rfl) (fun _ _ _ h => h) (Or.inl ⟨by rfl, ?_⟩) (by assumption) ?_
              rotate_left 1
              · (intro w' hSw; (try dsimp only at hSw); go_simp; try with_reducible rfl)
              try simp only [Act.put, List.setIfInBounds_toArray, List.set_cons_zero, List.set_cons_succ, List.getElem_toArray, List.getElem_cons_zero, List.getElem_cons_succ]
              refine wpAnyH_take (i := 6) (v := ?_) rfl (by kernel_rfl) (by kernel_rfl) (by kernel_rfl) (fun _ _ _ h => h) (Or.inl ⟨by rfl, ?_⟩) (by assumption) ?_
              rotate_left 1
              · (intro w' hSw; (try dsimp only at hSw); go_simp; try with_reducible rfl)
              try simp only [Act.put, List.setIfInBounds_toArray, List.set_cons_zero, List.set_cons_succ, List.getElem_toArray, List.getElem_cons_zero, List.getElem_cons_succ]
              refine wpAnyH_take (i := 7) (v := ?_) rfl (by kernel_rfl) (by kernel_rfl) (by kernel_rfl) (fun _ _ _ h => h) (Or.inl ⟨by rfl, ?_⟩) (by assumption) ?_
              rotate_left 1
              · (intro w' hSw; (try dsimp only at hSw); go_simp; try with_reducible rfl)
              try simp only [Act.put, List.setIfInBounds_toArray, List.set_cons_zero, List.set_cons_succ, List.getElem_toArray, List.getElem_cons_zero, List.getElem_cons_succ]
              refine wpAnyH_take (i := 8) (v := ?_) rfl (by kernel_rfl) (by kernel_rfl) (by kernel_rfl) (fun _ _ _ h => h) (Or.inl ⟨by rfl, ?_⟩) (by assumption) ?_
              rotate_left 1
              · (intro w' hSw; (try dsimp only at hSw); go_simp; try with_reducible rfl)
              try simp only [Act.put, List.setIfInBounds_toArray, List.set_cons_zero, List.set_cons_succ, List.getElem_toArray, List.getElem_cons_zero, List.getElem_cons_succ]
              refine wpAnyH_take (i := 9) (v := .string ⟨#[]⟩) rfl (by kernel_rfl) (by kernel_rfl) (by kernel_rfl) (fun _ _ _ h => h) (Or.inl ⟨by rfl, by intro w9 hSw; have q0 := hSw.1; go_simp⟩) (by assumption) ?_
              try simp only [Act.put, List.setIfInBounds_toArray, List.set_cons_zero, List.set_cons_succ, List.getElem_toArray, List.getElem_cons_zero, List.getElem_cons_succ]
              refine wpAnyH_take (i := 10) (v := ?_) rfl (by kernel_rfl) (by kernel_rfl) (by kernel_rfl) (fun _ _ _ h => h) (Or.inl ⟨by rfl, ?_⟩) (by assumption) ?_
              rotate_left 1
              · (intro w' hSw; (try dsimp only at hSw); go_simp; try with_reducible rfl)
              try simp only [Act.put, List.setIfInBounds_toArray, List.set_cons_zero, List.set_cons_succ, List.getElem_toArray, List.getElem_cons_zero, List.getElem_cons_succ]
              refine wpAnyH_take (i := 11) (v := ?_) rfl (by kernel_rfl) (by kernel_rfl) (by kernel_rfl) (fun _ _ _ h => h) (Or.inl ⟨by rfl, ?_⟩) (by assumption) ?_
              rotate_left 1
              · (intro w' hSw; (try dsimp only at hSw); go_simp; try with_reducible rfl)
              try simp only [Act.put, List.setIfInBounds_toArray, List.set_cons_zero, List.set_cons_succ, List.getElem_toArray, List.getElem_cons_zero, List.getElem_cons_succ]
              refine wpAnyH_take (i := 12) (v := ?_) rfl (by kernel_rfl) (by kernel_rfl) (by kernel_rfl) (fun _ _ _ h => h) (Or.inl ⟨by rfl, ?_⟩) (by assumption) ?_
              rotate_left 1
              · (intro w' hSw; (try dsimp only at hSw); go_simp; try with_reducible rfl)
              try simp only [Act.put, List.setIfInBounds_toArray, List.set_cons_zero, List.set_cons_succ, List.getElem_toArray, List.getElem_cons_zero, List.getElem_cons_succ]
              refine wpAnyH_take (i := 13) (v := .agg (rowA 17 (pfv DR A9))) rfl (by kernel_rfl) (by kernel_rfl) (by kernel_rfl) (fun _ _ _ h => h) (yields_row (by rfl) 37 (.tmp 9) rfl go (by rfl) 17 _ _ _ (fun w9 h9 => h9.2.2.1) Tryz.underlying37 rfl infoPf) (by assumption) ?_
              try simp only [Act.put, List.setIfInBounds_toArray, List.set_cons_zero, List.set_cons_succ, List.getElem_toArray, List.getElem_cons_zero, List.getElem_cons_succ]
              refine wpAnyH_take (i := 14) (v := .agg #[.int .i64 s.r, .int .i64 s.q, .int .i64 s.p, .slice y.cA s.nA y.pA, .slice y.cB s.nB y.pB, .slice y.cC s.nC y.pC]) rfl (by kernel_rfl) (by kernel_rfl) (by kernel_rfl) (fun _ _ _ h => h) (yields_rowL (by rfl) 43 (.tmp 4) rfl w.heap.size (by rfl) 6 _ #[.int .i64 s.r, .int .i64 s.q, .int .i64 s.p, .slice y.cA s.nA y.pA, .slice y.cB s.nB y.pB, .slice y.cC s.nC y.pC] rfl _ _ (fun w9 h9 => h9.2.2.2.1) Tryz.underlying43 rfl infoSy9) (by assumption) ?_
              try simp only [Act.put, List.setIfInBounds_toArray, List.set_cons_zero, List.set_cons_succ, List.getElem_toArray, List.getElem_cons_zero, List.getElem_cons_succ]
              refine wpAnyH_take (i := 15) (v := .agg #[.int .i64 (r : Int), .int .i64 (q : Int), .int .i64 g]) rfl (by kernel_rfl) (by kernel_rfl) (by kernel_rfl) (fun _ _ _ h => h) (yields_rowL (by rfl) 45 (.tmp 5) rfl (w.heap.size + 1) (by rfl) 3 _ #[.int .i64 (r : Int), .int .i64 (q : Int), .int .i64 g] rfl _ _ (fun w9 h9 => h9.2.2.2.2) Tryz.underlying45 rfl infoSe9) (by assumption) ?_
              try simp only [Act.put, List.setIfInBounds_toArray, List.set_cons_zero, List.set_cons_succ, List.getElem_toArray, List.getElem_cons_zero, List.getElem_cons_succ]
              refine wpAnyH_ready (rs := [16]) (by kernel_rfl) (by simp) ?_
              refine AllReadyH.cons rfl (fun K hK => ?_) AllReadyH.nil
              refine stepL_callN 39 #[.tmp 78, .tmp 79, .tmp 80] #[37, 43, 45] (by rfl) (by rfl) #[.agg (rowA 17 (pfv DR A9)), .agg #[.int .i64 s.r, .int .i64 s.q, .int .i64 s.p, .slice y.cA s.nA y.pA, .slice y.cB s.nB y.pB, .slice y.cC s.nC y.pC], .agg #[.int .i64 (r : Int), .int .i64 (q : Int), .int .i64 g]] (by simp only [List.map_toArray, List.map_cons, List.map_nil] <;> rfl) (run_go Tryz.func39 (by kernel_rfl) (by kernel_rfl) _ _) (sProofOK_row DR A9 s y r q g _ (hik (PrV.keep (PrO.rep (PrO.eq9 HPX.out HPO.out)) KW.out)) HSM (hik (HS5.out.keep KW.out)) hsy) ?_
              rintro e U1 ⟨he, kk⟩
              refine ⟨_, he, ?_⟩
              replace KW := hik (KW.out.trans kk)
              refine hK.out _ _ (S16.keep HS0.out KW.out) (fun hHeld => ?_)
              clear hK K
              try simp only [Act.put, List.setIfInBounds_toArray, List.set_cons_zero, List.set_cons_succ, List.getElem_toArray, List.getElem_cons_zero, List.getElem_cons_succ]
              clear he kk
              refine wpAnyH_take (i := 17) (v := ?_) rfl (by kernel_rfl) (by kernel_rfl) (by kernel_rfl) (fun _ _ _ h => h) (Or.inl ⟨by rfl, ?_⟩) (by assumption) ?_
              rotate_left 1
              · (intro w' hSw; (try dsimp only at hSw); go_simp; try with_reducible rfl)
              try simp only [Act.put, List.setIfInBounds_toArray, List.set_cons_zero, List.set_cons_succ, List.getElem_toArray, List.getElem_cons_zero, List.getElem_cons_succ]
              refine wpAnyH_ready (rs := [18]) (by kernel_rfl) (by simp) ?_
              refine AllReadyH.cons rfl (fun K hK => ?_) AllReadyH.nil
              have HRX := hik (rowIs_keep RX.out KW.out)
              refine stepL_store_row 37 (.tmp 6) (.tmp 65) rfl (by rfl) (w.heap.size + 1 + 1) 17 (pfv DR A9) (by rfl) (by rfl) 37 _ HRX.out infoPf (fun i hi => pfv_one _ _ i hi) ?_
              intro V9 r9 g9
              have HR9 := hik r9
              have HG9 := hik g9
              clear r9 g9
              refine hK.out _ _ ((S16.keep HS0.out KW.out).chg HG9.out (fun e => by have e' : gx = (w.heap.size + 1 + 1) := e; have := HB.out; omega) (fun e => by have e' : go = (w.heap.size + 1 + 1) := e; have := HB.out; omega) (fun e => by have e' : w.heap.size = (w.heap.size + 1 + 1) := e; omega) (fun e => by have e' : w.heap.size + 1 = (w.heap.size + 1 + 1) := e; omega)) (fun hHeld => ?_)
              clear hK K
              try simp only [Act.put, List.setIfInBounds_toArray, List.set_cons_zero, List.set_cons_succ, List.getElem_toArray, List.getElem_cons_zero, List.getElem_cons_succ]
              refine wpAnyH_take (i := 19) (v := ?_) rfl (by kernel_rfl) (by kernel_rfl) (by kernel_rfl) (fun _ _ _ h => h) (Or.inl ⟨by rfl, ?_⟩) (by assumption) ?_
              rotate_left 1
              · (intro w' hSw; (try dsimp only at hSw); go_simp; try with_reducible rfl)
              try simp only [Act.put, List.setIfInBounds_toArray, List.set_cons_zero, List.set_cons_succ, List.getElem_toArray, List.getElem_cons_zero, List.getElem_cons_succ]
              refine wpAnyH_done (by kernel_rfl) ?_ _
              have KF : Chg nob w V9 := (K0.out.trans KW.out).near HG9.out (fun b e => by have e' : b = (w.heap.size + 1 + 1) := e; omega)
              have HPF := PrO.wide8 (((HPO.out.keep KW.out)).chg HG9.out (fun b l1 l2 e => by have e' : b = (w.heap.size + 1 + 1) := e; have := HB.out; omega)) (lo' := w.heap.size) (hi' := V9.heap.size) (by have := HB.out; omega) (Nat.le_trans KW.out.size HG9.out.size)
              have r9 := HR9.out
              clear hHeld
              go_wp2
              exact bodyPost_ret (results_row_tmp Tryz.results20 _ _ (w.heap.size + 1 + 1) 37 (rowA 17 (pfv DR A9)) (0, 0) _ rfl (rowA_of r9) Tryz.underlying37 rfl (by rw [rowA_size]; exact infoPf)) rfl ⟨D9, A9, (pfb DR s r q g), by rw [hfe]; rfl, HPF, KF, fun u => ⟨by rw [HDR.out]; exact HPX.out, HNP.out, by rw [HDR.out]; exact u⟩, fun u => by have u2 := u.2; rw [HDR.out] at u2; exact u2⟩

end Go.Proofs.YtppiilbcnkphbaaGreat
