/- Several texts in one: What the program's reader of a query answers: contracts. Conditions: bytes that can be read, as many as are read, of at most 2 to the 20. · What the program's reader of an opening answers: a contract. Conditions: bytes that can be read, as many as are read, of at most 2 to the 20. · What a change of other blocks leaves to be seen. · A proof that is read, the program's readers: contracts. Conditions: bytes that can be read, numbers from 0 to 255. -/
import Derived.Test.YtppiilbcnkphbaaGreatBzag
import Derived.Test.YtppiilbcnkphbaaGreatBzan
import Derived.Test.YtppiilbcnkphbaaGreatBzal
import Derived.Deep.DeepCutAuto
import Derived.Test.YtppiilbcnkphbaaGreatBzah
import Derived.Test.YtppiilbcnkphbaaGreatBzab
import Derived.Test.YtppiilbcnkphbaaGreatBzat
import Derived.Test.YtppiilbcnkphbaaGreatBzba
namespace Go.Proofs.YtppiilbcnkphbaaGreat
open Go.ChangeShapes Go.WideShapes Go.ChangeAt Go.RowKit
set_option linter.unusedVariables false
set_option maxRecDepth 100000
set_option linter.unusedSimpArgs false

section
variable {P : Program}
theorem stepL_make_rows (w : World) {ops : Array Oper} {o : Oper} {a : Act} {Q : Exit → Act → World → Prop} {K : Act → World → Prop} {E : Prop}
    (l c : Operand) (t : TypeId) (hop : o.op = Op.makeSlice t l c) (hw : Region.wanted o (yielded ops a.tmps) = true) (e : TypeId) (i : TypeInfo)
    (h1 : P.underlying t = some (.slice e)) (h2 : P.info? e = some i) (h3 : i.zero = some (.slice none 0 0)) (h4 : i.size = 1)
    (kl kc : IntKind) (L C : Int) (n : Nat) (hl : a.eval l = .int kl L) (hc : a.eval c = .int kc C) (hL : L = (n : Int)) (hC : C = (n : Int)) (b2 : i.bytes * n ≤ 281474976710656) (b3 : n ≤ 9223372036854775807)
    (hK : ∀ w', w'.rowIs w.heap.size e n (fun _ => .slice none 0 0) → Chg nob w w' → K (a.put o.dst (.slice (some ⟨w.heap.size, 0, none⟩) n n)) w') :
    if Region.wanted o (yielded ops a.tmps) = true then Oper.wp P o a w K Q else E := by
  rw [if_pos hw]
  have hb' : (i.bytes : Int) * (n : Int) ≤ 281474976710656 := by
    have h : ((i.bytes * n : Nat) : Int) ≤ 281474976710656 := by omega
    rwa [Int.natCast_mul] at h
  have hrun := run_make (P := P) w t e i _ h1 h2 h3 kl kc n n (by omega) (Int.le_refl _) hb' (by omega)
  simp only [Int.toNat_natCast, h4, Nat.mul_one] at hrun
  subst hL
  subst hC
  unfold Oper.wp
  simp [execOp, hop, hl, hc, hrun, Result.andThen]
  refine hK _ ⟨_, Go.Deep.blk_alloc_new _ _, size_madeCells _ _, fun j hj => ?_⟩ ((Chg.refl _ _).alloc _)
  simp [madeCells, hj, Value.cells, Nat.mod_one]
end
theorem Prt.doneK {W : World} {T : TypeId} {b n mm : Nat} {len : Nat → Nat} {x : Nat → Dt} {xF : Nat → Df} {C : Nat → Option Addr} {P lo hi : Nat → Nat} (h : Prt W T b n n len x C P lo hi) (hm : ∀ i, i < n → mm ≤ lo i) (hb : b < mm) (hx : ∀ i lo hi u, i < n → (x i).Own W lo hi u → (xF i).Own W (Iv lo hi) (Iv lo hi) u) (cap : Nat) :
    (liF n 1 (fun i _ => xF i)).Own W (fun c => c = b ∨ Iv mm W.heap.size c) (Iv mm W.heap.size) (.slice (some ⟨b, 0, none⟩) n cap) := by
  refine ⟨fun c hc => .inr hc, _, _, rfl, .inr ⟨b, fun i _ => Iv (lo i) (hi i), fun i _ => Iv (lo i) (hi i), rfl, .inl rfl, ⟨h.row.lt, fun i j hi hj => ?_, fun i j hi hj => ?_, fun i j i' j' h1 h2 h3 h4 hne c q1 q2 => ?_⟩, fun i j c h1 h2 q => ?_, fun i j c h1 h2 q => ?_⟩⟩
  · obtain rfl : j = 0 := by omega
    refine ⟨_, ?_, hx i _ _ _ hi (h.it i hi).2.2⟩
    rw [Nat.mul_one, Nat.add_zero, h.row.cell hi, if_pos hi]
  · intro q
    have := (h.it i hi).1
    unfold Iv at q
    omega
  · have hne' : i ≠ i' := fun e => hne ⟨e, by omega⟩
    unfold Iv at q1 q2
    rcases Nat.lt_or_gt_of_ne hne' with q | q
    · have := h.ord i i' q h3; omega
    · have := h.ord i' i q h1; omega
  · have := hm i h1
    have := (h.it i h1).2.1
    unfold Iv at q ⊢
    omega
  · have := hm i h1
    have := (h.it i h1).2.1
    unfold Iv at q ⊢
    omega
theorem Chg.seeG {P : Nat → Prop} {w w' : World} (h : Chg P w w') {b o : Nat} {v : Value} (c : w.cell? ⟨b, o, none⟩ = some v) (hp : ¬ P b) : w'.cell? ⟨b, o, none⟩ = some v :=
  (h.cell (p := ⟨b, o, none⟩) (World.block_lt_of_cell? w _ c) hp).trans c
/-- A query that was read. -/
def QrAns (w : World) (t : TypeId) (gr n cap k v r : Nat) (z : Nat → Int) (e : Ending) (w' : World) : Prop :=
  ∃ g1 b2 mm : Nat, e = .returned (.agg #[.slice (some ⟨g1, 0, none⟩) (2 * v) (2 * v), .slice (some ⟨b2, 0, none⟩) v v]) ∧ w.heap.size ≤ g1 ∧ g1 < mm ∧ w.heap.size ≤ b2 ∧ b2 < mm ∧ g1 ≠ b2 ∧ mm ≤ w'.heap.size ∧ w'.rowIs g1 31 (2 * v * 2) (pf (rf (zk z k)) (rg (zk z k))) ∧ (dSSf v (fun j => v + r - 1 - j) (fun j => tz9 z (k + 16 * v + 32 * hpN v r j))).Own w' (fun c => c = b2 ∨ Iv mm w'.heap.size c) (Iv mm w'.heap.size) (.slice (some ⟨b2, 0, none⟩) v v) ∧ RdS w' t gr n cap (k + qsz v r) z ∧ Chg (RG gr) w w'
theorem infoPs9 : (Tryz.prog.info? 32).map (fun i => (i.zero, i.size, i.bytes)) = some (some (.slice none 0 0), 1, 24) := by kernel_rfl

set_option maxHeartbeats 8000000 in
theorem rdQuery_any (t : TypeId) (gr n cap k v r : Nat) (q g : Int) (z : Nat → Int) (w : World) (h : Hid (RdS w t gr n cap k z)) (hz : Hid (∀ j, 0 ≤ z j ∧ z j < 256)) (v0 : 1 ≤ v) (v1 : v ≤ 6) (r0 : 1 ≤ r) (r1 : r ≤ 3) (hk : k + qsz v r ≤ n) (hc : n ≤ cap) (hc' : (cap : Int) ≤ 9223372036854775807) :
    Calls Tryz.prog 77 #[.pointer (some ⟨gr, 0, none⟩), .int .i64 (v : Int), .agg #[.int .i64 (r : Int), .int .i64 q, .int .i64 g]] w fun e w' => QrAns w t gr n cap k v r z e w' := by
  obtain ⟨i0, hi, hz0, hz1, hz2⟩ := info_parts infoPs9
  have HI := hik hi
  have HZ0 := hik hz0
  have HZ1 := hik hz1
  have hb : i0.bytes * v ≤ 281474976710656 := by rw [hz2]; omega
  have hgr := h.out.lt
  have HB := hik hb
  have HK := hik (And.intro hk hc)
  have HC' := hik hc'
  have hQS : qsz v r = 16 * v + 32 * hpN v r v := rfl
  have HQS := hik hQS
  clear hi hz0 hz1 hz2 hk hc hc' hb hQS
  have K0 := hik (((Chg.refl (RG gr) w).alloc (.cells #[.int .i64 (r : Int), .int .i64 q, .int .i64 g] 45)).alloc (.cells #[.slice none 0 0, .slice none 0 0] 110))
  have RT := hik (rowIs_keep (rowN_new w 3 #[.int .i64 (r : Int), .int .i64 q, .int .i64 g] 45 rfl) ((Chg.refl nob _).alloc (.cells #[.slice none 0 0, .slice none 0 0] 110)))
  have RX := hik (rowN_new (w.alloc (.cells #[.int .i64 (r : Int), .int .i64 q, .int .i64 g] 45)) 2 #[.slice none 0 0, .slice none 0 0] 110 rfl)
  have HS := hik (h.out.keep (((Chg.refl nob w).alloc (.cells #[.int .i64 (r : Int), .int .i64 q, .int .i64 g] 45)).alloc (.cells #[.slice none 0 0, .slice none 0 0] 110)))
  have HSZ := hik (show w.heap.size + 1 + 1 = ((w.alloc (.cells #[.int .i64 (r : Int), .int .i64 q, .int .i64 g] 45)).alloc (.cells #[.slice none 0 0, .slice none 0 0] 110)).heap.size by simp)
  rw [asz] at RX
  go_enter Tryz.func77, Tryz.ntmps77
  go_upto_region 1 with fail
  generalize hW : (w.alloc (.cells #[.int .i64 (r : Int), .int .i64 q, .int .i64 g] 45)).alloc (.cells #[.slice none 0 0, .slice none 0 0] 110) = W0 at K0 RT RX HS HSZ ⊢
  clear hW
  have hz00 := HSZ.out
  go_cut [7] (fun p W => ∃ g1 b2 gq : Nat, p = .pointer (some ⟨gq, 0, none⟩) ∧ Hid (W.rowIs gq 110 2 (fun i => (#[.slice (some ⟨g1, 0, none⟩) (2 * v) (2 * v), .slice (some ⟨b2, 0, none⟩) v v] : Array Value).getD i undef)) ∧ Hid (W.rowIs g1 31 (2 * v * 2) (pf (rf (zk z k)) (rg (zk z k)))) ∧ Hid (W.rowIs b2 32 v (fun _ => .slice none 0 0)) ∧ Hid (RdS W t gr n cap (k + 16 * v) z) ∧ Hid (Chg (RG gr) W0 W) ∧ Hid (W0.heap.size ≤ g1 ∧ W0.heap.size ≤ b2 ∧ W0.heap.size ≤ gq ∧ g1 ≠ b2 ∧ g1 ≠ gq ∧ b2 ≠ gq))
  case first =>
    focus
      replace HS := hik (HS.out.keep ((Chg.refl nob W0).drew1))
      have KW := hik ((Chg.refl (RG gr) W0).drew1)
      have SA := hik (fun (WW : World) (kW : Chg (RG gr) W0 WW) => (show (True) from True.intro))
      refine wp_region_held_drew (S := fun w' => True) (by kernel_rfl) (SA.out _ KW.out) (fun hHeld => ?_)
      refine wpAnyH_take (i := 0) (v := ?_) rfl (by kernel_rfl) (by kernel_rfl) (by kernel_rfl) (fun _ _ _ h => h) (Or.inl ⟨by rfl, ?_⟩) (by assumption) ?_
      rotate_left 1
      · (intro w' hSw; (try dsimp only at hSw); go_simp; try with_reducible rfl)
      try simp only [Act.put, List.setIfInBounds_toArray, List.set_cons_zero, List.set_cons_succ, List.getElem_toArray, List.getElem_cons_zero, List.getElem_cons_succ]
      refine wpAnyH_take (i := 1) (v := ?_) rfl (by kernel_rfl) (by kernel_rfl) (by kernel_rfl) (fun _ _ _ h => h) (Or.inl ⟨by rfl, ?_⟩) (by assumption) ?_
      rotate_left 1
      · (intro w' hSw; (try dsimp only at hSw); go_simp; try with_reducible rfl)
      try simp only [Act.put, List.setIfInBounds_toArray, List.set_cons_zero, List.set_cons_succ, List.getElem_toArray, List.getElem_cons_zero, List.getElem_cons_succ]
      refine wpAnyH_take (i := 2) (v := .int .i64 ((2 * v : Nat) : Int)) rfl (by kernel_rfl) (by kernel_rfl) (by kernel_rfl) (fun _ _ _ h => h) (Or.inl ⟨by rfl, ?_⟩) (by assumption) ?_
      · (intro w' hSw; (try dsimp only at hSw); go_simp; first | done | rfl | (congr 1; first | omega | (rw [IntKind.wrap_i64] <;> omega)))
      try simp only [Act.put, List.setIfInBounds_toArray, List.set_cons_zero, List.set_cons_succ, List.getElem_toArray, List.getElem_cons_zero, List.getElem_cons_succ]
      refine wpAnyH_take (i := 4) (v := ?_) rfl (by kernel_rfl) (by kernel_rfl) (by kernel_rfl) (fun _ _ _ h => h) (Or.inl ⟨by rfl, ?_⟩) (by assumption) ?_
      rotate_left 1
      · (intro w' hSw; (try dsimp only at hSw); go_simp; try with_reducible rfl)
      try simp only [Act.put, List.setIfInBounds_toArray, List.set_cons_zero, List.set_cons_succ, List.getElem_toArray, List.getElem_cons_zero, List.getElem_cons_succ]
      refine wpAnyH_ready (rs := [3, 5, 7]) (by kernel_rfl) (by simp) ?_
      refine AllReadyH.cons rfl (fun K hK => ?_) ?_
      · have hcu3 : W0.heap.size ≤ W0.drew.heap.size := KW.out.size
        
        refine stepL_callN 48 #[.tmp 9, .tmp 11] #[119, 3] (by rfl) (by rfl) #[.pointer (some ⟨gr, 0, none⟩), .int .i64 ((2 * v : Nat) : Int)] (by simp only [List.map_toArray, List.map_cons, List.map_nil] <;> rfl) (run_go Tryz.func48 (by kernel_rfl) (by kernel_rfl) _ _) (rdExts_any t gr n cap k (2 * v) z _ HS hz (by omega) (by have := HK.out.1; have := HQS.out; omega) HK.out.2 HC'.out) ?_
        rintro e A1 ⟨he, r_, s_, kk⟩
        have kn := kk
        generalize hg3 : W0.drew.heap.size = g1 at he r_ hcu3
        have HG3 := hik hg3
        clear hg3
        have R1 := hik r_
        have z3 := hik r_.lt
        replace HS := hik (show RdS A1 t gr n cap (k + 16 * v) z by have q_ := s_; rw [show k + 8 * (2 * v) = k + 16 * v by omega] at q_; exact q_)
        clear r_ s_ kn
        refine ⟨_, he, ?_⟩
        replace KW := hik (KW.out.trans kk)
        refine hK.out _ _ (SA.out _ KW.out) (fun hHeld => ?_)
        clear hK K
        try simp only [Act.put, List.setIfInBounds_toArray, List.set_cons_zero, List.set_cons_succ, List.getElem_toArray, List.getElem_cons_zero, List.getElem_cons_succ]
        clear he kk
        refine wpAnyH_ready (rs := [5, 7]) (by kernel_rfl) (by simp) ?_
        refine AllReadyH.cons rfl (fun K hK => ?_) ?_
        · have hcu5 : W0.heap.size ≤ A1.heap.size := KW.out.size
          refine stepL_make_rows _ (.tmp 13) (.tmp 13) 108 (by rfl) (by rfl) 32 i0 Tryz.underlying108 HI.out HZ0.out HZ1.out .i64 .i64 _ _ v (by rfl) (by rfl) rfl rfl HB.out (by omega) ?_
          intro A2 r_ kk
          replace R1 := hik (rowIs_keep R1.out kk)
          replace HS := hik (HS.out.keep kk)
          generalize hg5 : A1.heap.size = b2 at r_ hcu5 ⊢
          have HG5 := hik hg5
          clear hg5
          have R2 := hik r_
          have z5 := hik r_.lt
          replace KW := hik (KW.out.trans (Chg.wide kk))
          refine hK.out _ _ (SA.out _ KW.out) (fun hHeld => ?_)
          clear hK K
          try simp only [Act.put, List.setIfInBounds_toArray, List.set_cons_zero, List.set_cons_succ, List.getElem_toArray, List.getElem_cons_zero, List.getElem_cons_succ]
          clear r_ kk
          refine wpAnyH_take (i := 6) (v := ?_) rfl (by kernel_rfl) (by kernel_rfl) (by kernel_rfl) (fun _ _ _ h => h) (Or.inl ⟨by rfl, ?_⟩) (by assumption) ?_
          rotate_left 1
          · (intro w' hSw; (try dsimp only at hSw); go_simp; try with_reducible rfl)
          try simp only [Act.put, List.setIfInBounds_toArray, List.set_cons_zero, List.set_cons_succ, List.getElem_toArray, List.getElem_cons_zero, List.getElem_cons_succ]
          refine wpAnyH_ready (rs := [7]) (by kernel_rfl) (by simp) ?_
          refine AllReadyH.cons rfl (fun K hK => ?_) AllReadyH.nil
          have hcu7 : W0.heap.size ≤ A2.heap.size := KW.out.size
          
          simp only [List.getElem_toArray, List.getElem_cons_zero, List.getElem_cons_succ]
          go_simp
          have kk := (show Chg nob A2 (World.alloc A2 (.cells #[.slice none 0 0, .slice none 0 0] 110)) from (Chg.refl nob A2).alloc (.cells #[.slice none 0 0, .slice none 0 0] 110))
          replace R1 := hik (rowIs_keep R1.out kk)
          replace R2 := hik (rowIs_keep R2.out kk)
          replace HS := hik (HS.out.keep kk)
          have RQ := hik (show World.rowIs (World.alloc A2 (.cells #[.slice none 0 0, .slice none 0 0] 110)) A2.heap.size 110 2 (fun i => (#[.slice none 0 0, .slice none 0 0] : Array Value).getD i undef) from rowN_new A2 2 #[.slice none 0 0, .slice none 0 0] 110 rfl)
          have z7 := hik (show A2.heap.size < (World.alloc A2 (.cells #[.slice none 0 0, .slice none 0 0] 110)).heap.size from RQ.out.lt)
          replace KW := hik (KW.out.trans (Chg.wide kk))
          refine hK.out _ _ (SA.out _ KW.out) (fun hHeld => ?_)
          clear hK K
          try simp only [Act.put, List.setIfInBounds_toArray, List.set_cons_zero, List.set_cons_succ, List.getElem_toArray, List.getElem_cons_zero, List.getElem_cons_succ]
          generalize hg7 : A2.heap.size = gq at RQ z7 ⊢
          replace hcu7 : W0.heap.size ≤ gq := by rw [← hg7]; exact hcu7
          have HG7 := hik hg7
          clear hg7 kk
          generalize hW7 : (World.alloc A2 (.cells #[.slice none 0 0, .slice none 0 0] 110)) = A3 at KW hHeld z7 RQ HS R1 R2 ⊢
          clear hW7
          refine wpAnyH_ready (rs := [8]) (by kernel_rfl) (by simp) ?_
          refine AllReadyH.cons rfl (fun K hK => ?_) AllReadyH.nil
          have AP := hik (show W0.heap.size ≤ g1 ∧ W0.heap.size ≤ b2 ∧ W0.heap.size ≤ gq ∧ g1 ≠ b2 ∧ g1 ≠ gq ∧ b2 ≠ gq by clear KW RQ R1 R2 HS; have := HG3.out; have := HG5.out; have := HG7.out; have := z3.out; have := z5.out; have := z7.out; have hdd : W0.drew.heap.size = W0.heap.size := rfl; omega)
          have y0 : A3.cell? ⟨gq, 0, none⟩ = some (.slice none 0 0) := RQ.out.cell (i := 0) (by omega)
          have y1 : A3.cell? ⟨gq, 1, none⟩ = some (.slice none 0 0) := RQ.out.cell (i := 1) (by omega)
          have u0 := RQ.out.frozen 0
          have u1 := RQ.out.frozen 1
          have l7 := RQ.out.lt
          simp only [List.getElem_toArray, List.getElem_cons_zero, List.getElem_cons_succ]
          go_simp
          have C7 := hik (((Chg.refl (fun b => b = gq) A3).setCell (p := ⟨gq, 0, none⟩) (fun _ => rfl) (.slice (some ⟨g1, 0, none⟩) (2 * v) (2 * v))).setCell (p := ⟨gq, 1, none⟩) (fun _ => rfl) (.slice (some ⟨b2, 0, none⟩) v v))
          replace KW := hik ((KW.out.setCell (p := ⟨gq, 0, none⟩) (fun l => absurd (show gq < W0.heap.size from l) (by have := AP.out; omega)) (.slice (some ⟨g1, 0, none⟩) (2 * v) (2 * v))).setCell (p := ⟨gq, 1, none⟩) (fun l => absurd (show gq < W0.heap.size from l) (by have := AP.out; omega)) (.slice (some ⟨b2, 0, none⟩) v v))
          refine hK.out _ _ (SA.out _ KW.out) (fun hHeld => ?_)
          clear hK K
          try simp only [Act.put, List.setIfInBounds_toArray, List.set_cons_zero, List.set_cons_succ, List.getElem_toArray, List.getElem_cons_zero, List.getElem_cons_succ]
          replace R1 := hik (rowIs_chg R1.out C7.out (fun e => by have e' : g1 = gq := e; have := AP.out; omega))
          replace R2 := hik (rowIs_chg R2.out C7.out (fun e => by have e' : b2 = gq := e; have := AP.out; omega))
          replace HS := hik (HS.out.chg C7.out (fun e => by have e' : gr = gq := e; have := AP.out; omega) (fun b hb e => by have e' : b = gq := e; have := AP.out; omega))
          have RB := hik (((RQ.out.set 0 (.slice (some ⟨g1, 0, none⟩) (2 * v) (2 * v))).set 1 (.slice (some ⟨b2, 0, none⟩) v v)).congr (g := fun i => (#[.slice (some ⟨g1, 0, none⟩) (2 * v) (2 * v), .slice (some ⟨b2, 0, none⟩) v v] : Array Value).getD i undef) (fun i hi => by rcases (show i = 0 ∨ i = 1 by omega) with rfl | rfl <;> rfl))
          clear y0 y1 u0 u1 l7 C7 RQ
          refine wpAnyH_done (by kernel_rfl) ?_ _
          go_wp2_with fail
          go_meet
          exact ⟨g1, b2, gq, rfl, RB, R1, R2, HS, KW, AP⟩
        · refine AllReadyH.cons rfl (fun K hK => ?_) AllReadyH.nil
          have hcu7 : W0.heap.size ≤ A1.heap.size := KW.out.size
          
          simp only [List.getElem_toArray, List.getElem_cons_zero, List.getElem_cons_succ]
          go_simp
          have kk := (show Chg nob A1 (World.alloc A1 (.cells #[.slice none 0 0, .slice none 0 0] 110)) from (Chg.refl nob A1).alloc (.cells #[.slice none 0 0, .slice none 0 0] 110))
          replace R1 := hik (rowIs_keep R1.out kk)
          replace HS := hik (HS.out.keep kk)
          have RQ := hik (show World.rowIs (World.alloc A1 (.cells #[.slice none 0 0, .slice none 0 0] 110)) A1.heap.size 110 2 (fun i => (#[.slice none 0 0, .slice none 0 0] : Array Value).getD i undef) from rowN_new A1 2 #[.slice none 0 0, .slice none 0 0] 110 rfl)
          have z7 := hik (show A1.heap.size < (World.alloc A1 (.cells #[.slice none 0 0, .slice none 0 0] 110)).heap.size from RQ.out.lt)
          replace KW := hik (KW.out.trans (Chg.wide kk))
          refine hK.out _ _ (SA.out _ KW.out) (fun hHeld => ?_)
          clear hK K
          try simp only [Act.put, List.setIfInBounds_toArray, List.set_cons_zero, List.set_cons_succ, List.getElem_toArray, List.getElem_cons_zero, List.getElem_cons_succ]
          generalize hg7 : A1.heap.size = gq at RQ z7 ⊢
          replace hcu7 : W0.heap.size ≤ gq := by rw [← hg7]; exact hcu7
          have HG7 := hik hg7
          clear hg7 kk
          generalize hW7 : (World.alloc A1 (.cells #[.slice none 0 0, .slice none 0 0] 110)) = A2 at KW hHeld z7 RQ HS R1 ⊢
          clear hW7
          refine wpAnyH_ready (rs := [5]) (by kernel_rfl) (by simp) ?_
          refine AllReadyH.cons rfl (fun K hK => ?_) AllReadyH.nil
          have hcu5 : W0.heap.size ≤ A2.heap.size := KW.out.size
          refine stepL_make_rows _ (.tmp 13) (.tmp 13) 108 (by rfl) (by rfl) 32 i0 Tryz.underlying108 HI.out HZ0.out HZ1.out .i64 .i64 _ _ v (by rfl) (by rfl) rfl rfl HB.out (by omega) ?_
          intro A3 r_ kk
          replace R1 := hik (rowIs_keep R1.out kk)
          replace RQ := hik (rowIs_keep RQ.out kk)
          replace HS := hik (HS.out.keep kk)
          generalize hg5 : A2.heap.size = b2 at r_ hcu5 ⊢
          have HG5 := hik hg5
          clear hg5
          have R2 := hik r_
          have z5 := hik r_.lt
          replace KW := hik (KW.out.trans (Chg.wide kk))
          refine hK.out _ _ (SA.out _ KW.out) (fun hHeld => ?_)
          clear hK K
          try simp only [Act.put, List.setIfInBounds_toArray, List.set_cons_zero, List.set_cons_succ, List.getElem_toArray, List.getElem_cons_zero, List.getElem_cons_succ]
          clear r_ kk
          refine wpAnyH_take (i := 6) (v := ?_) rfl (by kernel_rfl) (by kernel_rfl) (by kernel_rfl) (fun _ _ _ h => h) (Or.inl ⟨by rfl, ?_⟩) (by assumption) ?_
          rotate_left 1
          · (intro w' hSw; (try dsimp only at hSw); go_simp; try with_reducible rfl)
          try simp only [Act.put, List.setIfInBounds_toArray, List.set_cons_zero, List.set_cons_succ, List.getElem_toArray, List.getElem_cons_zero, List.getElem_cons_succ]
          refine wpAnyH_ready (rs := [8]) (by kernel_rfl) (by simp) ?_
          refine AllReadyH.cons rfl (fun K hK => ?_) AllReadyH.nil
          have AP := hik (show W0.heap.size ≤ g1 ∧ W0.heap.size ≤ b2 ∧ W0.heap.size ≤ gq ∧ g1 ≠ b2 ∧ g1 ≠ gq ∧ b2 ≠ gq by clear KW RQ R1 R2 HS; have := HG3.out; have := HG5.out; have := HG7.out; have := z3.out; have := z5.out; have := z7.out; have hdd : W0.drew.heap.size = W0.heap.size := rfl; omega)
          have y0 : A3.cell? ⟨gq, 0, none⟩ = some (.slice none 0 0) := RQ.out.cell (i := 0) (by omega)
          have y1 : A3.cell? ⟨gq, 1, none⟩ = some (.slice none 0 0) := RQ.out.cell (i := 1) (by omega)
          have u0 := RQ.out.frozen 0
          have u1 := RQ.out.frozen 1
          have l7 := RQ.out.lt
          simp only [List.getElem_toArray, List.getElem_cons_zero, List.getElem_cons_succ]
          go_simp
          have C7 := hik (((Chg.refl (fun b => b = gq) A3).setCell (p := ⟨gq, 0, none⟩) (fun _ => rfl) (.slice (some ⟨g1, 0, none⟩) (2 * v) (2 * v))).setCell (p := ⟨gq, 1, none⟩) (fun _ => rfl) (.slice (some ⟨b2, 0, none⟩) v v))
          replace KW := hik ((KW.out.setCell (p := ⟨gq, 0, none⟩) (fun l => absurd (show gq < W0.heap.size from l) (by have := AP.out; omega)) (.slice (some ⟨g1, 0, none⟩) (2 * v) (2 * v))).setCell (p := ⟨gq, 1, none⟩) (fun l => absurd (show gq < W0.heap.size from l) (by have := AP.out; omega)) (.slice (some ⟨b2, 0, none⟩) v v))
          refine hK.out _ _ (SA.out _ KW.out) (fun hHeld => ?_)
          clear hK K
          try simp only [Act.put, List.setIfInBounds_toArray, List.set_cons_zero, List.set_cons_succ, List.getElem_toArray, List.getElem_cons_zero, List.getElem_cons_succ]
          replace R1 := hik (rowIs_chg R1.out C7.out (fun e => by have e' : g1 = gq := e; have := AP.out; omega))
          replace R2 := hik (rowIs_chg R2.out C7.out (fun e => by have e' : b2 = gq := e; have := AP.out; omega))
          replace HS := hik (HS.out.chg C7.out (fun e => by have e' : gr = gq := e; have := AP.out; omega) (fun b hb e => by have e' : b = gq := e; have := AP.out; omega))
          have RB := hik (((RQ.out.set 0 (.slice (some ⟨g1, 0, none⟩) (2 * v) (2 * v))).set 1 (.slice (some ⟨b2, 0, none⟩) v v)).congr (g := fun i => (#[.slice (some ⟨g1, 0, none⟩) (2 * v) (2 * v), .slice (some ⟨b2, 0, none⟩) v v] : Array Value).getD i undef) (fun i hi => by rcases (show i = 0 ∨ i = 1 by omega) with rfl | rfl <;> rfl))
          clear y0 y1 u0 u1 l7 C7 RQ
          refine wpAnyH_done (by kernel_rfl) ?_ _
          go_wp2_with fail
          go_meet
          exact ⟨g1, b2, gq, rfl, RB, R1, R2, HS, KW, AP⟩
      · refine AllReadyH.cons rfl (fun K hK => ?_) ?_
        · have hcu5 : W0.heap.size ≤ W0.drew.heap.size := KW.out.size
          refine stepL_make_rows _ (.tmp 13) (.tmp 13) 108 (by rfl) (by rfl) 32 i0 Tryz.underlying108 HI.out HZ0.out HZ1.out .i64 .i64 _ _ v (by rfl) (by rfl) rfl rfl HB.out (by omega) ?_
          intro A1 r_ kk
          replace HS := hik (HS.out.keep kk)
          generalize hg5 : W0.drew.heap.size = b2 at r_ hcu5 ⊢
          have HG5 := hik hg5
          clear hg5
          have R2 := hik r_
          have z5 := hik r_.lt
          replace KW := hik (KW.out.trans (Chg.wide kk))
          refine hK.out _ _ (SA.out _ KW.out) (fun hHeld => ?_)
          clear hK K
          try simp only [Act.put, List.setIfInBounds_toArray, List.set_cons_zero, List.set_cons_succ, List.getElem_toArray, List.getElem_cons_zero, List.getElem_cons_succ]
          clear r_ kk
          refine wpAnyH_ready (rs := [3, 7]) (by kernel_rfl) (by simp) ?_
          refine AllReadyH.cons rfl (fun K hK => ?_) ?_
          · have hcu3 : W0.heap.size ≤ A1.heap.size := KW.out.size
            
            refine stepL_callN 48 #[.tmp 9, .tmp 11] #[119, 3] (by rfl) (by rfl) #[.pointer (some ⟨gr, 0, none⟩), .int .i64 ((2 * v : Nat) : Int)] (by simp only [List.map_toArray, List.map_cons, List.map_nil] <;> rfl) (run_go Tryz.func48 (by kernel_rfl) (by kernel_rfl) _ _) (rdExts_any t gr n cap k (2 * v) z _ HS hz (by omega) (by have := HK.out.1; have := HQS.out; omega) HK.out.2 HC'.out) ?_
            rintro e A2 ⟨he, r_, s_, kk⟩
            have kn := kk
            replace R2 := hik (rowIs_chg R2.out kk (fun e => by have e' : _ = gr := e; omega))
            generalize hg3 : A1.heap.size = g1 at he r_ hcu3
            have HG3 := hik hg3
            clear hg3
            have R1 := hik r_
            have z3 := hik r_.lt
            replace HS := hik (show RdS A2 t gr n cap (k + 16 * v) z by have q_ := s_; rw [show k + 8 * (2 * v) = k + 16 * v by omega] at q_; exact q_)
            clear r_ s_ kn
            refine ⟨_, he, ?_⟩
            replace KW := hik (KW.out.trans kk)
            refine hK.out _ _ (SA.out _ KW.out) (fun hHeld => ?_)
            clear hK K
            try simp only [Act.put, List.setIfInBounds_toArray, List.set_cons_zero, List.set_cons_succ, List.getElem_toArray, List.getElem_cons_zero, List.getElem_cons_succ]
            clear he kk
            refine wpAnyH_take (i := 6) (v := ?_) rfl (by kernel_rfl) (by kernel_rfl) (by kernel_rfl) (fun _ _ _ h => h) (Or.inl ⟨by rfl, ?_⟩) (by assumption) ?_
            rotate_left 1
            · (intro w' hSw; (try dsimp only at hSw); go_simp; try with_reducible rfl)
            try simp only [Act.put, List.setIfInBounds_toArray, List.set_cons_zero, List.set_cons_succ, List.getElem_toArray, List.getElem_cons_zero, List.getElem_cons_succ]
            refine wpAnyH_ready (rs := [7]) (by kernel_rfl) (by simp) ?_
            refine AllReadyH.cons rfl (fun K hK => ?_) AllReadyH.nil
            have hcu7 : W0.heap.size ≤ A2.heap.size := KW.out.size
            
            simp only [List.getElem_toArray, List.getElem_cons_zero, List.getElem_cons_succ]
            go_simp
            have kk := (show Chg nob A2 (World.alloc A2 (.cells #[.slice none 0 0, .slice none 0 0] 110)) from (Chg.refl nob A2).alloc (.cells #[.slice none 0 0, .slice none 0 0] 110))
            replace R2 := hik (rowIs_keep R2.out kk)
            replace R1 := hik (rowIs_keep R1.out kk)
            replace HS := hik (HS.out.keep kk)
            have RQ := hik (show World.rowIs (World.alloc A2 (.cells #[.slice none 0 0, .slice none 0 0] 110)) A2.heap.size 110 2 (fun i => (#[.slice none 0 0, .slice none 0 0] : Array Value).getD i undef) from rowN_new A2 2 #[.slice none 0 0, .slice none 0 0] 110 rfl)
            have z7 := hik (show A2.heap.size < (World.alloc A2 (.cells #[.slice none 0 0, .slice none 0 0] 110)).heap.size from RQ.out.lt)
            replace KW := hik (KW.out.trans (Chg.wide kk))
            refine hK.out _ _ (SA.out _ KW.out) (fun hHeld => ?_)
            clear hK K
            try simp only [Act.put, List.setIfInBounds_toArray, List.set_cons_zero, List.set_cons_succ, List.getElem_toArray, List.getElem_cons_zero, List.getElem_cons_succ]
            generalize hg7 : A2.heap.size = gq at RQ z7 ⊢
            replace hcu7 : W0.heap.size ≤ gq := by rw [← hg7]; exact hcu7
            have HG7 := hik hg7
            clear hg7 kk
            generalize hW7 : (World.alloc A2 (.cells #[.slice none 0 0, .slice none 0 0] 110)) = A3 at KW hHeld z7 RQ HS R2 R1 ⊢
            clear hW7
            refine wpAnyH_ready (rs := [8]) (by kernel_rfl) (by simp) ?_
            refine AllReadyH.cons rfl (fun K hK => ?_) AllReadyH.nil
            have AP := hik (show W0.heap.size ≤ g1 ∧ W0.heap.size ≤ b2 ∧ W0.heap.size ≤ gq ∧ g1 ≠ b2 ∧ g1 ≠ gq ∧ b2 ≠ gq by clear KW RQ R1 R2 HS; have := HG3.out; have := HG5.out; have := HG7.out; have := z3.out; have := z5.out; have := z7.out; have hdd : W0.drew.heap.size = W0.heap.size := rfl; omega)
            have y0 : A3.cell? ⟨gq, 0, none⟩ = some (.slice none 0 0) := RQ.out.cell (i := 0) (by omega)
            have y1 : A3.cell? ⟨gq, 1, none⟩ = some (.slice none 0 0) := RQ.out.cell (i := 1) (by omega)
            have u0 := RQ.out.frozen 0
            have u1 := RQ.out.frozen 1
            have l7 := RQ.out.lt
            simp only [List.getElem_toArray, List.getElem_cons_zero, List.getElem_cons_succ]
            go_simp
            have C7 := hik (((Chg.refl (fun b => b = gq) A3).setCell (p := ⟨gq, 0, none⟩) (fun _ => rfl) (.slice (some ⟨g1, 0, none⟩) (2 * v) (2 * v))).setCell (p := ⟨gq, 1, none⟩) (fun _ => rfl) (.slice (some ⟨b2, 0, none⟩) v v))
            replace KW := hik ((KW.out.setCell (p := ⟨gq, 0, none⟩) (fun l => absurd (show gq < W0.heap.size from l) (by have := AP.out; omega)) (.slice (some ⟨g1, 0, none⟩) (2 * v) (2 * v))).setCell (p := ⟨gq, 1, none⟩) (fun l => absurd (show gq < W0.heap.size from l) (by have := AP.out; omega)) (.slice (some ⟨b2, 0, none⟩) v v))
            refine hK.out _ _ (SA.out _ KW.out) (fun hHeld => ?_)
            clear hK K
            try simp only [Act.put, List.setIfInBounds_toArray, List.set_cons_zero, List.set_cons_succ, List.getElem_toArray, List.getElem_cons_zero, List.getElem_cons_succ]
            replace R1 := hik (rowIs_chg R1.out C7.out (fun e => by have e' : g1 = gq := e; have := AP.out; omega))
            replace R2 := hik (rowIs_chg R2.out C7.out (fun e => by have e' : b2 = gq := e; have := AP.out; omega))
            replace HS := hik (HS.out.chg C7.out (fun e => by have e' : gr = gq := e; have := AP.out; omega) (fun b hb e => by have e' : b = gq := e; have := AP.out; omega))
            have RB := hik (((RQ.out.set 0 (.slice (some ⟨g1, 0, none⟩) (2 * v) (2 * v))).set 1 (.slice (some ⟨b2, 0, none⟩) v v)).congr (g := fun i => (#[.slice (some ⟨g1, 0, none⟩) (2 * v) (2 * v), .slice (some ⟨b2, 0, none⟩) v v] : Array Value).getD i undef) (fun i hi => by rcases (show i = 0 ∨ i = 1 by omega) with rfl | rfl <;> rfl))
            clear y0 y1 u0 u1 l7 C7 RQ
            refine wpAnyH_done (by kernel_rfl) ?_ _
            go_wp2_with fail
            go_meet
            exact ⟨g1, b2, gq, rfl, RB, R1, R2, HS, KW, AP⟩
          · refine AllReadyH.cons rfl (fun K hK => ?_) AllReadyH.nil
            have hcu7 : W0.heap.size ≤ A1.heap.size := KW.out.size
            
            simp only [List.getElem_toArray, List.getElem_cons_zero, List.getElem_cons_succ]
            go_simp
            have kk := (show Chg nob A1 (World.alloc A1 (.cells #[.slice none 0 0, .slice none 0 0] 110)) from (Chg.refl nob A1).alloc (.cells #[.slice none 0 0, .slice none 0 0] 110))
            replace R2 := hik (rowIs_keep R2.out kk)
            replace HS := hik (HS.out.keep kk)
            have RQ := hik (show World.rowIs (World.alloc A1 (.cells #[.slice none 0 0, .slice none 0 0] 110)) A1.heap.size 110 2 (fun i => (#[.slice none 0 0, .slice none 0 0] : Array Value).getD i undef) from rowN_new A1 2 #[.slice none 0 0, .slice none 0 0] 110 rfl)
            have z7 := hik (show A1.heap.size < (World.alloc A1 (.cells #[.slice none 0 0, .slice none 0 0] 110)).heap.size from RQ.out.lt)
            replace KW := hik (KW.out.trans (Chg.wide kk))
            refine hK.out _ _ (SA.out _ KW.out) (fun hHeld => ?_)
            clear hK K
            try simp only [Act.put, List.setIfInBounds_toArray, List.set_cons_zero, List.set_cons_succ, List.getElem_toArray, List.getElem_cons_zero, List.getElem_cons_succ]
            generalize hg7 : A1.heap.size = gq at RQ z7 ⊢
            replace hcu7 : W0.heap.size ≤ gq := by rw [← hg7]; exact hcu7
            have HG7 := hik hg7
            clear hg7 kk
            generalize hW7 : (World.alloc A1 (.cells #[.slice none 0 0, .slice none 0 0] 110)) = A2 at KW hHeld z7 RQ HS R2 ⊢
            clear hW7
            refine wpAnyH_ready (rs := [3]) (by kernel_rfl) (by simp) ?_
            refine AllReadyH.cons rfl (fun K hK => ?_) AllReadyH.nil
            have hcu3 : W0.heap.size ≤ A2.heap.size := KW.out.size
            
            refine stepL_callN 48 #[.tmp 9, .tmp 11] #[119, 3] (by rfl) (by rfl) #[.pointer (some ⟨gr, 0, none⟩), .int .i64 ((2 * v : Nat) : Int)] (by simp only [List.map_toArray, List.map_cons, List.map_nil] <;> rfl) (run_go Tryz.func48 (by kernel_rfl) (by kernel_rfl) _ _) (rdExts_any t gr n cap k (2 * v) z _ HS hz (by omega) (by have := HK.out.1; have := HQS.out; omega) HK.out.2 HC'.out) ?_
            rintro e A3 ⟨he, r_, s_, kk⟩
            have kn := kk
            replace R2 := hik (rowIs_chg R2.out kk (fun e => by have e' : _ = gr := e; omega))
            replace RQ := hik (rowIs_chg RQ.out kk (fun e => by have e' : _ = gr := e; omega))
            generalize hg3 : A2.heap.size = g1 at he r_ hcu3
            have HG3 := hik hg3
            clear hg3
            have R1 := hik r_
            have z3 := hik r_.lt
            replace HS := hik (show RdS A3 t gr n cap (k + 16 * v) z by have q_ := s_; rw [show k + 8 * (2 * v) = k + 16 * v by omega] at q_; exact q_)
            clear r_ s_ kn
            refine ⟨_, he, ?_⟩
            replace KW := hik (KW.out.trans kk)
            refine hK.out _ _ (SA.out _ KW.out) (fun hHeld => ?_)
            clear hK K
            try simp only [Act.put, List.setIfInBounds_toArray, List.set_cons_zero, List.set_cons_succ, List.getElem_toArray, List.getElem_cons_zero, List.getElem_cons_succ]
            clear he kk
            refine wpAnyH_take (i := 6) (v := ?_) rfl (by kernel_rfl) (by kernel_rfl) (by kernel_rfl) (fun _ _ _ h => h) (Or.inl ⟨by rfl, ?_⟩) (by assumption) ?_
            rotate_left 1
            · (intro w' hSw; (try dsimp only at hSw); go_simp; try with_reducible rfl)
            try simp only [Act.put, List.setIfInBounds_toArray, List.set_cons_zero, List.set_cons_succ, List.getElem_toArray, List.getElem_cons_zero, List.getElem_cons_succ]
            refine wpAnyH_ready (rs := [8]) (by kernel_rfl) (by simp) ?_
            refine AllReadyH.cons rfl (fun K hK => ?_) AllReadyH.nil
            have AP := hik (show W0.heap.size ≤ g1 ∧ W0.heap.size ≤ b2 ∧ W0.heap.size ≤ gq ∧ g1 ≠ b2 ∧ g1 ≠ gq ∧ b2 ≠ gq by clear KW RQ R1 R2 HS; have := HG3.out; have := HG5.out; have := HG7.out; have := z3.out; have := z5.out; have := z7.out; have hdd : W0.drew.heap.size = W0.heap.size := rfl; omega)
            have y0 : A3.cell? ⟨gq, 0, none⟩ = some (.slice none 0 0) := RQ.out.cell (i := 0) (by omega)
            have y1 : A3.cell? ⟨gq, 1, none⟩ = some (.slice none 0 0) := RQ.out.cell (i := 1) (by omega)
            have u0 := RQ.out.frozen 0
            have u1 := RQ.out.frozen 1
            have l7 := RQ.out.lt
            simp only [List.getElem_toArray, List.getElem_cons_zero, List.getElem_cons_succ]
            go_simp
            have C7 := hik (((Chg.refl (fun b => b = gq) A3).setCell (p := ⟨gq, 0, none⟩) (fun _ => rfl) (.slice (some ⟨g1, 0, none⟩) (2 * v) (2 * v))).setCell (p := ⟨gq, 1, none⟩) (fun _ => rfl) (.slice (some ⟨b2, 0, none⟩) v v))
            replace KW := hik ((KW.out.setCell (p := ⟨gq, 0, none⟩) (fun l => absurd (show gq < W0.heap.size from l) (by have := AP.out; omega)) (.slice (some ⟨g1, 0, none⟩) (2 * v) (2 * v))).setCell (p := ⟨gq, 1, none⟩) (fun l => absurd (show gq < W0.heap.size from l) (by have := AP.out; omega)) (.slice (some ⟨b2, 0, none⟩) v v))
            refine hK.out _ _ (SA.out _ KW.out) (fun hHeld => ?_)
            clear hK K
            try simp only [Act.put, List.setIfInBounds_toArray, List.set_cons_zero, List.set_cons_succ, List.getElem_toArray, List.getElem_cons_zero, List.getElem_cons_succ]
            replace R1 := hik (rowIs_chg R1.out C7.out (fun e => by have e' : g1 = gq := e; have := AP.out; omega))
            replace R2 := hik (rowIs_chg R2.out C7.out (fun e => by have e' : b2 = gq := e; have := AP.out; omega))
            replace HS := hik (HS.out.chg C7.out (fun e => by have e' : gr = gq := e; have := AP.out; omega) (fun b hb e => by have e' : b = gq := e; have := AP.out; omega))
            have RB := hik (((RQ.out.set 0 (.slice (some ⟨g1, 0, none⟩) (2 * v) (2 * v))).set 1 (.slice (some ⟨b2, 0, none⟩) v v)).congr (g := fun i => (#[.slice (some ⟨g1, 0, none⟩) (2 * v) (2 * v), .slice (some ⟨b2, 0, none⟩) v v] : Array Value).getD i undef) (fun i hi => by rcases (show i = 0 ∨ i = 1 by omega) with rfl | rfl <;> rfl))
            clear y0 y1 u0 u1 l7 C7 RQ
            refine wpAnyH_done (by kernel_rfl) ?_ _
            go_wp2_with fail
            go_meet
            exact ⟨g1, b2, gq, rfl, RB, R1, R2, HS, KW, AP⟩
        · refine AllReadyH.cons rfl (fun K hK => ?_) AllReadyH.nil
          have hcu7 : W0.heap.size ≤ W0.heap.size := Nat.le_refl _
          
          simp only [List.getElem_toArray, List.getElem_cons_zero, List.getElem_cons_succ]
          go_simp
          have kk := (show Chg nob W0.drew (World.drew (World.alloc W0 (.cells #[.slice none 0 0, .slice none 0 0] 110))) from (Chg.refl nob W0.drew).alloc (.cells #[.slice none 0 0, .slice none 0 0] 110))
          replace HS := hik (HS.out.keep kk)
          have RQ := hik (show World.rowIs (World.drew (World.alloc W0 (.cells #[.slice none 0 0, .slice none 0 0] 110))) W0.heap.size 110 2 (fun i => (#[.slice none 0 0, .slice none 0 0] : Array Value).getD i undef) from rowN_new W0 2 #[.slice none 0 0, .slice none 0 0] 110 rfl)
          have z7 := hik (show W0.heap.size < (World.drew (World.alloc W0 (.cells #[.slice none 0 0, .slice none 0 0] 110))).heap.size from RQ.out.lt)
          replace KW := hik (KW.out.trans (Chg.wide kk))
          refine hK.out _ _ (SA.out _ KW.out) (fun hHeld => ?_)
          clear hK K
          try simp only [Act.put, List.setIfInBounds_toArray, List.set_cons_zero, List.set_cons_succ, List.getElem_toArray, List.getElem_cons_zero, List.getElem_cons_succ]
          generalize hg7 : W0.heap.size = gq at RQ z7 ⊢
          replace hcu7 : W0.heap.size ≤ gq := by rw [← hg7]; exact hcu7
          have HG7 := hik hg7
          clear hg7 kk
          generalize hW7 : (World.drew (World.alloc W0 (.cells #[.slice none 0 0, .slice none 0 0] 110))) = A1 at KW hHeld z7 RQ HS  ⊢
          clear hW7
          refine wpAnyH_ready (rs := [3, 5]) (by kernel_rfl) (by simp) ?_
          refine AllReadyH.cons rfl (fun K hK => ?_) ?_
          · have hcu3 : W0.heap.size ≤ A1.heap.size := KW.out.size
            
            refine stepL_callN 48 #[.tmp 9, .tmp 11] #[119, 3] (by rfl) (by rfl) #[.pointer (some ⟨gr, 0, none⟩), .int .i64 ((2 * v : Nat) : Int)] (by simp only [List.map_toArray, List.map_cons, List.map_nil] <;> rfl) (run_go Tryz.func48 (by kernel_rfl) (by kernel_rfl) _ _) (rdExts_any t gr n cap k (2 * v) z _ HS hz (by omega) (by have := HK.out.1; have := HQS.out; omega) HK.out.2 HC'.out) ?_
            rintro e A2 ⟨he, r_, s_, kk⟩
            have kn := kk
            replace RQ := hik (rowIs_chg RQ.out kk (fun e => by have e' : _ = gr := e; omega))
            generalize hg3 : A1.heap.size = g1 at he r_ hcu3
            have HG3 := hik hg3
            clear hg3
            have R1 := hik r_
            have z3 := hik r_.lt
            replace HS := hik (show RdS A2 t gr n cap (k + 16 * v) z by have q_ := s_; rw [show k + 8 * (2 * v) = k + 16 * v by omega] at q_; exact q_)
            clear r_ s_ kn
            refine ⟨_, he, ?_⟩
            replace KW := hik (KW.out.trans kk)
            refine hK.out _ _ (SA.out _ KW.out) (fun hHeld => ?_)
            clear hK K
            try simp only [Act.put, List.setIfInBounds_toArray, List.set_cons_zero, List.set_cons_succ, List.getElem_toArray, List.getElem_cons_zero, List.getElem_cons_succ]
            clear he kk
            refine wpAnyH_ready (rs := [5]) (by kernel_rfl) (by simp) ?_
            refine AllReadyH.cons rfl (fun K hK => ?_) AllReadyH.nil
            have hcu5 : W0.heap.size ≤ A2.heap.size := KW.out.size
            refine stepL_make_rows _ (.tmp 13) (.tmp 13) 108 (by rfl) (by rfl) 32 i0 Tryz.underlying108 HI.out HZ0.out HZ1.out .i64 .i64 _ _ v (by rfl) (by rfl) rfl rfl HB.out (by omega) ?_
            intro A3 r_ kk
            replace RQ := hik (rowIs_keep RQ.out kk)
            replace R1 := hik (rowIs_keep R1.out kk)
            replace HS := hik (HS.out.keep kk)
            generalize hg5 : A2.heap.size = b2 at r_ hcu5 ⊢
            have HG5 := hik hg5
            clear hg5
            have R2 := hik r_
            have z5 := hik r_.lt
            replace KW := hik (KW.out.trans (Chg.wide kk))
            refine hK.out _ _ (SA.out _ KW.out) (fun hHeld => ?_)
            clear hK K
            try simp only [Act.put, List.setIfInBounds_toArray, List.set_cons_zero, List.set_cons_succ, List.getElem_toArray, List.getElem_cons_zero, List.getElem_cons_succ]
            clear r_ kk
            refine wpAnyH_take (i := 6) (v := ?_) rfl (by kernel_rfl) (by kernel_rfl) (by kernel_rfl) (fun _ _ _ h => h) (Or.inl ⟨by rfl, ?_⟩) (by assumption) ?_
            rotate_left 1
            · (intro w' hSw; (try dsimp only at hSw); go_simp; try with_reducible rfl)
            try simp only [Act.put, List.setIfInBounds_toArray, List.set_cons_zero, List.set_cons_succ, List.getElem_toArray, List.getElem_cons_zero, List.getElem_cons_succ]
            refine wpAnyH_ready (rs := [8]) (by kernel_rfl) (by simp) ?_
            refine AllReadyH.cons rfl (fun K hK => ?_) AllReadyH.nil
            have AP := hik (show W0.heap.size ≤ g1 ∧ W0.heap.size ≤ b2 ∧ W0.heap.size ≤ gq ∧ g1 ≠ b2 ∧ g1 ≠ gq ∧ b2 ≠ gq by clear KW RQ R1 R2 HS; have := HG3.out; have := HG5.out; have := HG7.out; have := z3.out; have := z5.out; have := z7.out; have hdd : W0.drew.heap.size = W0.heap.size := rfl; omega)
            have y0 : A3.cell? ⟨gq, 0, none⟩ = some (.slice none 0 0) := RQ.out.cell (i := 0) (by omega)
            have y1 : A3.cell? ⟨gq, 1, none⟩ = some (.slice none 0 0) := RQ.out.cell (i := 1) (by omega)
            have u0 := RQ.out.frozen 0
            have u1 := RQ.out.frozen 1
            have l7 := RQ.out.lt
            simp only [List.getElem_toArray, List.getElem_cons_zero, List.getElem_cons_succ]
            go_simp
            have C7 := hik (((Chg.refl (fun b => b = gq) A3).setCell (p := ⟨gq, 0, none⟩) (fun _ => rfl) (.slice (some ⟨g1, 0, none⟩) (2 * v) (2 * v))).setCell (p := ⟨gq, 1, none⟩) (fun _ => rfl) (.slice (some ⟨b2, 0, none⟩) v v))
            replace KW := hik ((KW.out.setCell (p := ⟨gq, 0, none⟩) (fun l => absurd (show gq < W0.heap.size from l) (by have := AP.out; omega)) (.slice (some ⟨g1, 0, none⟩) (2 * v) (2 * v))).setCell (p := ⟨gq, 1, none⟩) (fun l => absurd (show gq < W0.heap.size from l) (by have := AP.out; omega)) (.slice (some ⟨b2, 0, none⟩) v v))
            refine hK.out _ _ (SA.out _ KW.out) (fun hHeld => ?_)
            clear hK K
            try simp only [Act.put, List.setIfInBounds_toArray, List.set_cons_zero, List.set_cons_succ, List.getElem_toArray, List.getElem_cons_zero, List.getElem_cons_succ]
            replace R1 := hik (rowIs_chg R1.out C7.out (fun e => by have e' : g1 = gq := e; have := AP.out; omega))
            replace R2 := hik (rowIs_chg R2.out C7.out (fun e => by have e' : b2 = gq := e; have := AP.out; omega))
            replace HS := hik (HS.out.chg C7.out (fun e => by have e' : gr = gq := e; have := AP.out; omega) (fun b hb e => by have e' : b = gq := e; have := AP.out; omega))
            have RB := hik (((RQ.out.set 0 (.slice (some ⟨g1, 0, none⟩) (2 * v) (2 * v))).set 1 (.slice (some ⟨b2, 0, none⟩) v v)).congr (g := fun i => (#[.slice (some ⟨g1, 0, none⟩) (2 * v) (2 * v), .slice (some ⟨b2, 0, none⟩) v v] : Array Value).getD i undef) (fun i hi => by rcases (show i = 0 ∨ i = 1 by omega) with rfl | rfl <;> rfl))
            clear y0 y1 u0 u1 l7 C7 RQ
            refine wpAnyH_done (by kernel_rfl) ?_ _
            go_wp2_with fail
            go_meet
            exact ⟨g1, b2, gq, rfl, RB, R1, R2, HS, KW, AP⟩
          · refine AllReadyH.cons rfl (fun K hK => ?_) AllReadyH.nil
            have hcu5 : W0.heap.size ≤ A1.heap.size := KW.out.size
            refine stepL_make_rows _ (.tmp 13) (.tmp 13) 108 (by rfl) (by rfl) 32 i0 Tryz.underlying108 HI.out HZ0.out HZ1.out .i64 .i64 _ _ v (by rfl) (by rfl) rfl rfl HB.out (by omega) ?_
            intro A2 r_ kk
            replace RQ := hik (rowIs_keep RQ.out kk)
            replace HS := hik (HS.out.keep kk)
            generalize hg5 : A1.heap.size = b2 at r_ hcu5 ⊢
            have HG5 := hik hg5
            clear hg5
            have R2 := hik r_
            have z5 := hik r_.lt
            replace KW := hik (KW.out.trans (Chg.wide kk))
            refine hK.out _ _ (SA.out _ KW.out) (fun hHeld => ?_)
            clear hK K
            try simp only [Act.put, List.setIfInBounds_toArray, List.set_cons_zero, List.set_cons_succ, List.getElem_toArray, List.getElem_cons_zero, List.getElem_cons_succ]
            clear r_ kk
            refine wpAnyH_ready (rs := [3]) (by kernel_rfl) (by simp) ?_
            refine AllReadyH.cons rfl (fun K hK => ?_) AllReadyH.nil
            have hcu3 : W0.heap.size ≤ A2.heap.size := KW.out.size
            
            refine stepL_callN 48 #[.tmp 9, .tmp 11] #[119, 3] (by rfl) (by rfl) #[.pointer (some ⟨gr, 0, none⟩), .int .i64 ((2 * v : Nat) : Int)] (by simp only [List.map_toArray, List.map_cons, List.map_nil] <;> rfl) (run_go Tryz.func48 (by kernel_rfl) (by kernel_rfl) _ _) (rdExts_any t gr n cap k (2 * v) z _ HS hz (by omega) (by have := HK.out.1; have := HQS.out; omega) HK.out.2 HC'.out) ?_
            rintro e A3 ⟨he, r_, s_, kk⟩
            have kn := kk
            replace RQ := hik (rowIs_chg RQ.out kk (fun e => by have e' : _ = gr := e; omega))
            replace R2 := hik (rowIs_chg R2.out kk (fun e => by have e' : _ = gr := e; omega))
            generalize hg3 : A2.heap.size = g1 at he r_ hcu3
            have HG3 := hik hg3
            clear hg3
            have R1 := hik r_
            have z3 := hik r_.lt
            replace HS := hik (show RdS A3 t gr n cap (k + 16 * v) z by have q_ := s_; rw [show k + 8 * (2 * v) = k + 16 * v by omega] at q_; exact q_)
            clear r_ s_ kn
            refine ⟨_, he, ?_⟩
            replace KW := hik (KW.out.trans kk)
            refine hK.out _ _ (SA.out _ KW.out) (fun hHeld => ?_)
            clear hK K
            try simp only [Act.put, List.setIfInBounds_toArray, List.set_cons_zero, List.set_cons_succ, List.getElem_toArray, List.getElem_cons_zero, List.getElem_cons_succ]
            clear he kk
            refine wpAnyH_take (i := 6) (v := ?_) rfl (by kernel_rfl) (by kernel_rfl) (by kernel_rfl) (fun _ _ _ h => h) (Or.inl ⟨by rfl, ?_⟩) (by assumption) ?_
            rotate_left 1
            · (intro w' hSw; (try dsimp only at hSw); go_simp; try with_reducible rfl)
            try simp only [Act.put, List.setIfInBounds_toArray, List.set_cons_zero, List.set_cons_succ, List.getElem_toArray, List.getElem_cons_zero, List.getElem_cons_succ]
            refine wpAnyH_ready (rs := [8]) (by kernel_rfl) (by simp) ?_
            refine AllReadyH.cons rfl (fun K hK => ?_) AllReadyH.nil
            have AP := hik (show W0.heap.size ≤ g1 ∧ W0.heap.size ≤ b2 ∧ W0.heap.size ≤ gq ∧ g1 ≠ b2 ∧ g1 ≠ gq ∧ b2 ≠ gq by clear KW RQ R1 R2 HS; have := HG3.out; have := HG5.out; have := HG7.out; have := z3.out; have := z5.out; have := z7.out; have hdd : W0.drew.heap.size = W0.heap.size := rfl; omega)
            have y0 : A3.cell? ⟨gq, 0, none⟩ = some (.slice none 0 0) := RQ.out.cell (i := 0) (by omega)
            have y1 : A3.cell? ⟨gq, 1, none⟩ = some (.slice none 0 0) := RQ.out.cell (i := 1) (by omega)
            have u0 := RQ.out.frozen 0
            have u1 := RQ.out.frozen 1
            have l7 := RQ.out.lt
            simp only [List.getElem_toArray, List.getElem_cons_zero, List.getElem_cons_succ]
            go_simp
            have C7 := hik (((Chg.refl (fun b => b = gq) A3).setCell (p := ⟨gq, 0, none⟩) (fun _ => rfl) (.slice (some ⟨g1, 0, none⟩) (2 * v) (2 * v))).setCell (p := ⟨gq, 1, none⟩) (fun _ => rfl) (.slice (some ⟨b2, 0, none⟩) v v))
            replace KW := hik ((KW.out.setCell (p := ⟨gq, 0, none⟩) (fun l => absurd (show gq < W0.heap.size from l) (by have := AP.out; omega)) (.slice (some ⟨g1, 0, none⟩) (2 * v) (2 * v))).setCell (p := ⟨gq, 1, none⟩) (fun l => absurd (show gq < W0.heap.size from l) (by have := AP.out; omega)) (.slice (some ⟨b2, 0, none⟩) v v))
            refine hK.out _ _ (SA.out _ KW.out) (fun hHeld => ?_)
            clear hK K
            try simp only [Act.put, List.setIfInBounds_toArray, List.set_cons_zero, List.set_cons_succ, List.getElem_toArray, List.getElem_cons_zero, List.getElem_cons_succ]
            replace R1 := hik (rowIs_chg R1.out C7.out (fun e => by have e' : g1 = gq := e; have := AP.out; omega))
            replace R2 := hik (rowIs_chg R2.out C7.out (fun e => by have e' : b2 = gq := e; have := AP.out; omega))
            replace HS := hik (HS.out.chg C7.out (fun e => by have e' : gr = gq := e; have := AP.out; omega) (fun b hb e => by have e' : b = gq := e; have := AP.out; omega))
            have RB := hik (((RQ.out.set 0 (.slice (some ⟨g1, 0, none⟩) (2 * v) (2 * v))).set 1 (.slice (some ⟨b2, 0, none⟩) v v)).congr (g := fun i => (#[.slice (some ⟨g1, 0, none⟩) (2 * v) (2 * v), .slice (some ⟨b2, 0, none⟩) v v] : Array Value).getD i undef) (fun i hi => by rcases (show i = 0 ∨ i = 1 by omega) with rfl | rfl <;> rfl))
            clear y0 y1 u0 u1 l7 C7 RQ
            refine wpAnyH_done (by kernel_rfl) ?_ _
            go_wp2_with fail
            go_meet
            exact ⟨g1, b2, gq, rfl, RB, R1, R2, HS, KW, AP⟩
  case rest =>
    as_aux_lemma =>
    obtain ⟨g1, b2, gq, rfl, RB, R1, R2, HS2, KC, AP⟩ := hcut
    rename World => Wc
    replace K0 := hik (K0.out.trans KC.out)
    replace RT := hik (rowIs_chg RT.out KC.out (fun e => by have e' : _ = gr := e; omega))
    replace RX := hik (rowIs_chg RX.out KC.out (fun e => by have e' : _ = gr := e; omega))
    have HCS := hik KC.out.size
    have L1 := hik R1.out.lt
    have L2 := hik R2.out.lt
    have L3 := hik RB.out.lt
    clear KC HS HI HZ0 HZ1 HB
    have xb1 : Wc.cell? ⟨gq, 1, none⟩ = some (.slice (some ⟨b2, 0, none⟩) v v) := RB.out.cell (i := 1) (by omega)
    have zb := L3.out
    go_wp2
    clear xb1 zb
    go_loopw [19] (fun i W => ∃ (k' : Nat) (C : Nat → Option Addr) (PP lo hi : Nat → Nat), k' ≤ v ∧ i = .int .i64 (k' : Int) ∧ Hid (Prt W 32 b2 v k' (fun j => v + r - 1 - j) (fun j => .texts (v + r - 1 - j) (tz9 z (k + 16 * v + 32 * hpN v r j))) C PP lo hi) ∧ Hid (∀ i, i < k' → Wc.heap.size ≤ lo i) ∧ Hid (W.rowIs gq 110 2 (fun i => (#[.slice (some ⟨g1, 0, none⟩) (2 * v) (2 * v), .slice (some ⟨b2, 0, none⟩) v v] : Array Value).getD i undef)) ∧ Hid (W.rowIs g1 31 (2 * v * 2) (pf (rf (zk z k)) (rg (zk z k)))) ∧ Hid (RdS W t gr n cap (k + 16 * v + 32 * hpN v r k') z) ∧ Hid (W.rowIs w.heap.size 45 3 (fun i => (#[.int .i64 (r : Int), .int .i64 q, .int .i64 g] : Array Value).getD i undef)) ∧ Hid (W.rowIs (w.heap.size + 1) 110 2 (fun i => (#[.slice none 0 0, .slice none 0 0] : Array Value).getD i undef)) ∧ Hid (Chg (RG gr) w W) ∧ Hid (Wc.heap.size ≤ W.heap.size)) (fun i _ => v - (intOf i).toNat)
    case atStart => exact ⟨0, fun _ => none, fun _ => 0, fun _ => 0, fun _ => 0, Nat.zero_le _, rfl, hik ⟨R2.out.congr (fun i _ => by rw [if_neg (by omega)]), fun i hi => absurd hi (by omega), fun i j _ hj => absurd hj (by omega)⟩, hik (fun i hi => absurd hi (by omega)), RB, R1, HS2, RT, RX, K0, hik (Nat.le_refl _)⟩
    case round =>
      clear R2 RB R1 HS2 RT RX K0
      obtain ⟨k', C, PP, lo, hi, hk, rfl, HR, HLO, RB, R1, HS, RT, RX, K0, HCW⟩ := hrel
      rename World => wi
      by_cases hlt : k' < v
      · have hk1 : (k' : Int) < (v : Int) := by omega
        have hk0 : (0 : Int) ≤ (k' : Int) := by omega
        have xb1 : wi.cell? ⟨gq, 1, none⟩ = some (.slice (some ⟨b2, 0, none⟩) v v) := RB.out.cell (i := 1) (by omega)
        have xt0 : wi.cell? ⟨w.heap.size, 0, none⟩ = some (.int .i64 (r : Int)) := RT.out.cell (i := 0) (by omega)
        have xt1 : wi.cell? ⟨w.heap.size, 1, none⟩ = some (.int .i64 q) := RT.out.cell (i := 1) (by omega)
        have xt2 : wi.cell? ⟨w.heap.size, 2, none⟩ = some (.int .i64 g) := RT.out.cell (i := 2) (by omega)
        have hap := AP.out
        have hzz := HSZ.out
        go_wp2
        have KW := hik ((Chg.refl (RG gr) wi).drew1)
        have SA := hik (fun (WW : World) (kW : Chg (RG gr) wi WW) => (show (WW.cell? ⟨gq, 1, none⟩ = some (.slice (some ⟨b2, 0, none⟩) v v) ∧ WW.cell? ⟨w.heap.size, 0, none⟩ = some (.int .i64 (r : Int)) ∧ WW.cell? ⟨w.heap.size, 1, none⟩ = some (.int .i64 q) ∧ WW.cell? ⟨w.heap.size, 2, none⟩ = some (.int .i64 g)) from ⟨kW.seeG xb1 (by unfold RG; omega), kW.seeG xt0 (by unfold RG; omega), kW.seeG xt1 (by unfold RG; omega), kW.seeG xt2 (by unfold RG; omega)⟩))
        refine wp_region_held_drew (S := fun w' => w'.cell? ⟨gq, 1, none⟩ = some (.slice (some ⟨b2, 0, none⟩) v v) ∧ w'.cell? ⟨w.heap.size, 0, none⟩ = some (.int .i64 (r : Int)) ∧ w'.cell? ⟨w.heap.size, 1, none⟩ = some (.int .i64 q) ∧ w'.cell? ⟨w.heap.size, 2, none⟩ = some (.int .i64 g)) (by kernel_rfl) (SA.out _ KW.out) (fun hHeld => ?_)
        refine wpAnyH_take (i := 0) (v := ?_) rfl (by kernel_rfl) (by kernel_rfl) (by kernel_rfl) (fun _ _ _ h => h) (Or.inl ⟨by rfl, ?_⟩) (by assumption) ?_
        rotate_left 1
        · (intro w' hSw; (try dsimp only at hSw); go_simp; try with_reducible rfl)
        try simp only [Act.put, List.setIfInBounds_toArray, List.set_cons_zero, List.set_cons_succ, List.getElem_toArray, List.getElem_cons_zero, List.getElem_cons_succ]
        refine wpAnyH_take (i := 1) (v := ?_) rfl (by kernel_rfl) (by kernel_rfl) (by kernel_rfl) (fun _ _ _ h => h) (Or.inl ⟨by rfl, ?_⟩) (by assumption) ?_
        rotate_left 1
        · (intro w' hSw; (try dsimp only at hSw); go_simp; try with_reducible rfl)
        try simp only [Act.put, List.setIfInBounds_toArray, List.set_cons_zero, List.set_cons_succ, List.getElem_toArray, List.getElem_cons_zero, List.getElem_cons_succ]
        refine wpAnyH_take (i := 2) (v := ?_) rfl (by kernel_rfl) (by kernel_rfl) (by kernel_rfl) (fun _ _ _ h => h) (Or.inl ⟨by rfl, ?_⟩) (by assumption) ?_
        rotate_left 1
        · (intro w' hSw; (try dsimp only at hSw); go_simp; try with_reducible rfl)
        try simp only [Act.put, List.setIfInBounds_toArray, List.set_cons_zero, List.set_cons_succ, List.getElem_toArray, List.getElem_cons_zero, List.getElem_cons_succ]
        refine wpAnyH_take (i := 3) (v := ?_) rfl (by kernel_rfl) (by kernel_rfl) (by kernel_rfl) (fun _ _ _ h => h) (Or.inl ⟨by rfl, ?_⟩) (by assumption) ?_
        rotate_left 1
        · (intro w' hSw; (try dsimp only at hSw); go_simp; try with_reducible rfl)
        try simp only [Act.put, List.setIfInBounds_toArray, List.set_cons_zero, List.set_cons_succ, List.getElem_toArray, List.getElem_cons_zero, List.getElem_cons_succ]
        refine wpAnyH_take (i := 4) (v := ?_) rfl (by kernel_rfl) (by kernel_rfl) (by kernel_rfl) (fun _ _ _ h => h) (Or.inl ⟨by rfl, ?_⟩) (by assumption) ?_
        rotate_left 1
        · (intro w' hSw; (try dsimp only at hSw); go_simp; try with_reducible rfl)
        try simp only [Act.put, List.setIfInBounds_toArray, List.set_cons_zero, List.set_cons_succ, List.getElem_toArray, List.getElem_cons_zero, List.getElem_cons_succ]
        refine wpAnyH_take (i := 5) (v := ?_) rfl (by kernel_rfl) (by kernel_rfl) (by kernel_rfl) (fun _ _ _ h => h) (Or.inl ⟨by rfl, ?_⟩) (by assumption) ?_
        rotate_left 1
        · (intro w' hSw; (try dsimp only at hSw); go_simp; try with_reducible rfl)
        try simp only [Act.put, List.setIfInBounds_toArray, List.set_cons_zero, List.set_cons_succ, List.getElem_toArray, List.getElem_cons_zero, List.getElem_cons_succ]
        refine wpAnyH_take (i := 6) (v := ?_) rfl (by kernel_rfl) (by kernel_rfl) (by kernel_rfl) (fun _ _ _ h => h) (Or.inl ⟨by rfl, ?_⟩) (by assumption) ?_
        rotate_left 1
        · (intro w' hSw; (try dsimp only at hSw); go_simp; try with_reducible rfl)
        try simp only [Act.put, List.setIfInBounds_toArray, List.set_cons_zero, List.set_cons_succ, List.getElem_toArray, List.getElem_cons_zero, List.getElem_cons_succ]
        refine wpAnyH_ready (rs := [7]) (by kernel_rfl) (by simp) ?_
        refine AllReadyH.cons rfl (fun K hK => ?_) AllReadyH.nil
        refine stepL_callN 73 #[.tmp 26, .tmp 27, .tmp 28] #[45, 3, 3] (by rfl) (by rfl) #[.agg #[.int .i64 (r : Int), .int .i64 q, .int .i64 g], .int .i64 (v : Int), .int .i64 (k' : Int)] (by simp only [List.map_toArray, List.map_cons, List.map_nil] <;> rfl) (run_go Tryz.func73 (by kernel_rfl) (by kernel_rfl) _ _) ((pathLength_any (r : Int) q g (v : Int) (k' : Int) _ (by omega) (by omega) (by omega) (by omega) (by omega) (by omega)).mono (fun e w' h => (⟨h.1.trans (by rw [show (v : Int) + (r : Int) - 1 - (k' : Int) = ((v + r - 1 - k' : Nat) : Int) by omega]), h.2 ▸ (Chg.refl nob _).alloc _⟩ : e = .returned (.int .i64 ((v + r - 1 - k' : Nat) : Int)) ∧ Chg nob _ w'))) ?_
        rintro e B1 ⟨he, kk⟩
        replace HS := hik (HS.out.keep (((Chg.refl nob wi).drew1).trans kk))
        have zp := hik (show wi.heap.size ≤ B1.heap.size from kk.size)
        have kk := Chg.wide (P := (RG gr)) kk
        refine ⟨_, he, ?_⟩
        replace KW := hik (KW.out.trans kk)
        refine hK.out _ _ (SA.out _ KW.out) (fun hHeld => ?_)
        clear hK K
        try simp only [Act.put, List.setIfInBounds_toArray, List.set_cons_zero, List.set_cons_succ, List.getElem_toArray, List.getElem_cons_zero, List.getElem_cons_succ]
        clear he kk
        refine wpAnyH_ready (rs := [8]) (by kernel_rfl) (by simp) ?_
        refine AllReadyH.cons rfl (fun K hK => ?_) AllReadyH.nil
        refine stepL_callN 75 #[.tmp 25, .tmp 29] #[119, 3] (by rfl) (by rfl) #[.pointer (some ⟨gr, 0, none⟩), .int .i64 ((v + r - 1 - k' : Nat) : Int)] (by simp only [List.map_toArray, List.map_cons, List.map_nil] <;> rfl) (run_go Tryz.func75 (by kernel_rfl) (by kernel_rfl) _ _) (rdHashes_any t gr n cap (k + 16 * v + 32 * hpN v r k') (v + r - 1 - k') z _ HS (by omega) (by have := HK.out.1; have := HQS.out; have h9 := hpN_mono v r (show k' + 1 ≤ v by omega); simp only [hpN] at h9; omega) HK.out.2 HC'.out) ?_
        rintro e B2 ⟨he, r_, s_, kk⟩
        have O1 := hik (show (Dt.texts (v + r - 1 - k') (tz9 z (k + 16 * v + 32 * hpN v r k'))).Own B2 wi.heap.size B2.heap.size (.slice (some ⟨B1.heap.size, 0, none⟩) (v + r - 1 - k') (v + r - 1 - k')) from ⟨_, _, rfl, .inr ⟨B1.heap.size, rfl, zp.out, r_.lt, r_.lt, fun i hi => r_.cell hi, fun i _ => r_.frozen i⟩⟩)
        have HS3 := hik (show RdS B2 t gr n cap (k + 16 * v + 32 * hpN v r (k' + 1)) z by have q_ := s_; rw [show k + 16 * v + 32 * hpN v r k' + 32 * (v + r - 1 - k') = k + 16 * v + 32 * hpN v r (k' + 1) by simp only [hpN]; omega] at q_; exact q_)
        clear r_ s_ HS
        refine ⟨_, he, ?_⟩
        replace KW := hik (KW.out.trans kk)
        refine hK.out _ _ (SA.out _ KW.out) (fun hHeld => ?_)
        clear hK K
        try simp only [Act.put, List.setIfInBounds_toArray, List.set_cons_zero, List.set_cons_succ, List.getElem_toArray, List.getElem_cons_zero, List.getElem_cons_succ]
        clear he kk
        refine wpAnyH_take (i := 9) (v := ?_) rfl (by kernel_rfl) (by kernel_rfl) (by kernel_rfl) (fun _ _ _ h => h) (Or.inl ⟨by rfl, ?_⟩) (by assumption) ?_
        rotate_left 1
        · (intro w' hSw; (try dsimp only at hSw); go_simp; try with_reducible rfl)
        try simp only [Act.put, List.setIfInBounds_toArray, List.set_cons_zero, List.set_cons_succ, List.getElem_toArray, List.getElem_cons_zero, List.getElem_cons_succ]
        refine wpAnyH_ready (rs := [10]) (by kernel_rfl) (by simp) ?_
        refine AllReadyH.cons rfl (fun K hK => ?_) AllReadyH.nil
        have K1 := hik KW.out
        have HRr := hik (rowIs_chg HR.out.row KW.out (fun e => by have e' : b2 = gr := e; omega))
        have g0 := HRr.out.cell hlt
        have f0 := HRr.out.frozen k'
        have l0 := HRr.out.lt
        rw [if_neg (by omega)] at g0
        have hbw : b2 < wi.heap.size := HR.out.row.lt
        simp only [List.getElem_toArray, List.getElem_cons_zero, List.getElem_cons_succ]
        go_simp
        have HR2 := hik (Prt.stepR HR.out hlt (some ⟨B1.heap.size, 0, none⟩) (v + r - 1 - k') K1.out (by omega) hbw O1.out)
        have C7 := hik ((Chg.refl (fun b => b = b2) B2).setCell (p := ⟨b2, k', none⟩) (fun _ => rfl) (.slice (some ⟨B1.heap.size, 0, none⟩) (v + r - 1 - k') (v + r - 1 - k')))
        have KF := hik ((K0.out.trans KW.out).setCell (p := ⟨b2, k', none⟩) (fun l => absurd (show b2 < w.heap.size from l) (by omega)) (.slice (some ⟨B1.heap.size, 0, none⟩) (v + r - 1 - k') (v + r - 1 - k')))
        have KY := hik (KW.out)
        refine hK.out _ _ (by first | exact True.intro | exact ⟨by rw [World.cell?_setCell_other _ _ _ _ (by first | (simp; done) | (simp; omega))]; exact (SA.out _ KW.out).1, by rw [World.cell?_setCell_other _ _ _ _ (by first | (simp; done) | (simp; omega))]; exact (SA.out _ KW.out).2.1, by rw [World.cell?_setCell_other _ _ _ _ (by first | (simp; done) | (simp; omega))]; exact (SA.out _ KW.out).2.2.1, by rw [World.cell?_setCell_other _ _ _ _ (by first | (simp; done) | (simp; omega))]; exact (SA.out _ KW.out).2.2.2⟩) (fun hHeld => ?_)
        clear hK K
        try simp only [Act.put, List.setIfInBounds_toArray, List.set_cons_zero, List.set_cons_succ, List.getElem_toArray, List.getElem_cons_zero, List.getElem_cons_succ]
        refine wpAnyH_done (by kernel_rfl) ?_ _
        replace HS3 := hik (HS3.out.chg C7.out (fun e => by have e' : gr = b2 := e; omega) (fun b hb e => by have e' : b = b2 := e; omega))
        replace RB := hik (rowIs_chg (rowIs_chg RB.out KY.out (fun e => by have e' : gq = gr := e; omega)) C7.out (fun e => by have e' : gq = b2 := e; omega))
        replace R1 := hik (rowIs_chg (rowIs_chg R1.out KY.out (fun e => by have e' : g1 = gr := e; omega)) C7.out (fun e => by have e' : g1 = b2 := e; omega))
        replace RT := hik (rowIs_chg (rowIs_chg RT.out KY.out (fun e => by have e' : w.heap.size = gr := e; omega)) C7.out (fun e => by have e' : w.heap.size = b2 := e; omega))
        replace RX := hik (rowIs_chg (rowIs_chg RX.out KY.out (fun e => by have e' : w.heap.size + 1 = gr := e; omega)) C7.out (fun e => by have e' : w.heap.size + 1 = b2 := e; omega))
        have HLO2 := hik (show ∀ i, i < k' + 1 → Wc.heap.size ≤ upd lo k' wi.heap.size i from fun i hi => by
          by_cases e : i = k'
          · subst e; rw [upd_at]; exact HCW.out
          · rw [upd_ne _ _ e]; exact HLO.out i (by omega))
        have HCW2 := hik (Nat.le_trans HCW.out (Nat.le_trans KY.out.size C7.out.size))
        clear SA hHeld KW xb1 xt0 xt1 xt2 O1 HR K1 HRr g0 f0 l0 C7 KY K0 HCW HLO zp
        go_wp2
        go_roundw
        case rel => exact ⟨k' + 1, _, _, _, _, by omega, by go_num, HR2, HLO2, RB, R1, HS3, RT, RX, KF, HCW2⟩
        case measure => simp [intOf]; omega
      · obtain rfl : k' = v := by omega
        have hcc : ¬ (k' : Int) < (k' : Int) := by omega
        have xb0 : wi.cell? ⟨gq, 0, none⟩ = some (.slice (some ⟨g1, 0, none⟩) (2 * k') (2 * k')) := RB.out.cell (i := 0) (by omega)
        have xb1 : wi.cell? ⟨gq, 1, none⟩ = some (.slice (some ⟨b2, 0, none⟩) k' k') := RB.out.cell (i := 1) (by omega)
        have y0 : wi.cell? ⟨w.heap.size + 1, 0, none⟩ = some (.slice none 0 0) := RX.out.cell (i := 0) (by omega)
        have y1 : wi.cell? ⟨w.heap.size + 1, 1, none⟩ = some (.slice none 0 0) := RX.out.cell (i := 1) (by omega)
        have u0 := RX.out.frozen 0
        have u1 := RX.out.frozen 1
        have lx := RX.out.lt
        have lb := RB.out.lt
        have hap := AP.out
        have hzz := HSZ.out
        have OP := hik (Prt.doneK (xF := fun j => txF (k' + r - 1 - j) (tz9 z (k + 16 * k' + 32 * hpN k' r j))) HR.out HLO.out L2.out (fun i lo hi u _ q => tx_of q) k')
        have C7 := hik (((Chg.refl (fun b => b = w.heap.size + 1) wi).setCell (p := ⟨w.heap.size + 1, 0, none⟩) (fun _ => rfl) (.slice (some ⟨g1, 0, none⟩) (2 * k') (2 * k'))).setCell (p := ⟨w.heap.size + 1, 1, none⟩) (fun _ => rfl) (.slice (some ⟨b2, 0, none⟩) k' k'))
        have OP2 := hik ((liF k' 1 (fun j _ => txF (k' + r - 1 - j) (tz9 z (k + 16 * k' + 32 * hpN k' r j)))).chg C7.out OP.out (fun c hc e => by
          have e' : c = w.heap.size + 1 := e
          have hl2 := HCS.out
          rcases hc with q | q
          · omega
          · unfold Iv at q; omega))
        have R12 := hik (rowIs_chg R1.out C7.out (fun e => by have e' : g1 = w.heap.size + 1 := e; omega))
        have HS3 := hik (HS.out.chg C7.out (fun e => by have e' : gr = w.heap.size + 1 := e; omega) (fun b hb e => by have e' : b = w.heap.size + 1 := e; omega))
        have KF := hik ((K0.out.setCell (p := ⟨w.heap.size + 1, 0, none⟩) (fun l => absurd (show w.heap.size + 1 < w.heap.size from l) (by omega)) (.slice (some ⟨g1, 0, none⟩) (2 * k') (2 * k'))).setCell (p := ⟨w.heap.size + 1, 1, none⟩) (fun l => absurd (show w.heap.size + 1 < w.heap.size from l) (by omega)) (.slice (some ⟨b2, 0, none⟩) k' k'))
        have hsz : ((wi.setCell ⟨w.heap.size + 1, 0, none⟩ (.slice (some ⟨g1, 0, none⟩) (2 * k') (2 * k'))).setCell ⟨w.heap.size + 1, 1, none⟩ (.slice (some ⟨b2, 0, none⟩) k' k')).heap.size = wi.heap.size := by simp
        clear OP HR K0 HS R1
        go_wp2
        exact bodyPost_ret (v := .agg #[.slice (some ⟨g1, 0, none⟩) (2 * k') (2 * k'), .slice (some ⟨b2, 0, none⟩) k' k']) (by simp [results, Tryz.results77, go_sem, *]) rfl ⟨g1, b2, Wc.heap.size, rfl, by omega, L1.out, by omega, L2.out, hap.2.2.2.1, by rw [hsz]; exact HCW.out, R12.out, by rw [hsz]; exact OP2.out, by have q := HS3.out; rw [show k + qsz k' r = k + 16 * k' + 32 * hpN k' r k' by unfold qsz; omega]; exact q, KF.out⟩

end Go.Proofs.YtppiilbcnkphbaaGreat

namespace Go.Proofs.YtppiilbcnkphbaaGreat
open Go.ChangeShapes Go.WideShapes Go.ChangeAt Go.RowKit
set_option linter.unusedVariables false
set_option maxRecDepth 100000
set_option linter.unusedSimpArgs false

/-- k of n queries are read. -/
structure PrQ (W : World) (b n k : Nat) (x : Nat → QD) (g1 b2 mm lo hi : Nat → Nat) (B0 : Nat) : Prop where
  row : W.rowIs b 110 (n * 2) (fun i => if i < k * 2 then (if i % 2 = 0 then .slice (some ⟨g1 (i / 2), 0, none⟩) (x (i / 2)).np (x (i / 2)).np else .slice (some ⟨b2 (i / 2), 0, none⟩) (x (i / 2)).nq (x (i / 2)).nq) else .slice none 0 0)
  it : ∀ i, i < k → lo i ≤ g1 i ∧ g1 i < mm i ∧ lo i ≤ b2 i ∧ b2 i < mm i ∧ g1 i ≠ b2 i ∧ mm i ≤ hi i ∧ hi i ≤ W.heap.size ∧ W.rowIs (g1 i) 31 ((x i).np * 2) (pf (x i).f (x i).g) ∧ (x i).Sf.Own W (fun c => c = b2 i ∨ Iv (mm i) (hi i) c) (Iv (mm i) (hi i)) (.slice (some ⟨b2 i, 0, none⟩) (x i).nq (x i).nq)
  lob : ∀ i, i < k → B0 ≤ lo i
  ord : ∀ i j, i < j → j < k → hi i ≤ lo j
theorem PrQ.step {W W1 : World} {b n k gr B0 G1 B2 MM : Nat} {x : Nat → QD} {g1 b2 mm lo hi : Nat → Nat} (h : PrQ W b n k x g1 b2 mm lo hi B0) (hk : k < n) (kk : Chg (RG gr) W W1) (hg : gr < b) (hb : b < B0) (hB : B0 ≤ W.heap.size)
    (q1 : W.heap.size ≤ G1) (q2 : G1 < MM) (q3 : W.heap.size ≤ B2) (q4 : B2 < MM) (q5 : G1 ≠ B2) (q6 : MM ≤ W1.heap.size) (q7 : W1.rowIs G1 31 ((x k).np * 2) (pf (x k).f (x k).g)) (q8 : (x k).Sf.Own W1 (fun c => c = B2 ∨ Iv MM W1.heap.size c) (Iv MM W1.heap.size) (.slice (some ⟨B2, 0, none⟩) (x k).nq (x k).nq)) :
    PrQ ((W1.setCell ⟨b, k * 2, none⟩ (.slice (some ⟨G1, 0, none⟩) (x k).np (x k).np)).setCell ⟨b, k * 2 + 1, none⟩ (.slice (some ⟨B2, 0, none⟩) (x k).nq (x k).nq)) b n (k + 1) x (upd g1 k G1) (upd b2 k B2) (upd mm k MM) (upd lo k W.heap.size) (upd hi k W1.heap.size) B0 := by
  have kS : Chg (fun y => y = b) W1 ((W1.setCell ⟨b, k * 2, none⟩ (.slice (some ⟨G1, 0, none⟩) (x k).np (x k).np)).setCell ⟨b, k * 2 + 1, none⟩ (.slice (some ⟨B2, 0, none⟩) (x k).nq (x k).nq)) := ((Chg.refl (fun y => y = b) W1).setCell (p := ⟨b, k * 2, none⟩) (fun _ => rfl) _).setCell (p := ⟨b, k * 2 + 1, none⟩) (fun _ => rfl) _
  have hsz := kk.size
  refine ⟨(((rowIs_chg h.row kk (fun e => by have e' : b = gr := e; omega)).set (k * 2) _).set (k * 2 + 1) _).congr (fun i hi => ?_), fun i hi => ?_, fun i hi => ?_, fun i j hij hj => ?_⟩
  · by_cases e1 : i = k * 2 + 1
    · subst e1
      rw [if_pos rfl, if_pos (by omega), if_neg (by omega), show (k * 2 + 1) / 2 = k by omega, upd_at]
    · rw [if_neg e1]
      by_cases e0 : i = k * 2
      · subst e0
        rw [if_pos rfl, if_pos (by omega), if_pos (by omega), show (k * 2) / 2 = k by omega, upd_at]
      · rw [if_neg e0]
        by_cases e2 : i < k * 2
        · rw [if_pos e2, if_pos (show i < (k + 1) * 2 by omega), upd_ne _ _ (show i / 2 ≠ k by omega), upd_ne _ _ (show i / 2 ≠ k by omega)]
        · rw [if_neg e2, if_neg (by omega)]
  · by_cases e : i = k
    · subst e
      simp only [upd_at]
      refine ⟨q1, q2, q3, q4, q5, q6, kS.size, rowIs_chg q7 kS (fun e => by have e' : G1 = b := e; omega), (x i).Sf.chg kS q8 (fun c hc e => ?_)⟩
      have e' : c = b := e
      rcases hc with q | q
      · omega
      · unfold Iv at q; omega
    · simp only [upd_ne _ _ e]
      obtain ⟨a1, a2, a3, a4, a5, a6, a7, a8, a9⟩ := h.it i (by omega)
      have a0 := h.lob i (by omega)
      refine ⟨a1, a2, a3, a4, a5, a6, Nat.le_trans (Nat.le_trans a7 hsz) kS.size, rowIs_chg (rowIs_chg a8 kk (fun e => by have e' : g1 i = gr := e; omega)) kS (fun e => by have e' : g1 i = b := e; omega), (x i).Sf.chg kS ((x i).Sf.chg kk a9 (fun c hc e => ?_)) (fun c hc e => ?_)⟩
      · have e' : c = gr := e
        rcases hc with q | q
        · omega
        · unfold Iv at q; omega
      · have e' : c = b := e
        rcases hc with q | q
        · omega
        · unfold Iv at q; omega
  · by_cases e : i = k
    · subst e; rw [upd_at]; exact hB
    · rw [upd_ne _ _ e]; exact h.lob i (by omega)
  · have e : i ≠ k := by omega
    rw [upd_ne hi _ e]
    by_cases e2 : j = k
    · subst e2
      rw [upd_at]
      exact (h.it i (by omega)).2.2.2.2.2.2.1
    · rw [upd_ne lo _ e2]
      exact h.ord i j hij (by omega)
theorem PrQ.done {W : World} {b n B0 : Nat} {x : Nat → QD} {g1 b2 mm lo hi : Nat → Nat} (h : PrQ W b n n x g1 b2 mm lo hi B0) (hb : b < B0) : (dQsf n x).Own W (fun c => c = b ∨ Iv B0 W.heap.size c) (Iv B0 W.heap.size) (.slice (some ⟨b, 0, none⟩) n n) := by
  refine ⟨fun c hc => .inr hc, _, _, rfl, .inr ⟨b, fun i j c => if j = 0 then c = g1 i else (c = b2 i ∨ Iv (mm i) (hi i) c), fun i j c => if j = 0 then c = g1 i else Iv (mm i) (hi i) c, rfl, .inl rfl, ⟨h.row.lt, fun i j hi' hj => ?_, fun i j hi' hj => ?_, fun i j i' j' h1 h2 h3 h4 hne c q1 q2 => ?_⟩, fun i j c h1 h2 q => ?_, fun i j c h1 h2 q => ?_⟩⟩
  · obtain ⟨a1, a2, a3, a4, a5, a6, a7, a8, a9⟩ := h.it i hi'
    rcases (show j = 0 ∨ j = 1 by omega) with rfl | rfl
    · refine ⟨.slice (some ⟨g1 i, 0, none⟩) (x i).np (x i).np, ?_, ?_⟩
      · rw [h.row.cell (i := i * 2 + 0) (by omega), if_pos (by omega), if_pos (by omega), show (i * 2 + 0) / 2 = i by omega]
      · show (x i).Pf.Own W _ _ _
        exact ⟨fun c hc => hc, _, _, rfl, .inr ⟨g1 i, rfl, rfl, OwnE.of_row a8 (Nat.le_refl _)⟩⟩
    · refine ⟨.slice (some ⟨b2 i, 0, none⟩) (x i).nq (x i).nq, ?_, ?_⟩
      · rw [h.row.cell (i := i * 2 + 1) (by omega), if_pos (by omega), if_neg (by omega), show (i * 2 + 1) / 2 = i by omega]
      · exact a9
  · obtain ⟨a1, a2, a3, a4, a5, a6, a7, a8, a9⟩ := h.it i hi'
    have a0 := h.lob i hi'
    rcases (show j = 0 ∨ j = 1 by omega) with rfl | rfl
    · intro q
      have q' : b = g1 i := q
      omega
    · intro q
      have q' : Iv (mm i) (hi i) b := q
      unfold Iv at q'
      omega
  · obtain ⟨a1, a2, a3, a4, a5, a6, a7, _, _⟩ := h.it i h1
    obtain ⟨c1, c2, c3, c4, c5, c6, c7, _, _⟩ := h.it i' h3
    have o1 : i < i' → hi i ≤ lo i' := fun l => h.ord i i' l h3
    have o2 : i' < i → hi i' ≤ lo i := fun l => h.ord i' i l h1
    have hne' : ¬ i = i' ∨ ¬ j = j' := by
      by_cases e : i = i'
      · exact .inr (fun e' => hne ⟨e, e'⟩)
      · exact .inl e
    have e0 : i = i' → g1 i = g1 i' ∧ b2 i = b2 i' ∧ mm i = mm i' := fun e => by subst e; exact ⟨rfl, rfl, rfl⟩
    rcases (show j = 0 ∨ j = 1 by omega) with rfl | rfl <;> rcases (show j' = 0 ∨ j' = 1 by omega) with rfl | rfl <;> simp only [if_true, if_false, Nat.one_ne_zero, Nat.zero_ne_one] at q1 q2 <;> unfold Iv at * <;> omega
  · obtain ⟨a1, a2, a3, a4, a5, a6, a7, _, _⟩ := h.it i h1
    have a0 := h.lob i h1
    rcases (show j = 0 ∨ j = 1 by omega) with rfl | rfl <;> simp only [if_true, if_false, Nat.one_ne_zero] at q <;> unfold Iv at * <;> omega
  · obtain ⟨a1, a2, a3, a4, a5, a6, a7, _, _⟩ := h.it i h1
    have a0 := h.lob i h1
    rcases (show j = 0 ∨ j = 1 by omega) with rfl | rfl <;> simp only [if_true, if_false, Nat.one_ne_zero] at q <;> unfold Iv at * <;> omega
theorem infoQ9 : (Tryz.prog.info? 110).map (fun i => (i.zero, i.size, i.bytes)) = some (some (.agg #[.slice none 0 0, .slice none 0 0]), 2, 48) := by kernel_rfl
/-- An opening that was read. -/
def OrAns (w : World) (t : TypeId) (gr n cap k v r q : Nat) (z : Nat → Int) (e : Ending) (w' : World) : Prop :=
  ∃ bR bT bQ : Nat, e = .returned (.agg #[.slice (some ⟨bR, 0, none⟩) v v, .slice (some ⟨bT, 0, none⟩) (v - 1) (v - 1), .int .i64 (rdO z v r q k).la, .int .i64 (rdO z v r q k).lb, .int .i64 (rdO z v r q k).no, .slice (some ⟨bQ, 0, none⟩) q q]) ∧ OpF w' (Iv w.heap.size w'.heap.size) (rdO z v r q k) (some ⟨bR, 0, none⟩) v (some ⟨bT, 0, none⟩) (v - 1) (some ⟨bQ, 0, none⟩) q ∧ RdS w' t gr n cap (k + osN v r q) z ∧ Chg (RG gr) w w'
theorem one_at {W : World} {b : Nat} {z : Nat → Int} {k : Nat} (h : W.rowIs b 31 (1 * 2) (pf (rf (zk z k)) (rg (zk z k)))) : W.cell? ⟨b, 0, none⟩ = some (.int .i64 (w4 z k)) ∧ W.cell? ⟨b, 1, none⟩ = some (.int .i64 (w4 z (k + 4))) := by
  refine ⟨?_, ?_⟩
  · rw [h.cell (i := 0) (by omega)]
    show some (Value.int .i64 (rf (zk z k) 0)) = _
    unfold rf
    rw [zk_w4, Nat.zero_mul, Nat.add_zero]
  · rw [h.cell (i := 1) (by omega)]
    show some (Value.int .i64 (rg (zk z k) 0)) = _
    unfold rg
    rw [zk_w4, Nat.zero_mul, Nat.zero_add]

set_option maxHeartbeats 8000000 in
theorem rdOpening_any (t : TypeId) (gr n cap k v r q : Nat) (g : Int) (z : Nat → Int) (w : World) (h : Hid (RdS w t gr n cap k z)) (hz : Hid (∀ j, 0 ≤ z j ∧ z j < 256)) (v0 : 1 ≤ v) (v1 : v ≤ 6) (r0 : 1 ≤ r) (r1 : r ≤ 3) (q0 : 1 ≤ q) (q1 : q ≤ 8) (hk : k + osN v r q ≤ n) (hc : n ≤ cap) (hc' : (cap : Int) ≤ 9223372036854775807) :
    Calls Tryz.prog 49 #[.pointer (some ⟨gr, 0, none⟩), .int .i64 (v : Int), .agg #[.int .i64 (r : Int), .int .i64 (q : Int), .int .i64 g]] w fun e w' => OrAns w t gr n cap k v r q z e w' := by
  obtain ⟨i0, hi, hz0, hz1, hz2⟩ := info_parts infoQ9
  have HI := hik hi
  have HZ0 := hik hz0
  have HZ1 := hik hz1
  have hb : i0.bytes * q ≤ 281474976710656 := by rw [hz2]; omega
  have hgr := h.out.lt
  have HOS := hik (show osN v r q = oL9 v + 12 + q * qsz v r ∧ oL9 v = 24 * v + 32 * (v - 1) from ⟨rfl, rfl⟩)
  have HK := hik (And.intro hk hc)
  have HC' := hik hc'
  clear hi hz0 hz1 hz2 hk hc hc'
  have K0 := hik (((Chg.refl (RG gr) w).alloc (.cells #[.int .i64 (r : Int), .int .i64 (q : Int), .int .i64 g] 45)).alloc (.cells #[.slice none 0 0, .slice none 0 0, .int .i64 0, .int .i64 0, .int .i64 0, .slice none 0 0] 35))
  have RT := hik (rowIs_keep (rowN_new w 3 #[.int .i64 (r : Int), .int .i64 (q : Int), .int .i64 g] 45 rfl) ((Chg.refl nob _).alloc (.cells #[.slice none 0 0, .slice none 0 0, .int .i64 0, .int .i64 0, .int .i64 0, .slice none 0 0] 35)))
  have RX := hik (rowN_new (w.alloc (.cells #[.int .i64 (r : Int), .int .i64 (q : Int), .int .i64 g] 45)) 6 #[.slice none 0 0, .slice none 0 0, .int .i64 0, .int .i64 0, .int .i64 0, .slice none 0 0] 35 rfl)
  have HS := hik (h.out.keep (((Chg.refl nob w).alloc (.cells #[.int .i64 (r : Int), .int .i64 (q : Int), .int .i64 g] 45)).alloc (.cells #[.slice none 0 0, .slice none 0 0, .int .i64 0, .int .i64 0, .int .i64 0, .slice none 0 0] 35)))
  have HSZ := hik (show w.heap.size + 1 + 1 = ((w.alloc (.cells #[.int .i64 (r : Int), .int .i64 (q : Int), .int .i64 g] 45)).alloc (.cells #[.slice none 0 0, .slice none 0 0, .int .i64 0, .int .i64 0, .int .i64 0, .slice none 0 0] 35)).heap.size by simp)
  rw [asz] at RX
  go_enter Tryz.func49, Tryz.ntmps49
  go_upto_region 1 with fail
  generalize hW : (w.alloc (.cells #[.int .i64 (r : Int), .int .i64 (q : Int), .int .i64 g] 45)).alloc (.cells #[.slice none 0 0, .slice none 0 0, .int .i64 0, .int .i64 0, .int .i64 0, .slice none 0 0] 35) = W0 at K0 RT RX HS HSZ ⊢
  clear hW
  have hz00 : w.heap.size + 1 < W0.heap.size := by have := HSZ.out; omega
  have xt1 : W0.cell? ⟨w.heap.size, 1, none⟩ = some (.int .i64 (q : Int)) := RT.out.cell (i := 1) (by omega)
  go_wp2_with (at_make; refine wpList_make_rows2 _ rfl (.tmp 10) (.tmp 10) 33 rfl 110 i0 Tryz.underlying33 HI.out HZ0.out HZ1.out .i64 .i64 _ _ q rfl rfl rfl rfl hb (by omega) ?_)
  intro Wm rm kk
  have hWm := kk.size
  have lQ := rm.lt
  generalize hbQ : W0.heap.size = bQ at rm lQ hWm ⊢
  have hbQ2 : w.heap.size + 1 < bQ := by rw [← hbQ]; exact hz00
  replace K0 := hik (K0.out.trans (Chg.wide kk))
  replace RT := hik (rowIs_keep RT.out kk)
  replace RX := hik (rowIs_keep RX.out kk)
  replace HS := hik (HS.out.keep kk)
  have RM := hik rm
  clear kk rm HI HZ0 HZ1 hb xt1 hbQ
  have kk := (Chg.refl nob Wm).alloc (.cells #[.slice none 0 0, .slice none 0 0, .int .i64 0, .int .i64 0, .int .i64 0, .slice (some ⟨bQ, 0, none⟩) q q] 35)
  have RO := hik (rowN_new Wm 6 #[.slice none 0 0, .slice none 0 0, .int .i64 0, .int .i64 0, .int .i64 0, .slice (some ⟨bQ, 0, none⟩) q q] 35 rfl)
  have hWo : Wm.heap.size < (Wm.alloc (.cells #[.slice none 0 0, .slice none 0 0, .int .i64 0, .int .i64 0, .int .i64 0, .slice (some ⟨bQ, 0, none⟩) q q] 35)).heap.size := by simp
  replace K0 := hik (K0.out.trans (Chg.wide kk))
  replace RT := hik (rowIs_keep RT.out kk)
  replace RX := hik (rowIs_keep RX.out kk)
  replace RM := hik (rowIs_keep RM.out kk)
  replace HS := hik (HS.out.keep kk)
  clear kk
  go_wp2_with fail
  generalize hgo : Wm.heap.size = go at RO hWo lQ hWm ⊢
  generalize hW : Wm.alloc (.cells #[.slice none 0 0, .slice none 0 0, .int .i64 0, .int .i64 0, .int .i64 0, .slice (some ⟨bQ, 0, none⟩) q q] 35) = W1 at K0 RT RX RM RO HS hWo ⊢
  clear hW hgo
  refine (rdRounds_any t gr n cap k v 3 z _ HS hz (by omega) (by omega) (by omega) (by have := HK.out.1; have := HOS.out; omega) HK.out.2 HC'.out).mono ?_
  rintro e W2 ⟨rfl, oR, hs, kk⟩
  replace K0 := hik (K0.out.trans kk)
  replace RT := hik (rowIs_chg RT.out kk (fun e => by have e' : _ = gr := e; omega))
  replace RX := hik (rowIs_chg RX.out kk (fun e => by have e' : _ = gr := e; omega))
  replace RM := hik (rowIs_chg RM.out kk (fun e => by have e' : _ = gr := e; omega))
  replace RO := hik (rowIs_chg RO.out kk (fun e => by have e' : _ = gr := e; omega))
  have hk2 := kk.size
  clear kk
  replace HS := hik (show RdS W2 t gr n cap (k + 24 * v) z by have q_ := hs; rw [show k + 8 * 3 * v = k + 24 * v by omega] at q_; exact q_)
  generalize hbR : W1.heap.size = bR at oR hWo hk2 ⊢
  generalize huR : W2.heap.size = uR at oR hk2
  have OR := hik oR
  have huR2 : uR ≤ W2.heap.size := by rw [huR]; exact Nat.le_refl _
  clear huR
  have hbR2 : bQ < go := by omega
  have hbR3 : go < bR := by omega
  clear hs oR hbR
  
  have y0 : W2.cell? ⟨go, 0, none⟩ = some (.slice none 0 0) := RO.out.cell (i := 0) (by omega)
  have u0 := RO.out.frozen 0
  have lo9 := RO.out.lt
  have kS := ((Chg.refl (fun b => b = go) W2).setCell (p := ⟨go, 0, none⟩) (fun _ => rfl) (.slice (some ⟨bR, 0, none⟩) v v))
  replace K0 := hik (K0.out.setCell (p := ⟨go, 0, none⟩) (fun l => absurd (show go < w.heap.size from l) (by omega)) (.slice (some ⟨bR, 0, none⟩) v v))
  replace RT := hik (rowIs_chg RT.out kS (fun e => by have e' : _ = go := e; omega))
  replace RX := hik (rowIs_chg RX.out kS (fun e => by have e' : _ = go := e; omega))
  replace RM := hik (rowIs_chg RM.out kS (fun e => by have e' : _ = go := e; omega))
  replace OR := hik (OR.out.chg kS (fun y h1 h2 e => by have e' : y = go := e; omega))
  replace HS := hik (HS.out.chg kS (fun e => by have e' : gr = go := e; omega) (fun b hb e => by have e' : b = go := e; omega))
  replace RO := hik ((RO.out.set 0 (.slice (some ⟨bR, 0, none⟩) v v)).congr (g := (fun i => (#[.slice (some ⟨bR, 0, none⟩) v v, .slice none 0 0, .int .i64 0, .int .i64 0, .int .i64 0, .slice (some ⟨bQ, 0, none⟩) q q] : Array Value).getD i undef)) (fun i hi => by rcases (show i = 0 ∨ i = 1 ∨ i = 2 ∨ i = 3 ∨ i = 4 ∨ i = 5 by omega) with rfl | rfl | rfl | rfl | rfl | rfl <;> rfl))
  have hs_ : W2.heap.size ≤ (W2.setCell ⟨go, 0, none⟩ (.slice (some ⟨bR, 0, none⟩) v v)).heap.size := by simp
  clear kS
  
  go_wp2_with fail
  clear y0 u0 lo9 
  generalize hW : W2.setCell ⟨go, 0, none⟩ (.slice (some ⟨bR, 0, none⟩) v v) = V2 at K0 HS hs_ RT RX RM RO OR ⊢
  clear hW
  
  rw [show ((v : Int) - 1) = ((v - 1 : Nat) : Int) by omega]
  refine (rdHashes_any t gr n cap (k + 24 * v) (v - 1) z _ HS (by omega) (by have := HK.out.1; have := HOS.out; omega) HK.out.2 HC'.out).mono ?_
  
  rintro e W3 ⟨rfl, oT, hs, kk⟩
  replace K0 := hik (K0.out.trans kk)
  replace RT := hik (rowIs_chg RT.out kk (fun e => by have e' : _ = gr := e; omega))
  replace RX := hik (rowIs_chg RX.out kk (fun e => by have e' : _ = gr := e; omega))
  replace RM := hik (rowIs_chg RM.out kk (fun e => by have e' : _ = gr := e; omega))
  replace RO := hik (rowIs_chg RO.out kk (fun e => by have e' : _ = gr := e; omega))
  replace OR := hik (OR.out.chg kk (fun y h1 h2 e => by have e' : y = gr := e; omega))
  have hk3 := kk.size
  clear kk
  replace HS := hik (show RdS W3 t gr n cap (k + oL9 v) z by have q_ := hs; rw [show k + 24 * v + 32 * (v - 1) = k + oL9 v by have := HOS.out; omega] at q_; exact q_)
  have hbT0 := oT.lt
  generalize hbT : V2.heap.size = bT at oT hs_ hk3 hbT0 ⊢
  have OT := hik oT
  have hbT2 : uR ≤ bT := by omega
  have hbT4 : bR ≤ bT := by omega
  clear hs oT hbT
  
  have hz3 : uR ≤ W3.heap.size := by omega
  have hbT3 : bT < W3.heap.size := hbT0
  clear hs_
  have y1 : W3.cell? ⟨go, 1, none⟩ = some (.slice none 0 0) := RO.out.cell (i := 1) (by omega)
  have u1 := RO.out.frozen 1
  have lo9 := RO.out.lt
  have kS := ((Chg.refl (fun b => b = go) W3).setCell (p := ⟨go, 1, none⟩) (fun _ => rfl) (.slice (some ⟨bT, 0, none⟩) (v - 1) (v - 1)))
  replace K0 := hik (K0.out.setCell (p := ⟨go, 1, none⟩) (fun l => absurd (show go < w.heap.size from l) (by omega)) (.slice (some ⟨bT, 0, none⟩) (v - 1) (v - 1)))
  replace RT := hik (rowIs_chg RT.out kS (fun e => by have e' : _ = go := e; omega))
  replace RX := hik (rowIs_chg RX.out kS (fun e => by have e' : _ = go := e; omega))
  replace RM := hik (rowIs_chg RM.out kS (fun e => by have e' : _ = go := e; omega))
  replace OT := hik (rowIs_chg OT.out kS (fun e => by have e' : _ = go := e; omega))
  replace OR := hik (OR.out.chg kS (fun y h1 h2 e => by have e' : y = go := e; omega))
  replace HS := hik (HS.out.chg kS (fun e => by have e' : gr = go := e; omega) (fun b hb e => by have e' : b = go := e; omega))
  replace RO := hik ((RO.out.set 1 (.slice (some ⟨bT, 0, none⟩) (v - 1) (v - 1))).congr (g := (fun i => (#[.slice (some ⟨bR, 0, none⟩) v v, .slice (some ⟨bT, 0, none⟩) (v - 1) (v - 1), .int .i64 0, .int .i64 0, .int .i64 0, .slice (some ⟨bQ, 0, none⟩) q q] : Array Value).getD i undef)) (fun i hi => by rcases (show i = 0 ∨ i = 1 ∨ i = 2 ∨ i = 3 ∨ i = 4 ∨ i = 5 by omega) with rfl | rfl | rfl | rfl | rfl | rfl <;> rfl))
  have hs_ : W3.heap.size ≤ (W3.setCell ⟨go, 1, none⟩ (.slice (some ⟨bT, 0, none⟩) (v - 1) (v - 1))).heap.size := by simp
  clear kS
  
  go_wp2_with fail
  clear y1 u1 lo9 
  generalize hW : W3.setCell ⟨go, 1, none⟩ (.slice (some ⟨bT, 0, none⟩) (v - 1) (v - 1)) = V3 at K0 HS hs_ RT RX RM RO OT OR ⊢
  clear hW
  
  refine (rdExts_any t gr n cap (k + oL9 v) 1 z _ HS hz (by omega) (by have := HK.out.1; have := HOS.out; omega) HK.out.2 HC'.out).mono ?_
  rintro e W4 ⟨rfl, oE, hs, kk⟩
  replace K0 := hik (K0.out.trans kk)
  replace RT := hik (rowIs_chg RT.out kk (fun e => by have e' : _ = gr := e; omega))
  replace RX := hik (rowIs_chg RX.out kk (fun e => by have e' : _ = gr := e; omega))
  replace RM := hik (rowIs_chg RM.out kk (fun e => by have e' : _ = gr := e; omega))
  replace RO := hik (rowIs_chg RO.out kk (fun e => by have e' : _ = gr := e; omega))
  replace OT := hik (rowIs_chg OT.out kk (fun e => by have e' : _ = gr := e; omega))
  replace OR := hik (OR.out.chg kk (fun y h1 h2 e => by have e' : y = gr := e; omega))
  have hk4 := kk.size
  clear kk
  replace HS := hik (show RdS W4 t gr n cap (k + oL9 v + 8) z from hs)
  obtain ⟨xe0, xe1⟩ := one_at oE
  have hle := oE.lt
  generalize hbE : V3.heap.size = bE at oE hs_ hk4 hle xe0 xe1 ⊢
  have hbE2 : bT < bE := by omega
  clear hs oE hbE hs_
  
  have y2 : W4.cell? ⟨go, 2, none⟩ = some (.int .i64 0) := RO.out.cell (i := 2) (by omega)
  have u2 := RO.out.frozen 2
  have y3 : W4.cell? ⟨go, 3, none⟩ = some (.int .i64 0) := RO.out.cell (i := 3) (by omega)
  have u3 := RO.out.frozen 3
  have lo9 := RO.out.lt
  have kS := (((Chg.refl (fun b => b = go) W4).setCell (p := ⟨go, 2, none⟩) (fun _ => rfl) (.int .i64 (w4 z (k + oL9 v)))).setCell (p := ⟨go, 3, none⟩) (fun _ => rfl) (.int .i64 (w4 z (k + oL9 v + 4))))
  replace K0 := hik ((K0.out.setCell (p := ⟨go, 2, none⟩) (fun l => absurd (show go < w.heap.size from l) (by omega)) (.int .i64 (w4 z (k + oL9 v)))).setCell (p := ⟨go, 3, none⟩) (fun l => absurd (show go < w.heap.size from l) (by omega)) (.int .i64 (w4 z (k + oL9 v + 4))))
  replace RT := hik (rowIs_chg RT.out kS (fun e => by have e' : _ = go := e; omega))
  replace RX := hik (rowIs_chg RX.out kS (fun e => by have e' : _ = go := e; omega))
  replace RM := hik (rowIs_chg RM.out kS (fun e => by have e' : _ = go := e; omega))
  replace OT := hik (rowIs_chg OT.out kS (fun e => by have e' : _ = go := e; omega))
  replace OR := hik (OR.out.chg kS (fun y h1 h2 e => by have e' : y = go := e; omega))
  replace HS := hik (HS.out.chg kS (fun e => by have e' : gr = go := e; omega) (fun b hb e => by have e' : b = go := e; omega))
  replace RO := hik (((RO.out.set 2 (.int .i64 (w4 z (k + oL9 v)))).set 3 (.int .i64 (w4 z (k + oL9 v + 4)))).congr (g := (fun i => (#[.slice (some ⟨bR, 0, none⟩) v v, .slice (some ⟨bT, 0, none⟩) (v - 1) (v - 1), .int .i64 (w4 z (k + oL9 v)), .int .i64 (w4 z (k + oL9 v + 4)), .int .i64 0, .slice (some ⟨bQ, 0, none⟩) q q] : Array Value).getD i undef)) (fun i hi => by rcases (show i = 0 ∨ i = 1 ∨ i = 2 ∨ i = 3 ∨ i = 4 ∨ i = 5 by omega) with rfl | rfl | rfl | rfl | rfl | rfl <;> rfl))
  have hs_ : W4.heap.size ≤ ((W4.setCell ⟨go, 2, none⟩ (.int .i64 (w4 z (k + oL9 v)))).setCell ⟨go, 3, none⟩ (.int .i64 (w4 z (k + oL9 v + 4)))).heap.size := by simp
  clear kS
  
  go_wp2_with fail
  clear y2 u2 y3 u3 lo9 xe0 xe1
  generalize hW : (W4.setCell ⟨go, 2, none⟩ (.int .i64 (w4 z (k + oL9 v)))).setCell ⟨go, 3, none⟩ (.int .i64 (w4 z (k + oL9 v + 4))) = V4 at K0 HS hs_ RT RX RM RO OT OR ⊢
  clear hW
  
  refine (rdBytes_any t gr n cap (k + oL9 v + 8) 4 z _ HS (by omega) (by have := HK.out.1; have := HOS.out; omega) HK.out.2 HC'.out).mono ?_
  rintro e W5 ⟨xb, xo, C, rfl, hC1, hC2, hxb, hcell, hs, kk⟩
  replace K0 := hik (K0.out.trans kk)
  replace RT := hik (rowIs_chg RT.out kk (fun e => by have e' : _ = gr := e; omega))
  replace RX := hik (rowIs_chg RX.out kk (fun e => by have e' : _ = gr := e; omega))
  replace RM := hik (rowIs_chg RM.out kk (fun e => by have e' : _ = gr := e; omega))
  replace RO := hik (rowIs_chg RO.out kk (fun e => by have e' : _ = gr := e; omega))
  replace OT := hik (rowIs_chg OT.out kk (fun e => by have e' : _ = gr := e; omega))
  replace OR := hik (OR.out.chg kk (fun y h1 h2 e => by have e' : y = gr := e; omega))
  have hk5 := kk.size
  clear kk
  replace HS := hik (show RdS W5 t gr n cap (k + oL9 v + 12) z from hs)
  have CE := hik hcell
  clear hs hcell
  go_wp2_with fail
  refine (wordAt_any xb xo 4 C (k + oL9 v + 8) z _ (CE.out 0 (by omega)) (CE.out 1 (by omega)) (CE.out 2 (by omega)) (CE.out 3 (by omega)) (hz.out _).1 (hz.out _).2 (hz.out _).1 (hz.out _).2 (hz.out _).1 (hz.out _).2 (hz.out _).1 (hz.out _).2 (by omega) (by omega)).mono ?_
  rintro e W6 ⟨rfl, kk⟩
  replace K0 := hik (K0.out.trans (Chg.wide kk))
  replace RT := hik (rowIs_keep RT.out kk)
  replace RX := hik (rowIs_keep RX.out kk)
  replace RM := hik (rowIs_keep RM.out kk)
  replace RO := hik (rowIs_keep RO.out kk)
  replace OT := hik (rowIs_keep OT.out kk)
  replace OR := hik (OR.out.keep kk)
  replace HS := hik (HS.out.keep kk)
  have hk6 := kk.size
  clear kk CE hC1 hC2
  
  have hs4 := hs_
  clear hs_
  have y4 : W6.cell? ⟨go, 4, none⟩ = some (.int .i64 0) := RO.out.cell (i := 4) (by omega)
  have u4 := RO.out.frozen 4
  have lo9 := RO.out.lt
  have kS := ((Chg.refl (fun b => b = go) W6).setCell (p := ⟨go, 4, none⟩) (fun _ => rfl) (.int .i64 (w4 z (k + oL9 v + 8))))
  replace K0 := hik (K0.out.setCell (p := ⟨go, 4, none⟩) (fun l => absurd (show go < w.heap.size from l) (by omega)) (.int .i64 (w4 z (k + oL9 v + 8))))
  replace RT := hik (rowIs_chg RT.out kS (fun e => by have e' : _ = go := e; omega))
  replace RX := hik (rowIs_chg RX.out kS (fun e => by have e' : _ = go := e; omega))
  replace RM := hik (rowIs_chg RM.out kS (fun e => by have e' : _ = go := e; omega))
  replace OT := hik (rowIs_chg OT.out kS (fun e => by have e' : _ = go := e; omega))
  replace OR := hik (OR.out.chg kS (fun y h1 h2 e => by have e' : y = go := e; omega))
  replace HS := hik (HS.out.chg kS (fun e => by have e' : gr = go := e; omega) (fun b hb e => by have e' : b = go := e; omega))
  replace RO := hik ((RO.out.set 4 (.int .i64 (w4 z (k + oL9 v + 8)))).congr (g := (fun i => (#[.slice (some ⟨bR, 0, none⟩) v v, .slice (some ⟨bT, 0, none⟩) (v - 1) (v - 1), .int .i64 (w4 z (k + oL9 v)), .int .i64 (w4 z (k + oL9 v + 4)), .int .i64 (w4 z (k + oL9 v + 8)), .slice (some ⟨bQ, 0, none⟩) q q] : Array Value).getD i undef)) (fun i hi => by rcases (show i = 0 ∨ i = 1 ∨ i = 2 ∨ i = 3 ∨ i = 4 ∨ i = 5 by omega) with rfl | rfl | rfl | rfl | rfl | rfl <;> rfl))
  have hs_ : W6.heap.size ≤ (W6.setCell ⟨go, 4, none⟩ (.int .i64 (w4 z (k + oL9 v + 8)))).heap.size := by simp
  clear kS
  
  have xo5 : (W6.setCell ⟨go, 4, none⟩ (.int .i64 (w4 z (k + oL9 v + 8)))).cell? ⟨go, 5, none⟩ = some (.slice (some ⟨bQ, 0, none⟩) q q) := RO.out.cell (i := 5) (by omega)
  go_wp2
  clear y4 u4 lo9 xo5
  generalize hW : W6.setCell ⟨go, 4, none⟩ (.int .i64 (w4 z (k + oL9 v + 8))) = V6 at K0 HS hs_ RT RX RM RO OT OR ⊢
  clear hW
  have hB0 : bT < V6.heap.size := by omega
  have hB1 : uR ≤ V6.heap.size := by omega
  go_loopw [34] (fun i W => ∃ (k' : Nat) (g1 b2 mm lo hi : Nat → Nat), k' ≤ q ∧ i = .int .i64 (k' : Int) ∧ Hid (PrQ W bQ q k' (rdO z v r q k).q g1 b2 mm lo hi V6.heap.size) ∧ Hid (RdS W t gr n cap (k + oL9 v + 12 + k' * qsz v r) z) ∧ Hid (W.rowIs w.heap.size 45 3 (fun i => (#[.int .i64 (r : Int), .int .i64 (q : Int), .int .i64 g] : Array Value).getD i undef)) ∧ Hid (W.rowIs (w.heap.size + 1) 35 6 (fun i => (#[.slice none 0 0, .slice none 0 0, .int .i64 0, .int .i64 0, .int .i64 0, .slice none 0 0] : Array Value).getD i undef)) ∧ Hid (W.rowIs go 35 6 (fun i => (#[.slice (some ⟨bR, 0, none⟩) v v, .slice (some ⟨bT, 0, none⟩) (v - 1) (v - 1), .int .i64 (w4 z (k + oL9 v)), .int .i64 (w4 z (k + oL9 v + 4)), .int .i64 (w4 z (k + oL9 v + 8)), .slice (some ⟨bQ, 0, none⟩) q q] : Array Value).getD i undef)) ∧ Hid (W.rowIs bT 9 (v - 1) (sb (tz9 z (k + 24 * v)))) ∧ Hid ((dEE v (fun _ => 3) (fun i => rf (zk z (k + 8 * 3 * i))) (fun i => rg (zk z (k + 8 * 3 * i)))).Own W bR uR (.slice (some ⟨bR, 0, none⟩) v v)) ∧ Hid (Chg (RG gr) w W) ∧ Hid (V6.heap.size ≤ W.heap.size)) (fun i _ => q - (intOf i).toNat)
  case atStart => exact ⟨0, fun _ => 0, fun _ => 0, fun _ => 0, fun _ => 0, fun _ => 0, Nat.zero_le _, rfl, hik ⟨RM.out.congr (fun i _ => by rw [if_neg (by omega)]), fun i hi => absurd hi (by omega), fun i hi => absurd hi (by omega), fun i j _ hj => absurd hj (by omega)⟩, hik (by rw [Nat.zero_mul]; exact HS.out), RT, RX, RO, OT, OR, K0, hik (Nat.le_refl _)⟩
  case round =>
    clear RM HS RT RX RO OT OR K0
    obtain ⟨k', g1, b2, mm, lo, hi, hk, rfl, HQ, HS, RT, RX, RO, OT, OR, K0, HCW⟩ := hrel
    rename World => wi
    have hcw := HCW.out
    by_cases hlt : k' < q
    · have hk1 : (k' : Int) < (q : Int) := by omega
      have hk0 : (0 : Int) ≤ (k' : Int) := by omega
      have HMU := hik (show k' * qsz v r + qsz v r ≤ q * qsz v r by have := Nat.mul_le_mul_right (qsz v r) hlt; rw [Nat.succ_mul] at this; exact this)
      have HSU := hik (Nat.succ_mul k' (qsz v r))
      have xo5 : wi.cell? ⟨go, 5, none⟩ = some (.slice (some ⟨bQ, 0, none⟩) q q) := RO.out.cell (i := 5) (by omega)
      have xt0 : wi.cell? ⟨w.heap.size, 0, none⟩ = some (.int .i64 (r : Int)) := RT.out.cell (i := 0) (by omega)
      have xt1 : wi.cell? ⟨w.heap.size, 1, none⟩ = some (.int .i64 (q : Int)) := RT.out.cell (i := 1) (by omega)
      have xt2 : wi.cell? ⟨w.heap.size, 2, none⟩ = some (.int .i64 g) := RT.out.cell (i := 2) (by omega)
      go_wp2
      have KW := hik ((Chg.refl (RG gr) wi).drew1)
      have SA := hik (fun (WW : World) (kW : Chg (RG gr) wi WW) => (show (WW.cell? ⟨go, 5, none⟩ = some (.slice (some ⟨bQ, 0, none⟩) q q) ∧ WW.cell? ⟨w.heap.size, 0, none⟩ = some (.int .i64 (r : Int)) ∧ WW.cell? ⟨w.heap.size, 1, none⟩ = some (.int .i64 (q : Int)) ∧ WW.cell? ⟨w.heap.size, 2, none⟩ = some (.int .i64 g)) from ⟨kW.seeG xo5 (by unfold RG; omega), kW.seeG xt0 (by unfold RG; omega), kW.seeG xt1 (by unfold RG; omega), kW.seeG xt2 (by unfold RG; omega)⟩))
      refine wp_region_held_drew (S := fun w' => w'.cell? ⟨go, 5, none⟩ = some (.slice (some ⟨bQ, 0, none⟩) q q) ∧ w'.cell? ⟨w.heap.size, 0, none⟩ = some (.int .i64 (r : Int)) ∧ w'.cell? ⟨w.heap.size, 1, none⟩ = some (.int .i64 (q : Int)) ∧ w'.cell? ⟨w.heap.size, 2, none⟩ = some (.int .i64 g)) (by kernel_rfl) (SA.out _ KW.out) (fun hHeld => ?_)
      refine wpAnyH_take (i := 0) (v := ?_) rfl (by kernel_rfl) (by kernel_rfl) (by kernel_rfl) (fun _ _ _ h => h) (Or.inl ⟨by rfl, ?_⟩) (by assumption) ?_
      rotate_left 1
      · (intro w' hSw; (try dsimp only at hSw); go_simp; try with_reducible rfl)
      try simp only [Act.put, List.setIfInBounds_toArray, List.set_cons_zero, List.set_cons_succ, List.getElem_toArray, List.getElem_cons_zero, List.getElem_cons_succ]
      refine wpAnyH_take (i := 1) (v := ?_) rfl (by kernel_rfl) (by kernel_rfl) (by kernel_rfl) (fun _ _ _ h => h) (Or.inl ⟨by rfl, ?_⟩) (by assumption) ?_
      rotate_left 1
      · (intro w' hSw; (try dsimp only at hSw); go_simp; try with_reducible rfl)
      try simp only [Act.put, List.setIfInBounds_toArray, List.set_cons_zero, List.set_cons_succ, List.getElem_toArray, List.getElem_cons_zero, List.getElem_cons_succ]
      refine wpAnyH_take (i := 2) (v := ?_) rfl (by kernel_rfl) (by kernel_rfl) (by kernel_rfl) (fun _ _ _ h => h) (Or.inl ⟨by rfl, ?_⟩) (by assumption) ?_
      rotate_left 1
      · (intro w' hSw; (try dsimp only at hSw); go_simp; try with_reducible rfl)
      try simp only [Act.put, List.setIfInBounds_toArray, List.set_cons_zero, List.set_cons_succ, List.getElem_toArray, List.getElem_cons_zero, List.getElem_cons_succ]
      refine wpAnyH_take (i := 3) (v := ?_) rfl (by kernel_rfl) (by kernel_rfl) (by kernel_rfl) (fun _ _ _ h => h) (Or.inl ⟨by rfl, ?_⟩) (by assumption) ?_
      rotate_left 1
      · (intro w' hSw; (try dsimp only at hSw); go_simp; try with_reducible rfl)
      try simp only [Act.put, List.setIfInBounds_toArray, List.set_cons_zero, List.set_cons_succ, List.getElem_toArray, List.getElem_cons_zero, List.getElem_cons_succ]
      refine wpAnyH_take (i := 4) (v := ?_) rfl (by kernel_rfl) (by kernel_rfl) (by kernel_rfl) (fun _ _ _ h => h) (Or.inl ⟨by rfl, ?_⟩) (by assumption) ?_
      rotate_left 1
      · (intro w' hSw; (try dsimp only at hSw); go_simp; try with_reducible rfl)
      try simp only [Act.put, List.setIfInBounds_toArray, List.set_cons_zero, List.set_cons_succ, List.getElem_toArray, List.getElem_cons_zero, List.getElem_cons_succ]
      refine wpAnyH_take (i := 5) (v := ?_) rfl (by kernel_rfl) (by kernel_rfl) (by kernel_rfl) (fun _ _ _ h => h) (Or.inl ⟨by rfl, ?_⟩) (by assumption) ?_
      rotate_left 1
      · (intro w' hSw; (try dsimp only at hSw); go_simp; try with_reducible rfl)
      try simp only [Act.put, List.setIfInBounds_toArray, List.set_cons_zero, List.set_cons_succ, List.getElem_toArray, List.getElem_cons_zero, List.getElem_cons_succ]
      refine wpAnyH_ready (rs := [6]) (by kernel_rfl) (by simp) ?_
      refine AllReadyH.cons rfl (fun K hK => ?_) AllReadyH.nil
      refine stepL_callN 77 #[.tmp 40, .tmp 41, .tmp 42] #[119, 3, 45] (by rfl) (by rfl) #[.pointer (some ⟨gr, 0, none⟩), .int .i64 (v : Int), .agg #[.int .i64 (r : Int), .int .i64 (q : Int), .int .i64 g]] (by simp only [List.map_toArray, List.map_cons, List.map_nil] <;> rfl) (run_go Tryz.func77 (by kernel_rfl) (by kernel_rfl) _ _) (rdQuery_any t gr n cap (k + oL9 v + 12 + k' * qsz v r) v r (q : Int) g z _ (hik (HS.out.keep ((Chg.refl nob wi).drew1))) hz v0 v1 r0 r1 (by have := HK.out.1; have := HOS.out; have := HMU.out; have := HSU.out; omega) HK.out.2 HC'.out) ?_
      rintro e C1 ⟨G1, B2, MM, he, p1, p2, p3, p4, p5, p6, p7, p8, hs, kk⟩
      have P7 := hik p7
      have P8 := hik p8
      have HS3 := hik (show RdS C1 t gr n cap (k + oL9 v + 12 + (k' + 1) * qsz v r) z by have q_ := hs; rw [show k + oL9 v + 12 + k' * qsz v r + qsz v r = k + oL9 v + 12 + (k' + 1) * qsz v r by have := HSU.out; rw [show k' + 1 = k'.succ from rfl]; omega] at q_; exact q_)
      have PQ := hik (show wi.heap.size ≤ G1 ∧ G1 < MM ∧ wi.heap.size ≤ B2 ∧ B2 < MM ∧ G1 ≠ B2 ∧ MM ≤ C1.heap.size from ⟨p1, p2, p3, p4, p5, p6⟩)
      clear p7 p8 hs p1 p2 p3 p4 p5 p6
      refine ⟨_, he, ?_⟩
      replace KW := hik (KW.out.trans kk)
      refine hK.out _ _ (SA.out _ KW.out) (fun hHeld => ?_)
      clear hK K
      try simp only [Act.put, List.setIfInBounds_toArray, List.set_cons_zero, List.set_cons_succ, List.getElem_toArray, List.getElem_cons_zero, List.getElem_cons_succ]
      clear he kk
      refine wpAnyH_take (i := 7) (v := ?_) rfl (by kernel_rfl) (by kernel_rfl) (by kernel_rfl) (fun _ _ _ h => h) (Or.inl ⟨by rfl, ?_⟩) (by assumption) ?_
      rotate_left 1
      · (intro w' hSw; (try dsimp only at hSw); go_simp; try with_reducible rfl)
      try simp only [Act.put, List.setIfInBounds_toArray, List.set_cons_zero, List.set_cons_succ, List.getElem_toArray, List.getElem_cons_zero, List.getElem_cons_succ]
      refine wpAnyH_ready (rs := [8]) (by kernel_rfl) (by simp) ?_
      refine AllReadyH.cons rfl (fun K hK => ?_) AllReadyH.nil
      have HRr := hik (rowIs_chg HQ.out.row KW.out (fun e => by have e' : bQ = gr := e; omega))
      have g0 := HRr.out.cell (i := k' * 2) (by omega)
      have g1_ := HRr.out.cell (i := k' * 2 + 1) (by omega)
      have f0 := HRr.out.frozen (k' * 2)
      have f1 := HRr.out.frozen (k' * 2 + 1)
      have l0 := HRr.out.lt
      rw [if_neg (by omega)] at g0 g1_
      simp only [List.getElem_toArray, List.getElem_cons_zero, List.getElem_cons_succ]
      go_simp
      have HQ2 := hik (PrQ.step (k := k') HQ.out hlt KW.out (by omega) (by omega) hcw PQ.out.1 PQ.out.2.1 PQ.out.2.2.1 PQ.out.2.2.2.1 PQ.out.2.2.2.2.1 PQ.out.2.2.2.2.2 P7.out P8.out)
      have C7 := hik (((Chg.refl (fun b => b = bQ) C1).setCell (p := ⟨bQ, k' * 2, none⟩) (fun _ => rfl) (.slice (some ⟨G1, 0, none⟩) (2 * v) (2 * v))).setCell (p := ⟨bQ, k' * 2 + 1, none⟩) (fun _ => rfl) (.slice (some ⟨B2, 0, none⟩) v v))
      have KF := hik (((K0.out.trans KW.out).setCell (p := ⟨bQ, k' * 2, none⟩) (fun l => absurd (show bQ < w.heap.size from l) (by omega)) (.slice (some ⟨G1, 0, none⟩) (2 * v) (2 * v))).setCell (p := ⟨bQ, k' * 2 + 1, none⟩) (fun l => absurd (show bQ < w.heap.size from l) (by omega)) (.slice (some ⟨B2, 0, none⟩) v v))
      have KY := hik KW.out
      refine hK.out _ _ (by exact ⟨by rw [World.cell?_setCell_other _ _ _ _ (by first | (simp; done) | (simp; omega)), World.cell?_setCell_other _ _ _ _ (by first | (simp; done) | (simp; omega))]; exact (SA.out _ KW.out).1, by rw [World.cell?_setCell_other _ _ _ _ (by first | (simp; done) | (simp; omega)), World.cell?_setCell_other _ _ _ _ (by first | (simp; done) | (simp; omega))]; exact (SA.out _ KW.out).2.1, by rw [World.cell?_setCell_other _ _ _ _ (by first | (simp; done) | (simp; omega)), World.cell?_setCell_other _ _ _ _ (by first | (simp; done) | (simp; omega))]; exact (SA.out _ KW.out).2.2.1, by rw [World.cell?_setCell_other _ _ _ _ (by first | (simp; done) | (simp; omega)), World.cell?_setCell_other _ _ _ _ (by first | (simp; done) | (simp; omega))]; exact (SA.out _ KW.out).2.2.2⟩) (fun hHeld => ?_)
      clear hK K
      try simp only [Act.put, List.setIfInBounds_toArray, List.set_cons_zero, List.set_cons_succ, List.getElem_toArray, List.getElem_cons_zero, List.getElem_cons_succ]
      refine wpAnyH_done (by kernel_rfl) ?_ _
      replace HS3 := hik (HS3.out.chg C7.out (fun e => by have e' : gr = bQ := e; omega) (fun b hb e => by have e' : b = bQ := e; omega))
      replace RT := hik (rowIs_chg (rowIs_chg RT.out KY.out (fun e => by have e' : _ = gr := e; omega)) C7.out (fun e => by have e' : _ = bQ := e; omega))
      replace RX := hik (rowIs_chg (rowIs_chg RX.out KY.out (fun e => by have e' : _ = gr := e; omega)) C7.out (fun e => by have e' : _ = bQ := e; omega))
      replace RO := hik (rowIs_chg (rowIs_chg RO.out KY.out (fun e => by have e' : _ = gr := e; omega)) C7.out (fun e => by have e' : _ = bQ := e; omega))
      replace OT := hik (rowIs_chg (rowIs_chg OT.out KY.out (fun e => by have e' : _ = gr := e; omega)) C7.out (fun e => by have e' : _ = bQ := e; omega))
      replace OR := hik ((OR.out.chg KY.out (fun y h1 h2 e => by have e' : y = gr := e; omega)).chg C7.out (fun y h1 h2 e => by have e' : y = bQ := e; omega))
      have HCW2 := hik (Nat.le_trans HCW.out (Nat.le_trans KY.out.size C7.out.size))
      clear SA hHeld KW xo5 xt0 xt1 xt2 HQ HRr g0 g1_ f0 f1 l0 C7 KY K0 HCW HS P7 P8 PQ HMU HSU hcw
      go_wp2
      go_roundw
      case rel => exact ⟨k' + 1, _, _, _, _, _, by omega, by go_num, HQ2, HS3, RT, RX, RO, OT, OR, KF, HCW2⟩
      case measure => simp [intOf]; omega
    · obtain rfl : k' = q := by omega
      have hcc : ¬ (k' : Int) < (k' : Int) := by omega
      have xo0 : wi.cell? ⟨go, 0, none⟩ = some (.slice (some ⟨bR, 0, none⟩) v v) := RO.out.cell (i := 0) (by omega)
      have y0 : wi.cell? ⟨w.heap.size + 1, 0, none⟩ = some (.slice none 0 0) := RX.out.cell (i := 0) (by omega)
      have u0 := RX.out.frozen 0
      have xo1 : wi.cell? ⟨go, 1, none⟩ = some (.slice (some ⟨bT, 0, none⟩) (v - 1) (v - 1)) := RO.out.cell (i := 1) (by omega)
      have y1 : wi.cell? ⟨w.heap.size + 1, 1, none⟩ = some (.slice none 0 0) := RX.out.cell (i := 1) (by omega)
      have u1 := RX.out.frozen 1
      have xo2 : wi.cell? ⟨go, 2, none⟩ = some (.int .i64 (w4 z (k + oL9 v))) := RO.out.cell (i := 2) (by omega)
      have y2 : wi.cell? ⟨w.heap.size + 1, 2, none⟩ = some (.int .i64 0) := RX.out.cell (i := 2) (by omega)
      have u2 := RX.out.frozen 2
      have xo3 : wi.cell? ⟨go, 3, none⟩ = some (.int .i64 (w4 z (k + oL9 v + 4))) := RO.out.cell (i := 3) (by omega)
      have y3 : wi.cell? ⟨w.heap.size + 1, 3, none⟩ = some (.int .i64 0) := RX.out.cell (i := 3) (by omega)
      have u3 := RX.out.frozen 3
      have xo4 : wi.cell? ⟨go, 4, none⟩ = some (.int .i64 (w4 z (k + oL9 v + 8))) := RO.out.cell (i := 4) (by omega)
      have y4 : wi.cell? ⟨w.heap.size + 1, 4, none⟩ = some (.int .i64 0) := RX.out.cell (i := 4) (by omega)
      have u4 := RX.out.frozen 4
      have xo5 : wi.cell? ⟨go, 5, none⟩ = some (.slice (some ⟨bQ, 0, none⟩) k' k') := RO.out.cell (i := 5) (by omega)
      have y5 : wi.cell? ⟨w.heap.size + 1, 5, none⟩ = some (.slice none 0 0) := RX.out.cell (i := 5) (by omega)
      have u5 := RX.out.frozen 5
      have lx := RX.out.lt
      have lgo := RO.out.lt
      have kS := (((((((Chg.refl (fun b => b = w.heap.size + 1) wi).setCell (p := ⟨w.heap.size + 1, 0, none⟩) (fun _ => rfl) (.slice (some ⟨bR, 0, none⟩) v v)).setCell (p := ⟨w.heap.size + 1, 1, none⟩) (fun _ => rfl) (.slice (some ⟨bT, 0, none⟩) (v - 1) (v - 1))).setCell (p := ⟨w.heap.size + 1, 2, none⟩) (fun _ => rfl) (.int .i64 (w4 z (k + oL9 v)))).setCell (p := ⟨w.heap.size + 1, 3, none⟩) (fun _ => rfl) (.int .i64 (w4 z (k + oL9 v + 4)))).setCell (p := ⟨w.heap.size + 1, 4, none⟩) (fun _ => rfl) (.int .i64 (w4 z (k + oL9 v + 8)))).setCell (p := ⟨w.heap.size + 1, 5, none⟩) (fun _ => rfl) (.slice (some ⟨bQ, 0, none⟩) k' k'))
      have KF := hik ((((((K0.out.setCell (p := ⟨w.heap.size + 1, 0, none⟩) (fun l => absurd (show w.heap.size + 1 < w.heap.size from l) (by omega)) (.slice (some ⟨bR, 0, none⟩) v v)).setCell (p := ⟨w.heap.size + 1, 1, none⟩) (fun l => absurd (show w.heap.size + 1 < w.heap.size from l) (by omega)) (.slice (some ⟨bT, 0, none⟩) (v - 1) (v - 1))).setCell (p := ⟨w.heap.size + 1, 2, none⟩) (fun l => absurd (show w.heap.size + 1 < w.heap.size from l) (by omega)) (.int .i64 (w4 z (k + oL9 v)))).setCell (p := ⟨w.heap.size + 1, 3, none⟩) (fun l => absurd (show w.heap.size + 1 < w.heap.size from l) (by omega)) (.int .i64 (w4 z (k + oL9 v + 4)))).setCell (p := ⟨w.heap.size + 1, 4, none⟩) (fun l => absurd (show w.heap.size + 1 < w.heap.size from l) (by omega)) (.int .i64 (w4 z (k + oL9 v + 8)))).setCell (p := ⟨w.heap.size + 1, 5, none⟩) (fun l => absurd (show w.heap.size + 1 < w.heap.size from l) (by omega)) (.slice (some ⟨bQ, 0, none⟩) k' k'))
      have hsz : ((((((wi.setCell ⟨w.heap.size + 1, 0, none⟩ (.slice (some ⟨bR, 0, none⟩) v v)).setCell ⟨w.heap.size + 1, 1, none⟩ (.slice (some ⟨bT, 0, none⟩) (v - 1) (v - 1))).setCell ⟨w.heap.size + 1, 2, none⟩ (.int .i64 (w4 z (k + oL9 v)))).setCell ⟨w.heap.size + 1, 3, none⟩ (.int .i64 (w4 z (k + oL9 v + 4)))).setCell ⟨w.heap.size + 1, 4, none⟩ (.int .i64 (w4 z (k + oL9 v + 8)))).setCell ⟨w.heap.size + 1, 5, none⟩ (.slice (some ⟨bQ, 0, none⟩) k' k')).heap.size = wi.heap.size := by simp
      have OQ := hik ((dQsf k' (rdO z v r k' k).q).chg kS (HQ.out.done (by omega)) (fun c hc e => by
        have e' : c = w.heap.size + 1 := e
        rcases hc with q_ | q_
        · omega
        · unfold Iv at q_; omega))
      have OR2 := hik (dEEf_of (OR.out.chg kS (fun y h1 h2 e => by have e' : y = w.heap.size + 1 := e; omega)))
      have OT2 := hik (rowIs_chg OT.out kS (fun e => by have e' : bT = w.heap.size + 1 := e; omega))
      have HS3 := hik (HS.out.chg kS (fun e => by have e' : gr = w.heap.size + 1 := e; omega) (fun b hb e => by have e' : b = w.heap.size + 1 := e; omega))
      clear kS HQ K0 HS OR OT
      go_wp2
      refine bodyPost_ret (v := .agg #[.slice (some ⟨bR, 0, none⟩) v v, .slice (some ⟨bT, 0, none⟩) (v - 1) (v - 1), .int .i64 (w4 z (k + oL9 v)), .int .i64 (w4 z (k + oL9 v + 4)), .int .i64 (w4 z (k + oL9 v + 8)), .slice (some ⟨bQ, 0, none⟩) k' k']) (by simp [results, Tryz.results49, go_sem, *]) rfl ⟨bR, bT, bQ, rfl, ?_, by have q_ := HS3.out; rw [show k + osN v r k' = k + oL9 v + 12 + k' * qsz v r by have := HOS.out; omega]; exact q_, KF.out⟩
      rw [hsz]
      have OTF : (txF (v - 1) (tz9 z (k + 24 * v))).Own _ (fun c => c = bT) (fun c => c = bT) (.slice (some ⟨bT, 0, none⟩) (v - 1) (v - 1)) := ⟨fun _ x => x, _, _, rfl, .inr ⟨bT, rfl, rfl, OT2.out.lt, fun i hi => OT2.out.cell hi, fun i _ => OT2.out.frozen i⟩⟩
      refine ⟨Iv bR uR, Iv bR uR, fun c => c = bT, fun c => c = bT, fun c => c = bQ ∨ Iv V6.heap.size wi.heap.size c, Iv V6.heap.size wi.heap.size, ?_, OTF, OQ.out, fun c hc => ?_, fun c hc => ⟨fun q_ => ?_, fun q_ => ?_⟩, fun c hc => ⟨fun q_ => ?_, fun q_ => ?_⟩, fun c hc => ⟨fun q_ => ?_, fun q_ => ?_⟩⟩
      · have q_ := OR2.out
        simp only [show ∀ i, 8 * 3 * i = 24 * i from fun i => by omega] at q_
        exact q_
      all_goals (unfold Iv at *; omega)

end Go.Proofs.YtppiilbcnkphbaaGreat

namespace Go.Proofs.YtppiilbcnkphbaaGreat
open Go.RowKit
theorem Chg.seeP {P : Nat → Prop} {w w' : World} (h : Chg P w w') {b o : Nat} {v : Value} (c : w.cell? ⟨b, o, none⟩ = some v) (hp : ¬ P b) : w'.cell? ⟨b, o, none⟩ = some v :=
  (h.cell (p := ⟨b, o, none⟩) (World.block_lt_of_cell? w _ c) hp).trans c

end Go.Proofs.YtppiilbcnkphbaaGreat

namespace Go.Proofs.YtppiilbcnkphbaaGreat
open Go.ChangeShapes Go.WideShapes Go.ChangeAt Go.RowKit
set_option linter.unusedVariables false
set_option maxRecDepth 100000
set_option linter.unusedSimpArgs false

theorem results_row_tmp {P : Program} {fn : Func} {p u : Tmp} {ty : TypeId} (h : fn.results = #[.cell p ty, .tmp u]) (tmps : Array Value) (w : World) (g : Nat) (t : TypeId) (cs : Array Value) (fr : Nat × Nat) (d : TypeDesc)
    (hp : tmps.getD p undef = .pointer (some ⟨g, 0, none⟩)) (hg : w.heap[g]? = some (.cells cs t fr))
    (hu : P.underlying ty = some d) (hd : (match d with | .struct _ | .array _ _ => true | _ => false) = true) (hi : (P.info? ty).map (·.size) = some cs.size) :
    (results fn tmps).run P w = .ok (.tuple #[.agg cs, tmps.getD u undef]) w := by
  have hp' : tmps[p]?.getD undef = .pointer (some ⟨g, 0, none⟩) := by simpa using hp
  simp [results, h, hp', asAddr, run_loadVar_row w g t ty cs fr d hg hu hd hi]
theorem RdS.dr {W : World} {t : TypeId} {gr n cap k : Nat} {z : Nat → Int} (h : RdS W t gr n cap k z) : RdS W.drew t gr n cap k z := h.keep ((Chg.refl nob W).drew1)

set_option maxHeartbeats 8000000 in
theorem products_any (gr n cap k : Nat) (z : Nat → Int) (w : World) (h : Hid (RdS w 65 gr n cap k z)) (hz : Hid (∀ j, 0 ≤ z j ∧ z j < 256)) (hk : k + 24 ≤ n) (hc : n ≤ cap) (hc' : (cap : Int) ≤ 9223372036854775807) :
    Calls Tryz.prog 47 #[.pointer (some ⟨gr, 0, none⟩)] w fun e w' => e = .returned (.tuple #[.agg #[.int .i64 (w4 z k), .int .i64 (w4 z (k + 4))], .agg #[.int .i64 (w4 z (k + 8)), .int .i64 (w4 z (k + 12))], .agg #[.int .i64 (w4 z (k + 16)), .int .i64 (w4 z (k + 20))]]) ∧ RdS w' 65 gr n cap (k + 24) z ∧ Chg (RG gr) w w' := by
  have hgr := h.out.lt
  have K0 := hik ((((Chg.refl (RG gr) w).alloc (.cells #[.int .i64 0, .int .i64 0] 31)).alloc (.cells #[.int .i64 0, .int .i64 0] 31)).alloc (.cells #[.int .i64 0, .int .i64 0] 31))
  have R0 := hik (rowIs_keep (rowN_new w 2 #[.int .i64 0, .int .i64 0] 31 rfl) (((Chg.refl nob _).alloc (.cells #[.int .i64 0, .int .i64 0] 31)).alloc (.cells #[.int .i64 0, .int .i64 0] 31)))
  have R1 := hik (rowIs_keep (rowN_new (w.alloc (.cells #[.int .i64 0, .int .i64 0] 31)) 2 #[.int .i64 0, .int .i64 0] 31 rfl) ((Chg.refl nob _).alloc (.cells #[.int .i64 0, .int .i64 0] 31)))
  have R2 := hik (rowN_new ((w.alloc (.cells #[.int .i64 0, .int .i64 0] 31)).alloc (.cells #[.int .i64 0, .int .i64 0] 31)) 2 #[.int .i64 0, .int .i64 0] 31 rfl)
  have HS := hik (h.out.keep ((((Chg.refl nob w).alloc (.cells #[.int .i64 0, .int .i64 0] 31)).alloc (.cells #[.int .i64 0, .int .i64 0] 31)).alloc (.cells #[.int .i64 0, .int .i64 0] 31)))
  rw [asz] at R1
  rw [asz, asz] at R2
  go_enter Tryz.func47, Tryz.ntmps47
  go_wp2_with fail
  generalize hW : ((w.alloc (.cells #[.int .i64 0, .int .i64 0] 31)).alloc (.cells #[.int .i64 0, .int .i64 0] 31)).alloc (.cells #[.int .i64 0, .int .i64 0] 31) = W0 at K0 R0 R1 R2 HS ⊢
  clear hW
  refine (rdExts_any 65 gr n cap k 3 z _ HS hz (by omega) (by omega) hc hc').mono ?_
  rintro e W1 ⟨rfl, oE, hs, kk⟩
  replace K0 := hik (K0.out.trans kk)
  replace R0 := hik (rowIs_chg R0.out kk (fun e => by have e' : _ = gr := e; omega))
  replace R1 := hik (rowIs_chg R1.out kk (fun e => by have e' : _ = gr := e; omega))
  have hb2 := R2.out.lt
  replace R2 := hik (rowIs_chg R2.out kk (fun e => by have e' : _ = gr := e; omega))
  replace HS := hik hs
  have x0 : W1.cell? ⟨W0.heap.size, 0, none⟩ = some (.int .i64 (w4 z k)) := (pf_three oE 0 (by omega)).1
  have x1 : W1.cell? ⟨W0.heap.size, 1, none⟩ = some (.int .i64 (w4 z (k + 4))) := (pf_three oE 0 (by omega)).2
  have x2 : W1.cell? ⟨W0.heap.size, 2, none⟩ = some (.int .i64 (w4 z (k + 8))) := (pf_three oE 1 (by omega)).1
  have x3 : W1.cell? ⟨W0.heap.size, 3, none⟩ = some (.int .i64 (w4 z (k + 12))) := (pf_three oE 1 (by omega)).2
  have x4 : W1.cell? ⟨W0.heap.size, 4, none⟩ = some (.int .i64 (w4 z (k + 16))) := (pf_three oE 2 (by omega)).1
  have x5 : W1.cell? ⟨W0.heap.size, 5, none⟩ = some (.int .i64 (w4 z (k + 20))) := (pf_three oE 2 (by omega)).2
  have hle := oE.lt
  generalize hbE : W0.heap.size = bE at x0 x1 x2 x3 x4 x5 hb2 hle ⊢
  clear kk hs oE hbE
  go_wp2
  have KW := hik ((Chg.refl (Tri w.heap.size) W1).drew1)
  have SA := hik (fun (WW : World) (kW : Chg (Tri w.heap.size) W1 WW) => (show (WW.cell? ⟨bE, 0, none⟩ = some (.int .i64 (w4 z k)) ∧ WW.cell? ⟨bE, 1, none⟩ = some (.int .i64 (w4 z (k + 4))) ∧ WW.cell? ⟨bE, 2, none⟩ = some (.int .i64 (w4 z (k + 8))) ∧ WW.cell? ⟨bE, 3, none⟩ = some (.int .i64 (w4 z (k + 12))) ∧ WW.cell? ⟨bE, 4, none⟩ = some (.int .i64 (w4 z (k + 16))) ∧ WW.cell? ⟨bE, 5, none⟩ = some (.int .i64 (w4 z (k + 20)))) from ⟨kW.seeP x0 (by unfold Tri; omega), kW.seeP x1 (by unfold Tri; omega), kW.seeP x2 (by unfold Tri; omega), kW.seeP x3 (by unfold Tri; omega), kW.seeP x4 (by unfold Tri; omega), kW.seeP x5 (by unfold Tri; omega)⟩))
  refine wp_region_held_drew (S := fun w' => w'.cell? ⟨bE, 0, none⟩ = some (.int .i64 (w4 z k)) ∧ w'.cell? ⟨bE, 1, none⟩ = some (.int .i64 (w4 z (k + 4))) ∧ w'.cell? ⟨bE, 2, none⟩ = some (.int .i64 (w4 z (k + 8))) ∧ w'.cell? ⟨bE, 3, none⟩ = some (.int .i64 (w4 z (k + 12))) ∧ w'.cell? ⟨bE, 4, none⟩ = some (.int .i64 (w4 z (k + 16))) ∧ w'.cell? ⟨bE, 5, none⟩ = some (.int .i64 (w4 z (k + 20)))) (by kernel_rfl) (SA.out _ KW.out) (fun hHeld => ?_)
  refine wpAnyH_take (i := 0) (v := ?_) rfl (by kernel_rfl) (by kernel_rfl) (by kernel_rfl) (fun _ _ _ h => h) (Or.inl ⟨by rfl, ?_⟩) (by assumption) ?_
  rotate_left 1
  · (intro w' hSw; (try dsimp only at hSw); go_simp; try with_reducible rfl)
  try simp only [Act.put, List.setIfInBounds_toArray, List.set_cons_zero, List.set_cons_succ, List.getElem_toArray, List.getElem_cons_zero, List.getElem_cons_succ]
  refine wpAnyH_take (i := 1) (v := ?_) rfl (by kernel_rfl) (by kernel_rfl) (by kernel_rfl) (fun _ _ _ h => h) (Or.inl ⟨by rfl, ?_⟩) (by assumption) ?_
  rotate_left 1
  · (intro w' hSw; (try dsimp only at hSw); go_simp; try with_reducible rfl)
  try simp only [Act.put, List.setIfInBounds_toArray, List.set_cons_zero, List.set_cons_succ, List.getElem_toArray, List.getElem_cons_zero, List.getElem_cons_succ]
  refine wpAnyH_take (i := 2) (v := ?_) rfl (by kernel_rfl) (by kernel_rfl) (by kernel_rfl) (fun _ _ _ h => h) (Or.inl ⟨by rfl, ?_⟩) (by assumption) ?_
  rotate_left 1
  · (intro w' hSw; (try dsimp only at hSw); go_simp; try with_reducible rfl)
  try simp only [Act.put, List.setIfInBounds_toArray, List.set_cons_zero, List.set_cons_succ, List.getElem_toArray, List.getElem_cons_zero, List.getElem_cons_succ]
  refine wpAnyH_take (i := 3) (v := ?_) rfl (by kernel_rfl) (by kernel_rfl) (by kernel_rfl) (fun _ _ _ h => h) (Or.inl ⟨by rfl, ?_⟩) (by assumption) ?_
  rotate_left 1
  · (intro w' hSw; (try dsimp only at hSw); go_simp; try with_reducible rfl)
  try simp only [Act.put, List.setIfInBounds_toArray, List.set_cons_zero, List.set_cons_succ, List.getElem_toArray, List.getElem_cons_zero, List.getElem_cons_succ]
  refine wpAnyH_take (i := 4) (v := ?_) rfl (by kernel_rfl) (by kernel_rfl) (by kernel_rfl) (fun _ _ _ h => h) (Or.inl ⟨by rfl, ?_⟩) (by assumption) ?_
  rotate_left 1
  · (intro w' hSw; (try dsimp only at hSw); go_simp; try with_reducible rfl)
  try simp only [Act.put, List.setIfInBounds_toArray, List.set_cons_zero, List.set_cons_succ, List.getElem_toArray, List.getElem_cons_zero, List.getElem_cons_succ]
  refine wpAnyH_take (i := 5) (v := ?_) rfl (by kernel_rfl) (by kernel_rfl) (by kernel_rfl) (fun _ _ _ h => h) (Or.inl ⟨by rfl, ?_⟩) (by assumption) ?_
  rotate_left 1
  · (intro w' hSw; (try dsimp only at hSw); go_simp; try with_reducible rfl)
  try simp only [Act.put, List.setIfInBounds_toArray, List.set_cons_zero, List.set_cons_succ, List.getElem_toArray, List.getElem_cons_zero, List.getElem_cons_succ]
  refine wpAnyH_take (i := 6) (v := ?_) rfl (by kernel_rfl) (by kernel_rfl) (by kernel_rfl) (fun _ _ _ h => h) (Or.inl ⟨by rfl, ?_⟩) (by assumption) ?_
  rotate_left 1
  · (intro w' hSw; (try dsimp only at hSw); go_simp; try with_reducible rfl)
  try simp only [Act.put, List.setIfInBounds_toArray, List.set_cons_zero, List.set_cons_succ, List.getElem_toArray, List.getElem_cons_zero, List.getElem_cons_succ]
  refine wpAnyH_take (i := 7) (v := ?_) rfl (by kernel_rfl) (by kernel_rfl) (by kernel_rfl) (fun _ _ _ h => h) (Or.inl ⟨by rfl, ?_⟩) (by assumption) ?_
  rotate_left 1
  · (intro w' hSw; (try dsimp only at hSw); go_simp; try with_reducible rfl)
  try simp only [Act.put, List.setIfInBounds_toArray, List.set_cons_zero, List.set_cons_succ, List.getElem_toArray, List.getElem_cons_zero, List.getElem_cons_succ]
  refine wpAnyH_take (i := 8) (v := ?_) rfl (by kernel_rfl) (by kernel_rfl) (by kernel_rfl) (fun _ _ _ h => h) (Or.inl ⟨by rfl, ?_⟩) (by assumption) ?_
  rotate_left 1
  · (intro w' hSw; (try dsimp only at hSw); go_simp; try with_reducible rfl)
  try simp only [Act.put, List.setIfInBounds_toArray, List.set_cons_zero, List.set_cons_succ, List.getElem_toArray, List.getElem_cons_zero, List.getElem_cons_succ]
  refine wpAnyH_ready (rs := [9]) (by kernel_rfl) (by simp) ?_
  refine AllReadyH.cons rfl (fun K hK => ?_) AllReadyH.nil
  replace K0 := hik (K0.out.drew1)
  replace HS := hik HS.out.dr
  replace R0 := hik (rowIs_keep R0.out ((Chg.refl nob W1).drew1))
  replace R1 := hik (rowIs_keep R1.out ((Chg.refl nob W1).drew1))
  replace R2 := hik (rowIs_keep R2.out ((Chg.refl nob W1).drew1))
  clear hHeld
  generalize W1.drew = V0 at KW K0 HS R0 R1 R2 ⊢
  have y0 : V0.cell? ⟨w.heap.size, 0, none⟩ = some (.int .i64 0) := R0.out.cell (i := 0) (by omega)
  have u0 := R0.out.frozen 0
  have y1 : V0.cell? ⟨w.heap.size, 1, none⟩ = some (.int .i64 0) := R0.out.cell (i := 1) (by omega)
  have u1 := R0.out.frozen 1
  have l0 := R0.out.lt
  simp only [List.getElem_toArray, List.getElem_cons_zero, List.getElem_cons_succ]
  go_simp
  have kS := ((Chg.refl (fun y => y = w.heap.size) V0).setCell (p := ⟨w.heap.size, 0, none⟩) (fun _ => rfl) (.int .i64 (w4 z k))).setCell (p := ⟨w.heap.size, 1, none⟩) (fun _ => rfl) (.int .i64 (w4 z (k + 4)))
  replace KW := hik (KW.out.nearR kS (fun y e => .inl (by have e' : y = w.heap.size := e; unfold Tri; omega)))
  replace K0 := hik (K0.out.nearR kS (fun y e => .inr (by have e' : y = w.heap.size := e; omega)))
  replace HS := hik (HS.out.chg kS (fun e => by have e' : gr = w.heap.size := e; omega) (fun b hb e => by have e' : b = w.heap.size := e; omega))
  replace R0 := hik (((R0.out.set 0 (.int .i64 (w4 z k))).set 1 (.int .i64 (w4 z (k + 4)))).congr (g := (fun j => (#[(.int .i64 (w4 z k)), (.int .i64 (w4 z (k + 4)))] : Array Value).getD j undef)) (fun j hj => by rcases (show j = 0 ∨ j = 1 by omega) with rfl | rfl <;> rfl))
  replace R1 := hik (rowIs_chg R1.out kS (fun e => by have e' : w.heap.size + 1 = w.heap.size := e; omega))
  replace R2 := hik (rowIs_chg R2.out kS (fun e => by have e' : w.heap.size + 1 + 1 = w.heap.size := e; omega))
  clear kS y0 y1 u0 u1 l0
  generalize (V0.setCell ⟨w.heap.size, 0, none⟩ (.int .i64 (w4 z k))).setCell ⟨w.heap.size, 1, none⟩ (.int .i64 (w4 z (k + 4))) = V1 at KW K0 HS R0 R1 R2 ⊢
  refine hK.out _ _ (SA.out _ KW.out) (fun hHeld => ?_)
  clear hK K
  try simp only [Act.put, List.setIfInBounds_toArray, List.set_cons_zero, List.set_cons_succ, List.getElem_toArray, List.getElem_cons_zero, List.getElem_cons_succ]
  refine wpAnyH_ready (rs := [10]) (by kernel_rfl) (by simp) ?_
  refine AllReadyH.cons rfl (fun K hK => ?_) AllReadyH.nil
  have y0 : V1.cell? ⟨w.heap.size + 1, 0, none⟩ = some (.int .i64 0) := R1.out.cell (i := 0) (by omega)
  have u0 := R1.out.frozen 0
  have y1 : V1.cell? ⟨w.heap.size + 1, 1, none⟩ = some (.int .i64 0) := R1.out.cell (i := 1) (by omega)
  have u1 := R1.out.frozen 1
  have l0 := R1.out.lt
  simp only [List.getElem_toArray, List.getElem_cons_zero, List.getElem_cons_succ]
  go_simp
  have kS := ((Chg.refl (fun y => y = w.heap.size + 1) V1).setCell (p := ⟨w.heap.size + 1, 0, none⟩) (fun _ => rfl) (.int .i64 (w4 z (k + 8)))).setCell (p := ⟨w.heap.size + 1, 1, none⟩) (fun _ => rfl) (.int .i64 (w4 z (k + 12)))
  replace KW := hik (KW.out.nearR kS (fun y e => .inl (by have e' : y = w.heap.size + 1 := e; unfold Tri; omega)))
  replace K0 := hik (K0.out.nearR kS (fun y e => .inr (by have e' : y = w.heap.size + 1 := e; omega)))
  replace HS := hik (HS.out.chg kS (fun e => by have e' : gr = w.heap.size + 1 := e; omega) (fun b hb e => by have e' : b = w.heap.size + 1 := e; omega))
  replace R0 := hik (rowIs_chg R0.out kS (fun e => by have e' : w.heap.size = w.heap.size + 1 := e; omega))
  replace R1 := hik (((R1.out.set 0 (.int .i64 (w4 z (k + 8)))).set 1 (.int .i64 (w4 z (k + 12)))).congr (g := (fun j => (#[(.int .i64 (w4 z (k + 8))), (.int .i64 (w4 z (k + 12)))] : Array Value).getD j undef)) (fun j hj => by rcases (show j = 0 ∨ j = 1 by omega) with rfl | rfl <;> rfl))
  replace R2 := hik (rowIs_chg R2.out kS (fun e => by have e' : w.heap.size + 1 + 1 = w.heap.size + 1 := e; omega))
  clear kS y0 y1 u0 u1 l0
  generalize (V1.setCell ⟨w.heap.size + 1, 0, none⟩ (.int .i64 (w4 z (k + 8)))).setCell ⟨w.heap.size + 1, 1, none⟩ (.int .i64 (w4 z (k + 12))) = V2 at KW K0 HS R0 R1 R2 ⊢
  refine hK.out _ _ (SA.out _ KW.out) (fun hHeld => ?_)
  clear hK K
  try simp only [Act.put, List.setIfInBounds_toArray, List.set_cons_zero, List.set_cons_succ, List.getElem_toArray, List.getElem_cons_zero, List.getElem_cons_succ]
  refine wpAnyH_ready (rs := [11]) (by kernel_rfl) (by simp) ?_
  refine AllReadyH.cons rfl (fun K hK => ?_) AllReadyH.nil
  have y0 : V2.cell? ⟨w.heap.size + 1 + 1, 0, none⟩ = some (.int .i64 0) := R2.out.cell (i := 0) (by omega)
  have u0 := R2.out.frozen 0
  have y1 : V2.cell? ⟨w.heap.size + 1 + 1, 1, none⟩ = some (.int .i64 0) := R2.out.cell (i := 1) (by omega)
  have u1 := R2.out.frozen 1
  have l0 := R2.out.lt
  simp only [List.getElem_toArray, List.getElem_cons_zero, List.getElem_cons_succ]
  go_simp
  have kS := ((Chg.refl (fun y => y = w.heap.size + 1 + 1) V2).setCell (p := ⟨w.heap.size + 1 + 1, 0, none⟩) (fun _ => rfl) (.int .i64 (w4 z (k + 16)))).setCell (p := ⟨w.heap.size + 1 + 1, 1, none⟩) (fun _ => rfl) (.int .i64 (w4 z (k + 20)))
  replace KW := hik (KW.out.nearR kS (fun y e => .inl (by have e' : y = w.heap.size + 1 + 1 := e; unfold Tri; omega)))
  replace K0 := hik (K0.out.nearR kS (fun y e => .inr (by have e' : y = w.heap.size + 1 + 1 := e; omega)))
  replace HS := hik (HS.out.chg kS (fun e => by have e' : gr = w.heap.size + 1 + 1 := e; omega) (fun b hb e => by have e' : b = w.heap.size + 1 + 1 := e; omega))
  replace R0 := hik (rowIs_chg R0.out kS (fun e => by have e' : w.heap.size = w.heap.size + 1 + 1 := e; omega))
  replace R1 := hik (rowIs_chg R1.out kS (fun e => by have e' : w.heap.size + 1 = w.heap.size + 1 + 1 := e; omega))
  replace R2 := hik (((R2.out.set 0 (.int .i64 (w4 z (k + 16)))).set 1 (.int .i64 (w4 z (k + 20)))).congr (g := (fun j => (#[(.int .i64 (w4 z (k + 16))), (.int .i64 (w4 z (k + 20)))] : Array Value).getD j undef)) (fun j hj => by rcases (show j = 0 ∨ j = 1 by omega) with rfl | rfl <;> rfl))
  clear kS y0 y1 u0 u1 l0
  generalize (V2.setCell ⟨w.heap.size + 1 + 1, 0, none⟩ (.int .i64 (w4 z (k + 16)))).setCell ⟨w.heap.size + 1 + 1, 1, none⟩ (.int .i64 (w4 z (k + 20))) = V3 at KW K0 HS R0 R1 R2 ⊢
  refine hK.out _ _ (SA.out _ KW.out) (fun hHeld => ?_)
  clear hK K
  try simp only [Act.put, List.setIfInBounds_toArray, List.set_cons_zero, List.set_cons_succ, List.getElem_toArray, List.getElem_cons_zero, List.getElem_cons_succ]
  refine wpAnyH_done (by kernel_rfl) ?_ _
  clear SA KW hHeld x0 x1 x2 x3 x4 x5
  have z00 : V3.cell? ⟨w.heap.size, 0, none⟩ = some (.int .i64 (w4 z k)) := R0.out.cell (i := 0) (by omega)
  have z01 : V3.cell? ⟨w.heap.size, 1, none⟩ = some (.int .i64 (w4 z (k + 4))) := R0.out.cell (i := 1) (by omega)
  have z10 : V3.cell? ⟨w.heap.size + 1, 0, none⟩ = some (.int .i64 (w4 z (k + 8))) := R1.out.cell (i := 0) (by omega)
  have z11 : V3.cell? ⟨w.heap.size + 1, 1, none⟩ = some (.int .i64 (w4 z (k + 12))) := R1.out.cell (i := 1) (by omega)
  have z20 : V3.cell? ⟨w.heap.size + 1 + 1, 0, none⟩ = some (.int .i64 (w4 z (k + 16))) := R2.out.cell (i := 0) (by omega)
  have z21 : V3.cell? ⟨w.heap.size + 1 + 1, 1, none⟩ = some (.int .i64 (w4 z (k + 20))) := R2.out.cell (i := 1) (by omega)
  go_wp2
  exact bodyPost_ret (v := .tuple #[.agg #[.int .i64 (w4 z k), .int .i64 (w4 z (k + 4))], .agg #[.int .i64 (w4 z (k + 8)), .int .i64 (w4 z (k + 12))], .agg #[.int .i64 (w4 z (k + 16)), .int .i64 (w4 z (k + 20))]]) (by simp [results, Tryz.results47, go_sem, *]) rfl ⟨rfl, HS.out, K0.out⟩

end Go.Proofs.YtppiilbcnkphbaaGreat
