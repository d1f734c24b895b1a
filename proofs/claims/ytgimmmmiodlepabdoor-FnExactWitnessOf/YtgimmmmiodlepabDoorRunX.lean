/- The values that a circuit makes: the program's contracts. -/
import Derived.Test.YtgimmmmiodlepabDoorRulY
import Derived.Test.YtgimmmmiodlepabDoorRunN
import Derived.Test.YtgimmmmiodlepabDoorCirX
import Derived.Test.YtgimmmmiodlepabDoorRsmX
import Derived.Test.YtgimmmmiodlepabDoorSeeP
import Derived.Test.YtgimmmmiodlepabDoorRnAn
import Derived.Deep.DeepCutAuto
import Derived.WalkMore
namespace Go.Proofs.YtgimmmmiodlepabDoor
open Go.ChangeShapes Go.WideShapes Go.ChangeAt Go.RowKit
set_option linter.unusedVariables false
set_option maxRecDepth 100000
set_option linter.unusedSimpArgs false

theorem rlrun (i : Nat) (hi : i < 8) (args : Array Value) (w : World) : (callFunc (rlF i) args).run Tryd.prog w = .ok (.enter (rlF i) args) w := by
  rcases (show i = 0 ∨ i = 1 ∨ i = 2 ∨ i = 3 ∨ i = 4 ∨ i = 5 ∨ i = 6 ∨ i = 7 by omega) with rfl | rfl | rfl | rfl | rfl | rfl | rfl | rfl
  · exact run_go Tryd.func70 (by kernel_rfl) (by kernel_rfl) _ _
  · exact run_go Tryd.func70 (by kernel_rfl) (by kernel_rfl) _ _
  · exact run_go Tryd.func71 (by kernel_rfl) (by kernel_rfl) _ _
  · exact run_go Tryd.func72 (by kernel_rfl) (by kernel_rfl) _ _
  · exact run_go Tryd.func73 (by kernel_rfl) (by kernel_rfl) _ _
  · exact run_go Tryd.func74 (by kernel_rfl) (by kernel_rfl) _ _
  · exact run_go Tryd.func75 (by kernel_rfl) (by kernel_rfl) _ _
  · exact run_go Tryd.func76 (by kernel_rfl) (by kernel_rfl) _ _
theorem rows_any (i : Nat) (hi : i < 8) (a b k : Int) (w : World) (a0 : 0 ≤ a) (a1 : a ≤ 1099511627776) (b0 : 0 ≤ b) (b1 : b ≤ 1099511627776) : Calls Tryd.prog (rlF i) #[.agg #[.int .i64 ((i : Int) + 1), .int .i64 a, .int .i64 b, .int .i64 k]] w fun e w' => RwAns w (rwn ((i : Int) + 1)) (rwG ((i : Int) + 1, a, b, k)) e w' := by
  rcases (show i = 0 ∨ i = 1 ∨ i = 2 ∨ i = 3 ∨ i = 4 ∨ i = 5 ∨ i = 6 ∨ i = 7 by omega) with rfl | rfl | rfl | rfl | rfl | rfl | rfl | rfl
  · exact handed_any (1, a, b, k) w
  · exact handed_any (2, a, b, k) w
  · exact constant_any a b k w
  · exact sum_any a b k w a0 a1 b0 b1
  · exact difference_any a b k w a0 a1 b0 b1
  · exact product_any a b k w a0 a1 b0 b1
  · exact equality_any a b k w a0 a1 b0 b1
  · exact bit_any a b k w a0 a1
theorem fnb1 : fnb 1 := ⟨by omega, by omega⟩
theorem rwok_g {G : Nat → Gt} {k : Nat} (h : gtb k (G k) = true) (j : Nat) (h3 : 3 ≤ (G k).1) : rwok (k + 1) (rwG (G k) j) := by
  have ho := gtb_op h
  have t1 : ∀ (x : Tm) (q : 0 ≤ x.1 ∧ x.1 < ((k + 1 : Nat) : Int) ∧ fnb x.2) (i : Nat), i < 1 → 0 ≤ (tl1 x i).1 ∧ (tl1 x i).1 < ((k + 1 : Nat) : Int) ∧ fnb (tl1 x i).2 := fun x q i _ => q
  have t2 : ∀ (x y : Tm) (q : 0 ≤ x.1 ∧ x.1 < ((k + 1 : Nat) : Int) ∧ fnb x.2) (r : 0 ≤ y.1 ∧ y.1 < ((k + 1 : Nat) : Int) ∧ fnb y.2) (i : Nat), i < 2 → 0 ≤ (tl2 x y i).1 ∧ (tl2 x y i).1 < ((k + 1 : Nat) : Int) ∧ fnb (tl2 x y i).2 := fun x y q r i _ => by
    unfold tl2; split
    · exact q
    · exact r
  have on : ∀ i, i < 1 → 0 ≤ (one9 i).1 ∧ (one9 i).1 < ((k + 1 : Nat) : Int) ∧ fnb (one9 i).2 := fun i _ => ⟨Int.le_refl _, by show (0 : Int) < _; omega, fnb1⟩
  unfold rwG
  by_cases e3 : (G k).1 = 3
  · rw [if_pos e3]
    exact ⟨by show 1 ≤ 2; omega, by show 1 ≤ 2; omega, t1 _ ⟨Int.le_refl _, by show (0 : Int) < _; omega, gtb_K h e3⟩, on⟩
  rw [if_neg e3]
  have ha := gtb_A h (by omega)
  have qa : 0 ≤ ((G k).2.1 + 1, (1 : Int)).1 ∧ ((G k).2.1 + 1, (1 : Int)).1 < ((k + 1 : Nat) : Int) ∧ fnb ((G k).2.1 + 1, (1 : Int)).2 := ⟨by show 0 ≤ (G k).2.1 + 1; omega, by show (G k).2.1 + 1 < _; omega, fnb1⟩
  by_cases e8 : (G k).1 = 8
  · rw [if_neg (by omega), if_neg (by omega), if_neg (by omega), if_neg (by omega)]
    split
    · exact ⟨by show 1 ≤ 2; omega, by show 1 ≤ 2; omega, t1 _ qa, t1 _ qa⟩
    · exact ⟨by show 1 ≤ 2; omega, by show 1 ≤ 2; omega, t1 _ qa, on⟩
  have hb := gtb_B h (by omega)
  have qb : ∀ t, fnb t → 0 ≤ ((G k).2.2.1 + 1, t).1 ∧ ((G k).2.2.1 + 1, t).1 < ((k + 1 : Nat) : Int) ∧ fnb ((G k).2.2.1 + 1, t).2 := fun t ht => ⟨by show 0 ≤ (G k).2.2.1 + 1; omega, by show (G k).2.2.1 + 1 < _; omega, ht⟩
  split
  · exact ⟨by show 2 ≤ 2; omega, by show 1 ≤ 2; omega, t2 _ _ qa (qb 1 fnb1), on⟩
  · split
    · exact ⟨by show 2 ≤ 2; omega, by show 1 ≤ 2; omega, t2 _ _ qa (qb 2130706432 ⟨by omega, by omega⟩), on⟩
    · split
      · exact ⟨by show 1 ≤ 2; omega, by show 1 ≤ 2; omega, t1 _ qa, t1 _ (qb 1 fnb1)⟩
      · rw [if_pos (by omega)]
        split
        · exact ⟨by show 1 ≤ 2; omega, by show 1 ≤ 2; omega, t1 _ (qb 1 fnb1), on⟩
        · exact ⟨by show 1 ≤ 2; omega, by show 1 ≤ 2; omega, t1 _ qa, on⟩
section
variable {ops : Array Oper} {o : Oper} {a : Act} {w : World} {K : Act → World → Prop} {Q : Exit → Act → World → Prop} {E : Prop}
/-- append(x, z), a step of a region that draws its order. -/
theorem stepL_app1 (x y : Operand) (hop : o.op = .call { callee := .builtin .append, args := #[x, y], argTypes := #[40, 40] }) (hw : Region.wanted o (yielded ops a.tmps) = true) (B k g : Nat) (v : Value) (f : Nat → Int) (z : Int)
    (hx : a.eval x = v) (hy : a.eval y = .slice (some ⟨g, 0, none⟩) 1 1) (hr : IGr w B v k f) (hc : w.cell? ⟨g, 0, none⟩ = some (.int .i64 z)) (hk : k ≤ 1000000) (hB : B ≤ w.heap.size)
    (h : ∀ v' w', IGr w' B v' (k + 1) (fun i => if i = k then z else f i) → Chg (fun i => B ≤ i) w w' → K (a.put o.dst v') w') : if Region.wanted o (yielded ops a.tmps) = true then Oper.wp Tryd.prog o a w K Q else E := by
  rw [if_pos hw]
  obtain ⟨i0, hi, hz0, hz1, hz2⟩ := info_parts infoInt
  refine wp_append_own w x y 40 hop B 3 i0 (.int .i64 0) 1 8 Tryd.underlying40 hi hz0 hz1 hz2 rfl (by decide) v k ((List.range k).map (iv f)) hx hr ⟨g, 0, none⟩ 1 1 [.int .i64 z] hy rfl ?_ ?_ (by unfold maxLen; omega) (by omega) hB ?_
  · intro j u hj
    match j, hj with
    | 0, hj => simp at hj; subst hj; simpa [Addr.add] using hc
    | j + 1, hj => simp at hj
  · intro u hu
    simp at hu
    subst hu
    rfl
  · intro v' w' hown hgr _
    refine h v' w' (by unfold IGr; rw [← ints_one]; exact hown) ((Chg.refl _ w).grown hgr (fun b e _ => hr.len e))
end
/-- What is left of a list of numbers behind the first p. -/
def LftV (w : World) (B : Nat) (v : Value) (N p : Nat) (f : Nat → Int) : Prop := ∃ c n cap, v = .slice c n cap ∧ n + p = N ∧ n ≤ cap ∧ cap ≤ 1099511627776 ∧ RowV w c n (iv (fun i => f (i + p))) ∧ (∀ xb xo, c = some ⟨xb, xo, none⟩ → 0 < n → xb < B)
theorem LftV.keep {w w' : World} {B : Nat} {v : Value} {N p : Nat} {f : Nat → Int} (h : LftV w B v N p f) (k : Chg nob w w') : LftV w' B v N p f := by
  obtain ⟨c, n, cap, e, q, l, l2, r, hb⟩ := h
  exact ⟨c, n, cap, e, q, l, l2, r.keep k, hb⟩
theorem LftV.chgB {w w' : World} {B : Nat} {v : Value} {N p : Nat} {f : Nat → Int} (h : LftV w B v N p f) (k : Chg (fun i => B ≤ i) w w') : LftV w' B v N p f := by
  obtain ⟨c, n, cap, e, q, l, l2, r, hb⟩ := h
  refine ⟨c, n, cap, e, q, l, l2, ?_, hb⟩
  intro i hi
  obtain ⟨xb, xo, ec, hl, hc⟩ := r i hi
  exact ⟨xb, xo, ec, Nat.lt_of_lt_of_le hl k.size, by rw [k.cell (p := ⟨xb, xo + i, none⟩) hl (fun q => by have q : B ≤ xb := q; have := hb xb xo ec (by omega); omega)]; exact hc⟩
theorem LftV.next {w : World} {B xb xo n cap N p : Nat} {f : Nat → Int} (e : n + 1 + p = N) (l : n + 1 ≤ cap) (l2 : cap ≤ 1099511627776) (r : RowV w (some ⟨xb, xo, none⟩) (n + 1) (iv (fun i => f (i + p)))) (hb : xb < B) : LftV w B (.slice (if cap = 1 then some ⟨xb, xo, none⟩ else some ⟨xb, xo + 1, none⟩) n (cap - 1)) N (p + 1) f := by
  refine ⟨_, n, cap - 1, rfl, by omega, by omega, by omega, ?_, ?_⟩
  · intro i hi
    rw [if_neg (by omega)]
    obtain ⟨yb, yo, ec, hl, hc⟩ := r (i + 1) (by omega)
    cases ec
    refine ⟨xb, xo + 1, rfl, hl, ?_⟩
    rw [show xo + 1 + i = xo + (i + 1) by omega, hc]
    show some (Value.int .i64 (f (i + 1 + p))) = some (Value.int .i64 (f (i + (p + 1))))
    rw [show i + 1 + p = i + (p + 1) by omega]
  · intro yb yo ec _
    split at ec <;> (cases ec; exact hb)

theorem slt_next (G : Nat → Gt) (P I : Nat → Int) (k : Nat) (z : Int) (hz : z = rvk G P I k (rvl G P I k)) : ∀ i, i < k + 1 + 1 → (if i = k + 1 then z else slt (rvl G P I k) i) = slt (rvl G P I (k + 1)) i := by
  intro i hi
  by_cases e : i = k + 1
  · rw [if_pos e, e]
    unfold slt
    rw [if_neg (by omega), Nat.add_sub_cancel, rvl_s, if_pos rfl, hz]
  · rw [if_neg e]
    unfold slt
    split
    · rfl
    · rw [rvl_s, if_neg (by omega)]
theorem LftV.start {w W : World} {c : Option Addr} {n cap : Nat} {f : Nat → Int} (h : RowV w c n (iv f)) (k : Chg nob w W) (B : Nat) (hB : w.heap.size ≤ B) (l : n ≤ cap) (l2 : cap ≤ 1099511627776) : LftV W B (.slice c n cap) n 0 f :=
  ⟨c, n, cap, rfl, rfl, l, l2, h.keep k, fun xb xo e hn => by
    obtain ⟨yb, yo, e', hl, _⟩ := h 0 hn
    rw [e] at e'
    cases e'
    omega⟩
theorem IGr.le {W : World} {B : Nat} {v : Value} {k : Nat} {f : Nat → Int} (h : IGr W B v (k + 1) f) : B ≤ W.heap.size := by
  obtain ⟨_, ⟨_, h0⟩ | ⟨g, cp, cur, _, hb, hg, _⟩⟩ := h
  · omega
  · have := (Array.getElem?_eq_some_iff.1 hg).1
    omega
theorem gtb_bd {m : Int} {g : Gt} (h : gtb m g = true) (m0 : 0 ≤ m) : 0 ≤ g.2.1 ∧ g.2.1 ≤ m + 1 ∧ 0 ≤ g.2.2.1 ∧ g.2.2.1 ≤ m + 1 := by
  unfold gtb at h
  simp only [Bool.and_eq_true] at h
  obtain ⟨_, ha, hb, _⟩ := h
  unfold ptb at ha hb
  simp only [Bool.and_eq_true, decide_eq_true_eq] at ha hb
  obtain ⟨a0, a1⟩ := ha
  obtain ⟨b0, b1⟩ := hb
  refine ⟨a0, ?_, b0, ?_⟩
  · split at a1 <;> omega
  · split at b1 <;> omega
theorem IGr.shape {W : World} {B : Nat} {v : Value} {k : Nat} {f : Nat → Int} (h : IGr W B v (k + 1) f) : ∃ g cap, v = .slice (some ⟨g, 0, none⟩) (k + 1) cap ∧ k + 1 ≤ cap ∧ cap ≤ maxLen ∧ OwnJ W B (some ⟨g, 0, none⟩) (k + 1) f := by
  have h' := h
  obtain ⟨_, ⟨_, h0⟩ | ⟨g, cp, cur, rfl, hb, hg, h1, h2, _⟩⟩ := h
  · omega
  · exact ⟨g, cp, rfl, h1, h2, h'.own⟩
theorem slt_fn {V : Nat → Int} {k : Nat} (h : ∀ j, j < k → fnb (V j)) : ∀ j, j < k + 1 → fnb (slt V j) := by
  intro j hj
  unfold slt
  split
  · exact fnb1
  · exact h _ (by omega)
set_option maxHeartbeats 16000000 in
theorem values_any (c : Option Addr) (n cap : Nat) (G : Nat → Gt) (cp : Option Addr) (np capp : Nat) (P : Nat → Int) (ci : Option Addr) (ni capi : Nat) (I : Nat → Int) (w : World) (hv : Hid (GatV w c n G)) (hp : Hid (RowV w cp np (iv P))) (hi : Hid (RowV w ci ni (iv I)))
    (h1n : 1 ≤ n) (h15 : n ≤ 15) (hg : Hid (∀ i, i < n → gtb i (G i) = true)) (ep : Hid (np = ctg 2 n G)) (ei : Hid (ni = ctg 1 n G)) (fp : Hid (∀ i, i < np → fnb (P i))) (fi : Hid (∀ i, i < ni → fnb (I i))) (lp : np ≤ capp) (lp2 : capp ≤ 1099511627776) (li : ni ≤ capi) (li2 : capi ≤ 1099511627776) :
    Calls Tryd.prog 87 #[.agg #[.slice c n cap], .slice cp np capp, .slice ci ni capi] w fun e w' => RnAns w (if fts G (rvl G P I n) n = true then 0 else 15) n (rvl G P I n) e w' := by
  have HV := hik (rvl_fn hg.out ep.out ei.out fp.out fi.out)
  have KB := hik ((Chg.refl nob w).alloc (.cells #[.slice c n cap] 33))
  have x0 : World.cell? (w.alloc (.cells #[.slice c n cap] 33)) ⟨w.heap.size, 0, none⟩ = some (.slice c n cap) := by go_simp
  obtain ⟨ans, hans⟩ : ∃ ans : Int, ans = if fts G (rvl G P I n) n = true then 0 else 15 := ⟨_, rfl⟩
  rw [← hans]
  have HA := hik hans
  clear hans
  go_enter Tryd.func87, Tryd.ntmps87
  go_upto_region 1 with fail
  generalize w.alloc (.cells #[.slice c n cap] 33) = W0 at KB x0 ⊢
  go_step3
  go_wp2_with (go_at_call 37; refine (rules_any _).mono ?_; rintro e W1 ⟨br, rfl, lbr, rl, k1⟩; have K1 := hik (KB.out.trans k1); have x1 := k1.look x0; have RL := hik rl; have HBR := hik rl.lt; have HB := hik (show w.heap.size ≤ W1.heap.size from K1.out.size); have KO := hik (K1.out.alloc (.cells #[.int .i64 1] 3)); have x2 := ((Chg.refl nob W1).alloc (.cells #[.int .i64 1] 3)).look x1; clear k1 rl lbr)
  clear KB x0
  go_step3
  go_wp2
  go_loopw [1, 2, 9, 21] (fun s1 s2 v9 i W => ∃ k : Nat, k ≤ n ∧ i = .int .i64 k ∧ Hid (IGr W W1.heap.size v9 (k + 1) (slt (rvl G P I k))) ∧ Hid (LftV W W1.heap.size s1 np (ctg 2 k G) P) ∧ Hid (LftV W W1.heap.size s2 ni (ctg 1 k G) I) ∧ Hid (Rls W br) ∧ Hid (Chg nob w W) ∧ Hid (∀ j, j < k → ftk G (rvl G P I n) j = true)) (fun _ _ _ i _ => n - (intOf i).toNat)
  case atStart => exact ⟨0, Nat.zero_le _, rfl, hik ((IGr.one W1 W1.heap.size 1 (Nat.le_refl _)).congr (fun i hi => by obtain rfl : i = 0 := (by omega); rfl)), hik (LftV.start hp.out KO.out _ HB.out lp lp2), hik (LftV.start hi.out KO.out _ HB.out li li2), hik (RL.out.keep ((Chg.refl nob W1).alloc _)), KO, hik (fun j hj => by omega)⟩
  case round =>
    clear x1 x2 K1 KO RL
    obtain ⟨k, hk, rfl, HI, HP, HN, HR, HK, HF⟩ := hrel
    rename World => wi
    by_cases hlt : k < n
    · have hkn : ((k : Nat) : Int) < n := by omega
      obtain ⟨xb, xo, rfl, hxb, c0, c1, c2, c3⟩ := (hv.out.keep HK.out) k hlt
      have GK := hik (hg.out k hlt)
      have HS2 := hik (ctg_s 2 k G)
      have HS1 := hik (ctg_s 1 k G)
      have VK := hik (show rvl G P I (k + 1) k = rvk G P I k (rvl G P I k) by rw [rvl_s, if_pos rfl])
      have HBi := hik HI.out.le
      have HGE := hik (show G k = ((G k).1, (G k).2.1, (G k).2.2.1, (G k).2.2.2) from rfl)
      generalize hga : (G k).2.1 = ga at c1 HGE
      generalize hgb : (G k).2.2.1 = gb at c2 HGE
      generalize hgk : (G k).2.2.2 = gk at c3 HGE
      have EA := hik hga
      have EB := hik hgb
      have EK := hik hgk
      clear hga hgb hgk
      by_cases e1 : (G k).1 = 1
      · obtain ⟨cy, m, capy, rfl, em, l1, l2, rr, hbB⟩ := HN.out
        have hm : 0 < m := by have := ctg_lt hlt e1; have := ei.out; omega
        obtain ⟨m, rfl⟩ : ∃ q, m = q + 1 := ⟨m - 1, by omega⟩
        obtain ⟨yb, yo, rfl, hyb, d0⟩ := rr 0 (by omega)
        have hyB := hbB yb yo rfl (by omega)
        have d0 : wi.cell? ⟨yb, yo, none⟩ = some (.int .i64 (I (ctg 1 k G))) := by simpa [iv] using d0
        have HNX := hik (LftV.next em l1 l2 rr hyB)
        have HZ := hik (show I (ctg 1 k G) = rvk G P I k (rvl G P I k) by unfold rvk; rw [if_pos e1])
        rw [e1] at c0
        generalize I (ctg 1 k G) = z at d0 HZ
        have hB0 := HBi.out
        have KA := hik ((Chg.refl nob wi).alloc (.cells #[.int .i64 1, .int .i64 ga, .int .i64 gb, .int .i64 gk] 51))
        have d1 := KA.out.see d0
        replace HI := hik (HI.out.keep KA.out)
        replace HP := hik (HP.out.keep KA.out)
        replace HNX := hik (HNX.out.keep KA.out)
        replace HR := hik (HR.out.keep KA.out)
        replace HK := hik (HK.out.trans KA.out)
        have HBj := hik (show W1.heap.size ≤ (wi.alloc (.cells #[.int .i64 1, .int .i64 ga, .int .i64 gb, .int .i64 gk] 51)).heap.size from Nat.le_trans hB0 KA.out.size)
        go_upto_region 8 with fail
        clear c0 c1 c2 c3 d0 KA rr hbB
        generalize wi.alloc (.cells #[.int .i64 1, .int .i64 ga, .int .i64 gb, .int .i64 gk] 51) = W2 at d1 HI HP HNX HR HK HBj ⊢
        have hB2 := HBj.out
        have HMM := hik (And.intro em l1)
        clear em
        have KW := hik ((Chg.refl (fun i => W1.heap.size ≤ i) W2).drew1)
        have SA := hik (fun (WW : World) (kW : Chg (fun i => W1.heap.size ≤ i) W2 WW) => (show (WW.cell? ⟨yb, yo, none⟩ = some (.int .i64 z)) from kW.seeP d1 (by omega)))
        refine wp_region_held_drew (S := fun w' => w'.cell? ⟨yb, yo, none⟩ = some (.int .i64 z)) (by kernel_rfl) (SA.out _ KW.out) (fun hHeld => ?_)
        refine wpAnyH_take (i := 0) (v := ?_) rfl (by kernel_rfl) (by kernel_rfl) (by kernel_rfl) (fun _ _ _ h => h) (Or.inl ⟨by rfl, ?_⟩) (by assumption) ?_
        rotate_left 1
        · (intro w' hSw; (try dsimp only at hSw); go_simp; try with_reducible rfl)
        try simp only [Act.put, List.setIfInBounds_toArray, List.set_cons_zero, List.set_cons_succ, List.getElem_toArray, List.getElem_cons_zero, List.getElem_cons_succ]
        refine wpAnyH_take (i := 1) (v := ?_) rfl (by kernel_rfl) (by kernel_rfl) (by kernel_rfl) (fun _ _ _ h => h) (Or.inl ⟨by rfl, ?_⟩) (by assumption) ?_
        rotate_left 1
        · (intro w' hSw; (try dsimp only at hSw); go_simp; try with_reducible rfl)
        try simp only [Act.put, List.setIfInBounds_toArray, List.set_cons_zero, List.set_cons_succ, List.getElem_toArray, List.getElem_cons_zero, List.getElem_cons_succ]
        refine wpAnyH_take (i := 2) (v := ?_) rfl (by kernel_rfl) (by kernel_rfl) (by kernel_rfl) (fun _ _ _ h => h) (Or.inl ⟨by rfl, ?_⟩) (by assumption) ?_
        rotate_left 1
        · (intro w' hSw; (try dsimp only at hSw); go_simp; try with_reducible rfl)
        try simp only [Act.put, List.setIfInBounds_toArray, List.set_cons_zero, List.set_cons_succ, List.getElem_toArray, List.getElem_cons_zero, List.getElem_cons_succ]
        refine wpAnyH_take (i := 3) (v := ?_) rfl (by kernel_rfl) (by kernel_rfl) (by kernel_rfl) (fun _ _ _ h => h) (Or.inl ⟨by rfl, ?_⟩) (by assumption) ?_
        rotate_left 1
        · (intro w' hSw; (try dsimp only at hSw); go_simp; try with_reducible rfl)
        try simp only [Act.put, List.setIfInBounds_toArray, List.set_cons_zero, List.set_cons_succ, List.getElem_toArray, List.getElem_cons_zero, List.getElem_cons_succ]
        refine wpAnyH_take (i := 6) (v := ?_) rfl (by kernel_rfl) (by kernel_rfl) (by kernel_rfl) (fun _ _ _ h => h) (Or.inl ⟨by rfl, ?_⟩) (by assumption) ?_
        rotate_left 1
        · (intro w' hSw; (try dsimp only at hSw); go_simp; try with_reducible rfl)
        try simp only [Act.put, List.setIfInBounds_toArray, List.set_cons_zero, List.set_cons_succ, List.getElem_toArray, List.getElem_cons_zero, List.getElem_cons_succ]
        refine wpAnyH_take (i := 7) (v := .slice (if capy = 1 then some ⟨yb, yo, none⟩ else some ⟨yb, yo + 1, none⟩) m (capy - 1)) rfl (by kernel_rfl) (by kernel_rfl) (by kernel_rfl) (fun _ _ _ h => h) (Or.inl ⟨by rfl, ?_⟩) (by assumption) ?_
        · (intro w' hSw; (try dsimp only at hSw); go_simp; first | (intro q; exact absurd q (by omega)) | rw [if_pos (by omega)])
        try simp only [Act.put, List.setIfInBounds_toArray, List.set_cons_zero, List.set_cons_succ, List.getElem_toArray, List.getElem_cons_zero, List.getElem_cons_succ]
        refine wpAnyH_ready (rs := [4]) (by kernel_rfl) (by simp) ?_
        refine AllReadyH.cons rfl (fun K hK => ?_) AllReadyH.nil
        simp only [List.getElem_toArray, List.getElem_cons_zero, List.getElem_cons_succ]
        go_simp
        have NC : Hid (World.cell? ((World.alloc W2 (.cells #[.int .i64 z] 3)).drew) ⟨W2.heap.size, 0, none⟩ = some (.int .i64 z)) := hik (by go_simp)
        replace HI := hik (HI.out.keep (((Chg.refl nob W2).alloc (.cells #[.int .i64 z] 3)).drew1))
        replace KW : Hid (Chg (fun i => W1.heap.size ≤ i) W2 ((World.alloc W2 (.cells #[.int .i64 z] 3)).drew)) := hik (((Chg.refl _ W2).alloc _).drew1)
        generalize hUA : (World.alloc W2 (.cells #[.int .i64 z] 3)).drew = UA at NC HI KW ⊢
        clear hUA
        generalize W2.heap.size = gN at NC ⊢
        refine hK.out _ _ (SA.out _ KW.out) (fun hHeld => ?_)
        clear hK K
        try simp only [Act.put, List.setIfInBounds_toArray, List.set_cons_zero, List.set_cons_succ, List.getElem_toArray, List.getElem_cons_zero, List.getElem_cons_succ]
        refine wpAnyH_ready (rs := [5]) (by kernel_rfl) (by simp) ?_
        refine AllReadyH.cons rfl (fun K hK => ?_) AllReadyH.nil
        refine stepL_app1 (.tmp 29) (.tmp 33) (by rfl) (by rfl) W1.heap.size (k + 1) gN _ _ z (by rfl) (by rfl) HI.out NC.out (by omega) (Nat.le_trans hB2 KW.out.size) (fun v7 w7 hg7 k7 => ?_)
        have HI7 := hik (hg7.congr (slt_next G P I k z HZ.out))
        have KW7 := hik k7
        replace KW := hik (KW.out.trans k7)
        clear hg7 k7 HI NC
        refine hK.out _ _ (SA.out _ KW.out) (fun hHeld => ?_)
        clear hK K
        try simp only [Act.put, List.setIfInBounds_toArray, List.set_cons_zero, List.set_cons_succ, List.getElem_toArray, List.getElem_cons_zero, List.getElem_cons_succ]
        refine wpAnyH_take (i := 8) (v := ?_) rfl (by kernel_rfl) (by kernel_rfl) (by kernel_rfl) (fun _ _ _ h => h) (Or.inl ⟨by rfl, ?_⟩) (by assumption) ?_
        rotate_left 1
        · (intro w' hSw; (try dsimp only at hSw); go_simp; try with_reducible rfl)
        try simp only [Act.put, List.setIfInBounds_toArray, List.set_cons_zero, List.set_cons_succ, List.getElem_toArray, List.getElem_cons_zero, List.getElem_cons_succ]
        refine wpAnyH_take (i := 9) (v := ?_) rfl (by kernel_rfl) (by kernel_rfl) (by kernel_rfl) (fun _ _ _ h => h) (Or.inl ⟨by rfl, ?_⟩) (by assumption) ?_
        rotate_left 1
        · (intro w' hSw; (try dsimp only at hSw); go_simp; try with_reducible rfl)
        try simp only [Act.put, List.setIfInBounds_toArray, List.set_cons_zero, List.set_cons_succ, List.getElem_toArray, List.getElem_cons_zero, List.getElem_cons_succ]
        refine wpAnyH_done (by kernel_rfl) ?_ _
        clear SA
        go_wp2
        go_roundw
        case rel => exact ⟨k + 1, by omega, by go_num, HI7, hik (by rw [HS2.out, if_neg (by omega)]; exact HP.out.chgB KW.out), hik (by rw [HS1.out, if_pos e1]; exact HNX.out.chgB KW.out), hik (HR.out.chg KW.out (fun q => by have q : W1.heap.size ≤ br := q; have := HBR.out; omega)), hik (HK.out.near KW.out (fun i q => by have q : W1.heap.size ≤ i := q; have := HB.out; omega)), hik (fun j hj => by
          by_cases ej : j = k
          · subst ej; exact ftk_low (by omega)
          · exact HF.out j (by omega))⟩
        case measure => simp [intOf]; omega
      · by_cases e2 : (G k).1 = 2
        · obtain ⟨cy, m, capy, rfl, em, l1, l2, rr, hbB⟩ := HP.out
          have hm : 0 < m := by have := ctg_lt hlt e2; have := ep.out; omega
          obtain ⟨m, rfl⟩ : ∃ q, m = q + 1 := ⟨m - 1, by omega⟩
          obtain ⟨yb, yo, rfl, hyb, d0⟩ := rr 0 (by omega)
          have hyB := hbB yb yo rfl (by omega)
          have d0 : wi.cell? ⟨yb, yo, none⟩ = some (.int .i64 (P (ctg 2 k G))) := by simpa [iv] using d0
          have HNX := hik (LftV.next em l1 l2 rr hyB)
          have HZ := hik (show P (ctg 2 k G) = rvk G P I k (rvl G P I k) by unfold rvk; rw [if_neg e1, if_pos e2])
          rw [e2] at c0
          generalize P (ctg 2 k G) = z at d0 HZ
          have hB0 := HBi.out
          have KA := hik ((Chg.refl nob wi).alloc (.cells #[.int .i64 2, .int .i64 ga, .int .i64 gb, .int .i64 gk] 51))
          have d1 := KA.out.see d0
          replace HI := hik (HI.out.keep KA.out)
          replace HN := hik (HN.out.keep KA.out)
          replace HNX := hik (HNX.out.keep KA.out)
          replace HR := hik (HR.out.keep KA.out)
          replace HK := hik (HK.out.trans KA.out)
          have HBj := hik (show W1.heap.size ≤ (wi.alloc (.cells #[.int .i64 2, .int .i64 ga, .int .i64 gb, .int .i64 gk] 51)).heap.size from Nat.le_trans hB0 KA.out.size)
          go_upto_region 10 with fail
          clear c0 c1 c2 c3 d0 KA rr hbB
          generalize wi.alloc (.cells #[.int .i64 2, .int .i64 ga, .int .i64 gb, .int .i64 gk] 51) = W2 at d1 HI HN HNX HR HK HBj ⊢
          have hB2 := HBj.out
          have HMM := hik (And.intro em l1)
          clear em
          have KW := hik ((Chg.refl (fun i => W1.heap.size ≤ i) W2).drew1)
          have SA := hik (fun (WW : World) (kW : Chg (fun i => W1.heap.size ≤ i) W2 WW) => (show (WW.cell? ⟨yb, yo, none⟩ = some (.int .i64 z)) from kW.seeP d1 (by omega)))
          refine wp_region_held_drew (S := fun w' => w'.cell? ⟨yb, yo, none⟩ = some (.int .i64 z)) (by kernel_rfl) (SA.out _ KW.out) (fun hHeld => ?_)
          refine wpAnyH_take (i := 0) (v := ?_) rfl (by kernel_rfl) (by kernel_rfl) (by kernel_rfl) (fun _ _ _ h => h) (Or.inl ⟨by rfl, ?_⟩) (by assumption) ?_
          rotate_left 1
          · (intro w' hSw; (try dsimp only at hSw); go_simp; try with_reducible rfl)
          try simp only [Act.put, List.setIfInBounds_toArray, List.set_cons_zero, List.set_cons_succ, List.getElem_toArray, List.getElem_cons_zero, List.getElem_cons_succ]
          refine wpAnyH_take (i := 1) (v := ?_) rfl (by kernel_rfl) (by kernel_rfl) (by kernel_rfl) (fun _ _ _ h => h) (Or.inl ⟨by rfl, ?_⟩) (by assumption) ?_
          rotate_left 1
          · (intro w' hSw; (try dsimp only at hSw); go_simp; try with_reducible rfl)
          try simp only [Act.put, List.setIfInBounds_toArray, List.set_cons_zero, List.set_cons_succ, List.getElem_toArray, List.getElem_cons_zero, List.getElem_cons_succ]
          refine wpAnyH_take (i := 2) (v := ?_) rfl (by kernel_rfl) (by kernel_rfl) (by kernel_rfl) (fun _ _ _ h => h) (Or.inl ⟨by rfl, ?_⟩) (by assumption) ?_
          rotate_left 1
          · (intro w' hSw; (try dsimp only at hSw); go_simp; try with_reducible rfl)
          try simp only [Act.put, List.setIfInBounds_toArray, List.set_cons_zero, List.set_cons_succ, List.getElem_toArray, List.getElem_cons_zero, List.getElem_cons_succ]
          refine wpAnyH_take (i := 3) (v := ?_) rfl (by kernel_rfl) (by kernel_rfl) (by kernel_rfl) (fun _ _ _ h => h) (Or.inl ⟨by rfl, ?_⟩) (by assumption) ?_
          rotate_left 1
          · (intro w' hSw; (try dsimp only at hSw); go_simp; try with_reducible rfl)
          try simp only [Act.put, List.setIfInBounds_toArray, List.set_cons_zero, List.set_cons_succ, List.getElem_toArray, List.getElem_cons_zero, List.getElem_cons_succ]
          refine wpAnyH_take (i := 6) (v := ?_) rfl (by kernel_rfl) (by kernel_rfl) (by kernel_rfl) (fun _ _ _ h => h) (Or.inl ⟨by rfl, ?_⟩) (by assumption) ?_
          rotate_left 1
          · (intro w' hSw; (try dsimp only at hSw); go_simp; try with_reducible rfl)
          try simp only [Act.put, List.setIfInBounds_toArray, List.set_cons_zero, List.set_cons_succ, List.getElem_toArray, List.getElem_cons_zero, List.getElem_cons_succ]
          refine wpAnyH_take (i := 7) (v := .slice (if capy = 1 then some ⟨yb, yo, none⟩ else some ⟨yb, yo + 1, none⟩) m (capy - 1)) rfl (by kernel_rfl) (by kernel_rfl) (by kernel_rfl) (fun _ _ _ h => h) (Or.inl ⟨by rfl, ?_⟩) (by assumption) ?_
          · (intro w' hSw; (try dsimp only at hSw); go_simp; first | (intro q; exact absurd q (by omega)) | rw [if_pos (by omega)])
          try simp only [Act.put, List.setIfInBounds_toArray, List.set_cons_zero, List.set_cons_succ, List.getElem_toArray, List.getElem_cons_zero, List.getElem_cons_succ]
          refine wpAnyH_ready (rs := [4]) (by kernel_rfl) (by simp) ?_
          refine AllReadyH.cons rfl (fun K hK => ?_) AllReadyH.nil
          simp only [List.getElem_toArray, List.getElem_cons_zero, List.getElem_cons_succ]
          go_simp
          have NC : Hid (World.cell? ((World.alloc W2 (.cells #[.int .i64 z] 3)).drew) ⟨W2.heap.size, 0, none⟩ = some (.int .i64 z)) := hik (by go_simp)
          replace HI := hik (HI.out.keep (((Chg.refl nob W2).alloc (.cells #[.int .i64 z] 3)).drew1))
          replace KW : Hid (Chg (fun i => W1.heap.size ≤ i) W2 ((World.alloc W2 (.cells #[.int .i64 z] 3)).drew)) := hik (((Chg.refl _ W2).alloc _).drew1)
          generalize hUA : (World.alloc W2 (.cells #[.int .i64 z] 3)).drew = UA at NC HI KW ⊢
          clear hUA
          generalize W2.heap.size = gN at NC ⊢
          refine hK.out _ _ (SA.out _ KW.out) (fun hHeld => ?_)
          clear hK K
          try simp only [Act.put, List.setIfInBounds_toArray, List.set_cons_zero, List.set_cons_succ, List.getElem_toArray, List.getElem_cons_zero, List.getElem_cons_succ]
          refine wpAnyH_ready (rs := [5]) (by kernel_rfl) (by simp) ?_
          refine AllReadyH.cons rfl (fun K hK => ?_) AllReadyH.nil
          refine stepL_app1 (.tmp 39) (.tmp 43) (by rfl) (by rfl) W1.heap.size (k + 1) gN _ _ z (by rfl) (by rfl) HI.out NC.out (by omega) (Nat.le_trans hB2 KW.out.size) (fun v7 w7 hg7 k7 => ?_)
          have HI7 := hik (hg7.congr (slt_next G P I k z HZ.out))
          have KW7 := hik k7
          replace KW := hik (KW.out.trans k7)
          clear hg7 k7 HI NC
          refine hK.out _ _ (SA.out _ KW.out) (fun hHeld => ?_)
          clear hK K
          try simp only [Act.put, List.setIfInBounds_toArray, List.set_cons_zero, List.set_cons_succ, List.getElem_toArray, List.getElem_cons_zero, List.getElem_cons_succ]
          refine wpAnyH_take (i := 8) (v := ?_) rfl (by kernel_rfl) (by kernel_rfl) (by kernel_rfl) (fun _ _ _ h => h) (Or.inl ⟨by rfl, ?_⟩) (by assumption) ?_
          rotate_left 1
          · (intro w' hSw; (try dsimp only at hSw); go_simp; try with_reducible rfl)
          try simp only [Act.put, List.setIfInBounds_toArray, List.set_cons_zero, List.set_cons_succ, List.getElem_toArray, List.getElem_cons_zero, List.getElem_cons_succ]
          refine wpAnyH_take (i := 9) (v := ?_) rfl (by kernel_rfl) (by kernel_rfl) (by kernel_rfl) (fun _ _ _ h => h) (Or.inl ⟨by rfl, ?_⟩) (by assumption) ?_
          rotate_left 1
          · (intro w' hSw; (try dsimp only at hSw); go_simp; try with_reducible rfl)
          try simp only [Act.put, List.setIfInBounds_toArray, List.set_cons_zero, List.set_cons_succ, List.getElem_toArray, List.getElem_cons_zero, List.getElem_cons_succ]
          refine wpAnyH_done (by kernel_rfl) ?_ _
          clear SA
          go_wp2
          go_roundw
          case rel => exact ⟨k + 1, by omega, by go_num, HI7, hik (by rw [HS2.out, if_pos e2]; exact HNX.out.chgB KW.out), hik (by rw [HS1.out, if_neg e1]; exact HN.out.chgB KW.out), hik (HR.out.chg KW.out (fun q => by have q : W1.heap.size ≤ br := q; have := HBR.out; omega)), hik (HK.out.near KW.out (fun i q => by have q : W1.heap.size ≤ i := q; have := HB.out; omega)), hik (fun j hj => by
            by_cases ej : j = k
            · subst ej; exact ftk_low (by omega)
            · exact HF.out j (by omega))⟩
          case measure => simp [intOf]; omega
        · have h3 : 3 ≤ (G k).1 := by have := gtb_op GK.out; omega
          obtain ⟨ii, hii, eo⟩ : ∃ ii : Nat, ii < 8 ∧ (G k).1 = (ii : Int) + 1 := ⟨((G k).1 - 1).toNat, by have := gtb_op GK.out; omega, by have := gtb_op GK.out; omega⟩
          have hbd := gtb_bd GK.out (by omega)
          rw [EA.out, EB.out] at hbd
          have hrow := fun W => rows_any ii hii ga gb gk W hbd.1 (by omega) hbd.2.2.1 (by omega)
          rw [← eo, ← HGE.out] at hrow
          have hcf := rlrun ii hii
          have KA := hik ((Chg.refl nob wi).alloc (.cells #[.int .i64 (G k).1, .int .i64 ga, .int .i64 gb, .int .i64 gk] 51))
          have hlk := (HR.out.keep KA.out).at_ ii hii
          rw [← eo] at hlk
          generalize rlF ii = fF at hlk hrow hcf
          clear eo hbd hii ii
          obtain ⟨gs, caps, rfl, hcs, hcm, own⟩ := HI.out.shape
          have RS := hik own.row
          have HSV := hik (slt_fn (HV.out k hk))
          have HGK : Hid (Gk G (rvl G P I k) k) := hik ⟨GK.out, HV.out k hk⟩
          have HRO := hik (fun j => rwok_g GK.out j h3)
          have HNR := hik (show rwn (G k).1 = if 7 ≤ (G k).1 then 2 else 1 by unfold rwn; have := gtb_op GK.out; split <;> split <;> first | rfl | omega | (rw [if_neg (by omega)]))
          have HFK := hik (show ftk G (rvl G P I n) k = ftk G (rvl G P I k) k from ftk_congr GK.out (fun j hj => rvl_st G P I hj hk))
          have HR0 := hik (fun (q : ftk G (rvl G P I k) k = true) => rw_0 HGK.out P I h3 q)
          have HR1 := hik (fun (q : 7 ≤ (G k).1) => rw_1 HGK.out q)
          have HLO := hik (fun (q : ¬ 7 ≤ (G k).1) => ftk_low (V := rvl G P I k) q)
          clear own
          generalize hop : (G k).1 = op at c0 hlk hrow e1 e2 h3 HNR HR1 HLO KA HS1 HS2
          have HOP := hik hop
          clear hop
          generalize hRR : rwG (G k) = RR at hrow HRO HR0 HR1
          clear hRR
          go_wp2_with fail
          clear hlk hcf
          generalize wi.alloc (.cells #[.int .i64 op, .int .i64 ga, .int .i64 gb, .int .i64 gk] 51) = W2 at KA ⊢
          refine (hrow _).mono ?_
          rintro e W3 ⟨cr, rfl, rv, k3⟩
          have K3 := hik (KA.out.trans k3)
          have RV := hik rv
          clear rv k3 hrow KA c0 c1 c2 c3
          have hB0 := HBi.out
          by_cases h7 : 7 ≤ op
          · have hnr : rwn op = 2 := by rw [HNR.out, if_pos h7]
            rw [hnr] at RV ⊢
            obtain ⟨rb, ro, cl, pl, cq, pr, rfl, hrb, y0, y1, tl, tr⟩ := RV.out 0 (by omega)
            rw [Nat.zero_mul, Nat.add_zero] at y0 y1
            go_wp2_with fail
            refine (value_any cl pl cq pr (RR 0) _ (k + 1) caps (slt (rvl G P I k)) _ (hik tl) (hik tr) (hik (RS.out.keep K3.out)) (by omega) (hik (HRO.out 0)) HSV).mono ?_
            rintro e W4 ⟨rfl, k4⟩
            have K4 := hik (K3.out.trans k4)
            have RV4 := hik (RV.out.keep k4)
            clear k4 K3 RV y0 y1 tl tr hrb
            generalize hv0 : rwv (slt (rvl G P I k)) (RR 0) = v0 at HR0 HR1 ⊢
            clear hv0
            go_wp2
            go_loopw [61] (fun i W => ∃ j : Nat, j ≤ 1 ∧ i = .int .i64 j ∧ Hid (Chg nob W4 W) ∧ Hid (j = 1 → rwv (slt (rvl G P I k)) (RR 1) = v0)) (fun i _ => 1 - (intOf i).toNat)
            case atStart => exact ⟨0, by omega, rfl, hik (Chg.refl _ _), hik (fun q => by omega)⟩
            case round =>
              obtain ⟨j, hj, rfl, KJ, HJ⟩ := hrel
              rename World => wj
              have KI := hik (K4.out.trans KJ.out)
              rcases (show j = 0 ∨ j = 1 by omega) with rfl | rfl
              · obtain ⟨rb', ro', cl', pl', cq', pr', ee, hrb, y0, y1, tl, tr⟩ := (RV4.out.keep KJ.out) 1 (by omega)
                cases ee
                rw [Nat.one_mul] at y0 y1
                have KA5 := hik ((Chg.refl nob wj).alloc (.cells #[.slice cl' (RR 1).nl pl', .slice cq' (RR 1).nr pr'] 76))
                have K5 := hik (KI.out.trans KA5.out)
                have hval := value_any cl' pl' cq' pr' (RR 1) (some ⟨gs, 0, none⟩) (k + 1) caps (slt (rvl G P I k)) _ (hik (tl.keep KA5.out)) (hik (tr.keep KA5.out)) (hik (RS.out.keep K5.out)) (by omega) (hik (HRO.out 1)) HSV
                clear tl tr hrb
                have HRX := hik (HR1.out h7)
                generalize hv1 : rwv (slt (rvl G P I k)) (RR 1) = v1 at hval HRX HJ
                clear hv1
                by_cases hq : v1 = v0
                · subst hq
                  go_wp2_with (go_at_call 105; refine hval.mono ?_; rintro e W6 ⟨rfl, k6⟩; have K6 := hik (KJ.out.trans (KA5.out.trans k6)); clear k6)
                  go_roundw
                  case rel => exact ⟨1, by omega, by go_num, K6, hik (fun _ => by first | rfl | trivial)⟩
                  case measure => simp [intOf]
                · have hq' : (v1 != v0) = true := by simpa using hq
                  have FN := hik (show ftk G (rvl G P I n) k = false by
                    rw [HFK.out]
                    cases hf : ftk G (rvl G P I k) k with
                    | false => rfl
                    | true => exact absurd (HRX.out.2 hf) hq)
                  go_wp2_with (go_at_call 105; refine hval.mono ?_; rintro e W6 ⟨rfl, k6⟩; have K6 := hik (K5.out.trans k6); clear k6)
                  rw [Exit.noGoto_ret]
                  go_ret2
                  exact RnAns.no (by rw [HA.out, fts_no hlt FN.out]; rfl) (by omega) rfl (HK.out.trans K6.out)
              · have FT := hik (show ftk G (rvl G P I k) k = true from ((HR1.out h7).1 (HJ.out rfl)))
                have EV := hik (show v0 = rvk G P I k (rvl G P I k) from HR0.out FT.out)
                have IB := hik ((HI.out.keep KI.out).keep ((Chg.refl nob wj).alloc (.cells #[.int .i64 v0] 3)))
                have CB := hik (show World.cell? (wj.alloc (.cells #[.int .i64 v0] 3)) ⟨wj.heap.size, 0, none⟩ = some (.int .i64 v0) by go_simp)
                have LB := hik (show W1.heap.size ≤ (wj.alloc (.cells #[.int .i64 v0] 3)).heap.size from Nat.le_trans hB0 (Nat.le_trans KI.out.size ((Chg.refl nob wj).alloc (.cells #[.int .i64 v0] 3)).size))
                have KQ := hik (KI.out.alloc (.cells #[.int .i64 v0] 3))
                go_wp2_with (at_builtin; refine wpList_app1 (by rfl) (.tmp 71) (.tmp 73) (by rfl) W1.heap.size (k + 1) wj.heap.size _ _ v0 (by rfl) (by rfl) IB.out CB.out (by omega) LB.out ?b6)
                case b6 =>
                  intro v7 w7 hg7 k7
                  have HI7 := hik (hg7.congr (slt_next G P I k v0 EV.out))
                  have KZ := hik ((KQ.out.wide (P := fun i => W1.heap.size ≤ i)).trans k7)
                  clear hg7 k7 IB CB LB KQ
                  go_wp2
                  go_roundw
                  case rel => exact ⟨k + 1, by omega, by go_num, HI7, hik (by rw [HS2.out, if_neg e2]; exact HP.out.chgB KZ.out), hik (by rw [HS1.out, if_neg e1]; exact HN.out.chgB KZ.out), hik (HR.out.chg KZ.out (fun q => by have q : W1.heap.size ≤ br := q; have := HBR.out; omega)), hik (HK.out.near KZ.out (fun i q => by have q : W1.heap.size ≤ i := q; have := HB.out; omega)), hik (fun j hj => by
                    by_cases ej : j = k
                    · subst ej; rw [HFK.out]; exact FT.out
                    · exact HF.out j (by omega))⟩
                  case measure => simp [intOf]; omega
          · have hnr : rwn op = 1 := by rw [HNR.out, if_neg h7]
            rw [hnr] at RV ⊢
            obtain ⟨rb, ro, cl, pl, cq, pr, rfl, hrb, y0, y1, tl, tr⟩ := RV.out 0 (by omega)
            rw [Nat.zero_mul, Nat.add_zero] at y0 y1
            go_wp2_with fail
            refine (value_any cl pl cq pr (RR 0) _ (k + 1) caps (slt (rvl G P I k)) _ (hik tl) (hik tr) (hik (RS.out.keep K3.out)) (by omega) (hik (HRO.out 0)) HSV).mono ?_
            rintro e W4 ⟨rfl, k4⟩
            have K4 := hik (K3.out.trans k4)
            have RV4 := hik (RV.out.keep k4)
            clear k4 K3 RV y0 y1 tl tr hrb
            generalize hv0 : rwv (slt (rvl G P I k)) (RR 0) = v0 at HR0 HR1 ⊢
            clear hv0
            go_wp2
            go_loopw [61] (fun i W => i = .int .i64 0 ∧ W = W4) (fun _ _ => 0)
            case atStart => exact ⟨rfl, rfl⟩
            case round =>
              obtain ⟨rfl, hW⟩ := hrel
              have hW := hW.symm
              subst hW
              have FT := hik (show ftk G (rvl G P I k) k = true from HLO.out (by omega))
              have EV := hik (show v0 = rvk G P I k (rvl G P I k) from HR0.out FT.out)
              have IB := hik ((HI.out.keep K4.out).keep ((Chg.refl nob W4).alloc (.cells #[.int .i64 v0] 3)))
              have CB := hik (show World.cell? (W4.alloc (.cells #[.int .i64 v0] 3)) ⟨W4.heap.size, 0, none⟩ = some (.int .i64 v0) by go_simp)
              have LB := hik (show W1.heap.size ≤ (W4.alloc (.cells #[.int .i64 v0] 3)).heap.size from Nat.le_trans hB0 (Nat.le_trans K4.out.size ((Chg.refl nob W4).alloc (.cells #[.int .i64 v0] 3)).size))
              have KQ := hik (K4.out.alloc (.cells #[.int .i64 v0] 3))
              go_wp2_with (at_builtin; refine wpList_app1 (by rfl) (.tmp 71) (.tmp 73) (by rfl) W1.heap.size (k + 1) W4.heap.size _ _ v0 (by rfl) (by rfl) IB.out CB.out (by omega) LB.out ?b6)
              case b6 =>
                intro v7 w7 hg7 k7
                have HI7 := hik (hg7.congr (slt_next G P I k v0 EV.out))
                have KZ := hik ((KQ.out.wide (P := fun i => W1.heap.size ≤ i)).trans k7)
                clear hg7 k7 IB CB LB KQ
                go_wp2
                go_roundw
                case rel => exact ⟨k + 1, by omega, by go_num, HI7, hik (by rw [HS2.out, if_neg e2]; exact HP.out.chgB KZ.out), hik (by rw [HS1.out, if_neg e1]; exact HN.out.chgB KZ.out), hik (HR.out.chg KZ.out (fun q => by have q : W1.heap.size ≤ br := q; have := HBR.out; omega)), hik (HK.out.near KZ.out (fun i q => by have q : W1.heap.size ≤ i := q; have := HB.out; omega)), hik (fun j hj => by
                  by_cases ej : j = k
                  · subst ej; rw [HFK.out]; exact FT.out
                  · exact HF.out j (by omega))⟩
                case measure => simp [intOf]; omega
    · obtain rfl : k = n := by omega
      obtain ⟨gs, caps, rfl, hcs, hcm, own⟩ := HI.out.shape
      have HFS := hik (show ans = 0 by
        rw [HA.out, if_pos]
        rw [fts, List.all_eq_true]
        intro j hj
        exact HF.out j (by simpa using hj))
      have OW := hik (own.tail.mono (g := rvl G P I k) HB.out (fun i hi => by show slt _ (i + 1) = _; unfold slt; rw [if_neg (by omega), Nat.add_sub_cancel]))
      have hc1 : ¬ caps = 1 := by omega
      have hcq : (0 : Int) ≤ (k : Int) := by omega
      clear own
      go_wp2_with (go_at_call 39; refine (slotOf_any _ _ (by omega) (by omega)).mono ?_; rintro e w' ⟨rfl, hw⟩; have hw := hw.symm; subst hw)
      rw [Exit.noGoto_ret]
      go_ret2
      exact RnAns.yes HFS.out rfl OW.out HK.out
end Go.Proofs.YtgimmmmiodlepabDoor
