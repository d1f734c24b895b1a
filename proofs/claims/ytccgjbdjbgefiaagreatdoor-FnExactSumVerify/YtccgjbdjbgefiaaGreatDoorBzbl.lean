/- Several texts in one: A source's copy lies in a block of its own, an empty one too: contracts. Conditions: a list that can be read. · What the program's SumVerify answers: contracts. Conditions: lists of lists that can be read. -/
import Derived.Test.YtccgjbdjbgefiaaGreatDoorBzbb
import Derived.Test.YtccgjbdjbgefiaaGreatDoorBzaj
import Derived.Test.YtccgjbdjbgefiaaGreatDoorBzbk
import Derived.Test.YtccgjbdjbgefiaaGreatDoorBzbp
import Derived.Test.YtccgjbdjbgefiaaGreatDoorBzbi
import Derived.Deep.DeepCutAuto
namespace Go.Proofs.YtccgjbdjbgefiaaGreatDoor
open Go.ChangeShapes Go.WideShapes Go.ChangeAt Go.RowKit
set_option linter.unusedVariables false
set_option maxRecDepth 100000
set_option linter.unusedSimpArgs false

set_option maxHeartbeats 1000000 in
theorem cloneF_any (c : Option Addr) (n cap : Nat) (f g : Nat → Int) (w : World) (h : Hid (PairV w c n f g)) (hn : n ≤ 1099511627776) :
    Calls Tryz.prog 55 #[.slice c n cap] w fun e w' => ∃ (c' : Option Addr) (cap' : Nat), e = .returned (.slice c' n cap') ∧ OwnE w' w.heap.size c' n f g ∧ Chg nob w w' ∧ ∀ b o, c' = some ⟨b, o, none⟩ → w.heap.size ≤ b := by
  by_cases h0 : n = 0
  · subst h0
    obtain ⟨i0, hi, hz0, hz1, hz2⟩ := info_parts infoExt
    have HI := hik hi
    have HZ0 := hik hz0
    have HZ1 := hik hz1
    have HZ2 := hik hz2
    clear hi hz0 hz1 hz2
    have qT : ∀ (w : World) (a : Option Addr) (n c n' c' : Nat), (binOp .eql 30 (.slice a n c) (.slice none n' c')).run Tryz.prog w = .ok (.bool a.isNone) w := fun w a n c n' c' => Lib.run_eql_slice_nil w _ _ a n c n' c' Tryz.underlying30
    cases c with
    | none =>
      go_enter Tryz.func55, Tryz.ntmps55
      go_wp2
      go_ret
      exact ⟨_, _, rfl, .inl rfl, Chg.refl _ _, fun b o e => by cases e⟩
    | some ad =>
      go_enter Tryz.func55, Tryz.ntmps55
      go_wp2_with (at_builtin; refine wpList_append_own _ rfl (.tmp 5) (.tmp 6) 30 rfl w.heap.size 31 i0 (.agg #[.int .i64 0, .int .i64 0]) 2 16 Tryz.underlying30 HI.out HZ0.out HZ1.out HZ2.out rfl (by decide) _ 0 _ rfl (flNone w w.heap.size 31 2 (Nat.le_refl _)) ad 0 cap [] rfl rfl ?c1 ?c2 ?c3 ?c4 ?c5 ?c6)
      case c1 => intro j u hj; simp at hj
      case c2 => intro u hu; simp at hu
      case c3 => unfold maxLen; omega
      case c4 => omega
      case c5 => simp
      case c6 =>
        intro v' w2 hown hgr _
        have HO := hik hown
        have K1 := hik (((Chg.refl nob w).alloc (.cells #[] 31)).grown hgr (fun i e l => by have q : some w.heap.size = some i := e; cases q; omega))
        obtain ⟨c', cap', ev, _, oe⟩ : ∃ c' cap', v' = .slice c' 0 cap' ∧ 0 ≤ cap' ∧ ∀ b o, c' = some ⟨b, o, none⟩ → w.heap.size ≤ b := by
          rcases hown.2 with ⟨e, _⟩ | ⟨g2, cap2, cur, e, hb, _⟩
          · exact ⟨none, 0, e, Nat.le_refl _, fun b o e => by cases e⟩
          · exact ⟨some ⟨g2, 0, none⟩, cap2, e, Nat.zero_le _, fun b o e => by cases e; exact hb⟩
        subst ev
        clear hown hgr qT HO
        go_wp2
        go_ret
        exact ⟨c', cap', rfl, .inl rfl, K1.out, oe⟩
  · refine (clone_any c n cap f g w h hn).mono (fun e w' ⟨c', cap', he, ho, k⟩ => ⟨c', cap', he, ho, k, fun b o ec => ?_⟩)
    rcases ho with q | ⟨b', N, hh, e', hb, _⟩
    · exact absurd q h0
    · rw [e'] at ec
      cases ec
      exact hb

set_option maxRecDepth 100000 in
set_option maxHeartbeats 1000000 in
theorem copiedF_any (c : Option Addr) (n cap : Nat) (f g : Nat → Int) (at' : Int) (st : ByteArray) (ct : Int) (w : World) (h : Hid (PairV w c n f g)) (hn : n ≤ 1099511627776) :
    Calls Tryz.prog 35 #[.agg #[.slice c n cap, .int .i64 at', .string st, .int .i64 ct]] w fun e w' => ∃ (c' : Option Addr) (cap' : Nat), e = .returned (.agg #[.slice c' n cap', .int .i64 at', .string st, .int .i64 ct]) ∧ OwnE w' w.heap.size c' n f g ∧ Chg nob w w' ∧ ∀ b o, c' = some ⟨b, o, none⟩ → w.heap.size ≤ b := by
  go_enter Tryz.func35, Tryz.ntmps35
  go_wp2_with fail
  refine (cloneF_any c n cap f g _ (hik (h.out.keep (((Chg.refl nob w).alloc _).alloc _))) hn).mono ?_
  rintro e W1 ⟨c1, cap1, rfl, ho, k1, hfr⟩
  have HFR := hik (show ∀ b o, c1 = some ⟨b, o, none⟩ → w.heap.size ≤ b from fun b o e => by have q := hfr b o e; simp at q; omega)
  have R0 := hik (rowIs_keep (World.rowIs.alloc (row4_new w (.slice c n cap) (.int .i64 at') (.string st) (.int .i64 ct) 33) (.cells #[.slice none 0 0, .int .i64 0, .string ⟨#[]⟩, .int .i64 0] 33)) k1)
  have R1 := hik (rowIs_keep (row4_new (w.alloc (.cells #[.slice c n cap, .int .i64 at', .string st, .int .i64 ct] 33)) (.slice none 0 0) (.int .i64 0) (.string ⟨#[]⟩) (.int .i64 0) 33) k1)
  have G1 := hik ((((Chg.refl nob w).alloc (.cells #[.slice c n cap, .int .i64 at', .string st, .int .i64 ct] 33)).alloc (.cells #[.slice none 0 0, .int .i64 0, .string ⟨#[]⟩, .int .i64 0] 33)).trans k1)
  have HO := hik ho
  obtain ⟨hc1, hf1, hz1⟩ := kcell k1 (w.heap.size + 2) (by simp)
  clear k1 ho hfr
  go_wp2
  have R2 : Hid ((W1.setCell ⟨w.heap.size, 0, none⟩ (.slice c1 n cap1)).rowIs (w.heap.size + 1) 33 4 (pv4 (.slice none 0 0) (.int .i64 0) (.string ⟨#[]⟩) (.int .i64 0))) := hik (World.rowIs.setOther (by simpa using R1.out) (by simp) _)
  exact bodyPost_ret (v := .agg #[.slice c1 n cap1, .int .i64 at', .string st, .int .i64 ct]) (by simp [results, Tryz.results35, go_sem, row4_s0 R2.out (.slice c1 n cap1), row4_s1 R2.out (.slice c1 n cap1) (.int .i64 at'), row4_s2 R2.out (.slice c1 n cap1) (.int .i64 at') (.string st), row4_s3 R2.out (.slice c1 n cap1) (.int .i64 at') (.string st) (.int .i64 ct)]) rfl ⟨_, _, rfl, ((HO.out.chg (P := fun b => b < w.heap.size + 2) (chg4_set ((Chg.refl _ W1).setCell (p := ⟨w.heap.size, 0, none⟩) (fun _ => (by show w.heap.size < w.heap.size + 2; omega)) _) _ (fun _ => (by show w.heap.size + 1 < w.heap.size + 2; omega)) _ _ _ _) (fun b hb _ hp => (by simp at hb; omega))).low (B' := w.heap.size) (by simp; omega)), chg4_set (G1.out.setCell (p := ⟨w.heap.size, 0, none⟩) (fun l => absurd l (by simp)) _) _ (fun l => absurd l (by simp)) _ _ _ _, HFR.out⟩

end Go.Proofs.YtccgjbdjbgefiaaGreatDoor

namespace Go.Proofs.YtccgjbdjbgefiaaGreatDoor
open Go.ChangeShapes Go.WideShapes Go.ChangeAt Go.RowKit
set_option linter.unusedVariables false
set_option maxRecDepth 100000
set_option linter.unusedSimpArgs false

/-- A check's answer: a point, a claim and a source, or a code. -/
def VtAns (w : World) (m len : Nat) (code : Int) (R : Nat → El) (fs gs : Nat → Int) (X : El) (a : Int) (s : ByteArray) (c : Int) (e : Ending) (w' : World) : Prop :=
  (code = 0 ∧ VIAns w 0 m len R fs gs X.v.1 X.v.2 a s c e w') ∨ (¬ code = 0 ∧ e = .returned (.tuple #[.slice none 0 0, .agg #[.int .i64 0, .int .i64 0], .agg #[.slice none 0 0, .int .i64 0, .string ⟨#[]⟩, .int .i64 0], .int .i64 code]) ∧ Chg nob w w')

set_option maxHeartbeats 8000000 in
theorem verT_any {k : Nat} (hk : k = 1 ∨ k = 2) (c : Option Addr) (m cap : Nat) (hm : m ≤ 6) (A : Nat → Option Addr) (L C : Nat → Nat) (f g : Nat → Nat → Int) (U : Nat → Nat → El) (X R : Nat → El) (Qa : Nat → Int) (Qs : Nat → ByteArray) (Qc : Nat → Int) (code : Int) (vd : Nat → Nat → Int) (cs : Option Addr) (len caps : Nat) (fs gs : Nat → Int) (w : World) (h : Hid (RowsV w c m A L C f g)) (hL9 : Hid (∀ i, i < m → L i ≤ 1099511627776)) (hU : Hid (RowsL w c m L U)) (hL : Hid (∀ i, i < m → L i ≤ 8)) (hs : Hid (PairV w cs len fs gs)) (htb : Hid (Tabs w)) (hl : len ≤ 64) (hof : Hid (okP fs gs len = true)) (hvc : Hid (vcc (k : Int) (X 0).v.1 (X 0).v.2 m L f g (m : Int) fs gs len (Qa 0) (Qs 0) (Qc 0) = 0))
    (hV : Hid (∀ i n, vd i (n + 1) = if L i = k + 2 then (if (El.ad (U i 0) (U i 1)).v = (X i).v then vd (i + 1) n else 10) else 18)) (hV0 : Hid (∀ i, vd i 0 = 0)) (hcd : Hid (code = vd 0 m))
    (hX : Hid (∀ i, X (i + 1) = El.lag (U i) (R i) (k + 2))) (hS : Hid (∀ i, Qs (i + 1) = abS (Qs i) (etx (cA (U i)) (cB (U i)) (k + 2)))) (hA : Hid (∀ i, Qa (i + 1) = dnA len (Qa i) 1)) (hC : Hid (∀ i, Qc (i + 1) = dnC len 0 1))
    (hD : Hid (∀ i, drE fs len (Qa i) (Qs (i + 1)) 0 0 = (R i).v.1 ∧ drF gs len (Qa i) (Qs (i + 1)) 0 0 = (R i).v.2)) (hZ : Hid (∀ i, (Qs i).size = 32)) (hB : Hid (∀ i, i < 6 → 0 ≤ Qa i ∧ Qa i + 1 ≤ 1000000)) (hB2 : Hid (∀ i, i ≤ 6 → 0 ≤ Qc i ∧ Qc i ≤ 1000000)) :
    Calls Tryz.prog 10 #[.int .i64 (k : Int), .agg #[.int .i64 (X 0).v.1, .int .i64 (X 0).v.2], .slice c m cap, .int .i64 (m : Int), .agg #[.slice cs len caps, .int .i64 (Qa 0), .string (Qs 0), .int .i64 (Qc 0)]] w fun e w' => VtAns w m len code R fs gs (X m) (Qa m) (Qs m) (Qc m) e w' := by
  obtain ⟨i0, hi, hz0, hz1, hz2⟩ := info_parts infoExt
  have HI := hik hi
  have HZ0 := hik hz0
  have HZ1 := hik hz1
  have HZ2 := hik hz2
  clear hi hz0 hz1 hz2
  obtain ⟨t, d, ff, hKD, ht, hd⟩ := KD.ex hk
  have HKD := hik hKD
  have hk2 : k ≤ 2 := by omega
  obtain ⟨D, hDk⟩ : ∃ D, D = k + 2 := ⟨_, rfl⟩
  have hwd : IntKind.i64.wrap (d + 1) = (D : Int) := by rw [IntKind.wrap_i64]; omega
  have hD4 : D ≤ 4 ∧ 2 ≤ D := by omega
  rw [← hDk] at hV hX hS
  clear ht hd hKD hk hDk
  have E0 : Hid (ElB ((((w.alloc (.cells #[.int .i64 (X 0).v.1, .int .i64 (X 0).v.2] 31)).alloc (.cells #[.slice cs len caps, .int .i64 (Qa 0), .string (Qs 0), .int .i64 (Qc 0)] 33)).alloc (.cells #[.int .i64 0, .int .i64 0] 31)).alloc (.cells #[.slice none 0 0, .int .i64 0, .string ⟨#[]⟩, .int .i64 0] 33)) w.heap.size (X 0)) := hik ((ElB.new w (X 0)).keep ((((Chg.refl nob _).alloc (.cells #[.slice cs len caps, .int .i64 (Qa 0), .string (Qs 0), .int .i64 (Qc 0)] 33)).alloc (.cells #[.int .i64 0, .int .i64 0] 31)).alloc (.cells #[.slice none 0 0, .int .i64 0, .string ⟨#[]⟩, .int .i64 0] 33)))
  have S0 : Hid (((((w.alloc (.cells #[.int .i64 (X 0).v.1, .int .i64 (X 0).v.2] 31)).alloc (.cells #[.slice cs len caps, .int .i64 (Qa 0), .string (Qs 0), .int .i64 (Qc 0)] 33)).alloc (.cells #[.int .i64 0, .int .i64 0] 31)).alloc (.cells #[.slice none 0 0, .int .i64 0, .string ⟨#[]⟩, .int .i64 0] 33)).rowIs (w.heap.size + 1) 33 4 (pv4 (.slice cs len caps) (.int .i64 (Qa 0)) (.string (Qs 0)) (.int .i64 (Qc 0)))) := hik (by simpa using World.rowIs.alloc (World.rowIs.alloc (row4_new (w.alloc (.cells #[.int .i64 (X 0).v.1, .int .i64 (X 0).v.2] 31)) (.slice cs len caps) (.int .i64 (Qa 0)) (.string (Qs 0)) (.int .i64 (Qc 0)) 33) (.cells #[.int .i64 0, .int .i64 0] 31)) (.cells #[.slice none 0 0, .int .i64 0, .string ⟨#[]⟩, .int .i64 0] 33))
  have F0 : Hid (ElB ((((w.alloc (.cells #[.int .i64 (X 0).v.1, .int .i64 (X 0).v.2] 31)).alloc (.cells #[.slice cs len caps, .int .i64 (Qa 0), .string (Qs 0), .int .i64 (Qc 0)] 33)).alloc (.cells #[.int .i64 0, .int .i64 0] 31)).alloc (.cells #[.slice none 0 0, .int .i64 0, .string ⟨#[]⟩, .int .i64 0] 33)) (w.heap.size + 1 + 1) El.zr) := hik (by simpa using (ElB.zero ((w.alloc (.cells #[.int .i64 (X 0).v.1, .int .i64 (X 0).v.2] 31)).alloc (.cells #[.slice cs len caps, .int .i64 (Qa 0), .string (Qs 0), .int .i64 (Qc 0)] 33))).keep ((Chg.refl nob _).alloc (.cells #[.slice none 0 0, .int .i64 0, .string ⟨#[]⟩, .int .i64 0] 33)))
  have Y0 : Hid (((((w.alloc (.cells #[.int .i64 (X 0).v.1, .int .i64 (X 0).v.2] 31)).alloc (.cells #[.slice cs len caps, .int .i64 (Qa 0), .string (Qs 0), .int .i64 (Qc 0)] 33)).alloc (.cells #[.int .i64 0, .int .i64 0] 31)).alloc (.cells #[.slice none 0 0, .int .i64 0, .string ⟨#[]⟩, .int .i64 0] 33)).rowIs (w.heap.size + 1 + 1 + 1) 33 4 (pv4 (.slice none 0 0) (.int .i64 0) (.string ⟨#[]⟩) (.int .i64 0))) := hik (by simpa using row4_new (((w.alloc (.cells #[.int .i64 (X 0).v.1, .int .i64 (X 0).v.2] 31)).alloc (.cells #[.slice cs len caps, .int .i64 (Qa 0), .string (Qs 0), .int .i64 (Qc 0)] 33)).alloc (.cells #[.int .i64 0, .int .i64 0] 31)) (.slice none 0 0) (.int .i64 0) (.string ⟨#[]⟩) (.int .i64 0) 33)
  have G0 := hik (((((Chg.refl nob w).alloc (.cells #[.int .i64 (X 0).v.1, .int .i64 (X 0).v.2] 31)).alloc (.cells #[.slice cs len caps, .int .i64 (Qa 0), .string (Qs 0), .int .i64 (Qc 0)] 33)).alloc (.cells #[.int .i64 0, .int .i64 0] 31)).alloc (.cells #[.slice none 0 0, .int .i64 0, .string ⟨#[]⟩, .int .i64 0] 33))
  go_enter Tryz.func10, Tryz.ntmps10
  go_wp2_with fail
  generalize hE : (((w.alloc (.cells #[.int .i64 (X 0).v.1, .int .i64 (X 0).v.2] 31)).alloc (.cells #[.slice cs len caps, .int .i64 (Qa 0), .string (Qs 0), .int .i64 (Qc 0)] 33)).alloc (.cells #[.int .i64 0, .int .i64 0] 31)).alloc (.cells #[.slice none 0 0, .int .i64 0, .string ⟨#[]⟩, .int .i64 0] 33) = W0 at E0 S0 F0 Y0 G0 ⊢
  clear hE
  refine (vcc_any (k : Int) (X 0).v.1 (X 0).v.2 c m cap A L C f g (m : Int) cs len caps fs gs (Qa 0) (Qs 0) (Qc 0) _ (hik (RowsV.keep h.out G0.out)) hL9 (by omega) (hik (PairV.keep hs.out G0.out)) (by omega) (by have := hZ.out 0; omega)).mono ?_
  rintro e W1 ⟨he, k1⟩
  rw [hvc.out] at he
  subst he
  have HE := hik (E0.out.keep k1)
  have HS := hik (rowIs_keep S0.out k1)
  have HF := hik (F0.out.keep k1)
  have HY := hik (rowIs_keep Y0.out k1)
  have HG := hik (G0.out.trans k1)
  clear k1 E0 S0 F0 Y0 G0
  go_wp2_with fail
  refine (co_ok HKD.out _).mono ?_
  rintro e W2 ⟨rfl, k2⟩
  obtain ⟨bc, hbc⟩ : ∃ bc, bc = W2.heap.size := ⟨_, rfl⟩
  have HCm := hik (show CmB (W2.alloc (.cells #[.int .i64 t, .int .i64 d, .func (.func ff) #[] #[]] 60)) bc t d (.func (.func ff) #[] #[]) from by rw [hbc]; exact CmB.new W2 t d _)
  have hbw : w.heap.size + 4 ≤ bc := by have := HY.out.lt; have := k2.size; omega
  have kA := k2.alloc (.cells #[.int .i64 t, .int .i64 d, .func (.func ff) #[] #[]] 60)
  replace HE := hik (HE.out.keep kA)
  replace HS := hik (rowIs_keep HS.out kA)
  replace HF := hik (HF.out.keep kA)
  replace HY := hik (rowIs_keep HY.out kA)
  replace HG := hik (HG.out.trans kA)
  clear k2 kA
  go_upto_region 5 with fail
  rw [← hbc]
  generalize hE : W2.alloc (.cells #[.int .i64 t, .int .i64 d, .func (.func ff) #[] #[]] 60) = W3 at HE HS HF HY HG HCm ⊢
  clear hE hbc
  go_wp2
  obtain ⟨B, hBB⟩ : ∃ B, B = W3.heap.size := ⟨_, rfl⟩
  have hBw := hik (show w.heap.size + 4 ≤ bc ∧ bc < B ∧ B ≤ W3.heap.size from ⟨hbw, by rw [hBB]; exact HCm.out.lt, by omega⟩)
  clear hBB hbw
  go_loopw [17, 40] (fun pp ii W => ∃ (i n' : Nat) (ci : Option Addr) (capi : Nat) (p0 : Value), i + n' = m ∧ ii = .int .i64 (i : Int) ∧ pp = p0 ∧ Hid (code = vd i n') ∧ Hid (W.ownsRow B 31 2 p0 i ((List.range (i * 2)).map (pf (cA R) (cB R)))) ∧ Hid (ElB W w.heap.size (X i)) ∧ Hid (W.rowIs (w.heap.size + 1) 33 4 (pv4 (.slice ci len capi) (.int .i64 (Qa i)) (.string (Qs i)) (.int .i64 (Qc i)))) ∧ Hid (PairV W ci len fs gs) ∧ Hid (ElB W (w.heap.size + 1 + 1) El.zr) ∧ Hid (W.rowIs (w.heap.size + 1 + 1 + 1) 33 4 (pv4 (.slice none 0 0) (.int .i64 0) (.string ⟨#[]⟩) (.int .i64 0))) ∧ Hid (CmB W bc t d (.func (.func ff) #[] #[])) ∧ Hid (Chg nob w W) ∧ Hid (B ≤ W.heap.size)) (fun _ ii _ => m - (intOf ii).toNat)
  case atStart => exact ⟨0, m, cs, caps, _, by omega, rfl, rfl, hcd, hik (World.ownsRow_nil _ _ _ _), HE, HS, hik (PairV.keep hs.out HG.out), HF, HY, HCm, HG, hik hBw.out.2.2⟩
  case round =>
    clear HE HS HF HY HCm HG hcd
    obtain ⟨i, n', ci, capi, p0, hin, rfl, hpp, HC, HW, HE, HS, HPV, HF, HY, HCm, HG, HBW⟩ := hrel
    have hpp' := hpp.symm
    clear hpp
    subst hpp'
    rename World => wi
    by_cases hlt : i < m
    · obtain ⟨n'', rfl⟩ : ∃ n'', n' = n'' + 1 := ⟨n' - 1, by omega⟩
      have hi1 : (i : Int) < (m : Int) := by omega
      have hi0 : (0 : Int) ≤ (i : Int) := by omega
      obtain ⟨xb, xo, Ai, Cp, ec, hxb, hc, hP⟩ := (hU.out.keep HG.out) i hlt
      subst ec
      have PU := hik hP
      have HVI := hik (hV.out i n'')
      have HL8 := hik (hL.out i hlt)
      have HLT := hik hlt
      have m1 := HCm.out.c1
      clear hP
      by_cases hLk : L i = D
      · have hbl : ((L i : Int) != (D : Int)) = false := by rw [hLk]; simp
        have HLK := hik hLk
        rw [hLk] at PU hc hbl
        clear hLk
        go_upto_region 11 with fail
        clear m1 hbl
        obtain ⟨ab, ao, ea, hab, _, _⟩ := PairE.at_ PU.out (show 0 < D by omega)
        subst ea
        have u0 : wi.cell? ⟨ab, ao, none⟩ = some (.int .i64 (U i 0).v.1) := by have q := PairE.c0 PU.out (i := 0) (by omega); simpa using q
        have u1 : wi.cell? ⟨ab, ao + 1, none⟩ = some (.int .i64 (U i 0).v.2) := by have q := PairE.c1 PU.out (i := 0) (by omega); simpa using q
        have y0 : wi.cell? ⟨ab, ao + 2, none⟩ = some (.int .i64 (U i 1).v.1) := by have q := PairE.c0 PU.out (i := 1) (by omega); simpa using q
        have y1 : wi.cell? ⟨ab, ao + 2 + 1, none⟩ = some (.int .i64 (U i 1).v.2) := by have q := PairE.c1 PU.out (i := 1) (by omega); simpa using q
        have z0 := HE.out.c0
        have z1 := HE.out.c1
        have hq0 : (0 : Int) < (D : Int) := by omega
        have hq1 : (1 : Int) < (D : Int) := by omega
        have hq2 : 0 < D := by omega
        have hq3 : 1 < D := by omega
        by_cases hsum : (El.ad (U i 0) (U i 1)).v = (X i).v
        · have hs1 : (El.ad (U i 0) (U i 1)).v.1 = (X i).v.1 := by rw [hsum]
          have hs2 : (El.ad (U i 0) (U i 1)).v.2 = (X i).v.2 := by rw [hsum]
          have KW := hik ((Chg.refl nob wi).drew1)
          have SA := hik (fun (WW : World) (kW : Chg nob wi WW) => (show (WW.cell? ⟨ab, ao, none⟩ = some (.int .i64 (U i 0).v.1) ∧ WW.cell? ⟨ab, ao + 1, none⟩ = some (.int .i64 (U i 0).v.2) ∧ WW.cell? ⟨ab, ao + 2, none⟩ = some (.int .i64 (U i 1).v.1) ∧ WW.cell? ⟨ab, ao + 2 + 1, none⟩ = some (.int .i64 (U i 1).v.2) ∧ WW.cell? ⟨w.heap.size, 0, none⟩ = some (.int .i64 (X i).v.1) ∧ WW.cell? ⟨w.heap.size, 1, none⟩ = some (.int .i64 (X i).v.2)) from ⟨kW.see u0, kW.see u1, kW.see y0, kW.see y1, kW.see z0, kW.see z1⟩))
          refine wp_region_held_drew (S := fun w' => w'.cell? ⟨ab, ao, none⟩ = some (.int .i64 (U i 0).v.1) ∧ w'.cell? ⟨ab, ao + 1, none⟩ = some (.int .i64 (U i 0).v.2) ∧ w'.cell? ⟨ab, ao + 2, none⟩ = some (.int .i64 (U i 1).v.1) ∧ w'.cell? ⟨ab, ao + 2 + 1, none⟩ = some (.int .i64 (U i 1).v.2) ∧ w'.cell? ⟨w.heap.size, 0, none⟩ = some (.int .i64 (X i).v.1) ∧ w'.cell? ⟨w.heap.size, 1, none⟩ = some (.int .i64 (X i).v.2)) (by kernel_rfl) ⟨u0, u1, y0, y1, z0, z1⟩ (fun hHeld => ?_)
          refine wpAnyH_take (i := 0) (v := ?_) rfl (by kernel_rfl) (by kernel_rfl) (by kernel_rfl) (fun _ _ _ h => h) (Or.inl ⟨by rfl, ?_⟩) (by assumption) ?_
          rotate_left 1
          · (intro w' hSw; (try dsimp only at hSw); go_simp; try with_reducible rfl)
          try simp only [Act.put, List.setIfInBounds_toArray, List.set_cons_zero, List.set_cons_succ, List.getElem_toArray, List.getElem_cons_zero, List.getElem_cons_succ]
          refine wpAnyH_take (i := 1) (v := ?_) rfl (by kernel_rfl) (by kernel_rfl) (by kernel_rfl) (fun _ _ _ h => h) (Or.inl ⟨by rfl, ?_⟩) (by assumption) ?_
          rotate_left 1
          · (intro w' hSw; (try dsimp only at hSw); go_simp; try with_reducible rfl)
          try simp only [Act.put, List.setIfInBounds_toArray, List.set_cons_zero, List.set_cons_succ, List.getElem_toArray, List.getElem_cons_zero, List.getElem_cons_succ]
          refine wpAnyH_take (i := 2) (v := ?_) rfl (by kernel_rfl) (by kernel_rfl) (by kernel_rfl) (fun _ _ _ h => h) (Or.inl ⟨by rfl, ?_⟩) (by assumption) ?_
          rotate_left 1
          · (intro w' hSw; (try dsimp only at hSw); go_simp; try with_reducible rfl)
          try simp only [Act.put, List.setIfInBounds_toArray, List.set_cons_zero, List.set_cons_succ, List.getElem_toArray, List.getElem_cons_zero, List.getElem_cons_succ]
          refine wpAnyH_take (i := 3) (v := ?_) rfl (by kernel_rfl) (by kernel_rfl) (by kernel_rfl) (fun _ _ _ h => h) (Or.inl ⟨by rfl, ?_⟩) (by assumption) ?_
          rotate_left 1
          · (intro w' hSw; (try dsimp only at hSw); go_simp; try with_reducible rfl)
          try simp only [Act.put, List.setIfInBounds_toArray, List.set_cons_zero, List.set_cons_succ, List.getElem_toArray, List.getElem_cons_zero, List.getElem_cons_succ]
          refine wpAnyH_take (i := 4) (v := ?_) rfl (by kernel_rfl) (by kernel_rfl) (by kernel_rfl) (fun _ _ _ h => h) (Or.inl ⟨by rfl, ?_⟩) (by assumption) ?_
          rotate_left 1
          · (intro w' hSw; (try dsimp only at hSw); go_simp; try with_reducible rfl)
          try simp only [Act.put, List.setIfInBounds_toArray, List.set_cons_zero, List.set_cons_succ, List.getElem_toArray, List.getElem_cons_zero, List.getElem_cons_succ]
          refine wpAnyH_take (i := 5) (v := ?_) rfl (by kernel_rfl) (by kernel_rfl) (by kernel_rfl) (fun _ _ _ h => h) (Or.inl ⟨by rfl, ?_⟩) (by assumption) ?_
          rotate_left 1
          · (intro w' hSw; (try dsimp only at hSw); go_simp; try with_reducible rfl)
          try simp only [Act.put, List.setIfInBounds_toArray, List.set_cons_zero, List.set_cons_succ, List.getElem_toArray, List.getElem_cons_zero, List.getElem_cons_succ]
          refine wpAnyH_take (i := 7) (v := ?_) rfl (by kernel_rfl) (by kernel_rfl) (by kernel_rfl) (fun _ _ _ h => h) (Or.inl ⟨by rfl, ?_⟩) (by assumption) ?_
          rotate_left 1
          · (intro w' hSw; (try dsimp only at hSw); go_simp; try with_reducible rfl)
          try simp only [Act.put, List.setIfInBounds_toArray, List.set_cons_zero, List.set_cons_succ, List.getElem_toArray, List.getElem_cons_zero, List.getElem_cons_succ]
          refine wpAnyH_ready (rs := [6]) (by kernel_rfl) (by simp) ?_
          refine AllReadyH.cons rfl (fun K hK => ?_) AllReadyH.nil
          refine stepL_callN 32 #[.tmp 54, .tmp 57] #[31, 31] (by rfl) (by rfl) #[.agg #[.int .i64 (U i 0).v.1, .int .i64 (U i 0).v.2], .agg #[.int .i64 (U i 1).v.1, .int .i64 (U i 1).v.2]] (by simp only [List.map_toArray, List.map_cons, List.map_nil] <;> rfl) (run_go Tryz.func32 (by kernel_rfl) (by kernel_rfl) _ _) (ad_el (U i 0) (U i 1) _) ?_
          rintro e U1 ⟨he, kk⟩
          refine ⟨_, he, ?_⟩
          replace KW := hik (KW.out.trans kk)
          refine hK.out _ _ (SA.out _ KW.out) (fun hHeld => ?_)
          clear hK K
          try simp only [Act.put, List.setIfInBounds_toArray, List.set_cons_zero, List.set_cons_succ, List.getElem_toArray, List.getElem_cons_zero, List.getElem_cons_succ]
          clear he kk
          refine wpAnyH_take (i := 8) (v := .bool false) rfl (by kernel_rfl) (by kernel_rfl) (by kernel_rfl) (fun _ _ _ h => h) (Or.inl ⟨by rfl, ?_⟩) (by assumption) ?_
          · (intro w' hSw; (try dsimp only at hSw); go_simp; try rfl)
          try simp only [Act.put, List.setIfInBounds_toArray, List.set_cons_zero, List.set_cons_succ, List.getElem_toArray, List.getElem_cons_zero, List.getElem_cons_succ]
          refine wpAnyH_done (by kernel_rfl) ?_ _
          have kk := KW.out
          have HGi := HG
          have hci := hik hc
          have HBi := HBW
          replace HE := hik (HE.out.keep kk)
          replace HS := hik (rowIs_keep HS.out kk)
          replace HF := hik (HF.out.keep kk)
          replace HY := hik (rowIs_keep HY.out kk)
          replace HCm := hik (HCm.out.keep kk)
          replace HG := hik (HG.out.trans kk)
          replace HPV := hik (PairV.keep HPV.out kk)
          replace HW := hik (flKeep HW.out kk)
          replace HBW := hik (Nat.le_trans HBW.out kk.size)
          replace PU := hik (PairE.keep PU.out kk)
          have hu1 := hik (show wi.heap.size ≤ U1.heap.size from kk.size)
          have HC2 := hik (show code = vd (i + 1) n'' by rw [HC.out, HVI.out, if_pos HLK.out, if_pos hsum])
          have hlow := hik (show ∀ x, p0.ownBlock = some x → B ≤ x ∧ x < U1.heap.size from fun x e => HW.out.lt x e)
          clear SA hHeld KW kk u0 u1 y0 y1 z0 z1 hc HC HVI hs1 hs2 hsum
          have QW := hik (fun (W : World) (ht : Hid (Tabs W)) (hw : Hid (PairV W ci len fs gs)) (hg : Hid (PairE W (some ⟨ab, ao, none⟩) D (U i))) => answering_any ci len capi fs gs (Qa i) (Qs i) (Qc i) (some ⟨ab, ao, none⟩) D Cp (cA (U i)) (cB (U i)) W ht hw hg (sokb_mk8 hof.out hl ⟨(hB.out i (by omega)).1, by have := (hB.out i (by omega)).2; omega⟩ (hZ.out i) (hB2.out i (by omega))) (okP_el _ _) (by omega) (hB.out i (by omega)).2)
          rw [← hA.out i, ← hS.out i, ← hC.out i, (hD.out i).1, (hD.out i).2] at QW
          have x0 : U1.cell? ⟨w.heap.size + 1, 0, none⟩ = some (.slice ci len capi) := HS.out.cell (by omega)
          have x1 : U1.cell? ⟨w.heap.size + 1, 1, none⟩ = some (.int .i64 (Qa i)) := HS.out.cell (by omega)
          have x2 : U1.cell? ⟨w.heap.size + 1, 2, none⟩ = some (.string (Qs i)) := HS.out.cell (by omega)
          have x3 : U1.cell? ⟨w.heap.size + 1, 3, none⟩ = some (.int .i64 (Qc i)) := HS.out.cell (by omega)
          go_wp2_with fail
          refine (QW.out _ (hik (htb.out.keep HG.out)) HPV PU).mono ?_
          rintro e W4 ⟨c2, cap2, rfl, hO, k4⟩
          have OC := hik hO
          replace HE := hik (HE.out.keep k4)
          replace HS := hik (rowIs_keep HS.out k4)
          replace HF := hik (HF.out.keep k4)
          replace HY := hik (rowIs_keep HY.out k4)
          replace HCm := hik (HCm.out.keep k4)
          replace HG := hik (HG.out.trans k4)
          replace HW := hik (flKeep HW.out k4)
          replace HBW := hik (Nat.le_trans HBW.out k4.size)
          replace PU := hik (PairE.keep PU.out k4)
          have hw4 := hik (show U1.heap.size ≤ W4.heap.size from k4.size)
          clear k4 hO HPV QW x0 x1 x2 x3
          go_upto_region 14 with fail
          obtain ⟨ba, hba⟩ : ∃ ba, ba = W4.heap.size := ⟨_, rfl⟩
          have kA := ((Chg.refl nob W4).alloc (.cells #[.slice c2 len cap2, .int .i64 (Qa (i + 1)), .string (Qs (i + 1)), .int .i64 (Qc (i + 1))] 33)).alloc (.cells #[.int .i64 (R i).v.1, .int .i64 (R i).v.2] 31)
          have BA : Hid (((W4.alloc (.cells #[.slice c2 len cap2, .int .i64 (Qa (i + 1)), .string (Qs (i + 1)), .int .i64 (Qc (i + 1))] 33)).alloc (.cells #[.int .i64 (R i).v.1, .int .i64 (R i).v.2] 31)).rowIs ba 33 4 (pv4 (.slice c2 len cap2) (.int .i64 (Qa (i + 1))) (.string (Qs (i + 1))) (.int .i64 (Qc (i + 1))))) := hik (by rw [hba]; exact World.rowIs.alloc (row4_new W4 _ _ _ _ _) _)
          have BX : Hid (ElB ((W4.alloc (.cells #[.slice c2 len cap2, .int .i64 (Qa (i + 1)), .string (Qs (i + 1)), .int .i64 (Qc (i + 1))] 33)).alloc (.cells #[.int .i64 (R i).v.1, .int .i64 (R i).v.2] 31)) (ba + 1) (R i)) := hik (by rw [hba]; simpa using ElB.new (W4.alloc (.cells #[.slice c2 len cap2, .int .i64 (Qa (i + 1)), .string (Qs (i + 1)), .int .i64 (Qc (i + 1))] 33)) (R i))
          have s5 : ((W4.alloc (.cells #[.slice c2 len cap2, .int .i64 (Qa (i + 1)), .string (Qs (i + 1)), .int .i64 (Qc (i + 1))] 33)).alloc (.cells #[.int .i64 (R i).v.1, .int .i64 (R i).v.2] 31)).heap.size = ba + 2 := by rw [hba]; simp
          replace HE := hik (HE.out.keep kA)
          replace HS := hik (rowIs_keep HS.out kA)
          replace HF := hik (HF.out.keep kA)
          replace HY := hik (rowIs_keep HY.out kA)
          replace HCm := hik (HCm.out.keep kA)
          replace HG := hik (HG.out.trans kA)
          replace HW := hik (flKeep HW.out kA)
          replace HBW := hik (Nat.le_trans HBW.out kA.size)
          replace PU := hik (PairE.keep PU.out kA)
          replace OC := hik (OC.out.keep kA)
          rw [← hba]
          generalize hE : (W4.alloc (.cells #[.slice c2 len cap2, .int .i64 (Qa (i + 1)), .string (Qs (i + 1)), .int .i64 (Qc (i + 1))] 33)).alloc (.cells #[.int .i64 (R i).v.1, .int .i64 (R i).v.2] 31) = W5 at BA BX HW HE HS HF HY HCm HG HBW PU OC s5 ⊢
          have hw5 := hik (show U1.heap.size ≤ ba ∧ W5.heap.size = ba + 2 from ⟨by rw [hba]; exact hw4.out, s5⟩)
          clear hE hba kA s5 hw4
          have y0 := BX.out.c0
          have y1 := BX.out.c1
          have zX : ba + 1 < W5.heap.size := BX.out.lt
          go_wp2_with (at_builtin; refine wpList_append_lies _ ?g0 (.tmp 69) (.tmp 71) 30 ?g1 B 31 i0 (.agg #[.int .i64 0, .int .i64 0]) 2 16 Tryz.underlying30 HI.out HZ0.out HZ1.out HZ2.out rfl (by decide) p0 i _ ?b1 (HW.out.alloc _) ⟨_, 0, none⟩ 1 1 [.int .i64 (R i).v.1, .int .i64 (R i).v.2] ?b3 ?b4 (flNews _ _ _ _) (flOne _ _) (by omega) ?b7 ?b8 ?b9 _ rfl ?b10)
          case g0 => rfl
          case g1 => rfl
          case b1 => rfl
          case b3 => rfl
          case b4 => rfl
          case b7 => unfold maxLen; omega
          case b8 => omega
          case b9 => have := HBW.out; simp; omega
          case b10 =>
            intro g8 cp8 w8 o8 hg8 hat8 hlt8
            have C8 := hik (((Chg.refl (fun x => p0.ownBlock = some x) W5).alloc (.cells #[.int .i64 (R i).v.1, .int .i64 (R i).v.2] 31)).trans (grown_chg hg8))
            have HW8 : Hid (w8.ownsRow B 31 2 (.slice (some ⟨g8, 0, none⟩) (i + 1) cp8) (i + 1) ((List.range ((i + 1) * 2)).map (pf (cA R) (cB R)))) := hik (by rw [← flPair]; exact o8)
            have nP := hik (show ∀ x, x < B ∨ U1.heap.size ≤ x → ¬ p0.ownBlock = some x from fun x hx e => by have := hlow.out x e; omega)
            replace HE := hik (HE.out.chg C8.out (nP.out _ (by have := hBw.out; omega)))
            replace HS := hik (rowIs_chg HS.out C8.out (nP.out _ (by have := hBw.out; omega)))
            replace HF := hik (HF.out.chg C8.out (nP.out _ (by have := hBw.out; omega)))
            replace HY := hik (rowIs_chg HY.out C8.out (nP.out _ (by have := hBw.out; omega)))
            replace HCm := hik (HCm.out.chg C8.out (nP.out _ (by have := hBw.out; omega)))
            replace BA := hik (rowIs_chg BA.out C8.out (nP.out _ (by have := hw5.out; omega)))
            replace BX := hik (BX.out.chg C8.out (nP.out _ (by have := hw5.out; omega)))
            replace OC := hik (OC.out.chg C8.out (fun b hb _ => nP.out b (by omega)))
            replace HG := hik (HG.out.near C8.out (fun x e => by have := hlow.out x e; have := hBw.out; omega))
            replace HBW := hik (Nat.le_trans HBW.out C8.out.size)
            have PU8 := hik (show PairE w8 (some ⟨ab, ao, none⟩) D (U i) from by
              obtain ⟨xb2, xo2, A2, Cp2, ec2, _, hc2, hP2⟩ := (hU.out.keep HG.out) i HLT.out
              obtain ⟨xb3, xo3, A3, Cp3, ec3, _, hc3, hP3⟩ := hU.out i HLT.out
              obtain ⟨xb4, xo4, A4, Cp4, ec4, _, hc4, hP4⟩ := (hU.out.keep HGi.out) i HLT.out
              cases ec2
              cases ec3
              cases ec4
              have q2 := HG.out.see hc3
              rw [hc2] at q2
              cases q2
              have q3 := HGi.out.see hc3
              rw [hci.out] at q3
              cases q3
              rw [← HLK.out]
              exact hP2)
            have hb8 := hik (show W5.heap.size ≤ w8.heap.size from C8.out.size)
            have QL := hik (fun (W : World) (hw : Hid (PairE W (some ⟨ab, ao, none⟩) D (U i))) => lineAt_any (R i) (some ⟨ab, ao, none⟩) D Cp (U i) W hw (by omega) (by omega))
            rw [← hX.out i] at QL
            clear o8 hg8 hat8 hlt8 C8 HW PU y0 y1 zX
            have y0 := BX.out.c0
            have y1 := BX.out.c1
            have x0 : w8.cell? ⟨ba, 0, none⟩ = some (.slice c2 len cap2) := BA.out.cell (by omega)
            have x1 : w8.cell? ⟨ba, 1, none⟩ = some (.int .i64 (Qa (i + 1))) := BA.out.cell (by omega)
            have x2 : w8.cell? ⟨ba, 2, none⟩ = some (.string (Qs (i + 1))) := BA.out.cell (by omega)
            have x3 : w8.cell? ⟨ba, 3, none⟩ = some (.int .i64 (Qc (i + 1))) := BA.out.cell (by omega)
            go_upto_region 15 with fail
            have KW := hik ((Chg.refl (fun x => x = w.heap.size) w8).drew1)
            have SA := hik (fun (WW : World) (kW : Chg (fun x => x = w.heap.size) w8 WW) => (show (WW.cell? ⟨ba + 1, 0, none⟩ = some (.int .i64 (R i).v.1) ∧ WW.cell? ⟨ba + 1, 1, none⟩ = some (.int .i64 (R i).v.2) ∧ WW.cell? ⟨ba, 0, none⟩ = some (.slice c2 len cap2) ∧ WW.cell? ⟨ba, 1, none⟩ = some (.int .i64 (Qa (i + 1))) ∧ WW.cell? ⟨ba, 2, none⟩ = some (.string (Qs (i + 1))) ∧ WW.cell? ⟨ba, 3, none⟩ = some (.int .i64 (Qc (i + 1)))) from ⟨kW.seeP y0 (by have := hw5.out; have := hu1.out; have := HBi.out; have := hBw.out; omega), kW.seeP y1 (by have := hw5.out; have := hu1.out; have := HBi.out; have := hBw.out; omega), kW.seeP x0 (by have := hw5.out; have := hu1.out; have := HBi.out; have := hBw.out; omega), kW.seeP x1 (by have := hw5.out; have := hu1.out; have := HBi.out; have := hBw.out; omega), kW.seeP x2 (by have := hw5.out; have := hu1.out; have := HBi.out; have := hBw.out; omega), kW.seeP x3 (by have := hw5.out; have := hu1.out; have := HBi.out; have := hBw.out; omega)⟩))
            refine wp_regionL (L := 5) (S := fun w' => w'.cell? ⟨ba + 1, 0, none⟩ = some (.int .i64 (R i).v.1) ∧ w'.cell? ⟨ba + 1, 1, none⟩ = some (.int .i64 (R i).v.2) ∧ w'.cell? ⟨ba, 0, none⟩ = some (.slice c2 len cap2) ∧ w'.cell? ⟨ba, 1, none⟩ = some (.int .i64 (Qa (i + 1))) ∧ w'.cell? ⟨ba, 2, none⟩ = some (.string (Qs (i + 1))) ∧ w'.cell? ⟨ba, 3, none⟩ = some (.int .i64 (Qc (i + 1)))) (by kernel_rfl) (SA.out _ KW.out) (fun hHeld => ?_)
            refine wpAnyL_take (i := 0) (v := ?_) rfl (by kernel_rfl) (by kernel_rfl) (by kernel_rfl) (fun _ _ _ h => h) (by rfl) (by kernel_rfl) (by kernel_rfl) (Or.inl ⟨by rfl, ?_⟩) (by assumption) ?_
            rotate_left 1
            · (intro w' hSw; (try dsimp only at hSw); go_simp; try with_reducible rfl)
            try simp only [Act.put, List.setIfInBounds_toArray, List.set_cons_zero, List.set_cons_succ, List.getElem_toArray, List.getElem_cons_zero, List.getElem_cons_succ]
            refine wpAnyL_take (i := 1) (v := ?_) rfl (by kernel_rfl) (by kernel_rfl) (by kernel_rfl) (fun _ _ _ h => h) (by rfl) (by kernel_rfl) (by kernel_rfl) (Or.inl ⟨by rfl, ?_⟩) (by assumption) ?_
            rotate_left 1
            · (intro w' hSw; (try dsimp only at hSw); go_simp; try with_reducible rfl)
            try simp only [Act.put, List.setIfInBounds_toArray, List.set_cons_zero, List.set_cons_succ, List.getElem_toArray, List.getElem_cons_zero, List.getElem_cons_succ]
            refine wpAnyL_take (i := 3) (v := ?_) rfl (by kernel_rfl) (by kernel_rfl) (by kernel_rfl) (fun _ _ _ h => h) (by rfl) (by kernel_rfl) (by kernel_rfl) (Or.inl ⟨by rfl, ?_⟩) (by assumption) ?_
            rotate_left 1
            · (intro w' hSw; (try dsimp only at hSw); go_simp; try with_reducible rfl)
            try simp only [Act.put, List.setIfInBounds_toArray, List.set_cons_zero, List.set_cons_succ, List.getElem_toArray, List.getElem_cons_zero, List.getElem_cons_succ]
            refine wpAnyL_ready (rs := [2]) (by kernel_rfl) (by simp) ?_
            refine AllReadyL.cons rfl (fun K hK => ?_) AllReadyL.nil
            refine stepL_callN 34 #[.tmp 73, .tmp 74] #[31, 30] (by rfl) (by rfl) #[.agg #[.int .i64 (R i).v.1, .int .i64 (R i).v.2], .slice (some ⟨ab, ao, none⟩) D Cp] (by simp only [List.map_toArray, List.map_cons, List.map_nil] <;> rfl) (run_go Tryz.func34 (by kernel_rfl) (by kernel_rfl) _ _) (QL.out _ (hik (PairE.keep PU8.out (Chg.refl nob w8).drew1))) ?_
            rintro e U1 ⟨he, kk⟩
            have KL := hik ((Chg.refl nob w8).drew1.trans kk)
            replace kk := Chg.wide (P := (fun x => x = w.heap.size)) kk
            refine ⟨_, he, ?_⟩
            replace KW := hik (KW.out.trans kk)
            refine hK.out _ _ (SA.out _ KW.out) (fun hHeld => ?_)
            clear hK K
            try simp only [Act.put, List.setIfInBounds_toArray, List.set_cons_zero, List.set_cons_succ, List.getElem_toArray, List.getElem_cons_zero, List.getElem_cons_succ]
            clear he kk
            refine wpAnyL_ready (rs := [4]) (by kernel_rfl) (by simp) ?_
            refine AllReadyL.cons rfl (fun K hK => ?_) AllReadyL.nil
            have EN := hik (HE.out.keep KL.out)
            have g0 : U1.cell? ⟨w.heap.size, 0, none⟩ = some (.int .i64 (X i).v.1) := EN.out.c0
            have g1 : U1.cell? ⟨w.heap.size, 1, none⟩ = some (.int .i64 (X i).v.2) := EN.out.c1
            have gf0 := EN.out.fz 0
            have gf1 := EN.out.fz 1
            have gl : w.heap.size < U1.heap.size := EN.out.lt
            simp only [List.getElem_toArray, List.getElem_cons_zero, List.getElem_cons_succ]
            go_simp
            have EX := hik (EN.out.set (X (i + 1)))
            have q2 := chg2_set (Chg.refl (fun x => x = w.heap.size) U1) (w.heap.size) (fun _ => rfl) (.int .i64 (X (i + 1)).v.1) (.int .i64 (X (i + 1)).v.2)
            have SX := hik (rowIs_chg (rowIs_keep HS.out KL.out) q2 (by omega))
            have Q2 := hik q2
            replace KW := hik (KW.out.trans q2)
            clear q2
            generalize hUX : ((U1.setCell ⟨w.heap.size, 0, none⟩ (.int .i64 (X (i + 1)).v.1)).setCell ⟨w.heap.size, 1, none⟩ (.int .i64 (X (i + 1)).v.2)) = UX at EX SX KW Q2 ⊢
            clear hUX
            refine hK.out _ _ (SA.out _ KW.out) (fun hHeld => ?_)
            clear hK K
            try simp only [Act.put, List.setIfInBounds_toArray, List.set_cons_zero, List.set_cons_succ, List.getElem_toArray, List.getElem_cons_zero, List.getElem_cons_succ]
            clear g0 g1 gf0 gf1 gl EN
            refine wpAnyL_ready (rs := [5]) (by kernel_rfl) (by simp) ?_
            refine AllReadyL.last rfl (by kernel_rfl) (fun K hK => ?_)
            have z0 : UX.cell? ⟨w.heap.size + 1, 0, none⟩ = some (.slice ci len capi) := SX.out.cell (by omega)
            have zf0 := SX.out.frozen 0
            have z1 : UX.cell? ⟨w.heap.size + 1, 1, none⟩ = some (.int .i64 (Qa i)) := SX.out.cell (by omega)
            have zf1 := SX.out.frozen 1
            have z2 : UX.cell? ⟨w.heap.size + 1, 2, none⟩ = some (.string (Qs i)) := SX.out.cell (by omega)
            have zf2 := SX.out.frozen 2
            have z3 : UX.cell? ⟨w.heap.size + 1, 3, none⟩ = some (.int .i64 (Qc i)) := SX.out.cell (by omega)
            have zf3 := SX.out.frozen 3
            have lz : w.heap.size + 1 < UX.heap.size := SX.out.lt
            simp only [List.getElem_toArray, List.getElem_cons_zero, List.getElem_cons_succ]
            go_simp
            refine hK.out _ _ ?_
            clear hK K
            try simp only [Act.put, List.setIfInBounds_toArray, List.set_cons_zero, List.set_cons_succ, List.getElem_toArray, List.getElem_cons_zero, List.getElem_cons_succ]
            clear z0 zf0 z1 zf1 z2 zf2 z3 zf3 lz
            refine wpAnyL_done (by kernel_rfl) ?_ _
            have q := chg4_set (Chg.refl (fun x => x = w.heap.size + 1) UX) (w.heap.size + 1) (fun _ => rfl) (.slice c2 len cap2) (.int .i64 (Qa (i + 1))) (.string (Qs (i + 1))) (.int .i64 (Qc (i + 1)))
            have SE := hik (row4_set SX.out (.slice c2 len cap2) (.int .i64 (Qa (i + 1))) (.string (Qs (i + 1))) (.int .i64 (Qc (i + 1))))
            have kz := KL.out
            have EE := hik (EX.out.chg q (by omega))
            have FE := hik (((HF.out.keep kz).chg Q2.out (by omega)).chg q (by omega))
            have YE := hik (rowIs_chg (rowIs_chg (rowIs_keep HY.out kz) Q2.out (by omega)) q (by omega))
            have ME := hik (((HCm.out.keep kz).chg Q2.out (by have := hBw.out; omega)).chg q (by have := hBw.out; omega))
            have WE := hik (owns_far (owns_far (flKeep HW8.out kz) Q2.out (fun b hb (e : b = w.heap.size) => by have := hBw.out; omega)) q (fun b hb (e : b = w.heap.size + 1) => by have := hBw.out; omega))
            have OE := hik (((OC.out.keep kz).chg Q2.out (fun b hb _ (e : b = w.heap.size) => by have := hw5.out; have := hu1.out; have := HBi.out; have := hBw.out; omega)).chg q (fun b hb _ (e : b = w.heap.size + 1) => by have := hw5.out; have := hu1.out; have := HBi.out; have := hBw.out; omega))
            have GE := hik (Chg.near (Chg.near (HG.out.trans kz) Q2.out (fun x (e : x = w.heap.size) => by omega)) q (fun x (e : x = w.heap.size + 1) => by omega))
            have BE := hik (Nat.le_trans HBW.out (Nat.le_trans kz.size (Nat.le_trans Q2.out.size q.size)))
            clear q kz
            go_wp2
            go_roundw
            case rel => exact ⟨i + 1, n'', c2, cap2, _, by omega, by go_num, rfl, HC2, WE, EE, SE, hik OE.out.pairs, FE, YE, ME, GE, BE⟩
            case measure => have := HLT.out; simp [intOf]; omega
        · have hs1 : ¬ (El.ad (U i 0) (U i 1)).v = (X i).v := hsum
          have KW := hik ((Chg.refl nob wi).drew1)
          have SA := hik (fun (WW : World) (kW : Chg nob wi WW) => (show (WW.cell? ⟨ab, ao, none⟩ = some (.int .i64 (U i 0).v.1) ∧ WW.cell? ⟨ab, ao + 1, none⟩ = some (.int .i64 (U i 0).v.2) ∧ WW.cell? ⟨ab, ao + 2, none⟩ = some (.int .i64 (U i 1).v.1) ∧ WW.cell? ⟨ab, ao + 2 + 1, none⟩ = some (.int .i64 (U i 1).v.2) ∧ WW.cell? ⟨w.heap.size, 0, none⟩ = some (.int .i64 (X i).v.1) ∧ WW.cell? ⟨w.heap.size, 1, none⟩ = some (.int .i64 (X i).v.2)) from ⟨kW.see u0, kW.see u1, kW.see y0, kW.see y1, kW.see z0, kW.see z1⟩))
          refine wp_region_held_drew (S := fun w' => w'.cell? ⟨ab, ao, none⟩ = some (.int .i64 (U i 0).v.1) ∧ w'.cell? ⟨ab, ao + 1, none⟩ = some (.int .i64 (U i 0).v.2) ∧ w'.cell? ⟨ab, ao + 2, none⟩ = some (.int .i64 (U i 1).v.1) ∧ w'.cell? ⟨ab, ao + 2 + 1, none⟩ = some (.int .i64 (U i 1).v.2) ∧ w'.cell? ⟨w.heap.size, 0, none⟩ = some (.int .i64 (X i).v.1) ∧ w'.cell? ⟨w.heap.size, 1, none⟩ = some (.int .i64 (X i).v.2)) (by kernel_rfl) ⟨u0, u1, y0, y1, z0, z1⟩ (fun hHeld => ?_)
          refine wpAnyH_take (i := 0) (v := ?_) rfl (by kernel_rfl) (by kernel_rfl) (by kernel_rfl) (fun _ _ _ h => h) (Or.inl ⟨by rfl, ?_⟩) (by assumption) ?_
          rotate_left 1
          · (intro w' hSw; (try dsimp only at hSw); go_simp; try with_reducible rfl)
          try simp only [Act.put, List.setIfInBounds_toArray, List.set_cons_zero, List.set_cons_succ, List.getElem_toArray, List.getElem_cons_zero, List.getElem_cons_succ]
          refine wpAnyH_take (i := 1) (v := ?_) rfl (by kernel_rfl) (by kernel_rfl) (by kernel_rfl) (fun _ _ _ h => h) (Or.inl ⟨by rfl, ?_⟩) (by assumption) ?_
          rotate_left 1
          · (intro w' hSw; (try dsimp only at hSw); go_simp; try with_reducible rfl)
          try simp only [Act.put, List.setIfInBounds_toArray, List.set_cons_zero, List.set_cons_succ, List.getElem_toArray, List.getElem_cons_zero, List.getElem_cons_succ]
          refine wpAnyH_take (i := 2) (v := ?_) rfl (by kernel_rfl) (by kernel_rfl) (by kernel_rfl) (fun _ _ _ h => h) (Or.inl ⟨by rfl, ?_⟩) (by assumption) ?_
          rotate_left 1
          · (intro w' hSw; (try dsimp only at hSw); go_simp; try with_reducible rfl)
          try simp only [Act.put, List.setIfInBounds_toArray, List.set_cons_zero, List.set_cons_succ, List.getElem_toArray, List.getElem_cons_zero, List.getElem_cons_succ]
          refine wpAnyH_take (i := 3) (v := ?_) rfl (by kernel_rfl) (by kernel_rfl) (by kernel_rfl) (fun _ _ _ h => h) (Or.inl ⟨by rfl, ?_⟩) (by assumption) ?_
          rotate_left 1
          · (intro w' hSw; (try dsimp only at hSw); go_simp; try with_reducible rfl)
          try simp only [Act.put, List.setIfInBounds_toArray, List.set_cons_zero, List.set_cons_succ, List.getElem_toArray, List.getElem_cons_zero, List.getElem_cons_succ]
          refine wpAnyH_take (i := 4) (v := ?_) rfl (by kernel_rfl) (by kernel_rfl) (by kernel_rfl) (fun _ _ _ h => h) (Or.inl ⟨by rfl, ?_⟩) (by assumption) ?_
          rotate_left 1
          · (intro w' hSw; (try dsimp only at hSw); go_simp; try with_reducible rfl)
          try simp only [Act.put, List.setIfInBounds_toArray, List.set_cons_zero, List.set_cons_succ, List.getElem_toArray, List.getElem_cons_zero, List.getElem_cons_succ]
          refine wpAnyH_take (i := 5) (v := ?_) rfl (by kernel_rfl) (by kernel_rfl) (by kernel_rfl) (fun _ _ _ h => h) (Or.inl ⟨by rfl, ?_⟩) (by assumption) ?_
          rotate_left 1
          · (intro w' hSw; (try dsimp only at hSw); go_simp; try with_reducible rfl)
          try simp only [Act.put, List.setIfInBounds_toArray, List.set_cons_zero, List.set_cons_succ, List.getElem_toArray, List.getElem_cons_zero, List.getElem_cons_succ]
          refine wpAnyH_take (i := 7) (v := ?_) rfl (by kernel_rfl) (by kernel_rfl) (by kernel_rfl) (fun _ _ _ h => h) (Or.inl ⟨by rfl, ?_⟩) (by assumption) ?_
          rotate_left 1
          · (intro w' hSw; (try dsimp only at hSw); go_simp; try with_reducible rfl)
          try simp only [Act.put, List.setIfInBounds_toArray, List.set_cons_zero, List.set_cons_succ, List.getElem_toArray, List.getElem_cons_zero, List.getElem_cons_succ]
          refine wpAnyH_ready (rs := [6]) (by kernel_rfl) (by simp) ?_
          refine AllReadyH.cons rfl (fun K hK => ?_) AllReadyH.nil
          refine stepL_callN 32 #[.tmp 54, .tmp 57] #[31, 31] (by rfl) (by rfl) #[.agg #[.int .i64 (U i 0).v.1, .int .i64 (U i 0).v.2], .agg #[.int .i64 (U i 1).v.1, .int .i64 (U i 1).v.2]] (by simp only [List.map_toArray, List.map_cons, List.map_nil] <;> rfl) (run_go Tryz.func32 (by kernel_rfl) (by kernel_rfl) _ _) (ad_el (U i 0) (U i 1) _) ?_
          rintro e U1 ⟨he, kk⟩
          refine ⟨_, he, ?_⟩
          replace KW := hik (KW.out.trans kk)
          refine hK.out _ _ (SA.out _ KW.out) (fun hHeld => ?_)
          clear hK K
          try simp only [Act.put, List.setIfInBounds_toArray, List.set_cons_zero, List.set_cons_succ, List.getElem_toArray, List.getElem_cons_zero, List.getElem_cons_succ]
          clear he kk
          refine wpAnyH_take (i := 8) (v := .bool true) rfl (by kernel_rfl) (by kernel_rfl) (by kernel_rfl) (fun _ _ _ h => h) (Or.inl ⟨by rfl, ?_⟩) (by assumption) ?_
          · (intro w' hSw; (try dsimp only at hSw); go_simp; exact fun e1 e2 => hsum (Prod.ext e1 e2))
          try simp only [Act.put, List.setIfInBounds_toArray, List.set_cons_zero, List.set_cons_succ, List.getElem_toArray, List.getElem_cons_zero, List.getElem_cons_succ]
          refine wpAnyH_done (by kernel_rfl) ?_ _
          have kk := KW.out
          have HGi := HG
          have hci := hik hc
          have HBi := HBW
          replace HE := hik (HE.out.keep kk)
          replace HS := hik (rowIs_keep HS.out kk)
          replace HF := hik (HF.out.keep kk)
          replace HY := hik (rowIs_keep HY.out kk)
          replace HCm := hik (HCm.out.keep kk)
          replace HG := hik (HG.out.trans kk)
          replace HPV := hik (PairV.keep HPV.out kk)
          replace HW := hik (flKeep HW.out kk)
          replace HBW := hik (Nat.le_trans HBW.out kk.size)
          have HC2 := hik (show code = 10 by rw [HC.out, HVI.out, if_pos HLK.out, if_neg hsum])
          clear SA hHeld KW kk u0 u1 y0 y1 z0 z1 hc HC HVI hs1 hsum
          have g0 : U1.cell? ⟨w.heap.size + 1 + 1, 0, none⟩ = some (.int .i64 0) := HF.out.c0
          have g1 : U1.cell? ⟨w.heap.size + 1 + 1, 1, none⟩ = some (.int .i64 0) := HF.out.c1
          have gf0 := HF.out.fz 0
          have gf1 := HF.out.fz 1
          have gl : w.heap.size + 1 + 1 < U1.heap.size := HF.out.lt
          have yy0 : U1.cell? ⟨w.heap.size + 1 + 1 + 1, 0, none⟩ = some (.slice none 0 0) := HY.out.cell (by omega)
          have yyf0 := HY.out.frozen 0
          have yy1 : U1.cell? ⟨w.heap.size + 1 + 1 + 1, 1, none⟩ = some (.int .i64 0) := HY.out.cell (by omega)
          have yyf1 := HY.out.frozen 1
          have yy2 : U1.cell? ⟨w.heap.size + 1 + 1 + 1, 2, none⟩ = some (.string ⟨#[]⟩) := HY.out.cell (by omega)
          have yyf2 := HY.out.frozen 2
          have yy3 : U1.cell? ⟨w.heap.size + 1 + 1 + 1, 3, none⟩ = some (.int .i64 0) := HY.out.cell (by omega)
          have yyf3 := HY.out.frozen 3
          have yl : w.heap.size + 1 + 1 + 1 < U1.heap.size := HY.out.lt
          go_wp2
          have qF := HF.out.set El.zr
          have qY := rowIs_chg HY.out (chg2_set (Chg.refl (fun x => x = w.heap.size + 1 + 1) U1) (w.heap.size + 1 + 1) (fun _ => rfl) (.int .i64 0) (.int .i64 0)) (by omega)
          have q4 := chg4_set (Chg.refl (fun x => x = w.heap.size + 1 + 1 + 1) (((U1.setCell ⟨w.heap.size + 1 + 1, 0, none⟩ (.int .i64 0)).setCell ⟨w.heap.size + 1 + 1, 1, none⟩ (.int .i64 0)))) (w.heap.size + 1 + 1 + 1) (fun _ => rfl) (.slice none 0 0) (.int .i64 0) (.string ⟨#[]⟩) (.int .i64 0)
          have rF := qF.chg q4 (by omega)
          have rY := row4_set qY (.slice none 0 0) (.int .i64 0) (.string ⟨#[]⟩) (.int .i64 0)
          have u0 := rF.c0
          have u1 := rF.c1
          have v0 := rY.cell (i := 0) (by omega)
          have v1 := rY.cell (i := 1) (by omega)
          have v2 := rY.cell (i := 2) (by omega)
          have v3 := rY.cell (i := 3) (by omega)
          have GE := chg4_set (chg2_set HG.out (w.heap.size + 1 + 1) (fun l => absurd l (by omega)) (.int .i64 0) (.int .i64 0)) (w.heap.size + 1 + 1 + 1) (fun l => absurd l (by omega)) (.slice none 0 0) (.int .i64 0) (.string ⟨#[]⟩) (.int .i64 0)
          exact bodyPost_ret (v := .tuple #[.slice none 0 0, .agg #[.int .i64 0, .int .i64 0], .agg #[.slice none 0 0, .int .i64 0, .string ⟨#[]⟩, .int .i64 0], .int .i64 10]) (by simp [results, Tryz.results10, go_sem, u0, u1, v0, v1, v2, v3, pv4]; exact ⟨rfl, rfl⟩) rfl (.inr ⟨by rw [HC2.out]; decide, by rw [HC2.out], GE⟩)
      · have HC2 := hik (show code = 18 by rw [HC.out, HVI.out, if_neg hLk])
        have hbl : ((L i : Int) != (D : Int)) = true := by simp only [bne_iff_ne]; omega
        have HLK := hik hLk
        clear hLk HC HVI
        have g0 : wi.cell? ⟨w.heap.size + 1 + 1, 0, none⟩ = some (.int .i64 0) := HF.out.c0
        have g1 : wi.cell? ⟨w.heap.size + 1 + 1, 1, none⟩ = some (.int .i64 0) := HF.out.c1
        have gf0 := HF.out.fz 0
        have gf1 := HF.out.fz 1
        have gl : w.heap.size + 1 + 1 < wi.heap.size := HF.out.lt
        have yy0 : wi.cell? ⟨w.heap.size + 1 + 1 + 1, 0, none⟩ = some (.slice none 0 0) := HY.out.cell (by omega)
        have yyf0 := HY.out.frozen 0
        have yy1 : wi.cell? ⟨w.heap.size + 1 + 1 + 1, 1, none⟩ = some (.int .i64 0) := HY.out.cell (by omega)
        have yyf1 := HY.out.frozen 1
        have yy2 : wi.cell? ⟨w.heap.size + 1 + 1 + 1, 2, none⟩ = some (.string ⟨#[]⟩) := HY.out.cell (by omega)
        have yyf2 := HY.out.frozen 2
        have yy3 : wi.cell? ⟨w.heap.size + 1 + 1 + 1, 3, none⟩ = some (.int .i64 0) := HY.out.cell (by omega)
        have yyf3 := HY.out.frozen 3
        have yl : w.heap.size + 1 + 1 + 1 < wi.heap.size := HY.out.lt
        go_wp2
        have qF := HF.out.set El.zr
        have qY := rowIs_chg HY.out (chg2_set (Chg.refl (fun x => x = w.heap.size + 1 + 1) wi) (w.heap.size + 1 + 1) (fun _ => rfl) (.int .i64 0) (.int .i64 0)) (by omega)
        have q4 := chg4_set (Chg.refl (fun x => x = w.heap.size + 1 + 1 + 1) (((wi.setCell ⟨w.heap.size + 1 + 1, 0, none⟩ (.int .i64 0)).setCell ⟨w.heap.size + 1 + 1, 1, none⟩ (.int .i64 0)))) (w.heap.size + 1 + 1 + 1) (fun _ => rfl) (.slice none 0 0) (.int .i64 0) (.string ⟨#[]⟩) (.int .i64 0)
        have rF := qF.chg q4 (by omega)
        have rY := row4_set qY (.slice none 0 0) (.int .i64 0) (.string ⟨#[]⟩) (.int .i64 0)
        have u0 := rF.c0
        have u1 := rF.c1
        have v0 := rY.cell (i := 0) (by omega)
        have v1 := rY.cell (i := 1) (by omega)
        have v2 := rY.cell (i := 2) (by omega)
        have v3 := rY.cell (i := 3) (by omega)
        have GE := chg4_set (chg2_set HG.out (w.heap.size + 1 + 1) (fun l => absurd l (by omega)) (.int .i64 0) (.int .i64 0)) (w.heap.size + 1 + 1 + 1) (fun l => absurd l (by omega)) (.slice none 0 0) (.int .i64 0) (.string ⟨#[]⟩) (.int .i64 0)
        exact bodyPost_ret (v := .tuple #[.slice none 0 0, .agg #[.int .i64 0, .int .i64 0], .agg #[.slice none 0 0, .int .i64 0, .string ⟨#[]⟩, .int .i64 0], .int .i64 18]) (by simp [results, Tryz.results10, go_sem, u0, u1, v0, v1, v2, v3, pv4]; exact ⟨rfl, rfl⟩) rfl (.inr ⟨by rw [HC2.out]; decide, by rw [HC2.out], GE⟩)
    · obtain rfl : i = m := by omega
      have hii : ¬ (i : Int) < (i : Int) := by omega
      have HC2 := hik (show code = 0 by rw [HC.out, show n' = 0 by omega, hV0.out])
      obtain ⟨cv, capv, ev, hle, ov⟩ := OwnE.of_owns HW.out
      have hlow := hik (show ∀ b, BlkE cv b → B ≤ b ∧ b < wi.heap.size from fun b ⟨o, e⟩ => HW.out.lt b (by rw [ev, e]; rfl))
      subst ev
      have O9 := hik ov
      clear hle ov HW HC
      have z0 := HE.out.c0
      have z1 := HE.out.c1
      have x0 : wi.cell? ⟨w.heap.size + 1, 0, none⟩ = some (.slice ci len capi) := HS.out.cell (by omega)
      have x1 : wi.cell? ⟨w.heap.size + 1, 1, none⟩ = some (.int .i64 (Qa i)) := HS.out.cell (by omega)
      have x2 : wi.cell? ⟨w.heap.size + 1, 2, none⟩ = some (.string (Qs i)) := HS.out.cell (by omega)
      have x3 : wi.cell? ⟨w.heap.size + 1, 3, none⟩ = some (.int .i64 (Qc i)) := HS.out.cell (by omega)
      go_upto_region 17 with fail
      have KW := hik ((Chg.refl (fun x => x = w.heap.size + 1 + 1) wi).drew1)
      have SA := hik (fun (WW : World) (kW : Chg (fun x => x = w.heap.size + 1 + 1) wi WW) => (show (WW.cell? ⟨w.heap.size, 0, none⟩ = some (.int .i64 (X i).v.1) ∧ WW.cell? ⟨w.heap.size, 1, none⟩ = some (.int .i64 (X i).v.2) ∧ WW.cell? ⟨w.heap.size + 1, 0, none⟩ = some (.slice ci len capi) ∧ WW.cell? ⟨w.heap.size + 1, 1, none⟩ = some (.int .i64 (Qa i)) ∧ WW.cell? ⟨w.heap.size + 1, 2, none⟩ = some (.string (Qs i)) ∧ WW.cell? ⟨w.heap.size + 1, 3, none⟩ = some (.int .i64 (Qc i))) from ⟨kW.seeP z0 (by omega), kW.seeP z1 (by omega), kW.seeP x0 (by omega), kW.seeP x1 (by omega), kW.seeP x2 (by omega), kW.seeP x3 (by omega)⟩))
      refine wp_regionL (L := 6) (S := fun w' => w'.cell? ⟨w.heap.size, 0, none⟩ = some (.int .i64 (X i).v.1) ∧ w'.cell? ⟨w.heap.size, 1, none⟩ = some (.int .i64 (X i).v.2) ∧ w'.cell? ⟨w.heap.size + 1, 0, none⟩ = some (.slice ci len capi) ∧ w'.cell? ⟨w.heap.size + 1, 1, none⟩ = some (.int .i64 (Qa i)) ∧ w'.cell? ⟨w.heap.size + 1, 2, none⟩ = some (.string (Qs i)) ∧ w'.cell? ⟨w.heap.size + 1, 3, none⟩ = some (.int .i64 (Qc i))) (by kernel_rfl) (SA.out _ KW.out) (fun hHeld => ?_)
      refine wpAnyL_take (i := 0) (v := ?_) rfl (by kernel_rfl) (by kernel_rfl) (by kernel_rfl) (fun _ _ _ h => h) (by rfl) (by kernel_rfl) (by kernel_rfl) (Or.inl ⟨by rfl, ?_⟩) (by assumption) ?_
      rotate_left 1
      · (intro w' hSw; (try dsimp only at hSw); go_simp; try with_reducible rfl)
      try simp only [Act.put, List.setIfInBounds_toArray, List.set_cons_zero, List.set_cons_succ, List.getElem_toArray, List.getElem_cons_zero, List.getElem_cons_succ]
      refine wpAnyL_take (i := 1) (v := ?_) rfl (by kernel_rfl) (by kernel_rfl) (by kernel_rfl) (fun _ _ _ h => h) (by rfl) (by kernel_rfl) (by kernel_rfl) (Or.inl ⟨by rfl, ?_⟩) (by assumption) ?_
      rotate_left 1
      · (intro w' hSw; (try dsimp only at hSw); go_simp; try with_reducible rfl)
      try simp only [Act.put, List.setIfInBounds_toArray, List.set_cons_zero, List.set_cons_succ, List.getElem_toArray, List.getElem_cons_zero, List.getElem_cons_succ]
      refine wpAnyL_take (i := 2) (v := ?_) rfl (by kernel_rfl) (by kernel_rfl) (by kernel_rfl) (fun _ _ _ h => h) (by rfl) (by kernel_rfl) (by kernel_rfl) (Or.inl ⟨by rfl, ?_⟩) (by assumption) ?_
      rotate_left 1
      · (intro w' hSw; (try dsimp only at hSw); go_simp; try with_reducible rfl)
      try simp only [Act.put, List.setIfInBounds_toArray, List.set_cons_zero, List.set_cons_succ, List.getElem_toArray, List.getElem_cons_zero, List.getElem_cons_succ]
      refine wpAnyL_ready (rs := [3]) (by kernel_rfl) (by simp) ?_
      refine AllReadyL.cons rfl (fun K hK => ?_) AllReadyL.nil
      refine stepL_callN 35 #[.tmp 80] #[33] (by rfl) (by rfl) #[.agg #[.slice ci len capi, .int .i64 (Qa i), .string (Qs i), .int .i64 (Qc i)]] (by simp only [List.map_toArray, List.map_cons, List.map_nil] <;> rfl) (run_go Tryz.func35 (by kernel_rfl) (by kernel_rfl) _ _) (copiedF_any ci len capi fs gs (Qa i) (Qs i) (Qc i) _ (hik (PairV.keep HPV.out (Chg.refl nob wi).drew1)) (by omega)) ?_
      rintro e U1 ⟨cS, capS, he, hOS, kk, hfS⟩
      have OS := hik hOS
      have FrS := hik hfS
      have KL := hik ((Chg.refl nob wi).drew1.trans kk)
      replace kk := Chg.wide (P := (fun x => x = w.heap.size + 1 + 1)) kk
      clear hOS hfS
      refine ⟨_, he, ?_⟩
      replace KW := hik (KW.out.trans kk)
      refine hK.out _ _ (SA.out _ KW.out) (fun hHeld => ?_)
      clear hK K
      try simp only [Act.put, List.setIfInBounds_toArray, List.set_cons_zero, List.set_cons_succ, List.getElem_toArray, List.getElem_cons_zero, List.getElem_cons_succ]
      clear he kk
      refine wpAnyL_take (i := 4) (v := ?_) rfl (by kernel_rfl) (by kernel_rfl) (by kernel_rfl) (fun _ _ _ h => h) (by rfl) (by kernel_rfl) (by kernel_rfl) (Or.inl ⟨by rfl, ?_⟩) (by assumption) ?_
      rotate_left 1
      · (intro w' hSw; (try dsimp only at hSw); go_simp; try with_reducible rfl)
      try simp only [Act.put, List.setIfInBounds_toArray, List.set_cons_zero, List.set_cons_succ, List.getElem_toArray, List.getElem_cons_zero, List.getElem_cons_succ]
      refine wpAnyL_ready (rs := [5]) (by kernel_rfl) (by simp) ?_
      refine AllReadyL.cons rfl (fun K hK => ?_) AllReadyL.nil
      have FN := hik (HF.out.keep KL.out)
      have g0 : U1.cell? ⟨w.heap.size + 1 + 1, 0, none⟩ = some (.int .i64 0) := FN.out.c0
      have g1 : U1.cell? ⟨w.heap.size + 1 + 1, 1, none⟩ = some (.int .i64 0) := FN.out.c1
      have gf0 := FN.out.fz 0
      have gf1 := FN.out.fz 1
      have gl : w.heap.size + 1 + 1 < U1.heap.size := FN.out.lt
      simp only [List.getElem_toArray, List.getElem_cons_zero, List.getElem_cons_succ]
      go_simp
      have FX := hik (FN.out.set (X i))
      have q2 := chg2_set (Chg.refl (fun x => x = w.heap.size + 1 + 1) U1) (w.heap.size + 1 + 1) (fun _ => rfl) (.int .i64 (X i).v.1) (.int .i64 (X i).v.2)
      have YX := hik (rowIs_chg (rowIs_keep HY.out KL.out) q2 (by omega))
      have Q2 := hik q2
      replace KW := hik (KW.out.trans q2)
      clear q2
      generalize hUX : ((U1.setCell ⟨w.heap.size + 1 + 1, 0, none⟩ (.int .i64 (X i).v.1)).setCell ⟨w.heap.size + 1 + 1, 1, none⟩ (.int .i64 (X i).v.2)) = UX at FX YX KW Q2 ⊢
      clear hUX
      refine hK.out _ _ (SA.out _ KW.out) (fun hHeld => ?_)
      clear hK K
      try simp only [Act.put, List.setIfInBounds_toArray, List.set_cons_zero, List.set_cons_succ, List.getElem_toArray, List.getElem_cons_zero, List.getElem_cons_succ]
      clear g0 g1 gf0 gf1 gl FN
      refine wpAnyL_ready (rs := [6]) (by kernel_rfl) (by simp) ?_
      refine AllReadyL.last rfl (by kernel_rfl) (fun K hK => ?_)
      have zz0 : UX.cell? ⟨w.heap.size + 1 + 1 + 1, 0, none⟩ = some (.slice none 0 0) := YX.out.cell (by omega)
      have zf0 := YX.out.frozen 0
      have zz1 : UX.cell? ⟨w.heap.size + 1 + 1 + 1, 1, none⟩ = some (.int .i64 0) := YX.out.cell (by omega)
      have zf1 := YX.out.frozen 1
      have z2 : UX.cell? ⟨w.heap.size + 1 + 1 + 1, 2, none⟩ = some (.string ⟨#[]⟩) := YX.out.cell (by omega)
      have zf2 := YX.out.frozen 2
      have z3 : UX.cell? ⟨w.heap.size + 1 + 1 + 1, 3, none⟩ = some (.int .i64 0) := YX.out.cell (by omega)
      have zf3 := YX.out.frozen 3
      have lz : w.heap.size + 1 + 1 + 1 < UX.heap.size := YX.out.lt
      simp only [List.getElem_toArray, List.getElem_cons_zero, List.getElem_cons_succ]
      go_simp
      refine hK.out _ _ ?_
      clear hK K
      try simp only [Act.put, List.setIfInBounds_toArray, List.set_cons_zero, List.set_cons_succ, List.getElem_toArray, List.getElem_cons_zero, List.getElem_cons_succ]
      clear zz0 zf0 zz1 zf1 z2 zf2 z3 zf3 lz
      refine wpAnyL_take1 (i := 7) (v := ?_) rfl (by kernel_rfl) (by kernel_rfl) (by kernel_rfl) (fun _ _ _ h => h) (by rfl) (by rfl) (Or.inl ⟨by rfl, ?_⟩) ?_
      rotate_left 1
      · (intro w' hSw; (try dsimp only at hSw); go_simp; try with_reducible rfl)
      try simp only [Act.put, List.setIfInBounds_toArray, List.set_cons_zero, List.set_cons_succ, List.getElem_toArray, List.getElem_cons_zero, List.getElem_cons_succ]
      refine wpAnyL_done (by kernel_rfl) ?_ _
      have q := chg4_set (Chg.refl (fun x => x = w.heap.size + 1 + 1 + 1) UX) (w.heap.size + 1 + 1 + 1) (fun _ => rfl) (.slice cS len capS) (.int .i64 (Qa i)) (.string (Qs i)) (.int .i64 (Qc i))
      have YE := row4_set YX.out (.slice cS len capS) (.int .i64 (Qa i)) (.string (Qs i)) (.int .i64 (Qc i))
      have FE := FX.out.chg q (by omega)
      have kz := KL.out
      have OE := (((O9.out.keep kz).chg Q2.out (fun b hb _ (e : b = w.heap.size + 1 + 1) => by have := hBw.out; omega)).chg q (fun b hb _ (e : b = w.heap.size + 1 + 1 + 1) => by have := hBw.out; omega)).low (B' := w.heap.size) (by have := hBw.out; omega)
      have SE := (((OS.out.chg Q2.out (fun b hb _ (e : b = w.heap.size + 1 + 1) => by have hb' : wi.heap.size ≤ b := hb; have := HBW.out; have := hBw.out; omega)).chg q (fun b hb _ (e : b = w.heap.size + 1 + 1 + 1) => by have hb' : wi.heap.size ≤ b := hb; have := HBW.out; have := hBw.out; omega)).low (B' := w.heap.size) (by have : wi.drew.heap.size = wi.heap.size := rfl; have := HBW.out; have := hBw.out; omega))
      have GE := Chg.near (Chg.near (HG.out.trans kz) Q2.out (fun x (e : x = w.heap.size + 1 + 1) => by omega)) q (fun x (e : x = w.heap.size + 1 + 1 + 1) => by omega)
      have u0 := FE.c0
      have u1 := FE.c1
      have v0 := YE.cell (i := 0) (by omega)
      have v1 := YE.cell (i := 1) (by omega)
      have v2 := YE.cell (i := 2) (by omega)
      have v3 := YE.cell (i := 3) (by omega)
      go_wp2
      exact bodyPost_ret (v := .tuple #[.slice cv i capv, .agg #[.int .i64 (X i).v.1, .int .i64 (X i).v.2], .agg #[.slice cS len capS, .int .i64 (Qa i), .string (Qs i), .int .i64 (Qc i)], .int .i64 0]) (by simp [results, Tryz.results10, go_sem, u0, u1, v0, v1, v2, v3, pv4]) rfl (.inl ⟨HC2.out, cv, capv, cS, capS, rfl, OE, SE, fun b hb ⟨o, e⟩ => (by have q1 := FrS.out b o e; have q2 : wi.heap.size ≤ b := q1; have := (hlow.out b hb).2; omega), GE⟩)

end Go.Proofs.YtccgjbdjbgefiaaGreatDoor
