/- Several texts in one: What the laws' copy of an opening is: a contract. Conditions: an opening that can be read, lengths of at most 2 to the 20. · What the program begins a proof with: contracts. Conditions: a system, public numbers and a source that can be read; the two tables lie. -/
import Derived.Test.YtfcbcbmoebhfhaaGreatDoorBzbg
import Derived.Test.YtfcbcbmoebhfhaaGreatDoorBzac
import Derived.Test.YtfcbcbmoebhfhaaGreatDoorBzam
import Derived.Test.YtfcbcbmoebhfhaaGreatDoorBzar
import Derived.Test.YtfcbcbmoebhfhaaGreatDoorBzah
import Derived.Test.YtfcbcbmoebhfhaaGreatDoorBzav
import Derived.Test.YtfcbcbmoebhfhaaGreatDoorBzat
import Derived.Test.YtfcbcbmoebhfhaaGreatDoorBzbi
namespace Go.Proofs.YtfcbcbmoebhfhaaGreatDoor
open Go.ChangeShapes Go.WideShapes Go.ChangeAt Go.RowKit
set_option linter.unusedVariables false
set_option maxRecDepth 100000
set_option linter.unusedSimpArgs false

theorem rowN_new (W : World) (n : Nat) (a : Array Value) (t : TypeId) (h : a.size = n) : (W.alloc (.cells a t)).rowIs W.heap.size t n (fun i => a.getD i undef) :=
  ⟨a, Go.Deep.blk_alloc_new _ _, h, fun i hi => by simp [h, hi]⟩
/-- An opening that can be read. -/
def OpV (w : World) (o : OD) (cR : Option Addr) (pR : Nat) (cT : Option Addr) (pT : Nat) (cQ : Option Addr) (pQ : Nat) : Prop :=
  o.R.Rep w (.slice cR o.nr pR) ∧ o.S.Rep w (.slice cT o.nt pT) ∧ o.Q.Rep w (.slice cQ o.nq pQ)
theorem OpV.keep {w w' : World} {o : OD} {cR : Option Addr} {pR : Nat} {cT : Option Addr} {pT : Nat} {cQ : Option Addr} {pQ : Nat} (h : OpV w o cR pR cT pT cQ pQ) (k : Chg nob w w') : OpV w' o cR pR cT pT cQ pQ := ⟨h.1.keep k, h.2.1.keep k, h.2.2.keep k⟩
/-- Lengths of at most 2 to the 20. -/
def OD.small (o : OD) : Prop := o.R.small 1048576 ∧ o.S.small 1048576 ∧ o.Q.small 1048576


end Go.Proofs.YtfcbcbmoebhfhaaGreatDoor

namespace Go.Proofs.YtfcbcbmoebhfhaaGreatDoor
open Go.ChangeShapes Go.WideShapes Go.ChangeAt Go.RowKit
set_option linter.unusedVariables false
set_option maxRecDepth 100000
set_option linter.unusedSimpArgs false

set_option maxHeartbeats 8000000 in
theorem startCode_any (s : Sy) (a : SyA) (r n g : Int) (c : Option Addr) (P cap : Nat) (f : Nat → Int) (cs : Option Addr) (ls ps : Nat) (at' : Int) (st : ByteArray) (ct : Int) (fs gs : Nat → Int) (w : World) (hv : Hid (SyV w s a)) (hs : s.small) (hf : Hid (RowV w c P (iv f))) (hP : P ≤ 1099511627776) (hsr : Hid (PairV w cs ls fs gs)) (hls : (ls : Int) ≤ 9223372036854775807) (hst : (st.size : Int) ≤ 9223372036854775807) :
    Calls Tryz.prog 26 #[.agg #[.int .i64 s.r, .int .i64 s.q, .int .i64 s.p, .slice a.cA s.nA a.pA, .slice a.cB s.nB a.pB, .slice a.cC s.nC a.pC, .int .i64 r, .int .i64 n, .int .i64 g, .slice c P cap], .agg #[.slice cs ls ps, .int .i64 at', .string st, .int .i64 ct]] w fun e w' => e = .returned (.int .i64 (stk s r n g P f (sokb fs gs ls at' st ct) at' ct)) ∧ Chg nob w w' := by
  have K0 := hik (((Chg.refl nob w).alloc (.cells #[.int .i64 s.r, .int .i64 s.q, .int .i64 s.p, .slice a.cA s.nA a.pA, .slice a.cB s.nB a.pB, .slice a.cC s.nC a.pC, .int .i64 r, .int .i64 n, .int .i64 g, .slice c P cap] 61)).alloc (.cells #[.slice cs ls ps, .int .i64 at', .string st, .int .i64 ct] 35))
  have RM := hik (rowIs_keep (rowN_new w 10 #[.int .i64 s.r, .int .i64 s.q, .int .i64 s.p, .slice a.cA s.nA a.pA, .slice a.cB s.nB a.pB, .slice a.cC s.nC a.pC, .int .i64 r, .int .i64 n, .int .i64 g, .slice c P cap] 61 rfl) ((Chg.refl nob _).alloc (.cells #[.slice cs ls ps, .int .i64 at', .string st, .int .i64 ct] 35)))
  have RS := hik (rowN_new (w.alloc (.cells #[.int .i64 s.r, .int .i64 s.q, .int .i64 s.p, .slice a.cA s.nA a.pA, .slice a.cB s.nB a.pB, .slice a.cC s.nC a.pC, .int .i64 r, .int .i64 n, .int .i64 g, .slice c P cap] 61)) 4 #[.slice cs ls ps, .int .i64 at', .string st, .int .i64 ct] 35 rfl)
  rw [asz] at RS
  go_enter Tryz.func26, Tryz.ntmps26
  go_wp2_with fail
  generalize hW : (w.alloc (.cells #[.int .i64 s.r, .int .i64 s.q, .int .i64 s.p, .slice a.cA s.nA a.pA, .slice a.cB s.nB a.pB, .slice a.cC s.nC a.pC, .int .i64 r, .int .i64 n, .int .i64 g, .slice c P cap] 61)).alloc (.cells #[.slice cs ls ps, .int .i64 at', .string st, .int .i64 ct] 35) = W0 at K0 RM RS ⊢
  clear hW
  refine (sysOK_any s a _ (hik (hv.out.keep K0.out)) hs).mono ?_
  rintro e W1 ⟨rfl, kk⟩
  replace K0 := hik (K0.out.trans kk)
  replace RM := hik (rowIs_keep RM.out kk)
  replace RS := hik (rowIs_keep RS.out kk)
  clear kk
  cases b0 : sysb s
  · have HB := hik (show stk s r n g P f (sokb fs gs ls at' st ct) at' ct = 1 by unfold stk; rw [if_pos (.inl b0)])
    go_wp2
    go_ret
    exact ⟨(by rw [HB.out] <;> rfl), K0.out⟩
  have x6 : W1.cell? ⟨w.heap.size, 6, none⟩ = some (.int .i64 r) := RM.out.cell (i := 6) (by omega)
  have x7 : W1.cell? ⟨w.heap.size, 7, none⟩ = some (.int .i64 n) := RM.out.cell (i := 7) (by omega)
  have x8 : W1.cell? ⟨w.heap.size, 8, none⟩ = some (.int .i64 g) := RM.out.cell (i := 8) (by omega)
  go_wp2_with fail
  clear x6 x7 x8
  refine (settingOK_any r n g _).mono ?_
  rintro e W2 ⟨rfl, kk⟩
  replace K0 := hik (K0.out.trans kk)
  replace RM := hik (rowIs_keep RM.out kk)
  replace RS := hik (rowIs_keep RS.out kk)
  clear kk
  cases b1 : stb r n g
  · have HB := hik (show stk s r n g P f (sokb fs gs ls at' st ct) at' ct = 1 by unfold stk; rw [if_pos (.inr (.inl b1))])
    go_wp2
    go_ret
    exact ⟨(by rw [HB.out] <;> rfl), K0.out⟩
  have x9 : W2.cell? ⟨w.heap.size, 9, none⟩ = some (.slice c P cap) := RM.out.cell (i := 9) (by omega)
  go_wp2_with fail
  clear x9
  refine (numsOK_any c P cap f _ (hik (hf.out.keep K0.out)) hP).mono ?_
  rintro e W3 ⟨rfl, hw⟩
  have hw := hw.symm
  subst hw
  cases b2 : fds P f
  · have HB := hik (show stk s r n g P f (sokb fs gs ls at' st ct) at' ct = 1 by unfold stk; rw [if_pos (.inr (.inr (.inl b2)))])
    go_wp2
    go_ret
    exact ⟨(by rw [HB.out] <;> rfl), K0.out⟩
  have y0 : W2.cell? ⟨w.heap.size + 1, 0, none⟩ = some (.slice cs ls ps) := RS.out.cell (i := 0) (by omega)
  have y1 : W2.cell? ⟨w.heap.size + 1, 1, none⟩ = some (.int .i64 at') := RS.out.cell (i := 1) (by omega)
  have y2 : W2.cell? ⟨w.heap.size + 1, 2, none⟩ = some (.string st) := RS.out.cell (i := 2) (by omega)
  have y3 : W2.cell? ⟨w.heap.size + 1, 3, none⟩ = some (.int .i64 ct) := RS.out.cell (i := 3) (by omega)
  go_wp2_with fail
  clear y0 y1 y2 y3
  refine (sourceOK_any cs ls ps at' st ct fs gs _ (hik (hsr.out.keep K0.out)) hls hst).mono ?_
  rintro e W4 ⟨rfl, kk⟩
  replace K0 := hik (K0.out.trans kk)
  replace RM := hik (rowIs_keep RM.out kk)
  replace RS := hik (rowIs_keep RS.out kk)
  clear kk
  cases b3 : sokb fs gs ls at' st ct
  · have HB := hik (show stk s r n g P f (sokb fs gs ls at' st ct) at' ct = 1 by unfold stk; rw [if_pos (.inr (.inr (.inr b3)))])
    go_wp2
    go_ret
    exact ⟨(by rw [HB.out] <;> rfl), K0.out⟩
  have SP := sokb_in b3
  have x2 : W4.cell? ⟨w.heap.size, 2, none⟩ = some (.int .i64 s.p) := RM.out.cell (i := 2) (by omega)
  have x9 : W4.cell? ⟨w.heap.size, 9, none⟩ = some (.slice c P cap) := RM.out.cell (i := 9) (by omega)
  by_cases b4 : (P : Int) = s.p
  rotate_left 1
  · have HB := hik (show stk s r n g P f (sokb fs gs ls at' st ct) at' ct = 17 by unfold stk; rw [if_neg (by rw [b0, b1, b2, b3]; simp), if_pos b4])
    go_wp2
    go_ret
    exact ⟨(by rw [HB.out] <;> rfl), K0.out⟩
  have y0 : W4.cell? ⟨w.heap.size + 1, 0, none⟩ = some (.slice cs ls ps) := RS.out.cell (i := 0) (by omega)
  have y1 : W4.cell? ⟨w.heap.size + 1, 1, none⟩ = some (.int .i64 at') := RS.out.cell (i := 1) (by omega)
  have y2 : W4.cell? ⟨w.heap.size + 1, 2, none⟩ = some (.string st) := RS.out.cell (i := 2) (by omega)
  have y3 : W4.cell? ⟨w.heap.size + 1, 3, none⟩ = some (.int .i64 ct) := RS.out.cell (i := 3) (by omega)
  go_wp2_with fail
  clear y0 y1 y2 y3 x2 x9
  refine (left_any cs ls ps at' st ct _ SP.1 SP.2.1 SP.2.2.1 SP.2.2.2).mono ?_
  rintro e W5 ⟨lf, rfl, hlf, kk⟩
  have HLF := hlf 200
  clear hlf
  replace K0 := hik (K0.out.trans kk)
  replace RM := hik (rowIs_keep RM.out kk)
  replace RS := hik (rowIs_keep RS.out kk)
  clear kk
  cases b5 : spb at' ct 200
  · have hl : ¬ lf < 200 := fun h => by have := HLF.1 h; rw [b5] at this; cases this
    have HB := hik (show stk s r n g P f (sokb fs gs ls at' st ct) at' ct = 0 by unfold stk; rw [if_neg (by rw [b0, b1, b2, b3]; simp), if_neg (by simpa using b4), b5]; rfl)
    go_wp2
    go_ret
    exact ⟨(by rw [HB.out] <;> rfl), K0.out⟩
  · have hl : lf < 200 := HLF.2 b5
    have HB := hik (show stk s r n g P f (sokb fs gs ls at' st ct) at' ct = 6 by unfold stk; rw [if_neg (by rw [b0, b1, b2, b3]; simp), if_neg (by simpa using b4), if_pos b5])
    go_wp2
    go_ret
    exact ⟨(by rw [HB.out] <;> rfl), K0.out⟩

set_option maxHeartbeats 8000000 in
theorem stText_any (s : Sy) (a : SyA) (r n g : Int) (c : Option Addr) (P cap : Nat) (f : Nat → Int) (w : World) (hv : Hid (SyV w s a)) (hs : s.small) (hok : Hid (sysb s = true)) (hst : Hid (stb r n g = true)) (hf : Hid (RowV w c P (iv f))) (hfb : Hid (fds P f = true)) (hP : P ≤ 4096) (ht : Hid (Tabs w)) :
    Calls Tryz.prog 49 #[.agg #[.int .i64 s.r, .int .i64 s.q, .int .i64 s.p, .slice a.cA s.nA a.pA, .slice a.cB s.nB a.pB, .slice a.cC s.nC a.pC, .int .i64 r, .int .i64 n, .int .i64 g, .slice c P cap]] w fun e w' => e = .returned (.string (stX s r n g P f)) ∧ Chg nob w w' := by
  obtain ⟨⟨r1, r3⟩, ⟨n1, n8⟩, g0, g12⟩ := stb_parts hst.out
  obtain ⟨i0, hi, hz0, hz1, hz2⟩ := info_parts infoU8
  have HI := hik hi
  have HZ0 := hik hz0
  have HZ1 := hik hz1
  have HZ2 := hik hz2
  clear hi hz0 hz1 hz2
  have H3 := hik (fun j (hj : j < 3) => by3_at (r := r) (q := n) (p := g) (by omega) (by omega) (by omega) (by omega) (by omega) (by omega) hj)
  have hr256 : r % 256 = r := by omega
  have hq256 : n % 256 = n := by omega
  have hp256 : g % 256 = g := by omega
  have HFB := hik (fun (i : Nat) (hi : i < P) => fds_at hfb.out hi)
  have K0 := hik ((Chg.refl nob w).alloc (.cells #[.int .i64 s.r, .int .i64 s.q, .int .i64 s.p, .slice a.cA s.nA a.pA, .slice a.cB s.nB a.pB, .slice a.cC s.nC a.pC, .int .i64 r, .int .i64 n, .int .i64 g, .slice c P cap] 61))
  have RM := hik (rowN_new w 10 #[.int .i64 s.r, .int .i64 s.q, .int .i64 s.p, .slice a.cA s.nA a.pA, .slice a.cB s.nB a.pB, .slice a.cC s.nC a.pC, .int .i64 r, .int .i64 n, .int .i64 g, .slice c P cap] 61 rfl)
  have dc : sdc s = 0 := by unfold sdc; rw [if_pos hok.out]
  obtain ⟨D, hD0⟩ : ∃ D, D = hsh (sdK s 3) := ⟨_, rfl⟩
  have hD : D.size = 32 := by rw [hD0]; exact hsh_size _
  have HX := hik (show stX s r n g P f = stW (D ++ by3 r n g) f P by rw [hD0]; rfl)
  have dv : sdv s = D := by rw [hD0]; unfold sdv; rw [if_pos hok.out]
  clear hD0
  go_enter Tryz.func49, Tryz.ntmps49
  go_wp2_with fail
  generalize hW : w.alloc (.cells #[.int .i64 s.r, .int .i64 s.q, .int .i64 s.p, .slice a.cA s.nA a.pA, .slice a.cB s.nB a.pB, .slice a.cC s.nC a.pC, .int .i64 r, .int .i64 n, .int .i64 g, .slice c P cap] 61) = W0 at K0 RM ⊢
  clear hW
  refine (digest_any s a _ (hik (hv.out.keep K0.out)) hs (hik (ht.out.keep K0.out))).mono ?_
  rintro e W1 ⟨he, kk⟩
  rw [dc, dv] at he
  subst he
  replace K0 := hik (K0.out.trans kk)
  replace RM := hik (rowIs_keep RM.out kk)
  clear kk dc dv
  obtain ⟨WM, capM, hcvM, HB, KM, hcm⟩ := conv_text D W1 (by omega)
  rw [hD] at hcvM HB
  have HBT := hik (show BT WM W1.heap.size W1.heap.size 32 capM D from ⟨hD.symm, HB.out, by unfold maxLen; omega⟩)
  have hlo := K0.out.size
  have hw0 : w.heap.size < W1.heap.size := RM.out.lt
  have hm1 := HBT.out.r.lt
  clear HB hcm

  have x6 : WM.cell? ⟨w.heap.size, 6, none⟩ = some (.int .i64 r) := KM.out.look (RM.out.cell (i := 6) (by omega))
  have x7 : WM.cell? ⟨w.heap.size, 7, none⟩ = some (.int .i64 n) := KM.out.look (RM.out.cell (i := 7) (by omega))
  have x8 : WM.cell? ⟨w.heap.size, 8, none⟩ = some (.int .i64 g) := KM.out.look (RM.out.cell (i := 8) (by omega))
  go_wp2_with (at_builtin; refine wpList_append_bt _ rfl (.tmp 15) (.tmp 28) 76 rfl 5 i0 (.int .u8 0) Tryz.underlying76 HI.out HZ0.out HZ1.out HZ2.out rfl W1.heap.size W1.heap.size 32 capM D rfl (by simp; omega) (HBT.out.keep ((Chg.refl nob _).alloc _)) ⟨_, 0, none⟩ 3 3 (by3 r n g) rfl (by3_size _ _ _).symm ?c1 (by omega) (by omega) ?c2)
  case c1 =>
    intro j hj
    rw [by3_size] at hj
    rw [show bb (zs (by3 r n g)) j = .int .u8 (if j = 0 then r else if j = 1 then n else g) by unfold bb; rw [H3.out j hj]]
    rcases (show j = 0 ∨ j = 1 ∨ j = 2 by omega) with rfl | rfl | rfl <;> simp [Addr.add, hr256, hq256, hp256] <;> omega
  case c2 =>
    intro g2 cap2 W2 o2 k2 l2
    have O2 := hik o2
    have K2 := hik (K0.out.near (((KM.out.alloc _).wide).trans k2) (fun i q => by have q : i = W1.heap.size := q; omega))
    have R2 := hik (rowIs_chg (rowIs_keep RM.out (KM.out.alloc _)) k2 (fun q => by have q : w.heap.size = W1.heap.size := q; omega))
    have HB2 := hik (show W1.heap.size ≤ W2.heap.size by have := k2.size; have := (KM.out.alloc (.cells #[.int .u8 r, .int .u8 n, .int .u8 g] 5)).size; omega)
    have x9 : W2.cell? ⟨w.heap.size, 9, none⟩ = some (.slice c P cap) := R2.out.cell (i := 9) (by omega)
    clear o2 k2 l2 KM hm1 hcvM x6 x7 x8 HBT H3 hr256 hq256 hp256 R2
    generalize hDT : D ++ by3 r n g = DT at O2 HX ⊢
    have hDS : DT.size = 35 := by rw [← hDT, ByteArray.size_append, by3_size, hD]
    clear hDT hD
    generalize hB : W1.heap.size = gB at O2 HB2 hw0 ⊢
    clear hB
    go_wp2
    clear x9
    go_loopw [5, 33] (fun v i W => ∃ (k gk nk capk : Nat), k ≤ P ∧ nk = 35 + 4 * k ∧ i = .int .i64 k ∧ v = .slice (some ⟨gk, 0, none⟩) nk capk ∧ Hid (BT W gB gk nk capk (stW DT f k)) ∧ Hid (Chg nob w W) ∧ Hid (gB ≤ W.heap.size)) (fun _ i _ => P - (intOf i).toNat)
    case atStart => exact ⟨0, g2, 35, cap2, by omega, by omega, rfl, rfl, O2, K2, HB2⟩
    case round =>
      clear O2 K2 HB2
      obtain ⟨k, gk, nk, capk, hk, hnk, rfl, rfl, HO, HG, HL⟩ := hrel
      rename World => wi
      have hnk' : nk ≤ 900000 := by omega
      have HNK := hik hnk
      clear hnk
      by_cases hlt : k < P
      · have hk1 : (k : Int) < (P : Int) := by omega
        have hk0 : (0 : Int) ≤ (k : Int) := by omega
        obtain ⟨xb, xo, rfl, hxb, hc⟩ := (hf.out.keep HG.out) k hlt
        have hx : wi.cell? ⟨xb, xo + k, none⟩ = some (.int .i64 (f k)) := hc
        clear hc
        have FB := HFB.out k hlt
        go_wp2_with fail
        refine (appendWord_bt gB gk nk capk (stW DT f k) (f k) _ HO FB.1 FB.2 hnk' HL.out).mono ?_
        rintro e W5 ⟨g5, cap5, rfl, o5, k5, l5⟩
        have O5 := hik (show BT W5 gB g5 (nk + 4) cap5 (stW DT f (k + 1)) from o5)
        have G5 := hik (HG.out.near k5 (fun i q => by have q : i = gk := q; have := HO.out.r.lo; omega))
        have L5 := hik (Nat.le_trans HL.out k5.size)
        clear o5 k5 l5 hx FB
        go_wp2
        go_roundw
        case rel => exact ⟨k + 1, g5, nk + 4, cap5, by omega, by have := HNK.out; omega, by go_num, rfl, O5, G5, L5⟩
        case measure => simp [intOf]; omega
      · have hcc : ¬ (k : Int) < (P : Int) := by omega
        have hke : P = k := by omega
        have hcv : (convert 76 9 (.slice (some ⟨gk, 0, none⟩) nk capk)).run Tryz.prog wi = .ok (.string (stW DT f P)) wi := by
          have q := convB (some ⟨gk, 0, none⟩) nk capk (zs (stW DT f k)) wi (BRow.row HO.out.r)
          rw [show bt (zs (stW DT f k)) nk = stW DT f P by rw [HO.out.e, bt_zs9, hke]] at q
          exact q
        clear hke
        go_wp2
        go_ret
        exact ⟨(by rw [HX.out] <;> rfl), HG.out⟩

end Go.Proofs.YtfcbcbmoebhfhaaGreatDoor
