/- Places that right sources draw, by the program: a contract. Conditions: right sources with draws left, rows that can be read; the tables hold the shifts and the rounds' constants. -/
import Derived.Test.YtmnakafplpmphabDoorBdg
namespace Go.Proofs.YtmnakafplpmphabDoor
open Go.ChangeShapes Go.WideShapes Go.ChangeAt Go.RowKit
set_option linter.unusedVariables false
set_option maxRecDepth 100000
set_option linter.unusedSimpArgs false

/-- Ints as values. -/
def ivl (p : Nat → Int) (i : Nat) : Value := .int .i64 (p i)
theorem infoI : (Tryd.prog.info? 3).map (fun i => (i.zero, i.size, i.bytes)) = some (some (.int .i64 0), 1, 8) := by kernel_rfl
/-- The places of draws. -/
def plc5 (f : Nat → Int) (len : Nat) (at' : Int) (st : ByteArray) (ct most : Int) (i : Nat) : Int := drE f len at' st ct i % most
theorem drE_in {f g : Nat → Int} {len : Nat} (h : okP f g len = true) (at' : Int) (st : ByteArray) (ct : Int) (k : Nat) : 0 ≤ drE f len at' st ct k ∧ drE f len at' st ct k < 2130706433 := by
  unfold drE
  by_cases h0 : 0 < len
  · rw [if_pos h0]
    have q := eok_a (okP_all f g len h _ (Nat.mod_lt (at' + k).toNat h0))
    exact ⟨fok_lo q, fok_hi q⟩
  · rw [if_neg h0]
    exact fl8_in _ 8
/-- A source of the call's own, places, and a code. -/
def PTAns (w : World) (n : Nat) (f g : Nat → Int) (at' : Int) (st : ByteArray) (ct : Int) (m : Nat) (p : Nat → Int) (code : Int) (e : Ending) (w' : World) : Prop :=
  ∃ (c : Option Addr) (cap : Nat) (d : Option Addr) (cap' : Nat), e = .returned (.tuple #[.agg #[.slice c n cap, .int .i64 at', .string st, .int .i64 ct], .slice d m cap', .int .i64 code]) ∧ OwnE w' w.heap.size c n f g ∧ RowV w' d m (ivl p) ∧ (∀ xb xo, d = some ⟨xb, xo, none⟩ → w.heap.size ≤ xb) ∧ Chg nob w w'

set_option maxHeartbeats 2000000 in
theorem takePlaces_ok (c : Option Addr) (len cap : Nat) (f g : Nat → Int) (at' : Int) (st : ByteArray) (ct : Int) (n : Nat) (most : Int) (w : World) (htb : Hid (Tabs w)) (h : Hid (PairV w c len f g)) (hok : sokb f g len at' st ct = true) (hn : n ≤ 100) (a1 : at' + n ≤ 1000000) (c1 : ct + n ≤ 1000000) (m1 : 1 ≤ most) (m2 : most ≤ 65536) :
    Calls Tryd.prog 41 #[.agg #[.slice c len cap, .int .i64 at', .string st, .int .i64 ct], .int .i64 n, .int .i64 most] w fun e w' => PTAns w len f g (dnA len at' n) st (dnC len ct n) n (plc5 f len at' st ct most) 0 e w' := by
  obtain ⟨p1, p2, p3, p4, p5⟩ := sokb_parts hok
  have hl : (len : Int) ≤ 9223372036854775807 := by omega
  have hs : (st.size : Int) ≤ 9223372036854775807 := by omega
  have P := hik (sokb_parts hok)
  obtain ⟨i0, hi, hz0, hz1, hz2⟩ := info_parts infoI
  have HI := hik hi
  have HZ0 := hik hz0
  have HZ1 := hik hz1
  have hb : i0.bytes * n ≤ 281474976710656 := by rw [hz2]; omega
  clear hi hz0 hz1 hz2
  have b1 : decide (most < 1) = false := decide_eq_false (by omega)
  have b2 : decide ((65536 : Int) < most) = false := decide_eq_false (by omega)
  have HAC := hik (show at' + n ≤ 1000000 ∧ ct + n ≤ 1000000 from ⟨a1, c1⟩)
  have HMM := hik (show 1 ≤ most ∧ most ≤ 65536 from ⟨m1, m2⟩)
  clear a1 c1 p3 p5
  go_enter Tryd.func41, Tryd.ntmps41
  go_wp2_with fail
  refine (sourceOK_any c len cap at' st ct f g _ (hik (h.out.keep (((Chg.refl nob w).alloc _).alloc _))) hl hs).mono ?_
  rintro e W1 ⟨he, kk⟩
  have K := hik ((((Chg.refl nob w).alloc _).alloc _).trans kk)
  have s1 := hik K.out.size
  have A := hik (rowIs_keep (World.rowIs.alloc (row4_new w (.slice c len cap) (.int .i64 at') (.string st) (.int .i64 ct) 47) _) kk)
  have RZ : Hid (W1.rowIs (w.heap.size + 1) 47 4 (pv4 (.slice none 0 0) (.int .i64 0) (.string ⟨#[]⟩) (.int .i64 0))) := hik (by simpa using rowIs_keep (row4_new _ (.slice none 0 0) (.int .i64 0) (.string ⟨#[]⟩) (.int .i64 0) 47) kk)
  rw [hok] at he
  subst he
  have G := hik K.out
  have L0 : Hid (w.heap.size + 1 < W1.heap.size) := hik RZ.out.lt
  clear kk K
  have zA : w.heap.size < W1.heap.size := A.out.lt
  have xA0 : W1.cell? ⟨w.heap.size, 0, none⟩ = some (.slice c len cap) := A.out.cell (by omega)
  have xA1 : W1.cell? ⟨w.heap.size, 1, none⟩ = some (.int .i64 at') := A.out.cell (by omega)
  have xA2 : W1.cell? ⟨w.heap.size, 2, none⟩ = some (.string st) := A.out.cell (by omega)
  have xA3 : W1.cell? ⟨w.heap.size, 3, none⟩ = some (.int .i64 ct) := A.out.cell (by omega)
  go_wp2_with fail
  refine (takeSome_ok c len cap f g at' st ct n _ (hik (htb.out.keep G.out)) (hik (h.out.keep G.out)) hok hn HAC.out.1 HAC.out.2).mono ?_
  rintro e W2 ⟨c3, cap3, d3, cap3', rfl, o3, q3, kk⟩
  clear zA xA0 xA1 xA2 xA3
  have K := hik ((Chg.refl nob W1).trans kk)
  have s2 := hik K.out.size
  replace G := hik (G.out.trans K.out)
  replace A := hik (rowIs_keep A.out K.out)
  replace RZ := hik (rowIs_keep RZ.out K.out)
  have O3 := hik (o3.low (B' := W1.heap.size) (Nat.le_refl _))
  have D3 := hik (q3.low (B' := W1.heap.size) (Nat.le_refl _))
  clear o3 q3
  clear kk K
  have LZ := hik RZ.out.lt
  have KD := hik (fun i => drE_in P.out.2.1 at' st ct i)
  go_wp2_with (at_make; refine wpList_make_row _ rfl (.tmp 37) (.tmp 37) 61 rfl 3 i0 (.int .i64 0) Tryd.underlying61 HI.out HZ0.out HZ1.out rfl .i64 .i64 n rfl rfl hb (by omega) ?_)
  clear hb HI HZ0 HZ1 b1 b2
  go_wp2
  go_loopw [41] (fun i W => ∃ k : Nat, k ≤ n ∧ i = .int .i64 k ∧ Hid (W.rowIs (W2.heap.size + 1) 3 n (fun j => if j < k then ivl (plc5 f len at' st ct most) j else .int .i64 0)) ∧ Hid (W.rowIs W2.heap.size 47 4 (pv4 (.slice c3 len cap3) (.int .i64 (dnA len at' n)) (.string st) (.int .i64 (dnC len ct n)))) ∧ Hid (W.rowIs (w.heap.size + 1) 47 4 (pv4 (.slice none 0 0) (.int .i64 0) (.string ⟨#[]⟩) (.int .i64 0))) ∧ Hid (Chg nob W2 W)) (fun i _ => n - (intOf i).toNat)
  case atStart => exact ⟨0, Nat.zero_le _, rfl, hik (by have q := World.rowIs_made (W2.alloc (.cells #[.slice c3 len cap3, .int .i64 (dnA len at' n), .string st, .int .i64 (dnC len ct n)] 47)) (.int .i64 0) n 3; exact World.rowIs.congr (by simpa using q) (fun i _ => by simp)), hik (World.rowIs.alloc (row4_new W2 _ _ _ _ _) _), hik (World.rowIs.alloc (World.rowIs.alloc RZ.out _) _), hik (((Chg.refl nob W2).alloc _).alloc _)⟩
  case round =>
    obtain ⟨k, hk, rfl, HR, HO, HZ, HG⟩ := hrel
    by_cases hlt : k < n
    · have hlt' : (k : Int) < (n : Int) := by omega
      have k0 : (0 : Int) ≤ (k : Int) := by omega
      obtain ⟨x, hx⟩ : ∃ x, x = drE f len at' st ct k := ⟨_, rfl⟩
      have x0 : 0 ≤ x := by rw [hx]; exact (KD.out k).1
      have hm0 : ¬ most = 0 := by have := HMM.out; omega
      have hmod : x.tmod most = x % most := Int.tmod_eq_emod_of_nonneg x0
      have EP := hik (show ivl (plc5 f len at' st ct most) k = .int .i64 (x % most) by rw [hx]; rfl)
      obtain ⟨xb, xo, ed, hxb, e0, e1⟩ := (D3.out.pairs.keep HG.out) k hlt
      rw [← hx] at e0
      subst ed
      have zl : xb < wr.heap.size := hxb
      have zp : W2.heap.size + 1 < wr.heap.size := HR.out.lt
      have hg := HR.out.cell hlt
      have hf := HR.out.frozen k
      simp only [Nat.lt_irrefl, if_false] at hg
      clear hx
      go_wp2
      have NR := hik (World.rowIs.alloc ((HR.out.set k (.int .i64 (x % most))).congr (g := fun j => if j < k + 1 then ivl (plc5 f len at' st ct most) j else .int .i64 0) (fun i _ => by
        by_cases e : i = k
        · subst e; simp [EP.out]
        · by_cases e2 : i < k
          · simp [e, e2, show i < k + 1 by omega]
          · simp [e, e2, show ¬ i < k + 1 by omega])) (.cells #[.int .i64 x, .int .i64 (drF g len at' st ct k)] 57))
      have NO := hik (World.rowIs.alloc (World.rowIs.setOther (a := ⟨W2.heap.size + 1, k, none⟩) HO.out (by simp) (.int .i64 (x % most))) (.cells #[.int .i64 x, .int .i64 (drF g len at' st ct k)] 57))
      have NZ := hik (World.rowIs.alloc (World.rowIs.setOther (a := ⟨W2.heap.size + 1, k, none⟩) HZ.out (by have := LZ.out; simp; omega) (.int .i64 (x % most))) (.cells #[.int .i64 x, .int .i64 (drF g len at' st ct k)] 57))
      have NG := hik ((HG.out.setCell (p := ⟨W2.heap.size + 1, k, none⟩) (fun l => absurd l (by simp)) (.int .i64 (x % most))).alloc (.cells #[.int .i64 x, .int .i64 (drF g len at' st ct k)] 57))
      go_roundw
      case rel => exact ⟨k + 1, by omega, by go_num, NR, NO, NZ, NG⟩
      case measure => simp [intOf]; omega
    · obtain rfl : k = n := by omega
      have OF := hik (O3.out.keep HG.out)
      have GF := hik (G.out.trans HG.out)
      have LF := hik HR.out.lt
      have xo0 : wr.cell? ⟨W2.heap.size, 0, none⟩ = some (.slice c3 len cap3) := HO.out.cell (by omega)
      have xo1 : wr.cell? ⟨W2.heap.size, 1, none⟩ = some (.int .i64 (dnA len at' k)) := HO.out.cell (by omega)
      have xo2 : wr.cell? ⟨W2.heap.size, 2, none⟩ = some (.string st) := HO.out.cell (by omega)
      have xo3 : wr.cell? ⟨W2.heap.size, 3, none⟩ = some (.int .i64 (dnC len ct k)) := HO.out.cell (by omega)
      have zo : W2.heap.size < wr.heap.size := HO.out.lt
      have hz9 : w.heap.size + 1 < wr.heap.size := HZ.out.lt
      have y0 := HZ.out.cell (i := 0) (by omega)
      have v0 := HZ.out.frozen 0
      have y1 := HZ.out.cell (i := 1) (by omega)
      have v1 := HZ.out.frozen 1
      have y2 := HZ.out.cell (i := 2) (by omega)
      have v2 := HZ.out.frozen 2
      have y3 := HZ.out.cell (i := 3) (by omega)
      have v3 := HZ.out.frozen 3
      go_wp2
      have RL := hik (row4_other (g := w.heap.size + 1) HR.out (by have := LZ.out; omega) (.slice c3 len cap3) (.int .i64 (dnA len at' k)) (.string st) (.int .i64 (dnC len ct k)))
      exact bodyPost_ret (v := .tuple #[.agg #[.slice c3 len cap3, .int .i64 (dnA len at' k), .string st, .int .i64 (dnC len ct k)], .slice (some ⟨W2.heap.size + 1, 0, none⟩) k k, .int .i64 0]) (by simp [results, Tryd.results41, go_sem, row4_s0 HZ.out (.slice c3 len cap3), row4_s1 HZ.out (.slice c3 len cap3) (.int .i64 (dnA len at' k)), row4_s2 HZ.out (.slice c3 len cap3) (.int .i64 (dnA len at' k)) (.string st), row4_s3 HZ.out (.slice c3 len cap3) (.int .i64 (dnA len at' k)) (.string st) (.int .i64 (dnC len ct k))]) rfl ⟨_, _, _, _, rfl, ((OF.out.chg (P := fun b => b = w.heap.size + 1) (chg4_set (Chg.refl (fun b => b = w.heap.size + 1) wr) (w.heap.size + 1) (fun _ => rfl) _ _ _ _) (fun b hb _ hp => (by have := L0.out; omega))).low (B' := w.heap.size) (by have := L0.out; omega)), RowV.of_row (RL.out.congr (fun i hi => by simp [hi])) (Nat.le_refl _), fun xb xo e => (by have := LZ.out; simp at e; omega), chg4_set GF.out _ (fun l => absurd l (by simp)) _ _ _ _⟩

end Go.Proofs.YtmnakafplpmphabDoor
