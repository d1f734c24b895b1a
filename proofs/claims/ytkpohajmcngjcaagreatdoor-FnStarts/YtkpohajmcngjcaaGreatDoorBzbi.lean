/- Several texts in one: What a source draws, by the program: contracts. Conditions: a right source with draws left, rows that can be read; the tables hold the shifts and the rounds' constants. · What right sources draw, by the program: contracts. Conditions: right sources with draws left, rows that can be read; the tables hold the shifts and the rounds' constants. · Lists and codes told by elements: words. No condition but those that each theorem states. · A drawn source is a right one: contracts. Conditions: those of each theorem. -/
import Derived.Test.YtkpohajmcngjcaaGreatDoorBzbf
import Derived.Test.YtkpohajmcngjcaaGreatDoorBzbb
import Derived.Test.YtkpohajmcngjcaaGreatDoorBzas
import Derived.Test.YtkpohajmcngjcaaGreatDoorBzab
import Derived.Test.YtkpohajmcngjcaaGreatDoorBzbh
namespace Go.Proofs.YtkpohajmcngjcaaGreatDoor
open Go.ChangeShapes Go.WideShapes Go.ChangeAt Go.RowKit
set_option linter.unusedVariables false
set_option maxRecDepth 100000
set_option linter.unusedSimpArgs false


end Go.Proofs.YtkpohajmcngjcaaGreatDoor

namespace Go.Proofs.YtkpohajmcngjcaaGreatDoor
open Go.ChangeShapes Go.WideShapes Go.ChangeAt Go.RowKit
set_option linter.unusedVariables false
set_option maxRecDepth 100000
set_option linter.unusedSimpArgs false


end Go.Proofs.YtkpohajmcngjcaaGreatDoor

namespace Go.Proofs.YtkpohajmcngjcaaGreatDoor
open Go.ChangeShapes Go.WideShapes Go.ChangeAt Go.RowKit
set_option linter.unusedVariables false
set_option linter.unusedSimpArgs false

theorem elF_el (t : Nat → El) : elF (cA t) (cB t) = t := by
  funext i
  exact El.eq (elP_v (eok_el (t i)))
theorem elP_el (x : El) : elP x.v.1 x.v.2 = x := El.eq (elP_v (eok_el x))
/-- A slice of elements of a call's own, and the code of no fault. -/
def TbE (w : World) (m : Nat) (t : Nat → El) (e : Ending) (w' : World) : Prop :=
  ∃ (c : Option Addr) (cap : Nat), e = .returned (.tuple #[.slice c m cap, .int .i64 0]) ∧ OwnE w' w.heap.size c m (cA t) (cB t) ∧ Chg nob w w'
theorem TbE.of {w : World} {code : Int} {m m' : Nat} {t t' : Nat → El} {e : Ending} {w' : World} (h : TbC w code m t e w') (hc : code = 0) (hm : m = m') (ht : t = t') : TbE w m' t' e w' := by
  subst hc hm ht
  obtain ⟨c, cap, rfl, _, _, ho, k⟩ := h
  exact ⟨c, cap, rfl, ho, k⟩

end Go.Proofs.YtkpohajmcngjcaaGreatDoor

namespace Go.Proofs.YtkpohajmcngjcaaGreatDoor
open Go.ChangeShapes Go.WideShapes Go.ChangeAt Go.RowKit
set_option linter.unusedVariables false
set_option maxRecDepth 100000
set_option linter.unusedSimpArgs false

/-- The labels and texts that are drawn of. -/
def L3 (i : Nat) : ByteArray := if i = 0 then ⟨#[]⟩ else if i = 1 then ⟨#[97]⟩ else ⟨#[108, 97, 98, 101, 108]⟩
def L2 (i : Nat) : ByteArray := if i = 0 then ⟨#[]⟩ else ⟨#[116, 101, 120, 116]⟩
theorem L3_size (i : Nat) : (L3 i).size ≤ 5 := by
  unfold L3
  split
  · exact Nat.zero_le _
  · split
    · exact (show 1 ≤ 5 by omega)
    · exact Nat.le_refl 5
theorem L2_size (i : Nat) : (L2 i).size ≤ 5 := by
  unfold L2
  split
  · exact Nat.zero_le _
  · exact (show 4 ≤ 5 by omega)
theorem L3_row (w : World) (t : TypeId) : RowV (w.alloc (.cells #[.string ⟨#[]⟩, .string ⟨#[97]⟩, .string ⟨#[108, 97, 98, 101, 108]⟩] t)) (some ⟨w.heap.size, 0, none⟩) 3 (sb L3) := by
  intro i hi
  refine ⟨w.heap.size, 0, rfl, by simp, ?_⟩
  match i, hi with
  | 0, _ => simp [sb, L3]
  | 1, _ => simp [sb, L3]
  | 2, _ => simp [sb, L3]
theorem L2_row (w : World) (t : TypeId) : RowV (w.alloc (.cells #[.string ⟨#[]⟩, .string ⟨#[116, 101, 120, 116]⟩] t)) (some ⟨w.heap.size, 0, none⟩) 2 (sb L2) := by
  intro i hi
  refine ⟨w.heap.size, 0, rfl, by simp, ?_⟩
  match i, hi with
  | 0, _ => simp [sb, L2]
  | 1, _ => simp [sb, L2]

/-- What is known of a source while it is drawn: k draws at most are still to come. -/
structure SrcIn (W : World) (B X k : Nat) (c : Option Addr) (n cap : Nat) (f g : Nat → Int) (at' : Int) (st : ByteArray) (ct : Int) : Prop where
  row : W.rowIs X 35 4 (pv4 (.slice c n cap) (.int .i64 at') (.string st) (.int .i64 ct))
  own : OwnE W B c n f g
  len : n ≤ 5
  ok : okP f g n = true
  st32 : st.size = 32
  at0 : 0 ≤ at' ∧ at' + k ≤ 3
  ct0 : 0 ≤ ct ∧ ct + k ≤ 3
theorem SrcIn.keep {W W' : World} {B X k : Nat} {c : Option Addr} {n cap : Nat} {f g : Nat → Int} {at' : Int} {st : ByteArray} {ct : Int} (h : SrcIn W B X k c n cap f g at' st ct) {P : Nat → Prop} (q : Chg P W W') (hX : ¬ P X) (hB : ∀ i, B ≤ i → ¬ P i) : SrcIn W' B X k c n cap f g at' st ct :=
  ⟨rowIs_chg h.row q hX, h.own.chg q (fun b hb _ => hB b hb), h.len, h.ok, h.st32, h.at0, h.ct0⟩
theorem SrcIn.fewer {W : World} {B X k k' : Nat} {c : Option Addr} {n cap : Nat} {f g : Nat → Int} {at' : Int} {st : ByteArray} {ct : Int} (h : SrcIn W B X k c n cap f g at' st ct) (hk : k' ≤ k) : SrcIn W B X k' c n cap f g at' st ct :=
  ⟨h.row, h.own, h.len, h.ok, h.st32, by have := h.at0; omega, by have := h.ct0; omega⟩
theorem SrcIn.put {W : World} {B X k k' : Nat} {c : Option Addr} {n cap : Nat} {f g : Nat → Int} {at' : Int} {st : ByteArray} {ct : Int} (h : SrcIn W B X k c n cap f g at' st ct) {a' : Int} {s' : ByteArray} {c' : Int} (hs : s'.size = 32) (ha : 0 ≤ a' ∧ a' + k' ≤ 3) (hc : 0 ≤ c' ∧ c' + k' ≤ 3) (hB : B < X) :
    SrcIn ((((W.setCell ⟨X, 0, none⟩ (.slice c n cap)).setCell ⟨X, 1, none⟩ (.int .i64 a')).setCell ⟨X, 2, none⟩ (.string s')).setCell ⟨X, 3, none⟩ (.int .i64 c')) B X k' c n cap f g a' s' c' :=
  ⟨row4_set h.row _ _ _ _, by
    rcases h.own with h0 | ⟨b, N, hh, e, hb, hr, q⟩
    · exact .inl h0
    · by_cases hx : b = X
      · subst hx; exact absurd (rowIs_kind h.row hr) (by decide)
      · exact .inr ⟨b, N, hh, e, hb, row4_other hr hx _ _ _ _, q⟩, h.len, h.ok, hs, ha, hc⟩
theorem sokb_mk {f g : Nat → Int} {n : Nat} {at' : Int} {st : ByteArray} {ct : Int} (h1 : okP f g n = true) (h2 : n ≤ 64) (h3 : 0 ≤ at' ∧ at' ≤ 1000000) (h4 : st.size = 32) (h5 : 0 ≤ ct ∧ ct ≤ 1000000) : sokb f g n at' st ct = true := by
  unfold sokb inW
  simp only [Bool.and_eq_true, decide_eq_true_eq]
  exact ⟨⟨⟨⟨h2, h1⟩, h3⟩, h4⟩, h5⟩
theorem abS_size (st t : ByteArray) : (abS st t).size = 32 := hsh_size _

/-- A right source, drawn. -/
def DrawnS (b : Nat) (w : World) (e : Ending) (w' : World) : Prop :=
  ∃ (c : Option Addr) (n cap : Nat) (f g : Nat → Int) (at' : Int) (st : ByteArray) (ct : Int), e = .returned (.agg #[.slice c n cap, .int .i64 at', .string st, .int .i64 ct]) ∧ OwnE w' w.heap.size c n f g ∧ sokb f g n at' st ct = true ∧ n ≤ 5 ∧ at' ≤ 3 ∧ ct ≤ 3 ∧ Chg (fun k => k = b) w w'

set_option maxHeartbeats 4000000 in
theorem source_any (m b : Nat) (w : World) (h : Src m w b) (hm : m ≤ 1000000) :
    Calls Tryz.prog 48 #[.pointer (some ⟨b, 0, none⟩)] w fun e w' => DrawnS b w e w' := by
  have hb := hik h.lt
  have HS0 := hik h
  clear h
  go_enter Tryz.func48, Tryz.ntmps48
  go_wp2_with fail
  refine (pickC_any (some ⟨w.heap.size + 1, 0, none⟩) 3 3 m b L3 _ (HS0.out.keep (((Chg.refl nob w).alloc _).alloc _)) (hik (by simpa using L3_row (w.alloc (.cells #[.slice none 0 0, .int .i64 0, .string ⟨#[]⟩, .int .i64 0] 35)) 9)) (hik (other_block (by have := hb.out; omega))) (by omega) (by omega) (by omega)).mono ?_
  rintro e W1 ⟨i1, hi1, rfl, hs1, k1⟩
  have S1 := hik hs1
  have G1 := hik ((((Chg.refl (fun k => k = b) w).alloc (.cells #[.slice none 0 0, .int .i64 0, .string ⟨#[]⟩, .int .i64 0] 35)).alloc _).trans k1)
  have R1 := hik (rowIs_chg (World.rowIs.alloc (row4_new w (.slice none 0 0) (.int .i64 0) (.string ⟨#[]⟩) (.int .i64 0) 35) _) k1 (by have := hb.out; omega))
  have T1 := hik (L3_size i1)
  obtain ⟨lab, hlab⟩ : ∃ l, l = L3 i1 := ⟨_, rfl⟩
  rw [← hlab] at T1 ⊢
  have hz1 := hik G1.out.size
  clear hs1 k1 hlab HS0
  go_wp2_with fail
  refine (sNew_any lab (some ⟨W1.heap.size, 0, none⟩) 0 0 _ (by have := T1.out; omega)).mono ?_
  rintro e W2 ⟨rfl, k2⟩
  have K2 := hik (((Chg.refl nob W1).alloc _).trans k2)
  have S2 := hik (S1.out.keep K2.out)
  have G2 := hik (G1.out.trans K2.out.wide)
  have R2 := hik (rowIs_keep R1.out K2.out)
  have L0 := hik R2.out.lt
  clear k2 K2 S1 G1 R1 hz1
  go_wp2_with fail
  refine (chance_any 3 _ b _ (hik (S2.out.keep ((Chg.refl nob W2).alloc _))) (by omega) (by omega) (by omega)).mono ?_
  rintro e W3 ⟨r, rfl, hs3, k3⟩
  have S3 := hik hs3
  have G3 := hik ((G2.out.alloc _).trans k3)
  have R3 := hik (rowIs_chg (World.rowIs.alloc R2.out _) k3 (by have := hb.out; omega))
  have X3 := hik (rowIs_chg (row4_new W2 (.slice (some ⟨W1.heap.size, 0, none⟩) 0 0) (.int .i64 0) (.string (nwS lab)) (.int .i64 0) 35) k3 (by have := hb.out; have := L0.out; omega))
  have Y3 : Hid (SrcIn W3 w.heap.size W2.heap.size 3 (some ⟨W1.heap.size, 0, none⟩) 0 0 (fun _ => 0) (fun _ => 0) 0 (nwS lab) 0) := hik ⟨X3.out, .inl rfl, by omega, rfl, hsh_size _, by omega, by omega⟩
  clear hs3 k3 S2 G2 R2 X3
  cases r
  · go_wp2_with fail
    refine (nextC_any 4 _ b _ S3.out (by omega) (by omega) (by omega)).mono ?_
    rintro e W6 ⟨r6, rfl, r60, r61, hs6, k6⟩
    obtain ⟨k0, rfl⟩ : ∃ k0 : Nat, r6 = k0 := ⟨r6.toNat, by omega⟩
    have hk0 : k0 ≤ 3 := by omega
    have S6 := hik hs6
    have G6 := hik (G3.out.trans k6)
    have R6 := hik (rowIs_chg R3.out k6 (by have := hb.out; omega))
    have Y6 := hik (Y3.out.keep k6 (by have := hb.out; have := L0.out; omega) (fun i hi => by have := hb.out; omega))
    clear hs6 k6 S3 G3 R3 Y3
    go_wp2
    go_loopw [4] (fun v W => ∃ (k : Nat) (c : Option Addr) (n cap : Nat) (f g : Nat → Int) (at' : Int) (st : ByteArray) (ct : Int), k ≤ 3 ∧ v = .int .i64 k ∧ Hid (SrcIn W w.heap.size W2.heap.size k c n cap f g at' st ct) ∧ Hid (Src (1001000 + 20 * (4 - k)) W b) ∧ Hid (W.rowIs w.heap.size 35 4 (pv4 (.slice none 0 0) (.int .i64 0) (.string ⟨#[]⟩) (.int .i64 0))) ∧ Hid (Chg (fun k => k = b) w W)) (fun v _ => (intOf v).toNat)
    case atStart => exact ⟨k0, _, _, _, _, _, _, _, _, hk0, rfl, hik (Y6.out.fewer hk0), hik (S6.out.mono (by omega)), R6, G6⟩
    case round =>
      clear Y6 S6 R6 G6
      obtain ⟨k, c, n, cap, f, g, at', st, ct, hk, rfl, YR, SR, RR, GR⟩ := hrel
      by_cases hlt : 0 < k
      · have hlt' : 0 < (k : Int) := by omega
        have KP0 := hik (show 0 < k ∧ k ≤ 3 from ⟨hlt, hk⟩)
        go_wp2_with fail
        refine (chance_any 2 _ b _ SR (by omega) (by omega) (by omega)).mono ?_
        rintro e Wa ⟨r2, rfl, hsa, ka⟩
        have SA := hik hsa
        have GA := hik (GR.out.trans ka)
        have RA := hik (rowIs_chg RR.out ka (by have := hb.out; omega))
        have YA := hik (YR.out.keep ka (by have := hb.out; have := L0.out; omega) (fun i hi => by have := hb.out; omega))
        have LX := hik (show w.heap.size < W2.heap.size ∧ W2.heap.size < Wa.heap.size from ⟨L0.out, YA.out.row.lt⟩)
        have BA := hik (show b < Wa.heap.size by have := hb.out; have := LX.out; omega)
        have zX : W2.heap.size < Wa.heap.size := YA.out.row.lt
        clear hsa ka SR GR RR YR
        have q0 : Wa.cell? ⟨W2.heap.size, 0, none⟩ = some (.slice c n cap) := YA.out.row.cell (by omega)
        have q1 : Wa.cell? ⟨W2.heap.size, 1, none⟩ = some (.int .i64 at') := YA.out.row.cell (by omega)
        have q2 : Wa.cell? ⟨W2.heap.size, 2, none⟩ = some (.string st) := YA.out.row.cell (by omega)
        have q3 : Wa.cell? ⟨W2.heap.size, 3, none⟩ = some (.int .i64 ct) := YA.out.row.cell (by omega)
        cases r2
        · go_wp2_with fail
          refine (sDraw_any c n cap at' st ct f g _ (hik YA.out.own.pairs) (by have := YA.out.len; omega) YA.out.st32 YA.out.at0.1 (by have := YA.out.at0; omega) YA.out.ct0.1 (by have := YA.out.ct0; omega)).mono ?_
          rintro e Wc ⟨rfl, kc⟩
          have YC := hik (YA.out.keep kc (fun x => x) (fun _ _ x => x))
          have SC := hik (SA.out.keep kc)
          have GC := hik (GA.out.trans kc.wide)
          have RC := hik (rowIs_keep RA.out kc)
          have LC := hik YC.out.row.lt
          clear kc q0 q1 q2 q3
          have YN : Hid (SrcIn ((((Wc.setCell ⟨W2.heap.size, 0, none⟩ (.slice c n cap)).setCell ⟨W2.heap.size, 1, none⟩ (.int .i64 (dnA n at' 1))).setCell ⟨W2.heap.size, 2, none⟩ (.string st)).setCell ⟨W2.heap.size, 3, none⟩ (.int .i64 (dnC n ct 1))) w.heap.size W2.heap.size (k - 1) c n cap f g (dnA n at' 1) st (dnC n ct 1)) := hik (SrcIn.put YC.out YC.out.st32 (by have := YC.out.at0; have := dnA_le n at' 1; have := KP0.out; omega) (by have := YC.out.ct0; have := dnC_le n ct 1; have := KP0.out; omega) (by have := L0.out; omega))
          have o0 := YC.out.row.cell (i := 0) (by omega)
          have v0 := YC.out.row.frozen 0
          have o1 := YC.out.row.cell (i := 1) (by omega)
          have v1 := YC.out.row.frozen 1
          have o2 := YC.out.row.cell (i := 2) (by omega)
          have v2 := YC.out.row.frozen 2
          have o3 := YC.out.row.cell (i := 3) (by omega)
          have v3 := YC.out.row.frozen 3
          have ZC : Hid (Chg (fun i => i = W2.heap.size) Wc ((((Wc.setCell ⟨W2.heap.size, 0, none⟩ (.slice c n cap)).setCell ⟨W2.heap.size, 1, none⟩ (.int .i64 (dnA n at' 1))).setCell ⟨W2.heap.size, 2, none⟩ (.string st)).setCell ⟨W2.heap.size, 3, none⟩ (.int .i64 (dnC n ct 1)))) := hik (chg4_set (Chg.refl (fun i => i = W2.heap.size) Wc) W2.heap.size (fun _ => rfl) _ _ _ _)
          have SN : Hid (Src (1001000 + 20 * (4 - (k - 1))) ((((Wc.setCell ⟨W2.heap.size, 0, none⟩ (.slice c n cap)).setCell ⟨W2.heap.size, 1, none⟩ (.int .i64 (dnA n at' 1))).setCell ⟨W2.heap.size, 2, none⟩ (.string st)).setCell ⟨W2.heap.size, 3, none⟩ (.int .i64 (dnC n ct 1))) b) := hik ((SC.out.chg ZC.out (fun i hi => by have := hb.out; have := L0.out; omega)).mono (by have := KP0.out; omega))
          have RN : Hid (((((Wc.setCell ⟨W2.heap.size, 0, none⟩ (.slice c n cap)).setCell ⟨W2.heap.size, 1, none⟩ (.int .i64 (dnA n at' 1))).setCell ⟨W2.heap.size, 2, none⟩ (.string st)).setCell ⟨W2.heap.size, 3, none⟩ (.int .i64 (dnC n ct 1))).rowIs w.heap.size 35 4 (pv4 (.slice none 0 0) (.int .i64 0) (.string ⟨#[]⟩) (.int .i64 0))) := hik (rowIs_chg RC.out ZC.out (by have := L0.out; omega))
          have GN : Hid (Chg (fun k => k = b) w ((((Wc.setCell ⟨W2.heap.size, 0, none⟩ (.slice c n cap)).setCell ⟨W2.heap.size, 1, none⟩ (.int .i64 (dnA n at' 1))).setCell ⟨W2.heap.size, 2, none⟩ (.string st)).setCell ⟨W2.heap.size, 3, none⟩ (.int .i64 (dnC n ct 1)))) := hik (chg4_set GC.out _ (fun l => absurd l (by have := L0.out; omega)) _ _ _ _)
          clear ZC SC RC GC
          go_wp2
          go_roundw
          case rel => exact ⟨k - 1, c, n, cap, f, g, _, _, _, by have := KP0.out; omega, by have := KP0.out; congr 1; omega, YN, SN, RN, GN⟩
          case measure => have := KP0.out; simp [intOf]; omega
        · go_upto_region 8 with fail
          refine wp_region_held_drew (S := fun _ => True) (by kernel_rfl) True.intro (fun hHeld => ?_)
          refine wpAnyH_take (i := 1) (v := ?_) rfl (by kernel_rfl) (by kernel_rfl) (by kernel_rfl) (fun _ _ _ h => h) (Or.inl ⟨by rfl, ?_⟩) (by assumption) ?_
          rotate_left 1
          · (intro w' hSw; (try dsimp only at hSw); go_simp; try with_reducible rfl)
          try simp only [Act.put, List.setIfInBounds_toArray, List.set_cons_zero, List.set_cons_succ, List.getElem_toArray, List.getElem_cons_zero, List.getElem_cons_succ]
          refine wpAnyH_ready (rs := [0, 2]) (by kernel_rfl) (by simp) ?_
          refine AllReadyH.cons rfl (fun K hK => ?_) ?_
          · simp only [List.getElem_toArray, List.getElem_cons_zero, List.getElem_cons_succ]
            go_simp
            refine hK.out _ _ True.intro (fun hHeld => ?_)
            clear hK K
            try simp only [Act.put, List.setIfInBounds_toArray, List.set_cons_zero, List.set_cons_succ, List.getElem_toArray, List.getElem_cons_zero, List.getElem_cons_succ]
            refine wpAnyH_ready (rs := [2]) (by kernel_rfl) (by simp) ?_
            refine AllReadyH.cons rfl (fun K hK => ?_) AllReadyH.nil
            simp only [List.getElem_toArray, List.getElem_cons_zero, List.getElem_cons_succ]
            go_simp
            refine hK.out _ _ True.intro (fun hHeld => ?_)
            clear hK K
            try simp only [Act.put, List.setIfInBounds_toArray, List.set_cons_zero, List.set_cons_succ, List.getElem_toArray, List.getElem_cons_zero, List.getElem_cons_succ]
            refine wpAnyH_ready (rs := [3]) (by kernel_rfl) (by simp) ?_
            refine AllReadyH.cons rfl (fun K hK => ?_) AllReadyH.nil
            refine stepL_callN 85 #[.tmp 27, .tmp 28] #[84, 131] (by rfl) (by rfl) #[.pointer (some ⟨b, 0, none⟩), .slice (some ⟨Wa.heap.size, 0, none⟩) 2 2] (by simp only [List.map_toArray, List.map_cons, List.map_nil]; rfl) (run_go Tryz.func85 (by kernel_rfl) (by kernel_rfl) _ _) (pickC_any (some ⟨Wa.heap.size, 0, none⟩) 2 2 _ b L2 _ (SA.out.keep ((Chg.refl nob Wa).drew1.alloc _)) (hik (L2_row Wa.drew 9)) (hik (other_block (by have := BA.out; omega))) (by omega) (by omega) (by omega)) ?_
            rintro e Wp ⟨ip, hip, he, hsp, kp⟩
            refine ⟨_, he, ?_⟩
            refine hK.out _ _ True.intro (fun hHeld => ?_)
            clear hK K
            try simp only [Act.put, List.setIfInBounds_toArray, List.set_cons_zero, List.set_cons_succ, List.getElem_toArray, List.getElem_cons_zero, List.getElem_cons_succ]
            have SP := hik hsp
            have KP := hik (((Chg.refl (fun k => k = b) Wa).drew1.alloc (.cells #[.string ⟨#[]⟩, .string ⟨#[116, 101, 120, 116]⟩] 9)).trans kp)
            have YP := hik (YA.out.keep KP.out (by have := hb.out; have := LX.out; omega) (fun i hi => by have := hb.out; omega))
            have TP := hik (L2_size ip)
            clear he hsp kp
            have p0 : Wp.cell? ⟨W2.heap.size, 0, none⟩ = some (.slice c n cap) := YP.out.row.cell (by omega)
            have p1 : Wp.cell? ⟨W2.heap.size, 1, none⟩ = some (.int .i64 at') := YP.out.row.cell (by omega)
            have p2 : Wp.cell? ⟨W2.heap.size, 2, none⟩ = some (.string st) := YP.out.row.cell (by omega)
            have p3 : Wp.cell? ⟨W2.heap.size, 3, none⟩ = some (.int .i64 ct) := YP.out.row.cell (by omega)
            refine wpAnyH_ready (rs := [4]) (by kernel_rfl) (by simp) ?_
            refine AllReadyH.cons rfl (fun K hK => ?_) AllReadyH.nil
            refine stepL_callN 70 #[.tmp 26, .tmp 29] #[35, 9] (by rfl) (by rfl) #[.agg #[.slice c n cap, .int .i64 at', .string st, .int .i64 ct], .string (L2 ip)] (by simp only [List.map_toArray, List.map_cons, List.map_nil]; rfl) (run_go Tryz.func70 (by kernel_rfl) (by kernel_rfl) _ _) (sAbsorb_any c n cap at' st ct (L2 ip) _ YP.out.st32 (by have := TP.out; omega)) ?_
            rintro e Wc ⟨he, kc⟩
            refine ⟨_, he, ?_⟩
            refine hK.out _ _ True.intro (fun hHeld => ?_)
            clear hK K
            try simp only [Act.put, List.setIfInBounds_toArray, List.set_cons_zero, List.set_cons_succ, List.getElem_toArray, List.getElem_cons_zero, List.getElem_cons_succ]
            have YC := hik (YP.out.keep kc (fun x => x) (fun _ _ x => x))
            have SC := hik (SP.out.keep kc)
            have GC := hik ((GA.out.trans KP.out).trans kc.wide)
            have RC := hik (rowIs_keep (rowIs_chg RA.out KP.out (by have := hb.out; omega)) kc)
            have LC := hik YC.out.row.lt
            clear he kc
            have o0 := YC.out.row.cell (i := 0) (by omega)
            have v0 := YC.out.row.frozen 0
            have o1 := YC.out.row.cell (i := 1) (by omega)
            have v1 := YC.out.row.frozen 1
            have o2 := YC.out.row.cell (i := 2) (by omega)
            have v2 := YC.out.row.frozen 2
            have o3 := YC.out.row.cell (i := 3) (by omega)
            have v3 := YC.out.row.frozen 3
            refine wpAnyH_ready (rs := [5]) (by kernel_rfl) (by simp) ?_
            refine AllReadyH.cons rfl (fun K hK => ?_) AllReadyH.nil
            simp only [List.getElem_toArray, List.getElem_cons_zero, List.getElem_cons_succ]
            go_simp
            refine hK.out _ _ True.intro (fun hHeld => ?_)
            clear hK K
            try simp only [Act.put, List.setIfInBounds_toArray, List.set_cons_zero, List.set_cons_succ, List.getElem_toArray, List.getElem_cons_zero, List.getElem_cons_succ]
            refine wpAnyH_done (by kernel_rfl) ?_ _
            clear o0 o1 o2 o3 v0 v1 v2 v3
            have YN : Hid (SrcIn ((((Wc.setCell ⟨W2.heap.size, 0, none⟩ (.slice c n cap)).setCell ⟨W2.heap.size, 1, none⟩ (.int .i64 at')).setCell ⟨W2.heap.size, 2, none⟩ (.string (abS st (L2 ip)))).setCell ⟨W2.heap.size, 3, none⟩ (.int .i64 0)) w.heap.size W2.heap.size (k - 1) c n cap f g at' (abS st (L2 ip)) 0) := hik (SrcIn.put YC.out (abS_size _ _) (by have := YC.out.at0; omega) (by omega) (by have := L0.out; omega))
            have ZC : Hid (Chg (fun i => i = W2.heap.size) Wc ((((Wc.setCell ⟨W2.heap.size, 0, none⟩ (.slice c n cap)).setCell ⟨W2.heap.size, 1, none⟩ (.int .i64 at')).setCell ⟨W2.heap.size, 2, none⟩ (.string (abS st (L2 ip)))).setCell ⟨W2.heap.size, 3, none⟩ (.int .i64 0))) := hik (chg4_set (Chg.refl (fun i => i = W2.heap.size) Wc) W2.heap.size (fun _ => rfl) _ _ _ _)
            have SN : Hid (Src (1001000 + 20 * (4 - (k - 1))) ((((Wc.setCell ⟨W2.heap.size, 0, none⟩ (.slice c n cap)).setCell ⟨W2.heap.size, 1, none⟩ (.int .i64 at')).setCell ⟨W2.heap.size, 2, none⟩ (.string (abS st (L2 ip)))).setCell ⟨W2.heap.size, 3, none⟩ (.int .i64 0)) b) := hik ((SC.out.chg ZC.out (fun i hi => by have := hb.out; have := L0.out; omega)).mono (by have := KP0.out; omega))
            have RN : Hid (((((Wc.setCell ⟨W2.heap.size, 0, none⟩ (.slice c n cap)).setCell ⟨W2.heap.size, 1, none⟩ (.int .i64 at')).setCell ⟨W2.heap.size, 2, none⟩ (.string (abS st (L2 ip)))).setCell ⟨W2.heap.size, 3, none⟩ (.int .i64 0)).rowIs w.heap.size 35 4 (pv4 (.slice none 0 0) (.int .i64 0) (.string ⟨#[]⟩) (.int .i64 0))) := hik (rowIs_chg RC.out ZC.out (by have := L0.out; omega))
            have GN : Hid (Chg (fun k => k = b) w ((((Wc.setCell ⟨W2.heap.size, 0, none⟩ (.slice c n cap)).setCell ⟨W2.heap.size, 1, none⟩ (.int .i64 at')).setCell ⟨W2.heap.size, 2, none⟩ (.string (abS st (L2 ip)))).setCell ⟨W2.heap.size, 3, none⟩ (.int .i64 0))) := hik (chg4_set GC.out _ (fun l => absurd l (by have := L0.out; omega)) _ _ _ _)
            clear ZC SC RC GC
            go_wp2
            go_roundw
            case rel => exact ⟨k - 1, c, n, cap, f, g, _, _, _, by have := KP0.out; omega, by have := KP0.out; congr 1; omega, YN, SN, RN, GN⟩
            case measure => have := KP0.out; simp [intOf]; omega
          · refine AllReadyH.cons rfl (fun K hK => ?_) AllReadyH.nil
            simp only [List.getElem_toArray, List.getElem_cons_zero, List.getElem_cons_succ]
            go_simp
            refine hK.out _ _ True.intro (fun hHeld => ?_)
            clear hK K
            try simp only [Act.put, List.setIfInBounds_toArray, List.set_cons_zero, List.set_cons_succ, List.getElem_toArray, List.getElem_cons_zero, List.getElem_cons_succ]
            refine wpAnyH_ready (rs := [0, 3]) (by kernel_rfl) (by simp) ?_
            refine AllReadyH.cons rfl (fun K hK => ?_) ?_
            · simp only [List.getElem_toArray, List.getElem_cons_zero, List.getElem_cons_succ]
              go_simp
              refine hK.out _ _ True.intro (fun hHeld => ?_)
              clear hK K
              try simp only [Act.put, List.setIfInBounds_toArray, List.set_cons_zero, List.set_cons_succ, List.getElem_toArray, List.getElem_cons_zero, List.getElem_cons_succ]
              refine wpAnyH_ready (rs := [3]) (by kernel_rfl) (by simp) ?_
              refine AllReadyH.cons rfl (fun K hK => ?_) AllReadyH.nil
              refine stepL_callN 85 #[.tmp 27, .tmp 28] #[84, 131] (by rfl) (by rfl) #[.pointer (some ⟨b, 0, none⟩), .slice (some ⟨Wa.heap.size, 0, none⟩) 2 2] (by simp only [List.map_toArray, List.map_cons, List.map_nil]; rfl) (run_go Tryz.func85 (by kernel_rfl) (by kernel_rfl) _ _) (pickC_any (some ⟨Wa.heap.size, 0, none⟩) 2 2 _ b L2 _ (SA.out.keep ((Chg.refl nob Wa).drew1.alloc _)) (hik (L2_row Wa.drew 9)) (hik (other_block (by have := BA.out; omega))) (by omega) (by omega) (by omega)) ?_
              rintro e Wp ⟨ip, hip, he, hsp, kp⟩
              refine ⟨_, he, ?_⟩
              refine hK.out _ _ True.intro (fun hHeld => ?_)
              clear hK K
              try simp only [Act.put, List.setIfInBounds_toArray, List.set_cons_zero, List.set_cons_succ, List.getElem_toArray, List.getElem_cons_zero, List.getElem_cons_succ]
              have SP := hik hsp
              have KP := hik (((Chg.refl (fun k => k = b) Wa).drew1.alloc (.cells #[.string ⟨#[]⟩, .string ⟨#[116, 101, 120, 116]⟩] 9)).trans kp)
              have YP := hik (YA.out.keep KP.out (by have := hb.out; have := LX.out; omega) (fun i hi => by have := hb.out; omega))
              have TP := hik (L2_size ip)
              clear he hsp kp
              have p0 : Wp.cell? ⟨W2.heap.size, 0, none⟩ = some (.slice c n cap) := YP.out.row.cell (by omega)
              have p1 : Wp.cell? ⟨W2.heap.size, 1, none⟩ = some (.int .i64 at') := YP.out.row.cell (by omega)
              have p2 : Wp.cell? ⟨W2.heap.size, 2, none⟩ = some (.string st) := YP.out.row.cell (by omega)
              have p3 : Wp.cell? ⟨W2.heap.size, 3, none⟩ = some (.int .i64 ct) := YP.out.row.cell (by omega)
              refine wpAnyH_ready (rs := [4]) (by kernel_rfl) (by simp) ?_
              refine AllReadyH.cons rfl (fun K hK => ?_) AllReadyH.nil
              refine stepL_callN 70 #[.tmp 26, .tmp 29] #[35, 9] (by rfl) (by rfl) #[.agg #[.slice c n cap, .int .i64 at', .string st, .int .i64 ct], .string (L2 ip)] (by simp only [List.map_toArray, List.map_cons, List.map_nil]; rfl) (run_go Tryz.func70 (by kernel_rfl) (by kernel_rfl) _ _) (sAbsorb_any c n cap at' st ct (L2 ip) _ YP.out.st32 (by have := TP.out; omega)) ?_
              rintro e Wc ⟨he, kc⟩
              refine ⟨_, he, ?_⟩
              refine hK.out _ _ True.intro (fun hHeld => ?_)
              clear hK K
              try simp only [Act.put, List.setIfInBounds_toArray, List.set_cons_zero, List.set_cons_succ, List.getElem_toArray, List.getElem_cons_zero, List.getElem_cons_succ]
              have YC := hik (YP.out.keep kc (fun x => x) (fun _ _ x => x))
              have SC := hik (SP.out.keep kc)
              have GC := hik ((GA.out.trans KP.out).trans kc.wide)
              have RC := hik (rowIs_keep (rowIs_chg RA.out KP.out (by have := hb.out; omega)) kc)
              have LC := hik YC.out.row.lt
              clear he kc
              have o0 := YC.out.row.cell (i := 0) (by omega)
              have v0 := YC.out.row.frozen 0
              have o1 := YC.out.row.cell (i := 1) (by omega)
              have v1 := YC.out.row.frozen 1
              have o2 := YC.out.row.cell (i := 2) (by omega)
              have v2 := YC.out.row.frozen 2
              have o3 := YC.out.row.cell (i := 3) (by omega)
              have v3 := YC.out.row.frozen 3
              refine wpAnyH_ready (rs := [5]) (by kernel_rfl) (by simp) ?_
              refine AllReadyH.cons rfl (fun K hK => ?_) AllReadyH.nil
              simp only [List.getElem_toArray, List.getElem_cons_zero, List.getElem_cons_succ]
              go_simp
              refine hK.out _ _ True.intro (fun hHeld => ?_)
              clear hK K
              try simp only [Act.put, List.setIfInBounds_toArray, List.set_cons_zero, List.set_cons_succ, List.getElem_toArray, List.getElem_cons_zero, List.getElem_cons_succ]
              refine wpAnyH_done (by kernel_rfl) ?_ _
              clear o0 o1 o2 o3 v0 v1 v2 v3
              have YN : Hid (SrcIn ((((Wc.setCell ⟨W2.heap.size, 0, none⟩ (.slice c n cap)).setCell ⟨W2.heap.size, 1, none⟩ (.int .i64 at')).setCell ⟨W2.heap.size, 2, none⟩ (.string (abS st (L2 ip)))).setCell ⟨W2.heap.size, 3, none⟩ (.int .i64 0)) w.heap.size W2.heap.size (k - 1) c n cap f g at' (abS st (L2 ip)) 0) := hik (SrcIn.put YC.out (abS_size _ _) (by have := YC.out.at0; omega) (by omega) (by have := L0.out; omega))
              have ZC : Hid (Chg (fun i => i = W2.heap.size) Wc ((((Wc.setCell ⟨W2.heap.size, 0, none⟩ (.slice c n cap)).setCell ⟨W2.heap.size, 1, none⟩ (.int .i64 at')).setCell ⟨W2.heap.size, 2, none⟩ (.string (abS st (L2 ip)))).setCell ⟨W2.heap.size, 3, none⟩ (.int .i64 0))) := hik (chg4_set (Chg.refl (fun i => i = W2.heap.size) Wc) W2.heap.size (fun _ => rfl) _ _ _ _)
              have SN : Hid (Src (1001000 + 20 * (4 - (k - 1))) ((((Wc.setCell ⟨W2.heap.size, 0, none⟩ (.slice c n cap)).setCell ⟨W2.heap.size, 1, none⟩ (.int .i64 at')).setCell ⟨W2.heap.size, 2, none⟩ (.string (abS st (L2 ip)))).setCell ⟨W2.heap.size, 3, none⟩ (.int .i64 0)) b) := hik ((SC.out.chg ZC.out (fun i hi => by have := hb.out; have := L0.out; omega)).mono (by have := KP0.out; omega))
              have RN : Hid (((((Wc.setCell ⟨W2.heap.size, 0, none⟩ (.slice c n cap)).setCell ⟨W2.heap.size, 1, none⟩ (.int .i64 at')).setCell ⟨W2.heap.size, 2, none⟩ (.string (abS st (L2 ip)))).setCell ⟨W2.heap.size, 3, none⟩ (.int .i64 0)).rowIs w.heap.size 35 4 (pv4 (.slice none 0 0) (.int .i64 0) (.string ⟨#[]⟩) (.int .i64 0))) := hik (rowIs_chg RC.out ZC.out (by have := L0.out; omega))
              have GN : Hid (Chg (fun k => k = b) w ((((Wc.setCell ⟨W2.heap.size, 0, none⟩ (.slice c n cap)).setCell ⟨W2.heap.size, 1, none⟩ (.int .i64 at')).setCell ⟨W2.heap.size, 2, none⟩ (.string (abS st (L2 ip)))).setCell ⟨W2.heap.size, 3, none⟩ (.int .i64 0))) := hik (chg4_set GC.out _ (fun l => absurd l (by have := L0.out; omega)) _ _ _ _)
              clear ZC SC RC GC
              go_wp2
              go_roundw
              case rel => exact ⟨k - 1, c, n, cap, f, g, _, _, _, by have := KP0.out; omega, by have := KP0.out; congr 1; omega, YN, SN, RN, GN⟩
              case measure => have := KP0.out; simp [intOf]; omega
            · refine AllReadyH.cons rfl (fun K hK => ?_) AllReadyH.nil
              refine stepL_callN 85 #[.tmp 27, .tmp 28] #[84, 131] (by rfl) (by rfl) #[.pointer (some ⟨b, 0, none⟩), .slice (some ⟨Wa.heap.size, 0, none⟩) 2 2] (by simp only [List.map_toArray, List.map_cons, List.map_nil]; rfl) (run_go Tryz.func85 (by kernel_rfl) (by kernel_rfl) _ _) (pickC_any (some ⟨Wa.heap.size, 0, none⟩) 2 2 _ b L2 _ (SA.out.keep ((Chg.refl nob Wa).drew1.alloc _)) (hik (L2_row Wa.drew 9)) (hik (other_block (by have := BA.out; omega))) (by omega) (by omega) (by omega)) ?_
              rintro e Wp ⟨ip, hip, he, hsp, kp⟩
              refine ⟨_, he, ?_⟩
              refine hK.out _ _ True.intro (fun hHeld => ?_)
              clear hK K
              try simp only [Act.put, List.setIfInBounds_toArray, List.set_cons_zero, List.set_cons_succ, List.getElem_toArray, List.getElem_cons_zero, List.getElem_cons_succ]
              have SP := hik hsp
              have KP := hik (((Chg.refl (fun k => k = b) Wa).drew1.alloc (.cells #[.string ⟨#[]⟩, .string ⟨#[116, 101, 120, 116]⟩] 9)).trans kp)
              have YP := hik (YA.out.keep KP.out (by have := hb.out; have := LX.out; omega) (fun i hi => by have := hb.out; omega))
              have TP := hik (L2_size ip)
              clear he hsp kp
              have p0 : Wp.cell? ⟨W2.heap.size, 0, none⟩ = some (.slice c n cap) := YP.out.row.cell (by omega)
              have p1 : Wp.cell? ⟨W2.heap.size, 1, none⟩ = some (.int .i64 at') := YP.out.row.cell (by omega)
              have p2 : Wp.cell? ⟨W2.heap.size, 2, none⟩ = some (.string st) := YP.out.row.cell (by omega)
              have p3 : Wp.cell? ⟨W2.heap.size, 3, none⟩ = some (.int .i64 ct) := YP.out.row.cell (by omega)
              refine wpAnyH_ready (rs := [0]) (by kernel_rfl) (by simp) ?_
              refine AllReadyH.cons rfl (fun K hK => ?_) AllReadyH.nil
              simp only [List.getElem_toArray, List.getElem_cons_zero, List.getElem_cons_succ]
              go_simp
              refine hK.out _ _ True.intro (fun hHeld => ?_)
              clear hK K
              try simp only [Act.put, List.setIfInBounds_toArray, List.set_cons_zero, List.set_cons_succ, List.getElem_toArray, List.getElem_cons_zero, List.getElem_cons_succ]
              refine wpAnyH_ready (rs := [4]) (by kernel_rfl) (by simp) ?_
              refine AllReadyH.cons rfl (fun K hK => ?_) AllReadyH.nil
              refine stepL_callN 70 #[.tmp 26, .tmp 29] #[35, 9] (by rfl) (by rfl) #[.agg #[.slice c n cap, .int .i64 at', .string st, .int .i64 ct], .string (L2 ip)] (by simp only [List.map_toArray, List.map_cons, List.map_nil]; rfl) (run_go Tryz.func70 (by kernel_rfl) (by kernel_rfl) _ _) (sAbsorb_any c n cap at' st ct (L2 ip) _ YP.out.st32 (by have := TP.out; omega)) ?_
              rintro e Wc ⟨he, kc⟩
              refine ⟨_, he, ?_⟩
              refine hK.out _ _ True.intro (fun hHeld => ?_)
              clear hK K
              try simp only [Act.put, List.setIfInBounds_toArray, List.set_cons_zero, List.set_cons_succ, List.getElem_toArray, List.getElem_cons_zero, List.getElem_cons_succ]
              have YC := hik (YP.out.keep kc (fun x => x) (fun _ _ x => x))
              have SC := hik (SP.out.keep kc)
              have GC := hik ((GA.out.trans KP.out).trans kc.wide)
              have RC := hik (rowIs_keep (rowIs_chg RA.out KP.out (by have := hb.out; omega)) kc)
              have LC := hik YC.out.row.lt
              clear he kc
              have o0 := YC.out.row.cell (i := 0) (by omega)
              have v0 := YC.out.row.frozen 0
              have o1 := YC.out.row.cell (i := 1) (by omega)
              have v1 := YC.out.row.frozen 1
              have o2 := YC.out.row.cell (i := 2) (by omega)
              have v2 := YC.out.row.frozen 2
              have o3 := YC.out.row.cell (i := 3) (by omega)
              have v3 := YC.out.row.frozen 3
              refine wpAnyH_ready (rs := [5]) (by kernel_rfl) (by simp) ?_
              refine AllReadyH.cons rfl (fun K hK => ?_) AllReadyH.nil
              simp only [List.getElem_toArray, List.getElem_cons_zero, List.getElem_cons_succ]
              go_simp
              refine hK.out _ _ True.intro (fun hHeld => ?_)
              clear hK K
              try simp only [Act.put, List.setIfInBounds_toArray, List.set_cons_zero, List.set_cons_succ, List.getElem_toArray, List.getElem_cons_zero, List.getElem_cons_succ]
              refine wpAnyH_done (by kernel_rfl) ?_ _
              clear o0 o1 o2 o3 v0 v1 v2 v3
              have YN : Hid (SrcIn ((((Wc.setCell ⟨W2.heap.size, 0, none⟩ (.slice c n cap)).setCell ⟨W2.heap.size, 1, none⟩ (.int .i64 at')).setCell ⟨W2.heap.size, 2, none⟩ (.string (abS st (L2 ip)))).setCell ⟨W2.heap.size, 3, none⟩ (.int .i64 0)) w.heap.size W2.heap.size (k - 1) c n cap f g at' (abS st (L2 ip)) 0) := hik (SrcIn.put YC.out (abS_size _ _) (by have := YC.out.at0; omega) (by omega) (by have := L0.out; omega))
              have ZC : Hid (Chg (fun i => i = W2.heap.size) Wc ((((Wc.setCell ⟨W2.heap.size, 0, none⟩ (.slice c n cap)).setCell ⟨W2.heap.size, 1, none⟩ (.int .i64 at')).setCell ⟨W2.heap.size, 2, none⟩ (.string (abS st (L2 ip)))).setCell ⟨W2.heap.size, 3, none⟩ (.int .i64 0))) := hik (chg4_set (Chg.refl (fun i => i = W2.heap.size) Wc) W2.heap.size (fun _ => rfl) _ _ _ _)
              have SN : Hid (Src (1001000 + 20 * (4 - (k - 1))) ((((Wc.setCell ⟨W2.heap.size, 0, none⟩ (.slice c n cap)).setCell ⟨W2.heap.size, 1, none⟩ (.int .i64 at')).setCell ⟨W2.heap.size, 2, none⟩ (.string (abS st (L2 ip)))).setCell ⟨W2.heap.size, 3, none⟩ (.int .i64 0)) b) := hik ((SC.out.chg ZC.out (fun i hi => by have := hb.out; have := L0.out; omega)).mono (by have := KP0.out; omega))
              have RN : Hid (((((Wc.setCell ⟨W2.heap.size, 0, none⟩ (.slice c n cap)).setCell ⟨W2.heap.size, 1, none⟩ (.int .i64 at')).setCell ⟨W2.heap.size, 2, none⟩ (.string (abS st (L2 ip)))).setCell ⟨W2.heap.size, 3, none⟩ (.int .i64 0)).rowIs w.heap.size 35 4 (pv4 (.slice none 0 0) (.int .i64 0) (.string ⟨#[]⟩) (.int .i64 0))) := hik (rowIs_chg RC.out ZC.out (by have := L0.out; omega))
              have GN : Hid (Chg (fun k => k = b) w ((((Wc.setCell ⟨W2.heap.size, 0, none⟩ (.slice c n cap)).setCell ⟨W2.heap.size, 1, none⟩ (.int .i64 at')).setCell ⟨W2.heap.size, 2, none⟩ (.string (abS st (L2 ip)))).setCell ⟨W2.heap.size, 3, none⟩ (.int .i64 0))) := hik (chg4_set GC.out _ (fun l => absurd l (by have := L0.out; omega)) _ _ _ _)
              clear ZC SC RC GC
              go_wp2
              go_roundw
              case rel => exact ⟨k - 1, c, n, cap, f, g, _, _, _, by have := KP0.out; omega, by have := KP0.out; congr 1; omega, YN, SN, RN, GN⟩
              case measure => have := KP0.out; simp [intOf]; omega
      · obtain rfl : k = 0 := by omega
        have q0 : wr.cell? ⟨W2.heap.size, 0, none⟩ = some (.slice c n cap) := YR.out.row.cell (by omega)
        have q1 : wr.cell? ⟨W2.heap.size, 1, none⟩ = some (.int .i64 at') := YR.out.row.cell (by omega)
        have q2 : wr.cell? ⟨W2.heap.size, 2, none⟩ = some (.string st) := YR.out.row.cell (by omega)
        have q3 : wr.cell? ⟨W2.heap.size, 3, none⟩ = some (.int .i64 ct) := YR.out.row.cell (by omega)
        go_wp2_with fail
        refine (sOwn_any c n cap f g at' st ct _ (hik YR.out.own.pairs) (by have := YR.out.len; omega)).mono ?_
        rintro e W9 ⟨c9, cap9, rfl, o9, k9⟩
        have R9 := hik (rowIs_keep RR.out k9)
        have G9 := hik (GR.out.trans k9.wide)
        have O9 := hik o9
        have LR := hik (show w.heap.size < wr.heap.size from RR.out.lt)
        have QQ := hik (sokb_mk (f := f) (g := g) (n := n) (at' := at') (st := st) (ct := ct) YR.out.ok (by have := YR.out.len; omega) (by have := YR.out.at0; omega) YR.out.st32 (by have := YR.out.ct0; omega))
        have Q2 := hik (show n ≤ 5 ∧ at' ≤ 3 ∧ ct ≤ 3 from ⟨YR.out.len, by have := YR.out.at0; omega, by have := YR.out.ct0; omega⟩)
        clear k9 o9 q0 q1 q2 q3 SR YR RR GR
        have hz9 : w.heap.size < W9.heap.size := R9.out.lt
        have y0 := R9.out.cell (i := 0) (by omega)
        have v0 := R9.out.frozen 0
        have y1 := R9.out.cell (i := 1) (by omega)
        have v1 := R9.out.frozen 1
        have y2 := R9.out.cell (i := 2) (by omega)
        have v2 := R9.out.frozen 2
        have y3 := R9.out.cell (i := 3) (by omega)
        have v3 := R9.out.frozen 3
        go_wp2
        exact bodyPost_ret (v := .agg #[.slice c9 n cap9, .int .i64 at', .string st, .int .i64 ct]) (by simp [results, Tryz.results48, go_sem, row4_s0 R9.out (.slice c9 n cap9), row4_s1 R9.out (.slice c9 n cap9) (.int .i64 at'), row4_s2 R9.out (.slice c9 n cap9) (.int .i64 at') (.string st), row4_s3 R9.out (.slice c9 n cap9) (.int .i64 at') (.string st) (.int .i64 ct)]) rfl ⟨c9, n, cap9, f, g, at', st, ct, rfl, (O9.out.chg (P := fun i => i = w.heap.size) (chg4_set (Chg.refl (fun i => i = w.heap.size) W9) w.heap.size (fun _ => rfl) _ _ _ _) (fun i hi _ hp => (by have := LR.out; omega))).low (by have := LR.out; omega), QQ.out, Q2.out.1, Q2.out.2.1, Q2.out.2.2, chg4_set G9.out _ (fun l => absurd l (by omega)) _ _ _ _⟩
  · go_wp2_with fail
    refine (nextC_any 5 _ b _ S3.out (by omega) (by omega) (by omega)).mono ?_
    rintro e W4 ⟨r4, rfl, r40, r41, hs4, k4⟩
    obtain ⟨m4, rfl⟩ : ∃ m4 : Nat, r4 = m4 := ⟨r4.toNat, by omega⟩
    have hm4 : 1 + m4 ≤ 5 := by omega
    have S4 := hik hs4
    have G4 := hik (G3.out.trans k4)
    have R4 := hik (rowIs_chg R3.out k4 (by have := hb.out; omega))
    have Y4 := hik (Y3.out.keep k4 (by have := hb.out; have := L0.out; omega) (fun i hi => by have := hb.out; omega))
    clear hs4 k4 S3 G3 R3 Y3
    have C4 := exts_any (1 + m4) _ b W4 S4.out (by omega) (by omega)
    rw [show ((1 + m4 : Nat) : Int) = 1 + (m4 : Int) by omega] at C4
    have C5 := hik C4
    clear C4
    go_wp2_with fail
    refine C5.out.mono ?_
    rintro e W5 ⟨f5, g5, c5, cap5, rfl, o5, ok5, hs5, k5⟩
    have YX := hik (rowIs_chg Y4.out.row k5 (by have := hb.out; have := L0.out; omega))
    have LX := hik Y4.out.row.lt
    have ZC : Hid (Chg (fun i => i = W2.heap.size) W5 (W5.setCell ⟨W2.heap.size, 0, none⟩ (.slice c5 (1 + m4) cap5))) := hik ((Chg.refl (fun i => i = W2.heap.size) W5).setCell (p := ⟨W2.heap.size, 0, none⟩) (fun _ => rfl) _)
    have S5 := hik (hs5.chg ZC.out (fun i hi => by have := hb.out; have := L0.out; omega))
    have G5 : Hid (Chg (fun k => k = b) w (W5.setCell ⟨W2.heap.size, 0, none⟩ (.slice c5 (1 + m4) cap5))) := hik ((G4.out.trans k5).setCell (p := ⟨W2.heap.size, 0, none⟩) (fun l => absurd l (by have := L0.out; simp; omega)) _)
    have R5 := hik (rowIs_chg (rowIs_chg R4.out k5 (by have := hb.out; omega)) ZC.out (by have := L0.out; omega))
    have Y5 : Hid (SrcIn (W5.setCell ⟨W2.heap.size, 0, none⟩ (.slice c5 (1 + m4) cap5)) w.heap.size W2.heap.size 3 c5 (1 + m4) cap5 f5 g5 0 (nwS lab) 0) := hik ⟨(YX.out.set 0 _).congr (fun i hi => by match i, hi with | 0, _ => rfl | 1, _ => rfl | 2, _ => rfl | 3, _ => rfl), (o5.chg ZC.out (fun i hi _ hp => by have := LX.out; omega)).low (by have := LX.out; have := L0.out; omega), hm4, ok5, hsh_size _, by omega, by omega⟩
    have y0 := YX.out.cell (i := 0) (by omega)
    have v0 := YX.out.frozen 0
    clear o5 ok5 hs5 k5 S4 G4 R4 Y4 C5 ZC YX
    go_wp2_with fail
    refine (nextC_any 4 _ b _ S5.out (by omega) (by omega) (by omega)).mono ?_
    rintro e W6 ⟨r6, rfl, r60, r61, hs6, k6⟩
    obtain ⟨k0, rfl⟩ : ∃ k0 : Nat, r6 = k0 := ⟨r6.toNat, by omega⟩
    have hk0 : k0 ≤ 3 := by omega
    have S6 := hik hs6
    have G6 := hik (G5.out.trans k6)
    have R6 := hik (rowIs_chg R5.out k6 (by have := hb.out; omega))
    have Y6 := hik (Y5.out.keep k6 (by have := hb.out; have := L0.out; omega) (fun i hi => by have := hb.out; omega))
    clear hs6 k6 S5 G5 R5 Y5
    go_wp2
    go_loopw [4] (fun v W => ∃ (k : Nat) (c : Option Addr) (n cap : Nat) (f g : Nat → Int) (at' : Int) (st : ByteArray) (ct : Int), k ≤ 3 ∧ v = .int .i64 k ∧ Hid (SrcIn W w.heap.size W2.heap.size k c n cap f g at' st ct) ∧ Hid (Src (1001000 + 20 * (4 - k)) W b) ∧ Hid (W.rowIs w.heap.size 35 4 (pv4 (.slice none 0 0) (.int .i64 0) (.string ⟨#[]⟩) (.int .i64 0))) ∧ Hid (Chg (fun k => k = b) w W)) (fun v _ => (intOf v).toNat)
    case atStart => exact ⟨k0, _, _, _, _, _, _, _, _, hk0, rfl, hik (Y6.out.fewer hk0), hik (S6.out.mono (by omega)), R6, G6⟩
    case round =>
      clear Y6 S6 R6 G6
      obtain ⟨k, c, n, cap, f, g, at', st, ct, hk, rfl, YR, SR, RR, GR⟩ := hrel
      by_cases hlt : 0 < k
      · have hlt' : 0 < (k : Int) := by omega
        have KP0 := hik (show 0 < k ∧ k ≤ 3 from ⟨hlt, hk⟩)
        go_wp2_with fail
        refine (chance_any 2 _ b _ SR (by omega) (by omega) (by omega)).mono ?_
        rintro e Wa ⟨r2, rfl, hsa, ka⟩
        have SA := hik hsa
        have GA := hik (GR.out.trans ka)
        have RA := hik (rowIs_chg RR.out ka (by have := hb.out; omega))
        have YA := hik (YR.out.keep ka (by have := hb.out; have := L0.out; omega) (fun i hi => by have := hb.out; omega))
        have LX := hik (show w.heap.size < W2.heap.size ∧ W2.heap.size < Wa.heap.size from ⟨L0.out, YA.out.row.lt⟩)
        have BA := hik (show b < Wa.heap.size by have := hb.out; have := LX.out; omega)
        have zX : W2.heap.size < Wa.heap.size := YA.out.row.lt
        clear hsa ka SR GR RR YR
        have q0 : Wa.cell? ⟨W2.heap.size, 0, none⟩ = some (.slice c n cap) := YA.out.row.cell (by omega)
        have q1 : Wa.cell? ⟨W2.heap.size, 1, none⟩ = some (.int .i64 at') := YA.out.row.cell (by omega)
        have q2 : Wa.cell? ⟨W2.heap.size, 2, none⟩ = some (.string st) := YA.out.row.cell (by omega)
        have q3 : Wa.cell? ⟨W2.heap.size, 3, none⟩ = some (.int .i64 ct) := YA.out.row.cell (by omega)
        cases r2
        · go_wp2_with fail
          refine (sDraw_any c n cap at' st ct f g _ (hik YA.out.own.pairs) (by have := YA.out.len; omega) YA.out.st32 YA.out.at0.1 (by have := YA.out.at0; omega) YA.out.ct0.1 (by have := YA.out.ct0; omega)).mono ?_
          rintro e Wc ⟨rfl, kc⟩
          have YC := hik (YA.out.keep kc (fun x => x) (fun _ _ x => x))
          have SC := hik (SA.out.keep kc)
          have GC := hik (GA.out.trans kc.wide)
          have RC := hik (rowIs_keep RA.out kc)
          have LC := hik YC.out.row.lt
          clear kc q0 q1 q2 q3
          have YN : Hid (SrcIn ((((Wc.setCell ⟨W2.heap.size, 0, none⟩ (.slice c n cap)).setCell ⟨W2.heap.size, 1, none⟩ (.int .i64 (dnA n at' 1))).setCell ⟨W2.heap.size, 2, none⟩ (.string st)).setCell ⟨W2.heap.size, 3, none⟩ (.int .i64 (dnC n ct 1))) w.heap.size W2.heap.size (k - 1) c n cap f g (dnA n at' 1) st (dnC n ct 1)) := hik (SrcIn.put YC.out YC.out.st32 (by have := YC.out.at0; have := dnA_le n at' 1; have := KP0.out; omega) (by have := YC.out.ct0; have := dnC_le n ct 1; have := KP0.out; omega) (by have := L0.out; omega))
          have o0 := YC.out.row.cell (i := 0) (by omega)
          have v0 := YC.out.row.frozen 0
          have o1 := YC.out.row.cell (i := 1) (by omega)
          have v1 := YC.out.row.frozen 1
          have o2 := YC.out.row.cell (i := 2) (by omega)
          have v2 := YC.out.row.frozen 2
          have o3 := YC.out.row.cell (i := 3) (by omega)
          have v3 := YC.out.row.frozen 3
          have ZC : Hid (Chg (fun i => i = W2.heap.size) Wc ((((Wc.setCell ⟨W2.heap.size, 0, none⟩ (.slice c n cap)).setCell ⟨W2.heap.size, 1, none⟩ (.int .i64 (dnA n at' 1))).setCell ⟨W2.heap.size, 2, none⟩ (.string st)).setCell ⟨W2.heap.size, 3, none⟩ (.int .i64 (dnC n ct 1)))) := hik (chg4_set (Chg.refl (fun i => i = W2.heap.size) Wc) W2.heap.size (fun _ => rfl) _ _ _ _)
          have SN : Hid (Src (1001000 + 20 * (4 - (k - 1))) ((((Wc.setCell ⟨W2.heap.size, 0, none⟩ (.slice c n cap)).setCell ⟨W2.heap.size, 1, none⟩ (.int .i64 (dnA n at' 1))).setCell ⟨W2.heap.size, 2, none⟩ (.string st)).setCell ⟨W2.heap.size, 3, none⟩ (.int .i64 (dnC n ct 1))) b) := hik ((SC.out.chg ZC.out (fun i hi => by have := hb.out; have := L0.out; omega)).mono (by have := KP0.out; omega))
          have RN : Hid (((((Wc.setCell ⟨W2.heap.size, 0, none⟩ (.slice c n cap)).setCell ⟨W2.heap.size, 1, none⟩ (.int .i64 (dnA n at' 1))).setCell ⟨W2.heap.size, 2, none⟩ (.string st)).setCell ⟨W2.heap.size, 3, none⟩ (.int .i64 (dnC n ct 1))).rowIs w.heap.size 35 4 (pv4 (.slice none 0 0) (.int .i64 0) (.string ⟨#[]⟩) (.int .i64 0))) := hik (rowIs_chg RC.out ZC.out (by have := L0.out; omega))
          have GN : Hid (Chg (fun k => k = b) w ((((Wc.setCell ⟨W2.heap.size, 0, none⟩ (.slice c n cap)).setCell ⟨W2.heap.size, 1, none⟩ (.int .i64 (dnA n at' 1))).setCell ⟨W2.heap.size, 2, none⟩ (.string st)).setCell ⟨W2.heap.size, 3, none⟩ (.int .i64 (dnC n ct 1)))) := hik (chg4_set GC.out _ (fun l => absurd l (by have := L0.out; omega)) _ _ _ _)
          clear ZC SC RC GC
          go_wp2
          go_roundw
          case rel => exact ⟨k - 1, c, n, cap, f, g, _, _, _, by have := KP0.out; omega, by have := KP0.out; congr 1; omega, YN, SN, RN, GN⟩
          case measure => have := KP0.out; simp [intOf]; omega
        · go_upto_region 8 with fail
          refine wp_region_held_drew (S := fun _ => True) (by kernel_rfl) True.intro (fun hHeld => ?_)
          refine wpAnyH_take (i := 1) (v := ?_) rfl (by kernel_rfl) (by kernel_rfl) (by kernel_rfl) (fun _ _ _ h => h) (Or.inl ⟨by rfl, ?_⟩) (by assumption) ?_
          rotate_left 1
          · (intro w' hSw; (try dsimp only at hSw); go_simp; try with_reducible rfl)
          try simp only [Act.put, List.setIfInBounds_toArray, List.set_cons_zero, List.set_cons_succ, List.getElem_toArray, List.getElem_cons_zero, List.getElem_cons_succ]
          refine wpAnyH_ready (rs := [0, 2]) (by kernel_rfl) (by simp) ?_
          refine AllReadyH.cons rfl (fun K hK => ?_) ?_
          · simp only [List.getElem_toArray, List.getElem_cons_zero, List.getElem_cons_succ]
            go_simp
            refine hK.out _ _ True.intro (fun hHeld => ?_)
            clear hK K
            try simp only [Act.put, List.setIfInBounds_toArray, List.set_cons_zero, List.set_cons_succ, List.getElem_toArray, List.getElem_cons_zero, List.getElem_cons_succ]
            refine wpAnyH_ready (rs := [2]) (by kernel_rfl) (by simp) ?_
            refine AllReadyH.cons rfl (fun K hK => ?_) AllReadyH.nil
            simp only [List.getElem_toArray, List.getElem_cons_zero, List.getElem_cons_succ]
            go_simp
            refine hK.out _ _ True.intro (fun hHeld => ?_)
            clear hK K
            try simp only [Act.put, List.setIfInBounds_toArray, List.set_cons_zero, List.set_cons_succ, List.getElem_toArray, List.getElem_cons_zero, List.getElem_cons_succ]
            refine wpAnyH_ready (rs := [3]) (by kernel_rfl) (by simp) ?_
            refine AllReadyH.cons rfl (fun K hK => ?_) AllReadyH.nil
            refine stepL_callN 85 #[.tmp 27, .tmp 28] #[84, 131] (by rfl) (by rfl) #[.pointer (some ⟨b, 0, none⟩), .slice (some ⟨Wa.heap.size, 0, none⟩) 2 2] (by simp only [List.map_toArray, List.map_cons, List.map_nil]; rfl) (run_go Tryz.func85 (by kernel_rfl) (by kernel_rfl) _ _) (pickC_any (some ⟨Wa.heap.size, 0, none⟩) 2 2 _ b L2 _ (SA.out.keep ((Chg.refl nob Wa).drew1.alloc _)) (hik (L2_row Wa.drew 9)) (hik (other_block (by have := BA.out; omega))) (by omega) (by omega) (by omega)) ?_
            rintro e Wp ⟨ip, hip, he, hsp, kp⟩
            refine ⟨_, he, ?_⟩
            refine hK.out _ _ True.intro (fun hHeld => ?_)
            clear hK K
            try simp only [Act.put, List.setIfInBounds_toArray, List.set_cons_zero, List.set_cons_succ, List.getElem_toArray, List.getElem_cons_zero, List.getElem_cons_succ]
            have SP := hik hsp
            have KP := hik (((Chg.refl (fun k => k = b) Wa).drew1.alloc (.cells #[.string ⟨#[]⟩, .string ⟨#[116, 101, 120, 116]⟩] 9)).trans kp)
            have YP := hik (YA.out.keep KP.out (by have := hb.out; have := LX.out; omega) (fun i hi => by have := hb.out; omega))
            have TP := hik (L2_size ip)
            clear he hsp kp
            have p0 : Wp.cell? ⟨W2.heap.size, 0, none⟩ = some (.slice c n cap) := YP.out.row.cell (by omega)
            have p1 : Wp.cell? ⟨W2.heap.size, 1, none⟩ = some (.int .i64 at') := YP.out.row.cell (by omega)
            have p2 : Wp.cell? ⟨W2.heap.size, 2, none⟩ = some (.string st) := YP.out.row.cell (by omega)
            have p3 : Wp.cell? ⟨W2.heap.size, 3, none⟩ = some (.int .i64 ct) := YP.out.row.cell (by omega)
            refine wpAnyH_ready (rs := [4]) (by kernel_rfl) (by simp) ?_
            refine AllReadyH.cons rfl (fun K hK => ?_) AllReadyH.nil
            refine stepL_callN 70 #[.tmp 26, .tmp 29] #[35, 9] (by rfl) (by rfl) #[.agg #[.slice c n cap, .int .i64 at', .string st, .int .i64 ct], .string (L2 ip)] (by simp only [List.map_toArray, List.map_cons, List.map_nil]; rfl) (run_go Tryz.func70 (by kernel_rfl) (by kernel_rfl) _ _) (sAbsorb_any c n cap at' st ct (L2 ip) _ YP.out.st32 (by have := TP.out; omega)) ?_
            rintro e Wc ⟨he, kc⟩
            refine ⟨_, he, ?_⟩
            refine hK.out _ _ True.intro (fun hHeld => ?_)
            clear hK K
            try simp only [Act.put, List.setIfInBounds_toArray, List.set_cons_zero, List.set_cons_succ, List.getElem_toArray, List.getElem_cons_zero, List.getElem_cons_succ]
            have YC := hik (YP.out.keep kc (fun x => x) (fun _ _ x => x))
            have SC := hik (SP.out.keep kc)
            have GC := hik ((GA.out.trans KP.out).trans kc.wide)
            have RC := hik (rowIs_keep (rowIs_chg RA.out KP.out (by have := hb.out; omega)) kc)
            have LC := hik YC.out.row.lt
            clear he kc
            have o0 := YC.out.row.cell (i := 0) (by omega)
            have v0 := YC.out.row.frozen 0
            have o1 := YC.out.row.cell (i := 1) (by omega)
            have v1 := YC.out.row.frozen 1
            have o2 := YC.out.row.cell (i := 2) (by omega)
            have v2 := YC.out.row.frozen 2
            have o3 := YC.out.row.cell (i := 3) (by omega)
            have v3 := YC.out.row.frozen 3
            refine wpAnyH_ready (rs := [5]) (by kernel_rfl) (by simp) ?_
            refine AllReadyH.cons rfl (fun K hK => ?_) AllReadyH.nil
            simp only [List.getElem_toArray, List.getElem_cons_zero, List.getElem_cons_succ]
            go_simp
            refine hK.out _ _ True.intro (fun hHeld => ?_)
            clear hK K
            try simp only [Act.put, List.setIfInBounds_toArray, List.set_cons_zero, List.set_cons_succ, List.getElem_toArray, List.getElem_cons_zero, List.getElem_cons_succ]
            refine wpAnyH_done (by kernel_rfl) ?_ _
            clear o0 o1 o2 o3 v0 v1 v2 v3
            have YN : Hid (SrcIn ((((Wc.setCell ⟨W2.heap.size, 0, none⟩ (.slice c n cap)).setCell ⟨W2.heap.size, 1, none⟩ (.int .i64 at')).setCell ⟨W2.heap.size, 2, none⟩ (.string (abS st (L2 ip)))).setCell ⟨W2.heap.size, 3, none⟩ (.int .i64 0)) w.heap.size W2.heap.size (k - 1) c n cap f g at' (abS st (L2 ip)) 0) := hik (SrcIn.put YC.out (abS_size _ _) (by have := YC.out.at0; omega) (by omega) (by have := L0.out; omega))
            have ZC : Hid (Chg (fun i => i = W2.heap.size) Wc ((((Wc.setCell ⟨W2.heap.size, 0, none⟩ (.slice c n cap)).setCell ⟨W2.heap.size, 1, none⟩ (.int .i64 at')).setCell ⟨W2.heap.size, 2, none⟩ (.string (abS st (L2 ip)))).setCell ⟨W2.heap.size, 3, none⟩ (.int .i64 0))) := hik (chg4_set (Chg.refl (fun i => i = W2.heap.size) Wc) W2.heap.size (fun _ => rfl) _ _ _ _)
            have SN : Hid (Src (1001000 + 20 * (4 - (k - 1))) ((((Wc.setCell ⟨W2.heap.size, 0, none⟩ (.slice c n cap)).setCell ⟨W2.heap.size, 1, none⟩ (.int .i64 at')).setCell ⟨W2.heap.size, 2, none⟩ (.string (abS st (L2 ip)))).setCell ⟨W2.heap.size, 3, none⟩ (.int .i64 0)) b) := hik ((SC.out.chg ZC.out (fun i hi => by have := hb.out; have := L0.out; omega)).mono (by have := KP0.out; omega))
            have RN : Hid (((((Wc.setCell ⟨W2.heap.size, 0, none⟩ (.slice c n cap)).setCell ⟨W2.heap.size, 1, none⟩ (.int .i64 at')).setCell ⟨W2.heap.size, 2, none⟩ (.string (abS st (L2 ip)))).setCell ⟨W2.heap.size, 3, none⟩ (.int .i64 0)).rowIs w.heap.size 35 4 (pv4 (.slice none 0 0) (.int .i64 0) (.string ⟨#[]⟩) (.int .i64 0))) := hik (rowIs_chg RC.out ZC.out (by have := L0.out; omega))
            have GN : Hid (Chg (fun k => k = b) w ((((Wc.setCell ⟨W2.heap.size, 0, none⟩ (.slice c n cap)).setCell ⟨W2.heap.size, 1, none⟩ (.int .i64 at')).setCell ⟨W2.heap.size, 2, none⟩ (.string (abS st (L2 ip)))).setCell ⟨W2.heap.size, 3, none⟩ (.int .i64 0))) := hik (chg4_set GC.out _ (fun l => absurd l (by have := L0.out; omega)) _ _ _ _)
            clear ZC SC RC GC
            go_wp2
            go_roundw
            case rel => exact ⟨k - 1, c, n, cap, f, g, _, _, _, by have := KP0.out; omega, by have := KP0.out; congr 1; omega, YN, SN, RN, GN⟩
            case measure => have := KP0.out; simp [intOf]; omega
          · refine AllReadyH.cons rfl (fun K hK => ?_) AllReadyH.nil
            simp only [List.getElem_toArray, List.getElem_cons_zero, List.getElem_cons_succ]
            go_simp
            refine hK.out _ _ True.intro (fun hHeld => ?_)
            clear hK K
            try simp only [Act.put, List.setIfInBounds_toArray, List.set_cons_zero, List.set_cons_succ, List.getElem_toArray, List.getElem_cons_zero, List.getElem_cons_succ]
            refine wpAnyH_ready (rs := [0, 3]) (by kernel_rfl) (by simp) ?_
            refine AllReadyH.cons rfl (fun K hK => ?_) ?_
            · simp only [List.getElem_toArray, List.getElem_cons_zero, List.getElem_cons_succ]
              go_simp
              refine hK.out _ _ True.intro (fun hHeld => ?_)
              clear hK K
              try simp only [Act.put, List.setIfInBounds_toArray, List.set_cons_zero, List.set_cons_succ, List.getElem_toArray, List.getElem_cons_zero, List.getElem_cons_succ]
              refine wpAnyH_ready (rs := [3]) (by kernel_rfl) (by simp) ?_
              refine AllReadyH.cons rfl (fun K hK => ?_) AllReadyH.nil
              refine stepL_callN 85 #[.tmp 27, .tmp 28] #[84, 131] (by rfl) (by rfl) #[.pointer (some ⟨b, 0, none⟩), .slice (some ⟨Wa.heap.size, 0, none⟩) 2 2] (by simp only [List.map_toArray, List.map_cons, List.map_nil]; rfl) (run_go Tryz.func85 (by kernel_rfl) (by kernel_rfl) _ _) (pickC_any (some ⟨Wa.heap.size, 0, none⟩) 2 2 _ b L2 _ (SA.out.keep ((Chg.refl nob Wa).drew1.alloc _)) (hik (L2_row Wa.drew 9)) (hik (other_block (by have := BA.out; omega))) (by omega) (by omega) (by omega)) ?_
              rintro e Wp ⟨ip, hip, he, hsp, kp⟩
              refine ⟨_, he, ?_⟩
              refine hK.out _ _ True.intro (fun hHeld => ?_)
              clear hK K
              try simp only [Act.put, List.setIfInBounds_toArray, List.set_cons_zero, List.set_cons_succ, List.getElem_toArray, List.getElem_cons_zero, List.getElem_cons_succ]
              have SP := hik hsp
              have KP := hik (((Chg.refl (fun k => k = b) Wa).drew1.alloc (.cells #[.string ⟨#[]⟩, .string ⟨#[116, 101, 120, 116]⟩] 9)).trans kp)
              have YP := hik (YA.out.keep KP.out (by have := hb.out; have := LX.out; omega) (fun i hi => by have := hb.out; omega))
              have TP := hik (L2_size ip)
              clear he hsp kp
              have p0 : Wp.cell? ⟨W2.heap.size, 0, none⟩ = some (.slice c n cap) := YP.out.row.cell (by omega)
              have p1 : Wp.cell? ⟨W2.heap.size, 1, none⟩ = some (.int .i64 at') := YP.out.row.cell (by omega)
              have p2 : Wp.cell? ⟨W2.heap.size, 2, none⟩ = some (.string st) := YP.out.row.cell (by omega)
              have p3 : Wp.cell? ⟨W2.heap.size, 3, none⟩ = some (.int .i64 ct) := YP.out.row.cell (by omega)
              refine wpAnyH_ready (rs := [4]) (by kernel_rfl) (by simp) ?_
              refine AllReadyH.cons rfl (fun K hK => ?_) AllReadyH.nil
              refine stepL_callN 70 #[.tmp 26, .tmp 29] #[35, 9] (by rfl) (by rfl) #[.agg #[.slice c n cap, .int .i64 at', .string st, .int .i64 ct], .string (L2 ip)] (by simp only [List.map_toArray, List.map_cons, List.map_nil]; rfl) (run_go Tryz.func70 (by kernel_rfl) (by kernel_rfl) _ _) (sAbsorb_any c n cap at' st ct (L2 ip) _ YP.out.st32 (by have := TP.out; omega)) ?_
              rintro e Wc ⟨he, kc⟩
              refine ⟨_, he, ?_⟩
              refine hK.out _ _ True.intro (fun hHeld => ?_)
              clear hK K
              try simp only [Act.put, List.setIfInBounds_toArray, List.set_cons_zero, List.set_cons_succ, List.getElem_toArray, List.getElem_cons_zero, List.getElem_cons_succ]
              have YC := hik (YP.out.keep kc (fun x => x) (fun _ _ x => x))
              have SC := hik (SP.out.keep kc)
              have GC := hik ((GA.out.trans KP.out).trans kc.wide)
              have RC := hik (rowIs_keep (rowIs_chg RA.out KP.out (by have := hb.out; omega)) kc)
              have LC := hik YC.out.row.lt
              clear he kc
              have o0 := YC.out.row.cell (i := 0) (by omega)
              have v0 := YC.out.row.frozen 0
              have o1 := YC.out.row.cell (i := 1) (by omega)
              have v1 := YC.out.row.frozen 1
              have o2 := YC.out.row.cell (i := 2) (by omega)
              have v2 := YC.out.row.frozen 2
              have o3 := YC.out.row.cell (i := 3) (by omega)
              have v3 := YC.out.row.frozen 3
              refine wpAnyH_ready (rs := [5]) (by kernel_rfl) (by simp) ?_
              refine AllReadyH.cons rfl (fun K hK => ?_) AllReadyH.nil
              simp only [List.getElem_toArray, List.getElem_cons_zero, List.getElem_cons_succ]
              go_simp
              refine hK.out _ _ True.intro (fun hHeld => ?_)
              clear hK K
              try simp only [Act.put, List.setIfInBounds_toArray, List.set_cons_zero, List.set_cons_succ, List.getElem_toArray, List.getElem_cons_zero, List.getElem_cons_succ]
              refine wpAnyH_done (by kernel_rfl) ?_ _
              clear o0 o1 o2 o3 v0 v1 v2 v3
              have YN : Hid (SrcIn ((((Wc.setCell ⟨W2.heap.size, 0, none⟩ (.slice c n cap)).setCell ⟨W2.heap.size, 1, none⟩ (.int .i64 at')).setCell ⟨W2.heap.size, 2, none⟩ (.string (abS st (L2 ip)))).setCell ⟨W2.heap.size, 3, none⟩ (.int .i64 0)) w.heap.size W2.heap.size (k - 1) c n cap f g at' (abS st (L2 ip)) 0) := hik (SrcIn.put YC.out (abS_size _ _) (by have := YC.out.at0; omega) (by omega) (by have := L0.out; omega))
              have ZC : Hid (Chg (fun i => i = W2.heap.size) Wc ((((Wc.setCell ⟨W2.heap.size, 0, none⟩ (.slice c n cap)).setCell ⟨W2.heap.size, 1, none⟩ (.int .i64 at')).setCell ⟨W2.heap.size, 2, none⟩ (.string (abS st (L2 ip)))).setCell ⟨W2.heap.size, 3, none⟩ (.int .i64 0))) := hik (chg4_set (Chg.refl (fun i => i = W2.heap.size) Wc) W2.heap.size (fun _ => rfl) _ _ _ _)
              have SN : Hid (Src (1001000 + 20 * (4 - (k - 1))) ((((Wc.setCell ⟨W2.heap.size, 0, none⟩ (.slice c n cap)).setCell ⟨W2.heap.size, 1, none⟩ (.int .i64 at')).setCell ⟨W2.heap.size, 2, none⟩ (.string (abS st (L2 ip)))).setCell ⟨W2.heap.size, 3, none⟩ (.int .i64 0)) b) := hik ((SC.out.chg ZC.out (fun i hi => by have := hb.out; have := L0.out; omega)).mono (by have := KP0.out; omega))
              have RN : Hid (((((Wc.setCell ⟨W2.heap.size, 0, none⟩ (.slice c n cap)).setCell ⟨W2.heap.size, 1, none⟩ (.int .i64 at')).setCell ⟨W2.heap.size, 2, none⟩ (.string (abS st (L2 ip)))).setCell ⟨W2.heap.size, 3, none⟩ (.int .i64 0)).rowIs w.heap.size 35 4 (pv4 (.slice none 0 0) (.int .i64 0) (.string ⟨#[]⟩) (.int .i64 0))) := hik (rowIs_chg RC.out ZC.out (by have := L0.out; omega))
              have GN : Hid (Chg (fun k => k = b) w ((((Wc.setCell ⟨W2.heap.size, 0, none⟩ (.slice c n cap)).setCell ⟨W2.heap.size, 1, none⟩ (.int .i64 at')).setCell ⟨W2.heap.size, 2, none⟩ (.string (abS st (L2 ip)))).setCell ⟨W2.heap.size, 3, none⟩ (.int .i64 0))) := hik (chg4_set GC.out _ (fun l => absurd l (by have := L0.out; omega)) _ _ _ _)
              clear ZC SC RC GC
              go_wp2
              go_roundw
              case rel => exact ⟨k - 1, c, n, cap, f, g, _, _, _, by have := KP0.out; omega, by have := KP0.out; congr 1; omega, YN, SN, RN, GN⟩
              case measure => have := KP0.out; simp [intOf]; omega
            · refine AllReadyH.cons rfl (fun K hK => ?_) AllReadyH.nil
              refine stepL_callN 85 #[.tmp 27, .tmp 28] #[84, 131] (by rfl) (by rfl) #[.pointer (some ⟨b, 0, none⟩), .slice (some ⟨Wa.heap.size, 0, none⟩) 2 2] (by simp only [List.map_toArray, List.map_cons, List.map_nil]; rfl) (run_go Tryz.func85 (by kernel_rfl) (by kernel_rfl) _ _) (pickC_any (some ⟨Wa.heap.size, 0, none⟩) 2 2 _ b L2 _ (SA.out.keep ((Chg.refl nob Wa).drew1.alloc _)) (hik (L2_row Wa.drew 9)) (hik (other_block (by have := BA.out; omega))) (by omega) (by omega) (by omega)) ?_
              rintro e Wp ⟨ip, hip, he, hsp, kp⟩
              refine ⟨_, he, ?_⟩
              refine hK.out _ _ True.intro (fun hHeld => ?_)
              clear hK K
              try simp only [Act.put, List.setIfInBounds_toArray, List.set_cons_zero, List.set_cons_succ, List.getElem_toArray, List.getElem_cons_zero, List.getElem_cons_succ]
              have SP := hik hsp
              have KP := hik (((Chg.refl (fun k => k = b) Wa).drew1.alloc (.cells #[.string ⟨#[]⟩, .string ⟨#[116, 101, 120, 116]⟩] 9)).trans kp)
              have YP := hik (YA.out.keep KP.out (by have := hb.out; have := LX.out; omega) (fun i hi => by have := hb.out; omega))
              have TP := hik (L2_size ip)
              clear he hsp kp
              have p0 : Wp.cell? ⟨W2.heap.size, 0, none⟩ = some (.slice c n cap) := YP.out.row.cell (by omega)
              have p1 : Wp.cell? ⟨W2.heap.size, 1, none⟩ = some (.int .i64 at') := YP.out.row.cell (by omega)
              have p2 : Wp.cell? ⟨W2.heap.size, 2, none⟩ = some (.string st) := YP.out.row.cell (by omega)
              have p3 : Wp.cell? ⟨W2.heap.size, 3, none⟩ = some (.int .i64 ct) := YP.out.row.cell (by omega)
              refine wpAnyH_ready (rs := [0]) (by kernel_rfl) (by simp) ?_
              refine AllReadyH.cons rfl (fun K hK => ?_) AllReadyH.nil
              simp only [List.getElem_toArray, List.getElem_cons_zero, List.getElem_cons_succ]
              go_simp
              refine hK.out _ _ True.intro (fun hHeld => ?_)
              clear hK K
              try simp only [Act.put, List.setIfInBounds_toArray, List.set_cons_zero, List.set_cons_succ, List.getElem_toArray, List.getElem_cons_zero, List.getElem_cons_succ]
              refine wpAnyH_ready (rs := [4]) (by kernel_rfl) (by simp) ?_
              refine AllReadyH.cons rfl (fun K hK => ?_) AllReadyH.nil
              refine stepL_callN 70 #[.tmp 26, .tmp 29] #[35, 9] (by rfl) (by rfl) #[.agg #[.slice c n cap, .int .i64 at', .string st, .int .i64 ct], .string (L2 ip)] (by simp only [List.map_toArray, List.map_cons, List.map_nil]; rfl) (run_go Tryz.func70 (by kernel_rfl) (by kernel_rfl) _ _) (sAbsorb_any c n cap at' st ct (L2 ip) _ YP.out.st32 (by have := TP.out; omega)) ?_
              rintro e Wc ⟨he, kc⟩
              refine ⟨_, he, ?_⟩
              refine hK.out _ _ True.intro (fun hHeld => ?_)
              clear hK K
              try simp only [Act.put, List.setIfInBounds_toArray, List.set_cons_zero, List.set_cons_succ, List.getElem_toArray, List.getElem_cons_zero, List.getElem_cons_succ]
              have YC := hik (YP.out.keep kc (fun x => x) (fun _ _ x => x))
              have SC := hik (SP.out.keep kc)
              have GC := hik ((GA.out.trans KP.out).trans kc.wide)
              have RC := hik (rowIs_keep (rowIs_chg RA.out KP.out (by have := hb.out; omega)) kc)
              have LC := hik YC.out.row.lt
              clear he kc
              have o0 := YC.out.row.cell (i := 0) (by omega)
              have v0 := YC.out.row.frozen 0
              have o1 := YC.out.row.cell (i := 1) (by omega)
              have v1 := YC.out.row.frozen 1
              have o2 := YC.out.row.cell (i := 2) (by omega)
              have v2 := YC.out.row.frozen 2
              have o3 := YC.out.row.cell (i := 3) (by omega)
              have v3 := YC.out.row.frozen 3
              refine wpAnyH_ready (rs := [5]) (by kernel_rfl) (by simp) ?_
              refine AllReadyH.cons rfl (fun K hK => ?_) AllReadyH.nil
              simp only [List.getElem_toArray, List.getElem_cons_zero, List.getElem_cons_succ]
              go_simp
              refine hK.out _ _ True.intro (fun hHeld => ?_)
              clear hK K
              try simp only [Act.put, List.setIfInBounds_toArray, List.set_cons_zero, List.set_cons_succ, List.getElem_toArray, List.getElem_cons_zero, List.getElem_cons_succ]
              refine wpAnyH_done (by kernel_rfl) ?_ _
              clear o0 o1 o2 o3 v0 v1 v2 v3
              have YN : Hid (SrcIn ((((Wc.setCell ⟨W2.heap.size, 0, none⟩ (.slice c n cap)).setCell ⟨W2.heap.size, 1, none⟩ (.int .i64 at')).setCell ⟨W2.heap.size, 2, none⟩ (.string (abS st (L2 ip)))).setCell ⟨W2.heap.size, 3, none⟩ (.int .i64 0)) w.heap.size W2.heap.size (k - 1) c n cap f g at' (abS st (L2 ip)) 0) := hik (SrcIn.put YC.out (abS_size _ _) (by have := YC.out.at0; omega) (by omega) (by have := L0.out; omega))
              have ZC : Hid (Chg (fun i => i = W2.heap.size) Wc ((((Wc.setCell ⟨W2.heap.size, 0, none⟩ (.slice c n cap)).setCell ⟨W2.heap.size, 1, none⟩ (.int .i64 at')).setCell ⟨W2.heap.size, 2, none⟩ (.string (abS st (L2 ip)))).setCell ⟨W2.heap.size, 3, none⟩ (.int .i64 0))) := hik (chg4_set (Chg.refl (fun i => i = W2.heap.size) Wc) W2.heap.size (fun _ => rfl) _ _ _ _)
              have SN : Hid (Src (1001000 + 20 * (4 - (k - 1))) ((((Wc.setCell ⟨W2.heap.size, 0, none⟩ (.slice c n cap)).setCell ⟨W2.heap.size, 1, none⟩ (.int .i64 at')).setCell ⟨W2.heap.size, 2, none⟩ (.string (abS st (L2 ip)))).setCell ⟨W2.heap.size, 3, none⟩ (.int .i64 0)) b) := hik ((SC.out.chg ZC.out (fun i hi => by have := hb.out; have := L0.out; omega)).mono (by have := KP0.out; omega))
              have RN : Hid (((((Wc.setCell ⟨W2.heap.size, 0, none⟩ (.slice c n cap)).setCell ⟨W2.heap.size, 1, none⟩ (.int .i64 at')).setCell ⟨W2.heap.size, 2, none⟩ (.string (abS st (L2 ip)))).setCell ⟨W2.heap.size, 3, none⟩ (.int .i64 0)).rowIs w.heap.size 35 4 (pv4 (.slice none 0 0) (.int .i64 0) (.string ⟨#[]⟩) (.int .i64 0))) := hik (rowIs_chg RC.out ZC.out (by have := L0.out; omega))
              have GN : Hid (Chg (fun k => k = b) w ((((Wc.setCell ⟨W2.heap.size, 0, none⟩ (.slice c n cap)).setCell ⟨W2.heap.size, 1, none⟩ (.int .i64 at')).setCell ⟨W2.heap.size, 2, none⟩ (.string (abS st (L2 ip)))).setCell ⟨W2.heap.size, 3, none⟩ (.int .i64 0))) := hik (chg4_set GC.out _ (fun l => absurd l (by have := L0.out; omega)) _ _ _ _)
              clear ZC SC RC GC
              go_wp2
              go_roundw
              case rel => exact ⟨k - 1, c, n, cap, f, g, _, _, _, by have := KP0.out; omega, by have := KP0.out; congr 1; omega, YN, SN, RN, GN⟩
              case measure => have := KP0.out; simp [intOf]; omega
      · obtain rfl : k = 0 := by omega
        have q0 : wr.cell? ⟨W2.heap.size, 0, none⟩ = some (.slice c n cap) := YR.out.row.cell (by omega)
        have q1 : wr.cell? ⟨W2.heap.size, 1, none⟩ = some (.int .i64 at') := YR.out.row.cell (by omega)
        have q2 : wr.cell? ⟨W2.heap.size, 2, none⟩ = some (.string st) := YR.out.row.cell (by omega)
        have q3 : wr.cell? ⟨W2.heap.size, 3, none⟩ = some (.int .i64 ct) := YR.out.row.cell (by omega)
        go_wp2_with fail
        refine (sOwn_any c n cap f g at' st ct _ (hik YR.out.own.pairs) (by have := YR.out.len; omega)).mono ?_
        rintro e W9 ⟨c9, cap9, rfl, o9, k9⟩
        have R9 := hik (rowIs_keep RR.out k9)
        have G9 := hik (GR.out.trans k9.wide)
        have O9 := hik o9
        have LR := hik (show w.heap.size < wr.heap.size from RR.out.lt)
        have QQ := hik (sokb_mk (f := f) (g := g) (n := n) (at' := at') (st := st) (ct := ct) YR.out.ok (by have := YR.out.len; omega) (by have := YR.out.at0; omega) YR.out.st32 (by have := YR.out.ct0; omega))
        have Q2 := hik (show n ≤ 5 ∧ at' ≤ 3 ∧ ct ≤ 3 from ⟨YR.out.len, by have := YR.out.at0; omega, by have := YR.out.ct0; omega⟩)
        clear k9 o9 q0 q1 q2 q3 SR YR RR GR
        have hz9 : w.heap.size < W9.heap.size := R9.out.lt
        have y0 := R9.out.cell (i := 0) (by omega)
        have v0 := R9.out.frozen 0
        have y1 := R9.out.cell (i := 1) (by omega)
        have v1 := R9.out.frozen 1
        have y2 := R9.out.cell (i := 2) (by omega)
        have v2 := R9.out.frozen 2
        have y3 := R9.out.cell (i := 3) (by omega)
        have v3 := R9.out.frozen 3
        go_wp2
        exact bodyPost_ret (v := .agg #[.slice c9 n cap9, .int .i64 at', .string st, .int .i64 ct]) (by simp [results, Tryz.results48, go_sem, row4_s0 R9.out (.slice c9 n cap9), row4_s1 R9.out (.slice c9 n cap9) (.int .i64 at'), row4_s2 R9.out (.slice c9 n cap9) (.int .i64 at') (.string st), row4_s3 R9.out (.slice c9 n cap9) (.int .i64 at') (.string st) (.int .i64 ct)]) rfl ⟨c9, n, cap9, f, g, at', st, ct, rfl, (O9.out.chg (P := fun i => i = w.heap.size) (chg4_set (Chg.refl (fun i => i = w.heap.size) W9) w.heap.size (fun _ => rfl) _ _ _ _) (fun i hi _ hp => (by have := LR.out; omega))).low (by have := LR.out; omega), QQ.out, Q2.out.1, Q2.out.2.1, Q2.out.2.2, chg4_set G9.out _ (fun l => absurd l (by omega)) _ _ _ _⟩

/-- A right source out of a code. -/
def NewSr (w : World) (e : Ending) (w' : World) : Prop :=
  ∃ (c : Option Addr) (n cap : Nat) (f g : Nat → Int) (at' : Int) (st : ByteArray) (ct : Int), e = .returned (.agg #[.slice c n cap, .int .i64 at', .string st, .int .i64 ct]) ∧ OwnE w' w.heap.size c n f g ∧ sokb f g n at' st ct = true ∧ n ≤ 5 ∧ at' ≤ 3 ∧ ct ≤ 3 ∧ Chg nob w w'

set_option maxHeartbeats 1000000 in
theorem sourceOf_any (c : Option Addr) (len cap : Nat) (w : World) (h : Bytes w c len) (hl : (len : Int) ≤ 9223372036854775807) :
    Calls Tryz.prog 23 #[.slice c len cap] w fun e w' => NewSr w e w' := by
  have H := hik (h.below ((Below.refl _ _).alloc (Nat.le_refl _) (.cells #[.slice none 0 0, .int .i64 0, .string ⟨#[]⟩, .int .i64 0] 35)))
  clear h
  go_enter Tryz.func23, Tryz.ntmps23
  go_wp2_with fail
  refine (l00Source_any c len cap _ H.out hl).mono ?_
  rintro e W1 ⟨rfl, hS, hB⟩
  have S1 : Hid (Src 0 W1 (w.heap.size + 1)) := hik (by simpa using hS)
  have K1 := hik (chg_of_below hB)
  have G1 := hik (((Chg.refl nob w).alloc (.cells #[.slice none 0 0, .int .i64 0, .string ⟨#[]⟩, .int .i64 0] 35)).trans K1.out)
  have R1 := hik (rowIs_keep (row4_new w (.slice none 0 0) (.int .i64 0) (.string ⟨#[]⟩) (.int .i64 0) 35) K1.out)
  have L1 := hik R1.out.lt
  clear hS hB K1
  go_wp2_with fail
  refine (source_any 0 _ _ S1.out (by omega)).mono ?_
  rintro e W2 ⟨c2, n2, cap2, f, g, at', st, ct, rfl, ho, hok, h5, h3, h3', k2⟩
  have R2 := hik (rowIs_chg R1.out k2 (by omega))
  have G2 := hik (G1.out.near k2 (fun i e => by omega))
  have O2 := hik ho
  have Q2 := hik (show sokb f g n2 at' st ct = true ∧ n2 ≤ 5 ∧ at' ≤ 3 ∧ ct ≤ 3 from ⟨hok, h5, h3, h3'⟩)
  clear k2 ho hok h5 h3 h3' R1 G1 S1
  have hz9 : w.heap.size < W2.heap.size := R2.out.lt
  have y0 := R2.out.cell (i := 0) (by omega)
  have v0 := R2.out.frozen 0
  have y1 := R2.out.cell (i := 1) (by omega)
  have v1 := R2.out.frozen 1
  have y2 := R2.out.cell (i := 2) (by omega)
  have v2 := R2.out.frozen 2
  have y3 := R2.out.cell (i := 3) (by omega)
  have v3 := R2.out.frozen 3
  go_wp2
  exact bodyPost_ret (v := .agg #[.slice c2 n2 cap2, .int .i64 at', .string st, .int .i64 ct]) (by simp [results, Tryz.results23, go_sem, row4_s0 R2.out (.slice c2 n2 cap2), row4_s1 R2.out (.slice c2 n2 cap2) (.int .i64 at'), row4_s2 R2.out (.slice c2 n2 cap2) (.int .i64 at') (.string st), row4_s3 R2.out (.slice c2 n2 cap2) (.int .i64 at') (.string st) (.int .i64 ct)]) rfl ⟨c2, n2, cap2, f, g, at', st, ct, rfl, (O2.out.chg (P := fun i => i = w.heap.size) (chg4_set (Chg.refl (fun i => i = w.heap.size) W2) w.heap.size (fun _ => rfl) _ _ _ _) (fun i hi _ hp => (by have := L1.out; omega))).low (by have := L1.out; omega), Q2.out.1, Q2.out.2.1, Q2.out.2.2.1, Q2.out.2.2.2, chg4_set G2.out _ (fun l => absurd l (by simp)) _ _ _ _⟩

end Go.Proofs.YtkpohajmcngjcaaGreatDoor
