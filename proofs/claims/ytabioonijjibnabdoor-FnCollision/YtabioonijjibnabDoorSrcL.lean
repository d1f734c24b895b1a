/- What drawn bytes, texts and leaves come to: in range, in new memory; nothing but the source has turned. Conditions: a code that can be read. -/
import Derived.Test.YtabioonijjibnabDoorSrcT
namespace Go.Proofs.YtabioonijjibnabDoor
open Go.ChangeShapes Go.WideShapes Go.ChangeAt Go.RowKit
set_option linter.unusedVariables false
set_option maxRecDepth 100000
set_option linter.unusedSimpArgs false

theorem owns_chg {P : Nat → Prop} {w w' : World} {B : Nat} {t : TypeId} {z : Nat} {v : Value} {n : Nat} {xs : List Value} (h : w.ownsRow B t z v n xs) (k : Chg P w w') (hp : ∀ i, B ≤ i → ¬ P i) : w'.ownsRow B t z v n xs := by
  obtain ⟨hl, h⟩ := h
  refine ⟨hl, ?_⟩
  rcases h with h | ⟨g, cap, cur, e, hb, hc, r⟩
  · exact .inl h
  · exact .inr ⟨g, cap, cur, e, hb, (k.block g (Array.getElem?_eq_some_iff.1 hc).1 (hp g hb)).trans hc, r⟩
/-- Numbers of a byte. -/
def bytr (z : Nat → Int) : Prop := ∀ i, 0 ≤ z i ∧ z i ≤ 255
/-- One more number. -/
def zx (z : Nat → Int) (m : Nat) (r : Int) (i : Nat) : Int := if i = m then r else z i
theorem zx_bytr {z : Nat → Int} (h : bytr z) (m : Nat) {r : Int} (r0 : 0 ≤ r) (r1 : r ≤ 255) : bytr (zx z m r) := by
  intro i; unfold zx; split
  · exact ⟨r0, r1⟩
  · exact h i
theorem zx_snoc (z : Nat → Int) (m : Nat) (r : Int) : (List.range (m + 1)).map (bb (zx z m r)) = (List.range m).map (bb z) ++ [.int .u8 r] := by
  rw [List.range_succ, List.map_append]
  congr 1
  · apply List.map_congr_left
    intro i hi
    have : i < m := by simpa using hi
    unfold bb zx; rw [if_neg (by omega)]
  · simp [bb, zx]
/-- A drawn row of at most M bytes. -/
def DrawnR (M n b : Nat) (w : World) (e : Ending) (w' : World) : Prop :=
  ∃ (v : Value) (m : Nat) (z : Nat → Int), e = .returned v ∧ m ≤ M ∧ bytr z ∧ w'.ownsRow w.heap.size 5 1 v m ((List.range m).map (bb z)) ∧ Src n w' b ∧ Chg (fun k => k = b) w w'

set_option maxHeartbeats 2000000 in
theorem bytesC_any (N n b : Nat) (w : World) (h : Src n w b) (hn : n ≤ 900000000000) (N1 : 1 ≤ N) (N2 : N ≤ 1000) :
    Calls Tryd.prog 76 #[.pointer (some ⟨b, 0, none⟩), .int .i64 N] w fun e w' => DrawnR N (n + 3 + 3 * N) b w e w' := by
  obtain ⟨i0, hi, hz0, hz1, hz2⟩ := info_parts infoB
  have HI := hik hi
  have HZ0 := hik hz0
  have HZ1 := hik hz1
  have HZ2 := hik hz2
  clear hi hz0 hz1 hz2
  have HS := hik h
  have hbl := h.lt
  clear h
  go_enter Tryd.func76, Tryd.ntmps76
  go_wp2_with fail
  refine (nextC_any ((N : Int) + 1) n b _ (HS.out.keep ((Chg.refl _ _).alloc _)) (by omega) (by omega) (by omega)).mono ?_
  rintro e W1 ⟨r, rfl, r0, r1, hS1, k1⟩
  have S1 := hik hS1
  have C1 := hik (((Chg.refl (fun k => k = b) w).alloc (.cells #[] 5)).trans (k1.mono (fun _ _ x => x)))
  have O1 := hik (owns_chg (owns_new w w.heap.size 5 1 (Nat.le_refl _)) k1 (fun i hi e => by omega))
  clear hS1 k1
  go_wp2
  go_loopw [5, 6] (fun v i W => ∃ (k m : Nat) (z : Nat → Int), i = .int .i64 k ∧ k + m ≤ N ∧ Hid (bytr z) ∧ Hid (W.ownsRow w.heap.size 5 1 v m ((List.range m).map (bb z))) ∧ Hid (Src (n + 3 + 3 * m) W b) ∧ Hid (Chg (fun k => k = b) w W)) (fun _ i _ => (intOf i).toNat)
  case atStart => exact ⟨r.toNat, 0, fun _ => 0, by rw [Int.toNat_of_nonneg r0], by omega, hik (fun _ => ⟨Int.le_refl _, show (0 : Int) ≤ 255 by omega⟩), O1, S1, C1⟩
  case round =>
    clear O1 S1 C1
    obtain ⟨k, m, z, rfl, hkm, HB, HO, HS, HC⟩ := hrel
    have hs0 := HC.out.size
    by_cases hk : 0 < (k : Int)
    · go_wp2_with fail
      refine (nextC_any 256 (n + 3 + 3 * m) b _ HS.out (by omega) (by omega) (by omega)).mono ?_
      rintro e W2 ⟨r, rfl, r0, r1, hS2, k2⟩
      have S2 := hik hS2
      have C2 := hik (HC.out.trans k2)
      have O2 := hik (owns_chg HO.out k2 (fun i hi e => by omega))
      have hs2 := C2.out.size
      clear hS2 k2
      have r2 : r ≤ 255 := by omega
      go_wp2_with (at_builtin; refine wpList_append_own _ rfl (.tmp 16) (.tmp 20) 22 rfl w.heap.size 5 i0 (.int .u8 0) 1 1 Tryd.underlying22 HI.out HZ0.out HZ1.out HZ2.out rfl (by decide) _ m _ rfl (O2.out.alloc _) ⟨_, 0, none⟩ 1 1 [.int .u8 r] rfl rfl ?c1 ?c2 ?c3 ?c4 ?c5 ?c6)
      case c1 =>
        intro j u hj
        match j, hj with
        | 0, hj => simp at hj; subst hj; simp [Addr.add]
        | j + 1, hj => simp at hj
      case c2 => intro u hu; simp at hu; subst hu; rfl
      case c3 => unfold maxLen; omega
      case c4 => omega
      case c5 => simp; omega
      case c6 =>
        intro v' w1 hown hgr _
        have HOW : Hid (w1.ownsRow w.heap.size 5 1 v' (m + 1) ((List.range (m + 1)).map (bb (zx z m r)))) := hik (by rw [zx_snoc]; exact hown)
        have HGC := hik ((C2.out.alloc _).grown hgr (fun b e l => absurd (O2.out.lt b e).1 (by omega)))
        have HSR := hik (S2.out.chg (((Chg.refl (fun i => w.heap.size ≤ i) W2).alloc _).grown hgr (fun b e l => (O2.out.lt b e).1)) (fun i hi q => by omega))
        have HB2 := hik (zx_bytr HB.out m r0 r2)
        clear hown hgr O2 C2 S2 HO HS HC HB
        go_wp2
        go_roundw
        case rel => exact ⟨k - 1, m + 1, zx z m r, by go_num, by omega, HB2, HOW, hik (HSR.out.mono (by omega)), HGC⟩
        case measure => simp [intOf]; omega
    · obtain rfl : k = 0 := by omega
      go_wp2
      go_ret
      exact ⟨_, m, z, rfl, by omega, HB.out, HO.out, HS.out.mono (by omega), HC.out⟩
theorem row_of_owns {w : World} {B n : Nat} {t : TypeId} {v : Value} {h : Nat → Value} (ho : w.ownsRow B t 1 v n ((List.range n).map h)) : ∃ (c : Option Addr) (cap : Nat), v = .slice c n cap ∧ RowV w c n h ∧ (∀ xb xo, c = some ⟨xb, xo, none⟩ → B ≤ xb) := by
  by_cases hn : 0 < n
  · obtain ⟨b, cap, e, hb, _, r⟩ := rowV_of_owns ho hn
    refine ⟨_, cap, e, r, fun xb xo e => ?_⟩
    obtain ⟨rfl, rfl⟩ : b = xb ∧ 0 = xo := by simpa using e
    exact hb
  · rcases ho.2 with ⟨e, h0⟩ | ⟨g, cap, cur, rfl, hb, hcur, _⟩
    · exact ⟨none, 0, by rw [e]; simp [show n = 0 by omega], fun i hi => absurd hi (by omega), fun xb xo e => by simp at e⟩
    · refine ⟨_, cap, rfl, fun i hi => absurd hi (by omega), fun xb xo e => ?_⟩
      obtain ⟨rfl, rfl⟩ : g = xb ∧ 0 = xo := by simpa using e
      exact hb
/-- A drawn text of a list. -/
def DrawnT (N : Nat) (L : Nat → ByteArray) (n b : Nat) (w : World) (e : Ending) (w' : World) : Prop :=
  ∃ i, i < N ∧ e = .returned (.string (L i)) ∧ Src n w' b ∧ Chg (fun k => k = b) w w'

set_option maxHeartbeats 1000000 in
theorem pickC_any (c : Option Addr) (N cap n b : Nat) (L : Nat → ByteArray) (w : World) (h : Src n w b) (hl : Hid (RowV w c N (sb L))) (hc : Hid (∀ xb xo, c = some ⟨xb, xo, none⟩ → ¬ xb = b)) (hn : n ≤ 900000000000) (N1 : 2 ≤ N) (N2 : N ≤ 1000) :
    Calls Tryd.prog 105 #[.pointer (some ⟨b, 0, none⟩), .slice c N cap] w fun e w' => DrawnT N L (n + 3) b w e w' := by
  have HS := hik h
  clear h
  have hN0 : ¬ (N : Int) = 0 := by omega
  go_enter Tryd.func105, Tryd.ntmps105
  go_wp2_with fail
  refine (nextC_any (N : Int) n b _ HS.out (by omega) (by omega) (by omega)).mono ?_
  rintro e W1 ⟨r, rfl, r0, r1, hS1, k1⟩
  obtain ⟨i, rfl⟩ : ∃ i : Nat, r = (i : Int) := ⟨r.toNat, by omega⟩
  have hi : i < N := by omega
  have S1 := hik hS1
  have C1 := hik k1
  obtain ⟨xb, xo, rfl, hxb, hcell⟩ := (hl.out.chg k1 (fun xb xo e _ => hc.out xb xo e)) i hi
  have hx : _ = some (Value.string (L i)) := hcell
  clear hS1 k1 hcell
  go_wp2
  go_ret
  exact ⟨i, hi, rfl, S1.out, C1.out⟩

/-- The four texts that a leaf is drawn of. -/
def L4 (s : ByteArray) (i : Nat) : ByteArray := if i = 0 then ⟨#[]⟩ else if i = 1 then ⟨#[97]⟩ else if i = 2 then ⟨#[108, 101, 97, 102]⟩ else s
theorem L4_size {s : ByteArray} (h : s.size ≤ 9) (i : Nat) : (L4 s i).size ≤ 9 := by
  unfold L4
  split
  · show 0 ≤ 9; omega
  · split
    · show 1 ≤ 9; omega
    · split
      · show 4 ≤ 9; omega
      · exact h
theorem L4_row (s : ByteArray) (w : World) : RowV (w.alloc (.cells #[.string ⟨#[]⟩, .string ⟨#[97]⟩, .string ⟨#[108, 101, 97, 102]⟩, .string s] 9)) (some ⟨w.heap.size, 0, none⟩) 4 (sb (L4 s)) := by
  intro i hi
  refine ⟨w.heap.size, 0, rfl, by simp, ?_⟩
  match i, hi with
  | 0, _ => simp [sb, L4]
  | 1, _ => simp [sb, L4]
  | 2, _ => simp [sb, L4]
  | 3, _ => simp [sb, L4]
/-- One more text. -/
def lx (L : Nat → ByteArray) (m : Nat) (t : ByteArray) (i : Nat) : ByteArray := if i = m then t else L i
theorem lx_size {L : Nat → ByteArray} (h : ∀ i, (L i).size ≤ 9) (m : Nat) {t : ByteArray} (ht : t.size ≤ 9) : ∀ i, (lx L m t i).size ≤ 9 := by
  intro i; unfold lx; split
  · exact ht
  · exact h i
theorem lx_snoc (L : Nat → ByteArray) (m : Nat) (t : ByteArray) : (List.range (m + 1)).map (sb (lx L m t)) = (List.range m).map (sb L) ++ [.string t] := by
  rw [List.range_succ, List.map_append]
  congr 1
  · apply List.map_congr_left
    intro i hi
    have : i < m := by simpa using hi
    unfold sb lx; rw [if_neg (by omega)]
  · simp [sb, lx]
theorem other_block {g b : Nat} (h : b < g) : ∀ xb xo : Nat, some (⟨g, 0, none⟩ : Addr) = some ⟨xb, xo, none⟩ → ¬ xb = b := by
  intro xb xo e
  obtain ⟨rfl, rfl⟩ : g = xb ∧ 0 = xo := by simpa using e
  omega
/-- Drawn leaves: 1, 2, 4 or 8 of at most 9 bytes, in new memory. -/
def DrawnL (n b : Nat) (w : World) (e : Ending) (w' : World) : Prop :=
  ∃ (v : Value) (j : Nat) (L : Nat → ByteArray), e = .returned v ∧ j ≤ 3 ∧ (∀ i, (L i).size ≤ 9) ∧ w'.ownsRow w.heap.size 9 1 v (2 ^ j) ((List.range (2 ^ j)).map (sb L)) ∧ Src n w' b ∧ Chg (fun k => k = b) w w'

set_option maxHeartbeats 4000000 in
theorem leavesC_any (n b : Nat) (w : World) (h : Src n w b) (hn : n ≤ 800000000000) :
    Calls Tryd.prog 56 #[.pointer (some ⟨b, 0, none⟩)] w fun e w' => DrawnL (n + 1000) b w e w' := by
  obtain ⟨i0, hi, hz0, hz1, hz2⟩ := info_parts infoSt
  have HI := hik hi
  have HZ0 := hik hz0
  have HZ1 := hik hz1
  have HZ2 := hik hz2
  clear hi hz0 hz1 hz2
  have HS := hik h
  have hbl := h.lt
  clear h
  go_enter Tryd.func56, Tryd.ntmps56
  go_wp2_with fail
  refine (nextC_any 4 n b _ (HS.out.keep ((Chg.refl _ _).alloc _)) (by omega) (by omega) (by omega)).mono ?_
  rintro e W1 ⟨r, rfl, r0, r1, hS1, k1⟩
  obtain ⟨j, rfl⟩ : ∃ j : Nat, r = (j : Int) := ⟨r.toNat, by omega⟩
  have hj : j ≤ 3 := by omega
  obtain ⟨q, hq⟩ : ∃ q : Nat, q = 2 ^ j := ⟨_, rfl⟩
  have hq8 : q ≤ 8 := by rw [hq]; exact Nat.pow_le_pow_right (show 0 < 2 by omega) hj
  have e1 : wrap64 ((2 : Int) ^ j) = (q : Int) := by
    have e : ((2 : Int) ^ j) = (q : Int) := by rw [hq]; simp
    rw [e]
    exact IntWalk.wrap64_in _ ⟨by omega, by omega⟩
  have HQ := hik hq
  have S1 := hik hS1
  have C1 := hik (((Chg.refl (fun k => k = b) w).alloc (.cells #[] 9)).trans (k1.mono (fun _ _ x => x)))
  have O1 := hik (owns_chg (owns_new w w.heap.size 9 1 (Nat.le_refl _)) k1 (fun i hi e => by omega))
  clear hS1 k1 hq
  go_wp2
  rw [e1]
  clear e1
  go_loopw [3, 5] (fun v i W => ∃ (k : Nat) (L : Nat → ByteArray), i = .int .i64 k ∧ k ≤ q ∧ Hid (∀ i, (L i).size ≤ 9) ∧ Hid (W.ownsRow w.heap.size 9 1 v k ((List.range k).map (sb L))) ∧ Hid (Src (n + 3 + 33 * k) W b) ∧ Hid (Chg (fun k => k = b) w W)) (fun _ i _ => q - (intOf i).toNat)
  case atStart => exact ⟨0, fun _ => ⟨#[]⟩, rfl, by omega, hik (fun _ => show 0 ≤ 9 by omega), O1, S1, C1⟩
  case round =>
    clear O1 S1 C1
    obtain ⟨k, L, rfl, hk, HL, HO, HS, HC⟩ := hrel
    have hs0 := HC.out.size
    by_cases hlt : (k : Int) < (q : Int)
    · go_wp2_with fail
      refine (bytesC_any 9 (n + 3 + 33 * k) b _ HS.out (by omega) (by omega) (by omega)).mono ?_
      rintro e W2 ⟨v2, m, z, rfl, hm, hz, o2, hS2, k2⟩
      obtain ⟨c2, cap2, rfl, hv2, hc2⟩ := row_of_owns o2
      have hcv := convB c2 m cap2 z W2 hv2
      have hsz : (bt z m).size ≤ 9 := by rw [bt_size]; exact hm
      obtain ⟨s, hs⟩ : ∃ s, s = bt z m := ⟨_, rfl⟩
      rw [← hs] at hcv hsz
      have S2 := hik hS2
      have C2 := hik (HC.out.trans k2)
      have O2 := hik (owns_chg HO.out k2 (fun i hi e => by omega))
      have hs2 := C2.out.size
      have HSZ := hik hsz
      have HBW := hik (show b < W2.heap.size by omega)
      clear hS2 k2 o2 hv2 hc2 hs hz hsz
      go_wp2_with fail
      refine (pickC_any (some ⟨W2.heap.size, 0, none⟩) 4 4 (n + 3 + 33 * k + 3 + 3 * 9) b (L4 s) _ (S2.out.keep ((Chg.refl _ _).alloc _)) (hik (L4_row s W2)) (hik (other_block HBW.out)) (by omega) (by omega) (by omega)).mono ?_
      rintro e W3 ⟨i, hi, rfl, hS3, k3⟩
      obtain ⟨t, ht⟩ : ∃ t, t = L4 s i := ⟨_, rfl⟩
      have HT := hik (show t.size ≤ 9 by rw [ht]; exact L4_size HSZ.out i)
      rw [← ht]
      have S3 := hik hS3
      have C3 := hik ((C2.out.alloc _).trans k3)
      have O3 := hik (owns_chg (O2.out.alloc _) k3 (fun i hi e => by omega))
      have hs3 := C3.out.size
      clear hS3 k3 ht hi hcv O2 C2 S2
      go_wp2_with (at_builtin; refine wpList_append_own _ rfl (.tmp 16) (.tmp 23) 29 rfl w.heap.size 9 i0 (.string ⟨#[]⟩) 1 16 Tryd.underlying29 HI.out HZ0.out HZ1.out HZ2.out rfl (by decide) _ k _ rfl (O3.out.alloc _) ⟨_, 0, none⟩ 1 1 [.string t] rfl rfl ?c1 ?c2 ?c3 ?c4 ?c5 ?c6)
      case c1 =>
        intro j u hj
        match j, hj with
        | 0, hj => simp at hj; subst hj; simp [Addr.add]
        | j + 1, hj => simp at hj
      case c2 => intro u hu; simp at hu; subst hu; rfl
      case c3 => unfold maxLen; omega
      case c4 => omega
      case c5 => simp; omega
      case c6 =>
        intro v' w1 hown hgr _
        have HOW : Hid (w1.ownsRow w.heap.size 9 1 v' (k + 1) ((List.range (k + 1)).map (sb (lx L k t)))) := hik (by rw [lx_snoc]; exact hown)
        have HGC := hik ((C3.out.alloc _).grown hgr (fun b e l => absurd (O3.out.lt b e).1 (by omega)))
        have HSR := hik (S3.out.chg (((Chg.refl (fun i => w.heap.size ≤ i) W3).alloc _).grown hgr (fun b e l => (O3.out.lt b e).1)) (fun i hi q => by omega))
        have HL2 := hik (lx_size HL.out k HT.out)
        clear hown hgr O3 C3 S3 HO HS HC HL
        go_wp2
        go_roundw
        case rel => exact ⟨k + 1, lx L k t, by go_num, by omega, HL2, HOW, hik (HSR.out.mono (by omega)), HGC⟩
        case measure => simp [intOf]; omega
    · obtain rfl : k = q := by omega
      go_wp2
      go_ret
      exact ⟨_, j, L, rfl, hj, HL.out, by rw [← HQ.out]; exact HO.out, HS.out.mono (by omega), HC.out⟩

theorem chg_of_below {w w' : World} (h : Below w.heap.size w w') : Chg nob w w' := ⟨h.os, h.tape, h.output, h.size, fun k hk _ => h.block k hk⟩
/-- Leaves, in new memory: nothing that was there has turned. -/
def NewL (w : World) (e : Ending) (w' : World) : Prop :=
  ∃ (v : Value) (j : Nat) (L : Nat → ByteArray), e = .returned v ∧ j ≤ 3 ∧ (∀ i, (L i).size ≤ 9) ∧ w'.ownsRow w.heap.size 9 1 v (2 ^ j) ((List.range (2 ^ j)).map (sb L)) ∧ Chg nob w w'
/-- Bytes, in new memory. -/
def NewR (M : Nat) (w : World) (e : Ending) (w' : World) : Prop :=
  ∃ (v : Value) (m : Nat) (z : Nat → Int), e = .returned v ∧ m ≤ M ∧ bytr z ∧ w'.ownsRow w.heap.size 5 1 v m ((List.range m).map (bb z)) ∧ Chg nob w w'
theorem owns_down {w : World} {B B' : Nat} {t : TypeId} {z : Nat} {v : Value} {n : Nat} {xs : List Value} (h : w.ownsRow B t z v n xs) (hb : B' ≤ B) : w.ownsRow B' t z v n xs := by
  obtain ⟨hl, h⟩ := h
  refine ⟨hl, ?_⟩
  rcases h with h | ⟨g, cap, cur, e, hb', r⟩
  · exact .inl h
  · exact .inr ⟨g, cap, cur, e, Nat.le_trans hb hb', r⟩

set_option maxHeartbeats 1000000 in
theorem leavesOf_any (c : Option Addr) (len cap : Nat) (w : World) (h : Bytes w c len) (hl : (len : Int) ≤ 9223372036854775807) :
    Calls Tryd.prog 15 #[.slice c len cap] w fun e w' => NewL w e w' := by
  have H := hik h
  clear h
  go_enter Tryd.func15, Tryd.ntmps15
  go_wp2_with fail
  refine (l00Source_any c len cap _ H.out hl).mono ?_
  rintro e w1 ⟨rfl, hS, hB⟩
  have HS := hik hS
  have HB := hik hB
  clear hS hB
  go_wp2_with fail
  refine (leavesC_any 0 _ _ HS.out (by omega)).mono ?_
  rintro e w2 ⟨v, j, L, rfl, hj, hL, ho, hS2, hC2⟩
  have hk := hik (chg_of_below HB.out)
  have HO := hik ho
  have HC := hik hC2
  have HL := hik hL
  clear hS2 ho hC2 hL
  go_wp2
  go_ret
  exact ⟨_, j, L, rfl, hj, HL.out, owns_down HO.out hk.out.size, hk.out.near HC.out (fun i e => by omega)⟩

set_option maxHeartbeats 1000000 in
theorem bytesOf_any (c : Option Addr) (len cap N : Nat) (w : World) (h : Bytes w c len) (hl : (len : Int) ≤ 9223372036854775807) (N1 : 1 ≤ N) (N2 : N ≤ 1000) :
    Calls Tryd.prog 28 #[.slice c len cap, .int .i64 N] w fun e w' => NewR N w e w' := by
  have H := hik h
  clear h
  go_enter Tryd.func28, Tryd.ntmps28
  go_wp2_with fail
  refine (l00Source_any c len cap _ H.out hl).mono ?_
  rintro e w1 ⟨rfl, hS, hB⟩
  have HS := hik hS
  have HB := hik hB
  clear hS hB
  go_wp2_with fail
  refine (bytesC_any N 0 _ _ HS.out (by omega) N1 N2).mono ?_
  rintro e w2 ⟨v, m, z, rfl, hm, hz, ho, hS2, hC2⟩
  have hk := hik (chg_of_below HB.out)
  have HO := hik ho
  have HC := hik hC2
  have HZ := hik hz
  clear hS2 ho hC2 hz
  go_wp2
  go_ret
  exact ⟨_, m, z, rfl, hm, HZ.out, owns_down HO.out hk.out.size, hk.out.near HC.out (fun i e => by omega)⟩

set_option maxHeartbeats 1000000 in
theorem sameTexts_any (c d : Option Addr) (n m cap cap' : Nat) (L M : Nat → ByteArray) (w : World) (h : Hid (RowV w c n (sb L))) (h' : Hid (RowV w d m (sb M))) (hm : n = m) (he : ∀ i, i < n → L i = M i) (hn : n ≤ 1099511627776) :
    Calls Tryd.prog 22 #[.slice c n cap, .slice d m cap'] w fun e w' => e = .returned (.bool true) ∧ Chg nob w w' := by
  subst hm
  have HE := hik he
  clear he
  go_enter Tryd.func22, Tryd.ntmps22
  go_wp2
  go_loopw [5] (fun i W => ∃ k : Nat, k ≤ n ∧ i = .int .i64 k ∧ Hid (Chg nob w W)) (fun i _ => n - (intOf i).toNat)
  case atStart => exact ⟨0, Nat.zero_le _, rfl, hik (Chg.refl _ _)⟩
  case round =>
    obtain ⟨k, hk, rfl, HC⟩ := hrel
    by_cases hlt : k < n
    · obtain ⟨xb, xo, rfl, hxb, hcell⟩ := (h.out.keep HC.out) k hlt
      have hx : _ = some (Value.string (L k)) := hcell
      obtain ⟨yb, yo, rfl, hyb, hcell'⟩ := (h'.out.keep HC.out) k hlt
      have hy : _ = some (Value.string (M k)) := hcell'
      rw [← HE.out k hlt] at hy
      clear hcell hcell'
      go_wp2
      go_quiet (fail)
      go_wp2
      go_roundw
      case rel => exact ⟨k + 1, by omega, by go_num, hik (HC.out.drewN _)⟩
      case measure => simp [intOf]; omega
    · go_wp2
      go_ret
      exact ⟨rfl, HC.out⟩
end Go.Proofs.YtabioonijjibnabDoor
