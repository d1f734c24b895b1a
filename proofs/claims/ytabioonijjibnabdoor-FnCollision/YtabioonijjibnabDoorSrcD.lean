/- Drawn bytes, told exactly: contracts of the draws that two calls must make alike. Conditions: bytes that can be read. -/
import Derived.Test.YtabioonijjibnabDoorSrcL
import Derived.Test.YtabioonijjibnabDoorKecN
namespace Go.Proofs.YtabioonijjibnabDoor
open Go.ChangeShapes Go.WideShapes Go.ChangeAt Go.RowKit
set_option linter.unusedVariables false
set_option maxRecDepth 100000
set_option linter.unusedSimpArgs false

/-- A byte of a source that has drawn k bytes, and its seed then. -/
def byF (z : Nat → Int) (len k : Nat) (seed : Int) : Int × Int :=
  if k < len then (z k, (seed * 31 + z k + 7) % 2147483648) else if k < 3000 then ((seed * 1103515245 + 12345) % 2147483648 / 65536 % 256, (seed * 1103515245 + 12345) % 2147483648) else (0, seed)
theorem byF_in {z : Nat → Int} {len k : Nat} {seed : Int} (hz : isB z) (s0 : 0 ≤ seed) (s1 : seed < 2147483648) : 0 ≤ (byF z len k seed).1 ∧ (byF z len k seed).1 ≤ 255 ∧ 0 ≤ (byF z len k seed).2 ∧ (byF z len k seed).2 < 2147483648 := by
  have h := hz k
  unfold byF
  split
  · simp only; omega
  · split
    · simp only; omega
    · simp only; omega
/-- Block b holds a source of the code z that has drawn k bytes. -/
def SrcX (w : World) (b : Nat) (c : Option Addr) (len cap : Nat) (z : Nat → Int) (k : Nat) (seed : Int) : Prop :=
  w.cell? ⟨b, 0, none⟩ = some (.slice c len cap) ∧ w.cell? ⟨b, 1, none⟩ = some (.int .i64 k) ∧ w.cell? ⟨b, 2, none⟩ = some (.int .i64 seed) ∧
  w.frozen? ⟨b, 1, none⟩ = false ∧ w.frozen? ⟨b, 2, none⟩ = false ∧ b < w.heap.size ∧ 0 ≤ seed ∧ seed < 2147483648 ∧
  ∀ i, i < len → ∃ (xb xo : Nat), c = some ⟨xb, xo, none⟩ ∧ xb < b ∧ w.cell? ⟨xb, xo + i, none⟩ = some (.int .u8 (z i))
theorem SrcX.drewN {w : World} {b : Nat} {c : Option Addr} {len cap : Nat} {z : Nat → Int} {k : Nat} {seed : Int} (h : SrcX w b c len cap z k seed) (m : Nat) : SrcX (w.drewN m) b c len cap z k seed := h
theorem SrcX.chg {P : Nat → Prop} {w w' : World} {b : Nat} {c : Option Addr} {len cap : Nat} {z : Nat → Int} {k : Nat} {seed : Int} (h : SrcX w b c len cap z k seed) (q : Chg P w w') (hp : ∀ i, i ≤ b → ¬ P i) : SrcX w' b c len cap z k seed := by
  obtain ⟨a0, a1, a2, a3, a4, a5, a6, a7, a8⟩ := h
  refine ⟨?_, ?_, ?_, ?_, ?_, Nat.lt_of_lt_of_le a5 q.size, a6, a7, ?_⟩
  · rw [q.cell (p := ⟨b, 0, none⟩) a5 (hp b (Nat.le_refl _)), a0]
  · rw [q.cell (p := ⟨b, 1, none⟩) a5 (hp b (Nat.le_refl _)), a1]
  · rw [q.cell (p := ⟨b, 2, none⟩) a5 (hp b (Nat.le_refl _)), a2]
  · rw [World.frozen?_of_block (a := ⟨b, 1, none⟩) (q.block b a5 (hp b (Nat.le_refl _))), a3]
  · rw [World.frozen?_of_block (a := ⟨b, 2, none⟩) (q.block b a5 (hp b (Nat.le_refl _))), a4]
  · intro i hi
    obtain ⟨xb, xo, e, l, hc⟩ := a8 i hi
    exact ⟨xb, xo, e, l, by rw [q.cell (p := ⟨xb, xo + i, none⟩) (by show xb < _; omega) (hp xb (by omega)), hc]⟩
theorem SrcX.put {w : World} {b : Nat} {c : Option Addr} {len cap : Nat} {z : Nat → Int} {k : Nat} {seed : Int} (h : SrcX w b c len cap z k seed) (k' : Nat) (seed' : Int) (s0 : 0 ≤ seed') (s1 : seed' < 2147483648) :
    SrcX ((w.setCell ⟨b, 1, none⟩ (.int .i64 k')).setCell ⟨b, 2, none⟩ (.int .i64 seed')) b c len cap z k' seed' := by
  obtain ⟨a0, a1, a2, a3, a4, a5, a6, a7, a8⟩ := h
  refine ⟨?_, ?_, ?_, by simpa using a3, by simpa using a4, by simpa using a5, s0, s1, ?_⟩
  · rw [World.cell?_setCell_other _ _ _ _ (by simp), World.cell?_setCell_other _ _ _ _ (by simp), a0]
  · rw [World.cell?_setCell_other _ _ _ _ (by simp), World.cell?_setCell_same w _ _ a1]
  · rw [World.cell?_setCell_same _ _ _ (show (w.setCell ⟨b, 1, none⟩ (.int .i64 k')).cell? ⟨b, 2, none⟩ = some (.int .i64 seed) by rw [World.cell?_setCell_other _ _ _ _ (by simp), a2])]
  · intro i hi
    obtain ⟨xb, xo, e, l, hc⟩ := a8 i hi
    refine ⟨xb, xo, e, l, ?_⟩
    rw [World.cell?_setCell_other _ _ _ _ (by intro q; injection q with q1; omega), World.cell?_setCell_other _ _ _ _ (by intro q; injection q with q1; omega), hc]
theorem SrcX.put1 {w : World} {b : Nat} {c : Option Addr} {len cap : Nat} {z : Nat → Int} {k : Nat} {seed : Int} (h : SrcX w b c len cap z k seed) (k' : Nat) :
    SrcX (w.setCell ⟨b, 1, none⟩ (.int .i64 k')) b c len cap z k' seed := by
  obtain ⟨a0, a1, a2, a3, a4, a5, a6, a7, a8⟩ := h
  refine ⟨?_, ?_, ?_, by simpa using a3, by simpa using a4, by simpa using a5, a6, a7, ?_⟩
  · rw [World.cell?_setCell_other _ _ _ _ (by simp), a0]
  · rw [World.cell?_setCell_same w _ _ a1]
  · rw [World.cell?_setCell_other _ _ _ _ (by simp), a2]
  · intro i hi
    obtain ⟨xb, xo, e, l, hc⟩ := a8 i hi
    refine ⟨xb, xo, e, l, ?_⟩
    rw [World.cell?_setCell_other _ _ _ _ (by intro q; injection q with q1; omega), hc]
/-- The byte that comes. -/
def ByX (b : Nat) (c : Option Addr) (len cap : Nat) (z : Nat → Int) (k : Nat) (seed : Int) (f : Int → Int) (w : World) (e : Ending) (w' : World) : Prop :=
  e = .returned (.int .i64 (f (byF z len k seed).1)) ∧ SrcX w' b c len cap z (k + 1) (byF z len k seed).2 ∧ Chg (fun i => i = b) w w'

theorem byteX_any (b : Nat) (c : Option Addr) (len cap : Nat) (z : Nat → Int) (k : Nat) (seed : Int) (w : World) (h : SrcX w b c len cap z k seed) (hz : isB z) (hl : (len : Int) ≤ 9223372036854775807) (hk : k ≤ 1000000000) :
    Calls Tryd.prog 130 #[.pointer (some ⟨b, 0, none⟩)] w fun e w' => ByX b c len cap z k seed id w e w' := by
  have hs := h
  have hzk := hz k
  obtain ⟨a0, a1, a2, a3, a4, a5, a6, a7, a8⟩ := h
  by_cases hk1 : k < len
  · obtain ⟨xb, xo, rfl, l, cz⟩ := a8 k hk1
    have e : byF z len k seed = (z k, (seed * 31 + z k + 7) % 2147483648) := if_pos hk1
    refine (byte_in b xb xo k len cap seed (z k) w l a0 a1 a2 a3 a4 cz hk1 hl a6 a7 hzk.1 (by omega)).mono ?_
    rintro _ w' ⟨rfl, m, rfl⟩
    exact ⟨by rw [e]; rfl, by rw [e]; exact (hs.put (k + 1) _ (by omega) (by omega)).drewN m, chg_put _ _ _ _ _⟩
  · by_cases hk3 : k < 3000
    · have e : byF z len k seed = ((seed * 1103515245 + 12345) % 2147483648 / 65536 % 256, (seed * 1103515245 + 12345) % 2147483648) := by unfold byF; rw [if_neg hk1, if_pos hk3]
      refine (byte_out b k len cap c seed w a0 a1 a2 a3 a4 (by omega) hk3 a6 a7).mono ?_
      rintro _ w' ⟨rfl, m, rfl⟩
      exact ⟨by rw [e]; rfl, by rw [e]; exact (hs.put (k + 1) _ (by omega) (by omega)).drewN m, chg_put _ _ _ _ _⟩
    · have e : byF z len k seed = (0, seed) := by unfold byF; rw [if_neg hk1, if_neg hk3]
      refine (byte_end b k len cap c w a0 a1 a3 (by omega) (by omega) (by omega)).mono ?_
      rintro _ w' ⟨rfl, m, rfl⟩
      exact ⟨by rw [e]; rfl, by rw [e]; exact (hs.put1 (k + 1)).drewN m, chg_put1 _ _ _ _⟩

set_option maxHeartbeats 1000000 in
theorem nextX_any (N : Int) (b : Nat) (c : Option Addr) (len cap : Nat) (z : Nat → Int) (k : Nat) (seed : Int) (w : World) (h : Hid (SrcX w b c len cap z k seed)) (hz : Hid (isB z)) (hl : (len : Int) ≤ 9223372036854775807) (hk : k ≤ 1000000000) (N1 : 1 < N) (N2 : N ≤ 256) :
    Calls Tryd.prog 104 #[.pointer (some ⟨b, 0, none⟩), .int .i64 N] w fun e w' => ByX b c len cap z k seed (fun x => x % N) w e w' := by
  have N3 : ¬ N ≤ 1 := by omega
  have hb := byF_in (len := len) (k := k) hz.out h.out.2.2.2.2.2.2.1 h.out.2.2.2.2.2.2.2.1
  go_enter Tryd.func104, Tryd.ntmps104
  go_wp2_with fail
  refine (byteX_any b c len cap z k seed _ h.out hz.out hl hk).mono ?_
  rintro e w' ⟨he, hS, hB⟩
  have HS := hik hS
  clear hS
  obtain ⟨r, hr⟩ : ∃ r, r = (byF z len k seed).1 := ⟨_, rfl⟩
  have he : e = .returned (.int .i64 r) := by rw [he, hr]; rfl
  subst he
  rw [← hr] at hb
  have HR := hik hr
  clear hr
  go_wp2
  go_ret
  refine ⟨?_, HS.out, hB⟩
  rw [← HR.out]
  rfl

/-- The seeds and the bytes of a new source. -/
def sdF (z : Nat → Int) (len : Nat) : Nat → Int
  | 0 => (len : Int) % 1000
  | k + 1 => (byF z len k (sdF z len k)).2
def obF (z : Nat → Int) (len k : Nat) : Int := (byF z len k (sdF z len k)).1
/-- How many bytes are drawn, and which. -/
def dmF (z : Nat → Int) (len N : Nat) : Nat := (obF z len 0 % ((N : Int) + 1)).toNat
def dzF (z : Nat → Int) (len i : Nat) : Int := obF z len (1 + i) % 256
theorem dzF_B (z : Nat → Int) (len : Nat) : isB (dzF z len) := fun i => by unfold dzF; omega
theorem dmF_le (z : Nat → Int) (len N : Nat) : dmF z len N ≤ N := by
  unfold dmF
  have := Int.emod_lt_of_pos (obF z len 0) (show (0 : Int) < (N : Int) + 1 by omega)
  have := Int.emod_nonneg (obF z len 0) (show ((N : Int) + 1) ≠ 0 by omega)
  omega
/-- A new source. -/
def NewX (c : Option Addr) (len cap : Nat) (z : Nat → Int) (w : World) (e : Ending) (w' : World) : Prop := e = .returned (.pointer (some ⟨w.heap.size, 0, none⟩)) ∧ SrcX w' w.heap.size c len cap z 0 (sdF z len 0) ∧ Chg nob w w'

set_option maxHeartbeats 1000000 in
theorem l00SourceX_any (c : Option Addr) (len cap : Nat) (z : Nat → Int) (w : World) (h : Hid (RowV w c len (bb z))) (hl : (len : Int) ≤ 9223372036854775807) :
    Calls Tryd.prog 55 #[.slice c len cap] w fun e w' => NewX c len cap z w e w' := by
  go_enter Tryd.func55, Tryd.ntmps55
  go_wp2
  go_ret
  refine ⟨rfl, ?_, (Chg.refl _ _).alloc _⟩
  refine ⟨by go_simp, by go_simp, (by show _ = some (Value.int .i64 ((len : Int) % 1000)); go_simp), by go_simp, by go_simp, by simp, by unfold sdF; omega, by unfold sdF; omega, fun i hi => ?_⟩
  obtain ⟨xb, xo, e, l, hc⟩ := h.out i hi
  refine ⟨xb, xo, e, l, ?_⟩
  rw [((Chg.refl nob w).alloc _).see hc]
  rfl

/-- The bytes that come, in new memory. -/
def BytX (z : Nat → Int) (len N : Nat) (w : World) (e : Ending) (w' : World) : Prop :=
  ∃ v, e = .returned v ∧ w'.ownsRow w.heap.size 5 1 v (dmF z len N) ((List.range (dmF z len N)).map (bb (dzF z len))) ∧ Chg nob w w'

set_option maxRecDepth 100000 in
set_option maxHeartbeats 2000000 in
theorem bytesX_any (b : Nat) (c : Option Addr) (len cap : Nat) (z : Nat → Int) (N : Nat) (w : World) (h : Hid (SrcX w b c len cap z 0 (sdF z len 0))) (hz : Hid (isB z)) (hl : (len : Int) ≤ 9223372036854775807) (N1 : 1 ≤ N) (N2 : N ≤ 255) :
    Calls Tryd.prog 76 #[.pointer (some ⟨b, 0, none⟩), .int .i64 N] w fun e w' => ∃ v, e = .returned v ∧ w'.ownsRow w.heap.size 5 1 v (dmF z len N) ((List.range (dmF z len N)).map (bb (dzF z len))) ∧ Chg (fun i => i = b) w w' := by
  obtain ⟨i0, hi, hz0, hz1, hz2⟩ := info_parts infoB
  have HI := hik hi
  have HZ0 := hik hz0
  have HZ1 := hik hz1
  have HZ2 := hik hz2
  clear hi hz0 hz1 hz2
  have hbl : b < w.heap.size := h.out.2.2.2.2.2.1
  obtain ⟨M, hM⟩ : ∃ M, M = dmF z len N := ⟨_, rfl⟩
  have HM := hik hM
  have hMN : M ≤ N := by rw [hM]; exact dmF_le _ _ _
  rw [← hM]
  clear hM
  have n1 : (1 : Int) < (N : Int) + 1 := by omega
  have n2 : (N : Int) + 1 ≤ 256 := by omega
  go_enter Tryd.func76, Tryd.ntmps76
  go_wp2_with fail
  refine (nextX_any ((N : Int) + 1) b c len cap z 0 (sdF z len 0) _ (hik (h.out.chg ((Chg.refl nob w).alloc (.cells #[] 5)) (fun _ _ x => x))) hz hl (by omega) n1 n2).mono ?_
  rintro e W1 ⟨he, hS1, k1⟩
  have he : e = .returned (.int .i64 (M : Int)) := by
    rw [he, HM.out]
    unfold dmF obF
    rw [Int.toNat_of_nonneg (Int.emod_nonneg _ (by omega))]
  subst he
  have S1 : Hid (SrcX W1 b c len cap z (1 + 0) (sdF z len (1 + 0))) := hik hS1
  have C1 := hik (((Chg.refl (fun k => k = b) w).alloc (.cells #[] 5)).trans (k1.mono (fun _ _ x => x)))
  have O1 := hik (owns_chg (owns_new w w.heap.size 5 1 (Nat.le_refl _)) k1 (fun i hi e => by omega))
  clear hS1 k1
  go_wp2
  go_loopw [5, 6] (fun v i W => ∃ (k m : Nat), i = .int .i64 k ∧ k + m = M ∧ Hid (W.ownsRow w.heap.size 5 1 v m ((List.range m).map (bb (dzF z len)))) ∧ Hid (SrcX W b c len cap z (1 + m) (sdF z len (1 + m))) ∧ Hid (Chg (fun k => k = b) w W)) (fun _ i _ => (intOf i).toNat)
  case atStart => exact ⟨M, 0, rfl, by omega, O1, S1, C1⟩
  case round =>
    clear O1 S1 C1
    obtain ⟨k, m, rfl, hkm, HO, HS, HC⟩ := hrel
    have HKM := hik hkm
    have hm255 : m ≤ 255 := by omega
    have hk255 : k ≤ 255 := by omega
    clear hkm
    have hs0 := HC.out.size
    by_cases hk : 0 < (k : Int)
    · go_wp2_with fail
      refine (nextX_any 256 b c len cap z (1 + m) (sdF z len (1 + m)) _ HS hz hl (by omega) (by omega) (by omega)).mono ?_
      rintro e W2 ⟨he, hS2, k2⟩
      obtain ⟨r, hr⟩ : ∃ r, r = dzF z len m := ⟨_, rfl⟩
      have he : e = .returned (.int .i64 r) := by rw [he, hr]; rfl
      subst he
      have hrB := dzF_B z len m
      rw [← hr] at hrB
      have HRR := hik hr
      have S2 : Hid (SrcX W2 b c len cap z (1 + (m + 1)) (sdF z len (1 + (m + 1)))) := hik hS2
      have C2 := hik (HC.out.trans k2)
      have O2 := hik (owns_chg HO.out k2 (fun i hi e => by omega))
      have hs2 := C2.out.size
      clear hS2 k2 hr
      have r0 : 0 ≤ r := hrB.1
      have r2 : r ≤ 255 := by omega
      go_wp2_with (at_builtin; refine wpList_append_own _ rfl (.tmp 16) (.tmp 20) 22 rfl w.heap.size 5 i0 (.int .u8 0) 1 1 Tryd.underlying22 HI.out HZ0.out HZ1.out HZ2.out rfl (by decide) _ m _ rfl (O2.out.alloc _) ⟨_, 0, none⟩ 1 1 [.int .u8 r] rfl rfl ?c1 ?c2 ?c3 ?c4 ?c5 ?c6)
      case c1 =>
        intro j u hj
        match j, hj with
        | 0, hj => simp at hj; subst hj; simp [Addr.add]
        | j + 1, hj => simp at hj
      case c2 => intro u hu; simp at hu; subst hu; rfl
      case c3 => unfold maxLen; omega
      case c4 => omega
      case c5 => simp; omega
      case c6 =>
        intro v' w1 hown hgr _
        have HOW : Hid (w1.ownsRow w.heap.size 5 1 v' (m + 1) ((List.range (m + 1)).map (bb (dzF z len)))) := hik (by rw [← bytes_snoc, ← HRR.out]; exact hown)
        have HGC := hik ((C2.out.alloc _).grown hgr (fun b e l => absurd (O2.out.lt b e).1 (by omega)))
        have HSR := hik (S2.out.chg (((Chg.refl (fun i => w.heap.size ≤ i) W2).alloc _).grown hgr (fun b e l => (O2.out.lt b e).1)) (fun i hi q => by omega))
        clear hown hgr O2 C2 S2 HO HS HC
        go_wp2
        go_roundw
        case rel => exact ⟨k - 1, m + 1, by go_num, by have := HKM.out; omega, HOW, HSR, HGC⟩
        case measure => simp [intOf]; omega
    · obtain rfl : k = 0 := by omega
      obtain rfl : m = M := by have := HKM.out; omega
      go_wp2
      go_ret
      exact ⟨_, rfl, HO.out, HC.out⟩

set_option maxHeartbeats 1000000 in
theorem bytesOfX_any (c : Option Addr) (len cap N : Nat) (z : Nat → Int) (w : World) (h : Hid (RowV w c len (bb z))) (hz : Hid (isB z)) (hl : (len : Int) ≤ 9223372036854775807) (N1 : 1 ≤ N) (N2 : N ≤ 255) :
    Calls Tryd.prog 28 #[.slice c len cap, .int .i64 N] w fun e w' => BytX z len N w e w' := by
  go_enter Tryd.func28, Tryd.ntmps28
  go_wp2_with fail
  refine (l00SourceX_any c len cap z _ h hl).mono ?_
  rintro e w1 ⟨rfl, hS, hB⟩
  have HS := hik hS
  have HB := hik hB
  clear hS hB
  go_wp2_with fail
  refine (bytesX_any _ c len cap z N _ HS hz hl N1 N2).mono ?_
  rintro e w2 ⟨v, rfl, ho, hC2⟩
  have HO := hik ho
  have HC := hik hC2
  clear ho hC2
  go_wp2
  go_ret
  exact ⟨_, rfl, owns_down HO.out HB.out.size, HB.out.near HC.out (fun i e => by omega)⟩

theorem bytes_rowV {w : World} {c : Option Addr} {len : Nat} {z : Nat → Int} (h : RowV w c len (bb z)) (hz : isB z) : Bytes w c len := by
  intro i hi
  obtain ⟨xb, xo, e, l, hc⟩ := h i hi
  have := hz i
  exact ⟨xb, xo, z i, e, l, hc, this.1, by omega⟩

set_option maxHeartbeats 400000 in
theorem at_one (c : Option Addr) (len cap : Nat) (i n : Int) (w : World) (h : n ≤ 1) :
    Calls Tryd.prog 26 #[.slice c len cap, .int .i64 i, .int .i64 n] w fun e w' => e = .returned (.int .i64 0) ∧ w = w' := by
  go_enter Tryd.func26, Tryd.ntmps26
  go_wp2
  go_ret
  exact ⟨rfl, rfl⟩
/-- A place below n. -/
def AtAns (n : Nat) (w : World) (e : Ending) (w' : World) : Prop := ∃ m : Nat, e = .returned (.int .i64 m) ∧ m < n ∧ Chg nob w w'
theorem at_place (c : Option Addr) (len cap : Nat) (n : Nat) (w : World) (h : Bytes w c len) (hl : (len : Int) ≤ 9223372036854775807) (n1 : 1 ≤ n) (n2 : n ≤ 1000000000) :
    Calls Tryd.prog 26 #[.slice c len cap, .int .i64 0, .int .i64 n] w fun e w' => AtAns n w e w' := by
  by_cases hn : n = 1
  · refine (at_one c len cap 0 n w (by omega)).mono ?_
    rintro e w' ⟨rfl, rfl⟩
    exact ⟨0, rfl, by omega, Chg.refl _ _⟩
  · refine (at_any c len cap 0 n w h hl (by omega) (by omega) (by omega) (by omega)).mono ?_
    rintro e w' ⟨r, rfl, r0, r1, hb⟩
    exact ⟨r.toNat, by rw [Int.toNat_of_nonneg r0], by omega, chg_of_below hb⟩
end Go.Proofs.YtabioonijjibnabDoor
