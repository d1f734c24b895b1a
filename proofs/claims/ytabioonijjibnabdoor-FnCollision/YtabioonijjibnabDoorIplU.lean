/- What the program's ways up, looks at paths and CheckPath answer: contracts. Conditions: rows that can be read; the tables hold the shifts and the rounds' constants. -/
import Derived.Test.YtabioonijjibnabDoorIplC
import Derived.Test.YtabioonijjibnabDoorIplH
import Derived.Test.YtabioonijjibnabDoorMrkC
namespace Go.Proofs.YtabioonijjibnabDoor
open Go.ChangeShapes Go.WideShapes Go.ChangeAt Go.RowKit
set_option linter.unusedVariables false
set_option maxRecDepth 100000
set_option linter.unusedSimpArgs false

/-- The texts of a way up, in new memory. -/
def TuAns (w : World) (i : Nat) (t : ByteArray) (P : Nat → ByteArray) (d : Nat) (e : Ending) (w' : World) : Prop :=
  ∃ g cap : Nat, e = .returned (.slice (some ⟨g, 0, none⟩) (d + 1) cap) ∧ w'.ownsRow w.heap.size 9 1 (.slice (some ⟨g, 0, none⟩) (d + 1) cap) (d + 1) ((List.range (d + 1)).map (upv i t P)) ∧ Chg nob w w'
theorem upT_hash (i : Nat) (t : ByteArray) (P : Nat → ByteArray) (k : Nat) : hsh (upT i t P k).1 = (upT i t P k).2 := by
  cases k with
  | zero => rfl
  | succ k => rfl
theorem upT_text (i : Nat) (t : ByteArray) (P : Nat → ByteArray) (k : Nat) (ht : t.size ≤ 64) (hz : ∀ j, j < k → (P j).size = 32) : (upT i t P k).1.size ≤ 65 := by
  cases k with
  | zero => show (lfT t).size ≤ 65; rw [lfT_size]; omega
  | succ k =>
    have h1 := hz k (by omega)
    have h2 := upT_size i t P k
    simp only [upT]
    split <;> (rw [ndT_size, h1, h2]; omega)
theorem shr_bit (i k : Nat) (hi : i < 256) (hk : k ≤ 8) : bits .and .i64 ((i : Int) / 2 ^ k) 1 = ((i / 2 ^ k % 2 : Nat) : Int) := by
  have e : (i : Int) / 2 ^ k = ((i / 2 ^ k : Nat) : Int) := by simp
  rw [e]
  have hl : i / 2 ^ k < 256 := Nat.lt_of_le_of_lt (Nat.div_le_self _ _) hi
  have : ∀ m : Nat, m < 256 → bits .and .i64 (m : Int) 1 = ((m % 2 : Nat) : Int) := by decide +kernel
  exact this _ hl

set_option maxHeartbeats 4000000 in
theorem textsUp_any (i : Nat) (t : ByteArray) (c : Option Addr) (d cap : Nat) (P : Nat → ByteArray) (w : World) (h : Hid (RowV w c d (sb P))) (hz : Hid (∀ k, k < d → (P k).size = 32)) (hd : d ≤ 8) (hi : i < 256) (ht : t.size ≤ 64) (hT : Hid (Tabs w)) :
    Calls Tryd.prog 75 #[.int .i64 i, .string t, .slice c d cap] w fun e w' => TuAns w i t P d e w' := by
  obtain ⟨i0, hi0, hz0, hz1, hz2⟩ := info_parts infoSt
  have HI := hik hi0
  have HZ0 := hik hz0
  have HZ1 := hik hz1
  have HZ2 := hik hz2
  clear hi0 hz0 hz1 hz2
  have ht' : (t.size : Int) ≤ 1099511627776 := by omega
  go_enter Tryd.func75, Tryd.ntmps75
  go_wp2_with (go_at_call 71; refine (leafText_any t _ ht').mono ?_; rintro e W1 ⟨rfl, hw⟩; subst hw)
  go_loopw [7, 16] (fun v7 v16 W => ∃ (k g cp : Nat), k ≤ d ∧ v16 = .int .i64 k ∧ v7 = .slice (some ⟨g, 0, none⟩) (k + 1) cp ∧ Hid (W.ownsRow w.heap.size 9 1 (.slice (some ⟨g, 0, none⟩) (k + 1) cp) (k + 1) ((List.range (k + 1)).map (upv i t P))) ∧ Hid (Chg nob w W)) (fun _ v _ => d - (intOf v).toNat)
  case atStart => exact ⟨0, w.heap.size, 1, Nat.zero_le _, rfl, rfl, hik (owns_one w _ _ _ (Nat.le_refl _)), hik ((Chg.refl _ _).alloc _)⟩
  case round =>
    obtain ⟨k, g, cp, hk, rfl, rfl, HW, HG⟩ := hrel
    have hs1 := HG.out.size
    by_cases hlt : k < d
    · obtain ⟨xb, xo, rfl, hxb, hcell⟩ := (h.out.keep HG.out) k hlt
      have hx : _ = some (Value.string (P k)) := hcell
      clear hcell
      have z1 : (P k).size = 32 := hz.out k hlt
      have z1' : ((P k).size : Int) ≤ 1099511627776 := by omega
      have hy : wr.cell? ⟨g, k, none⟩ = some (.string (upT i t P k).1) := by
        have := HW.out.cells rfl k (upv i t P k) (by rw [List.getElem?_map, List.getElem?_range (by omega)]; rfl)
        rw [Go.WideShapes.add_plain, Nat.zero_add] at this
        exact this
      have HX := hik (upT_text i t P k ht (fun j hj => hz.out j (by omega)))
      have HH := hik (upT_hash i t P k)
      have SH := hik (upT_size i t P k)
      have hb := shr_bit i k hi (by omega)
      have hk1 : (k : Int) < (k : Int) + 1 := by omega
      go_wp2_with fail
      refine (hashOf_any (upT i t P k).1 _ (hik (hT.out.keep HG.out)) (by have := HX.out; omega)).mono ?_
      rintro e W2 ⟨he, k2⟩
      obtain ⟨y, hyy⟩ : ∃ y, y = hsh (upT i t P k).1 := ⟨_, rfl⟩
      rw [← hyy] at he
      subst he
      have HY := hik (hyy.trans HH.out)
      have zy : y.size = 32 := by rw [HY.out]; exact SH.out
      have zy' : (y.size : Int) ≤ 1099511627776 := by omega
      have O2 := hik (owns_kept HW.out k2)
      have G2 := hik (HG.out.trans k2)
      have hs2 := G2.out.size
      clear hyy k2 hx hy HW HG
      by_cases hp : i / 2 ^ k % 2 = 1
      · rw [hp] at hb
        have HX2 : Hid (Value.string (ndT (P k) y) = upv i t P (k + 1)) := hik (by unfold upv; simp only [upT]; rw [if_pos hp, ← HY.out])
        clear hp HX HH SH
        go_wp2_with (first | (go_at_call 72; refine (nodeText_any (P k) y _ (by omega) (by omega)).mono ?_; rintro e W3 ⟨rfl, hw⟩; subst hw) | (at_builtin; refine wpList_append_own _ rfl (.tmp 37) (.tmp 41) 29 rfl w.heap.size 9 i0 (.string ⟨#[]⟩) 1 16 Tryd.underlying29 HI.out HZ0.out HZ1.out HZ2.out rfl (by decide) _ (k + 1) _ rfl (O2.out.alloc _) ⟨_, 0, none⟩ 1 1 [.string (ndT (P k) y)] rfl rfl ?c1 ?c2 ?c3 ?c4 ?c5 ?c6))
        case c1 =>
          intro j u hj
          match j, hj with
          | 0, hj => simp at hj; subst hj; simp [Addr.add]
          | j + 1, hj => simp at hj
        case c2 => intro u hu; simp at hu; subst hu; rfl
        case c3 => unfold maxLen; omega
        case c4 => omega
        case c5 => simp; omega
        case c6 =>
          intro v' w1 hown hgr _
          have HOW : Hid (w1.ownsRow w.heap.size 9 1 v' (k + 1 + 1) ((List.range (k + 1 + 1)).map (upv i t P))) := hik (by rw [← snoc_map, ← HX2.out, ← snoc_map, List.append_assoc]; exact hown)
          have HGC := hik ((G2.out.alloc _).grown hgr (fun b e l => absurd (O2.out.lt b e).1 (by omega)))
          obtain ⟨g', cp', rfl, _⟩ := rowV_of_owns HOW.out (by omega)
          clear hown hgr
          go_wp2
          go_roundw
          case rel => exact ⟨k + 1, g', cp', by omega, by go_num, rfl, HOW, HGC⟩
          case measure => simp [intOf]; omega
      · rw [show i / 2 ^ k % 2 = 0 by omega] at hb
        have HX2 : Hid (Value.string (ndT y (P k)) = upv i t P (k + 1)) := hik (by unfold upv; simp only [upT]; rw [if_neg hp, ← HY.out])
        clear hp HX HH SH
        go_wp2_with (first | (go_at_call 72; refine (nodeText_any y (P k) _ (by omega) (by omega)).mono ?_; rintro e W3 ⟨rfl, hw⟩; subst hw) | (at_builtin; refine wpList_append_own _ rfl (.tmp 31) (.tmp 35) 29 rfl w.heap.size 9 i0 (.string ⟨#[]⟩) 1 16 Tryd.underlying29 HI.out HZ0.out HZ1.out HZ2.out rfl (by decide) _ (k + 1) _ rfl (O2.out.alloc _) ⟨_, 0, none⟩ 1 1 [.string (ndT y (P k))] rfl rfl ?c1 ?c2 ?c3 ?c4 ?c5 ?c6))
        case c1 =>
          intro j u hj
          match j, hj with
          | 0, hj => simp at hj; subst hj; simp [Addr.add]
          | j + 1, hj => simp at hj
        case c2 => intro u hu; simp at hu; subst hu; rfl
        case c3 => unfold maxLen; omega
        case c4 => omega
        case c5 => simp; omega
        case c6 =>
          intro v' w1 hown hgr _
          have HOW : Hid (w1.ownsRow w.heap.size 9 1 v' (k + 1 + 1) ((List.range (k + 1 + 1)).map (upv i t P))) := hik (by rw [← snoc_map, ← HX2.out, ← snoc_map, List.append_assoc]; exact hown)
          have HGC := hik ((G2.out.alloc _).grown hgr (fun b e l => absurd (O2.out.lt b e).1 (by omega)))
          obtain ⟨g', cp', rfl, _⟩ := rowV_of_owns HOW.out (by omega)
          clear hown hgr
          go_wp2
          go_roundw
          case rel => exact ⟨k + 1, g', cp', by omega, by go_num, rfl, HOW, HGC⟩
          case measure => simp [intOf]; omega
    · obtain rfl : k = d := by omega
      go_wp2
      go_ret
      exact ⟨g, cp, rfl, HW.out, HG.out⟩
/-- Is a path as long as it takes, of hashes? -/
def pob (n : Int) (d : Nat) (P : Nat → ByteArray) : Bool :=
  if n = ((2 ^ min 20 d : Nat) : Int) then (if ∀ k, k < d → (P k).size = 32 then true else false) else false
theorem w64_pow_big (n : Int) (d : Nat) (h1 : 1 ≤ n) (h2 : n ≤ 256) (h : 9 ≤ d) : ¬ wrap64 ((2 : Int) ^ min d 64) = n := by
  obtain ⟨m, hm⟩ : ∃ m, m = min d 64 := ⟨_, rfl⟩
  rw [← hm]
  by_cases h20 : m ≤ 62
  · have e : ((2 : Int) ^ m) = ((2 ^ m : Nat) : Int) := by simp
    have e1 := Nat.pow_le_pow_right (show 0 < 2 by omega) h20
    have e2 := Nat.pow_le_pow_right (show 0 < 2 by omega) (show 9 ≤ m by omega)
    rw [e, IntWalk.wrap64_in _ ⟨by omega, by omega⟩]
    omega
  · have h63 : m = 63 ∨ m = 64 := by omega
    rcases h63 with rfl | rfl
    · have : wrap64 ((2 : Int) ^ 63) = -9223372036854775808 := by decide +kernel
      omega
    · have : wrap64 ((2 : Int) ^ 64) = 0 := by decide +kernel
      omega

set_option maxHeartbeats 2000000 in
theorem pathOK_any (n : Int) (c : Option Addr) (d cap : Nat) (P : Nat → ByteArray) (w : World) (h : Hid (RowV w c d (sb P))) (hz : Hid (∀ k, k < d → (P k).size ≤ 9223372036854775807)) (hd : d ≤ 4096) (hn : pw n = true) :
    Calls Tryd.prog 110 #[.int .i64 n, .slice c d cap] w fun e w' => e = .returned (.bool (pob n d P)) ∧ w = w' := by
  obtain ⟨jn, hjn, hnn⟩ := pw_ex n hn
  have n1 : 1 ≤ n := by have := two_pos jn; omega
  have n2 : n ≤ 256 := by have := two_le jn hjn; omega
  clear hjn hnn
  by_cases h2 : wrap64 ((2 : Int) ^ min d 64) = n
  · have hd8 : d ≤ 8 := Classical.byContradiction (fun q => w64_pow_big n d n1 n2 (by omega) h2)
    have HE := hik (show pob n d P = if ∀ k, k < d → (P k).size = 32 then true else false from if_pos (by
      rw [show min 20 d = d by omega, ← h2, show min d 64 = d by omega, w64_pow d (by omega)]; simp))
    rw [show min d 64 = d by omega] at h2
    have hb : ((wrap64 ((2 : Int) ^ d)) != n) = false := by simp [h2]
    go_enter Tryd.func110, Tryd.ntmps110
    go_wp2
    go_loop [14] (fun v => ∃ k : Nat, k ≤ d ∧ v = .int .i64 k ∧ Hid (∀ j, j < k → (P j).size = 32)) (fun v => d - (intOf v).toNat)
    case atStart => exact ⟨0, Nat.zero_le _, rfl, hik (fun j hj => absurd hj (by omega))⟩
    case round =>
      obtain ⟨k, hk, rfl, HK⟩ := hrel
      by_cases hlt : k < d
      · obtain ⟨xb, xo, rfl, hxb, hcell⟩ := h.out k hlt
        have hx : _ = some (Value.string (P k)) := hcell
        clear hcell
        have hzk : ((P k).size : Int) ≤ 9223372036854775807 := by have := hz.out k hlt; omega
        by_cases hs : ((P k).size : Int) = 32
        · go_wp2
          go_round
          case rel => exact ⟨k + 1, by omega, by go_num, hik (fun j hj => by
            by_cases e : j = k
            · subst e; omega
            · exact HK.out j (by omega))⟩
          case measure => simp [intOf]; omega
        · have E := hik (show pob n d P = false by rw [HE.out, if_neg (fun q => hs (by rw [q k hlt]; rfl))])
          go_wp2
          go_ret
          exact ⟨by rw [E.out]; rfl, rfl⟩
      · obtain rfl : k = d := by omega
        have E := hik (show pob n k P = true by rw [HE.out, if_pos HK.out])
        go_wp2
        go_ret
        exact ⟨by rw [E.out]; rfl, rfl⟩
  · have E := hik (show pob n d P = false from if_neg (by
      intro q
      by_cases hd8 : d ≤ 20
      · exact h2 (by rw [show min d 64 = d by omega, w64_pow d hd8, q, show min 20 d = d by omega]; simp)
      · rw [show min 20 d = 20 by omega] at q
        omega))
    have hb : ((wrap64 ((2 : Int) ^ min d 64)) != n) = true := by simpa using h2
    go_enter Tryd.func110, Tryd.ntmps110
    go_wp2
    go_ret
    exact ⟨by rw [E.out]; rfl, rfl⟩
theorem ckb_pob (r : ByteArray) (n : Int) (i : Nat) (t : ByteArray) (d : Nat) (P : Nat → ByteArray) (ht : t.size ≤ 64) : ckb r n i t d P = if pob n d P = true then ((upT i t P d).2.toList == r.toList) else false := by
  unfold ckb pob
  by_cases h1 : n = ((2 ^ min 20 d : Nat) : Int)
  · rw [if_neg (fun q => q.elim (fun q => by omega) (fun q => q h1)), if_pos h1]
    by_cases h2 : ∀ k, k < d → (P k).size = 32
    · rw [if_pos h2, if_pos h2, if_pos rfl]
    · rw [if_neg h2, if_neg h2]; simp
  · rw [if_pos (.inr h1), if_neg h1]; simp
theorem pob_ok {n : Int} {d : Nat} {P : Nat → ByteArray} (h : pob n d P = true) (hp : pw n = true) : d ≤ 8 ∧ ∀ k, k < d → (P k).size = 32 := by
  unfold pob at h
  split at h
  · rename_i e
    split at h
    · rename_i h2
      obtain ⟨j, hj, hn⟩ := pw_ex n hp
      have e1 : 2 ^ min 20 d = 2 ^ j := by rw [e] at hn; exact Int.ofNat.inj hn
      have e2 := two_le j hj
      by_cases q : 9 ≤ min 20 d
      · have := Nat.pow_le_pow_right (show 0 < 2 by omega) q
        omega
      · exact ⟨by omega, h2⟩
    · cases h
  · cases h

set_option maxHeartbeats 2000000 in
theorem leadsUp_any (r : ByteArray) (n : Int) (i : Nat) (t : ByteArray) (c : Option Addr) (d cap : Nat) (P : Nat → ByteArray) (w : World) (h : Hid (RowV w c d (sb P))) (hz : Hid (∀ k, k < d → (P k).size ≤ 9223372036854775807)) (ht : (t.size : Int) ≤ 9223372036854775807) (hd : d ≤ 4096) (hn : pw n = true) (hi : i < 256) (hT : Hid (Tabs w)) :
    Calls Tryd.prog 67 #[.string r, .int .i64 n, .int .i64 i, .string t, .slice c d cap] w fun e w' => e = .returned (.bool (ckb r n i t d P)) ∧ Chg nob w w' := by
  by_cases h1 : 64 < (t.size : Int)
  · have E := hik (show ckb r n i t d P = false from if_pos (.inl (by omega)))
    go_enter Tryd.func67, Tryd.ntmps67
    go_wp2
    go_ret
    exact ⟨by rw [E.out]; rfl, Chg.refl _ _⟩
  have HE := hik (ckb_pob r n i t d P (by omega))
  cases hp : pob n d P
  · have E := hik (show ckb r n i t d P = false by rw [HE.out, hp]; rfl)
    go_enter Tryd.func67, Tryd.ntmps67
    go_wp2_with (go_at_call 110; refine (pathOK_any n c d cap P _ h hz hd hn).mono ?_; rintro e W1 ⟨rfl, hw⟩; subst hw)
    go_ret
    exact ⟨by rw [E.out]; rfl, Chg.refl _ _⟩
  · have E := hik (show ckb r n i t d P = ((upT i t P d).2.toList == r.toList) by rw [HE.out, hp]; rfl)
    obtain ⟨hd8, hz32⟩ := pob_ok hp hn
    have HZ := hik hz32
    have hd' : (d : Int) ≤ 8 := by omega
    have ht64 : t.size ≤ 64 := by omega
    have HX := hik (upT_text i t P d ht64 HZ.out)
    have HH := hik (upT_hash i t P d)
    clear hz32
    go_enter Tryd.func67, Tryd.ntmps67
    go_wp2_with (first | (go_at_call 110; refine (pathOK_any n c d cap P _ h hz hd hn).mono ?_; rintro e W1 ⟨rfl, hw⟩; subst hw) | (go_at_call 75; refine (textsUp_any i t c d cap P _ h HZ hd8 hi ht64 hT).mono ?_; rintro e W2 ⟨g2, cp2, rfl, o2, k2⟩; have G2 := hik k2; have y2 : W2.cell? ⟨g2, d, none⟩ = some (.string (upT i t P d).1) := (by have := o2.cells rfl d (upv i t P d) (by rw [List.getElem?_map, List.getElem?_range (by omega)]; rfl); rw [Go.WideShapes.add_plain, Nat.zero_add] at this; exact this); clear o2 k2; have x1 : ((d : Int) + 1 - 1) = (d : Int) := (by omega); have x2 : (d : Int) < (d : Int) + 1 := (by omega)) | (go_at_call 70; refine (hashOf_any (upT i t P d).1 _ (hik (hT.out.keep G2.out)) (by have := HX.out; omega)).mono ?_; rintro e W3 ⟨rfl, k3⟩; have G3 := hik (G2.out.trans k3); clear k3))
    go_ret
    exact ⟨by rw [E.out, ← HH.out]; rfl, G3.out⟩

/-- A way is too long. -/
def wtl (t : ByteArray) (d : Nat) : Bool := decide (65536 < t.size ∨ 4096 < d)

set_option maxHeartbeats 1000000 in
theorem wayTooLong_any (t : ByteArray) (c : Option Addr) (d cap : Nat) (w : World) (ht : (t.size : Int) ≤ 9223372036854775807) (hd : (d : Int) ≤ 9223372036854775807) :
    Calls Tryd.prog 66 #[.string t, .slice c d cap] w fun e w' => e = .returned (.bool (wtl t d)) ∧ w = w' := by
  by_cases h1 : 65536 < (t.size : Int)
  · have E := hik (show wtl t d = true from decide_eq_true (.inl (by omega)))
    go_enter Tryd.func66, Tryd.ntmps66
    go_wp2
    go_ret
    exact ⟨by rw [E.out]; rfl, rfl⟩
  by_cases h2 : 4096 < (d : Int)
  · have E := hik (show wtl t d = true from decide_eq_true (.inr (by omega)))
    go_enter Tryd.func66, Tryd.ntmps66
    go_wp2
    go_ret
    exact ⟨by rw [E.out]; rfl, rfl⟩
  · have E := hik (show wtl t d = false from decide_eq_false (by omega))
    go_enter Tryd.func66, Tryd.ntmps66
    go_wp2
    go_ret
    exact ⟨by rw [E.out]; rfl, rfl⟩
theorem akc_plc {r : ByteArray} {n i : Int} {t : ByteArray} {d : Nat} (h : ¬ (65536 < r.size ∨ 65536 < t.size ∨ 4096 < d)) : akc r n i t d = plc n i := if_neg h

set_option maxHeartbeats 2000000 in
theorem checkPath_any (r : ByteArray) (n i : Int) (t : ByteArray) (c : Option Addr) (d cap : Nat) (P : Nat → ByteArray) (w : World) (h : Hid (RowV w c d (sb P))) (hz : Hid (∀ k, k < d → (P k).size ≤ 9223372036854775807)) (hr : (r.size : Int) ≤ 9223372036854775807) (ht : (t.size : Int) ≤ 9223372036854775807) (hd : (d : Int) ≤ 9223372036854775807) (hT : Hid (Tabs w)) :
    Calls Tryd.prog 20 #[.string r, .int .i64 n, .int .i64 i, .string t, .slice c d cap] w fun e w' => e = .returned (.tuple #[.bool (cpb r n i t d P), .int .i64 (akc r n i t d)]) ∧ Chg nob w w' := by
  by_cases h1 : 65536 < (r.size : Int)
  · have E := hik (show akc r n i t d = 2 from if_pos (.inl (by omega)))
    have F := hik (show cpb r n i t d P = false from if_neg (by rw [E.out]; decide))
    go_enter Tryd.func20, Tryd.ntmps20
    go_wp2
    go_ret2
    exact ⟨by rw [E.out, F.out]; rfl, Chg.refl _ _⟩
  by_cases h2 : 65536 < t.size ∨ 4096 < d
  · have E := hik (show akc r n i t d = 2 from if_pos (.inr h2))
    have F := hik (show cpb r n i t d P = false from if_neg (by rw [E.out]; decide))
    have hb : wtl t d = true := decide_eq_true h2
    have HW := wayTooLong_any t c d cap w ht hd
    rw [hb] at HW
    clear hb h2
    go_enter Tryd.func20, Tryd.ntmps20
    go_wp2_with (go_at_call 66; refine HW.mono ?_; rintro e W1 ⟨rfl, hw⟩; subst hw)
    go_ret2
    exact ⟨by rw [E.out, F.out]; rfl, Chg.refl _ _⟩
  have HW := wayTooLong_any t c d cap w ht hd
  rw [show wtl t d = false from decide_eq_false h2] at HW
  have hA : akc r n i t d = plc n i := akc_plc (by omega)
  by_cases h3 : plc n i = 0
  · have E := hik (show akc r n i t d = 0 by rw [hA, h3])
    obtain ⟨_, _, hd4, hp, i0, i1, _⟩ := akc_ok E.out
    obtain ⟨m, rfl⟩ : ∃ m : Nat, i = (m : Int) := ⟨i.toNat, by omega⟩
    have F := hik (show cpb r n m t d P = ckb r n m t d P by unfold cpb; rw [if_pos E.out, Int.toNat_natCast])
    have hb : (plc n m != 0) = false := by simp [h3]
    have hm : m < 256 := by omega
    have H3 := hik h3
    clear h3 hA h2
    go_enter Tryd.func20, Tryd.ntmps20
    go_wp2_with (first | (go_at_call 66; refine HW.mono ?_; rintro e W1 ⟨rfl, hw⟩; subst hw) | (go_at_call 61; refine (placeCode_any _ _ _).mono ?_; rintro e W1 ⟨rfl, hw⟩; subst hw) | (go_at_call 67; refine (leadsUp_any r n m t c d cap P _ h hz ht hd4 hp hm hT).mono ?_; rintro e W2 ⟨rfl, k2⟩))
    go_ret2
    exact ⟨by rw [E.out, F.out]; rfl, k2⟩
  · have E := hik hA
    have F := hik (show cpb r n i t d P = false from if_neg (by rw [hA]; exact h3))
    have hb : (plc n i != 0) = true := by simpa using h3
    clear h3 hA h2
    go_enter Tryd.func20, Tryd.ntmps20
    go_wp2_with (first | (go_at_call 66; refine HW.mono ?_; rintro e W1 ⟨rfl, hw⟩; subst hw) | (go_at_call 61; refine (placeCode_any _ _ _).mono ?_; rintro e W1 ⟨rfl, hw⟩; subst hw))
    go_ret2
    exact ⟨by rw [E.out, F.out]; rfl, Chg.refl _ _⟩
end Go.Proofs.YtabioonijjibnabDoor
