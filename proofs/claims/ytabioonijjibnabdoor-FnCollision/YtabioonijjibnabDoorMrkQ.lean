/- What the model's paths are: contracts. Conditions: rows that can be read. -/
import Derived.Test.YtabioonijjibnabDoorMrkR
namespace Go.Proofs.YtabioonijjibnabDoor
open Go.ChangeShapes Go.WideShapes Go.ChangeAt Go.RowKit
set_option linter.unusedVariables false
set_option maxRecDepth 100000
set_option linter.unusedSimpArgs false

/-- The place beside a place. -/
def sib (m : Nat) : Nat := if m % 2 = 1 then m - 1 else m + 1
theorem xor_one : ∀ m : Nat, m < 256 → bits .xor .i64 (m : Int) 1 = (sib m : Int) := by decide +kernel
theorem sib_lt (m q : Nat) (h : m < 2 * q) : sib m < 2 * q := by unfold sib; split <;> omega
/-- The hashes beside the way. -/
def pth (L : Nat → ByteArray) (i k : Nat) : ByteArray := lev L k (sib (i / 2 ^ k))
theorem pth_size (L : Nat → ByteArray) (i k : Nat) : (pth L i k).size = 32 := lev_size _ _ _

theorem owns_low {w : World} {B B' : Nat} {t : TypeId} {z : Nat} {v : Value} {n : Nat} {xs : List Value} (h : w.ownsRow B t z v n xs) (hb : B' ≤ B) : w.ownsRow B' t z v n xs := by
  obtain ⟨hl, h⟩ := h
  refine ⟨hl, ?_⟩
  rcases h with h | ⟨g, cap, cur, e, hb', r⟩
  · exact .inl h
  · exact .inr ⟨g, cap, cur, e, Nat.le_trans hb hb', r⟩

/-- A path, in new memory. -/
def PtAns (w : World) (L : Nat → ByteArray) (i d : Nat) (e : Ending) (w' : World) : Prop :=
  ∃ v, e = .returned v ∧ w'.ownsRow w.heap.size 9 1 v d ((List.range d).map (sb (pth L i))) ∧ Chg nob w w'

set_option maxHeartbeats 2000000 in
theorem sPath_any (g capo : Nat) (hh cc : Nat → Nat) (d i : Nat) (L : Nat → ByteArray) (w : World) (h : Hid (Levs w L d g hh cc)) (hd : d ≤ 8) (hi : i < 2 ^ d) :
    Calls Tryd.prog 64 #[.slice (some ⟨g, 0, none⟩) (d + 1) capo, .int .i64 i] w fun e w' => PtAns w L i d e w' := by
  obtain ⟨i0, hi0, hz0, hz1, hz2⟩ := info_parts infoSt
  have HI := hik hi0
  have HZ0 := hik hz0
  have HZ1 := hik hz1
  have HZ2 := hik hz2
  have HIL := hik hi
  clear hi0 hz0 hz1 hz2 hi
  go_enter Tryd.func64, Tryd.ntmps64
  go_wp2
  go_loopw [1, 5, 6] (fun v1 v5 v6 W => ∃ k m : Nat, k ≤ d ∧ v6 = .int .i64 k ∧ v1 = .int .i64 m ∧ Hid (m = i / 2 ^ k) ∧ Hid (W.ownsRow w.heap.size 9 1 v5 k ((List.range k).map (sb (pth L i)))) ∧ Hid (Chg nob w W)) (fun _ _ v _ => d - (intOf v).toNat)
  case atStart => exact ⟨0, i, Nat.zero_le _, rfl, rfl, hik (by simp), hik (owns_new _ _ _ _ (Nat.le_refl _)), hik ((Chg.refl _ _).alloc _)⟩
  case round =>
    obtain ⟨k, m, hk, rfl, rfl, HM, HW, HG⟩ := hrel
    by_cases hlt : k < d
    · have hlt' : (k : Int) + 1 < (d : Int) + 1 := by omega
      have hk1 : (k : Int) < (d : Int) + 1 := by omega
      have hmq : m < 2 * 2 ^ (d - (k + 1)) := by
        rw [HM.out, Nat.div_lt_iff_lt_mul (Nat.two_pow_pos _)]
        have e : 2 * 2 ^ (d - (k + 1)) * 2 ^ k = 2 ^ d := by
          rw [show 2 * 2 ^ (d - (k + 1)) = 2 ^ (d - (k + 1) + 1) by rw [Nat.pow_succ]; omega, ← Nat.pow_add]
          congr 1; omega
        rw [e]; exact HIL.out
      have e0 : 2 ^ (d - k) = 2 * 2 ^ (d - (k + 1)) := by
        rw [show d - k = d - (k + 1) + 1 by omega, Nat.pow_succ]; omega
      obtain ⟨q, hq⟩ : ∃ q, q = 2 ^ (d - k) := ⟨_, rfl⟩
      have hqs : q ≤ 256 := by rw [hq]; exact two_le _ (by omega)
      have hsl : sib m < q := by rw [hq, e0]; exact sib_lt _ _ hmq
      have hm256 : m < 256 := by omega
      have hx := xor_one m hm256
      have c0 : wr.cell? ⟨g, k, none⟩ = some (.slice (some ⟨hh k, 0, none⟩) q (cc k)) := by
        rw [hq]; exact HG.out.see (h.out.cell k hk)
      have c1 : wr.cell? ⟨hh k, sib m, none⟩ = some (.string (pth L i k)) := by
        obtain ⟨xb, xo, e, _, hc⟩ := (h.out.row k hk).keep HG.out (sib m) (by rw [← hq]; exact hsl)
        obtain ⟨rfl, rfl⟩ : hh k = xb ∧ 0 = xo := by simpa using e
        rw [Nat.zero_add] at hc
        unfold pth; rw [← HM.out]; exact hc
      have HM2 := hik (show m / 2 = i / 2 ^ (k + 1) by rw [HM.out, Nat.pow_succ, Nat.div_div_eq_div_mul])
      have hs1 := HG.out.size
      clear hmq e0 hq
      go_wp2_with (at_builtin; refine wpList_append_own _ rfl (.tmp 15) (.tmp 24) 29 rfl w.heap.size 9 i0 (.string ⟨#[]⟩) 1 16 Tryd.underlying29 HI.out HZ0.out HZ1.out HZ2.out rfl (by decide) _ k _ rfl (HW.out.alloc _) ⟨_, 0, none⟩ 1 1 [.string (pth L i k)] rfl rfl ?c1 ?c2 ?c3 ?c4 ?c5 ?c6)
      case c1 =>
        intro j u hj
        match j, hj with
        | 0, hj => simp at hj; subst hj; simp [Addr.add]
        | j + 1, hj => simp at hj
      case c2 => intro u hu; simp at hu; subst hu; rfl
      case c3 => unfold maxLen; omega
      case c4 => omega
      case c5 => simp; omega
      case c6 =>
        intro v' w1 hown hgr _
        have HOW : Hid (w1.ownsRow w.heap.size 9 1 v' (k + 1) ((List.range (k + 1)).map (sb (pth L i)))) := hik (by rw [← snoc_map]; exact hown)
        have HGC := hik ((HG.out.alloc _).grown hgr (fun b e l => absurd (HW.out.lt b e).1 (by omega)))
        clear hown hgr c0 c1 hx
        have v1 : (m : Int).tdiv 2 = ((m / 2 : Nat) : Int) := by rw [Int.tdiv_eq_ediv_of_nonneg (by omega)]; omega
        go_wp2
        go_roundw
        case rel => exact ⟨k + 1, m / 2, by omega, by go_num, by go_num, HM2, HOW, HGC⟩
        case measure => simp [intOf]; omega
    · obtain rfl : k = d := by omega
      go_wp2
      go_ret
      exact ⟨_, rfl, HW.out, HG.out⟩
/-- Between two numbers. -/
def inB (n a b : Int) : Bool := decide (a ≤ n ∧ n ≤ b)
set_option maxHeartbeats 400000 in
theorem sIn_any (n a b : Int) (w : World) :
    Calls Tryd.prog 63 #[.int .i64 n, .int .i64 a, .int .i64 b] w fun e w' => e = .returned (.bool (inB n a b)) ∧ w' = w := by
  by_cases h0 : a ≤ n
  · by_cases h1 : n ≤ b
    · have H := hik (show inB n a b = true from decide_eq_true (And.intro h0 h1))
      go_enter Tryd.func63, Tryd.ntmps63
      go_wp2
      go_ret
      exact ⟨by rw [H.out]; rfl, rfl⟩
    · have H := hik (show inB n a b = false from decide_eq_false (fun x => h1 x.2))
      go_enter Tryd.func63, Tryd.ntmps63
      go_wp2
      go_ret
      exact ⟨by rw [H.out]; rfl, rfl⟩
  · have H := hik (show inB n a b = false from decide_eq_false (fun x => h0 x.1))
    go_enter Tryd.func63, Tryd.ntmps63
    go_wp2
    go_ret
    exact ⟨by rw [H.out]; rfl, rfl⟩

/-- The code of a path that is asked for, and how long the path is. -/
def mpc (n : Nat) (L : Nat → ByteArray) (i : Int) : Int := if lvc n L = 0 then (if inB i 0 ((n : Int) - 1) then 0 else 4) else lvc n L
def mpl (n : Nat) (L : Nat → ByteArray) (i : Int) : Nat := if mpc n L i = 0 then Nat.log2 n else 0
/-- A path with its code, in new memory. -/
def PmAns (w : World) (n : Nat) (L : Nat → ByteArray) (i : Int) (e : Ending) (w' : World) : Prop :=
  ∃ v, e = .returned (.tuple #[v, .int .i64 (mpc n L i)]) ∧ w'.ownsRow w.heap.size 9 1 v (mpl n L i) ((List.range (mpl n L i)).map (sb (pth L i.toNat))) ∧ Chg nob w w'
theorem PmAns.none {w : World} {n : Nat} {L : Nat → ByteArray} {i c : Int} (hc : mpc n L i = c) (h0 : c ≠ 0) (o : Obj) (ho : o = .cells #[] 9) : PmAns w n L i (.returned (.tuple #[.slice (some ⟨w.heap.size, 0, none⟩) 0 0, .int .i64 c])) (w.alloc o) := by
  subst ho
  have e : mpl n L i = 0 := by unfold mpl; rw [hc, if_neg h0]
  refine ⟨_, by rw [hc], ?_, (Chg.refl _ _).alloc _⟩
  rw [e]
  exact owns_new _ _ _ _ (Nat.le_refl _)

set_option maxHeartbeats 2000000 in
theorem sMerklePath_any (c : Option Addr) (n cap : Nat) (i : Int) (L : Nat → ByteArray) (w : World) (h : Hid (RowV w c n (sb L))) (hz : Hid (∀ i, i < n → (L i).size ≤ 9223372036854775807)) (hn : (n : Int) ≤ 9223372036854775807) :
    Calls Tryd.prog 19 #[.slice c n cap, .int .i64 i] w fun e w' => PmAns w n L i e w' := by
  by_cases h1 : 4096 < n
  · have h1' : 4096 < (n : Int) := by omega
    have e2 : lvc n L = 2 := if_pos h1
    have e1 : mpc n L i = 2 := by unfold mpc; rw [e2]; rfl
    have E1 := hik e1
    clear e1 e2
    go_enter Tryd.func19, Tryd.ntmps19
    go_wp2
    go_ret2
    exact PmAns.none E1.out (by decide) _ rfl
  have h1' : ¬ 4096 < (n : Int) := by omega
  by_cases h2 : lvc n L = 0
  · have H2 := hik h2
    have hb : (lvc n L != 0) = false := by simp [h2]
    have hp := lvc_pow h2
    have hn1 : 1 ≤ n := by rw [hp.2]; exact two_pos _
    have v1 : IntKind.i64.wrap ((n : Int) - 1) = (n : Int) - 1 := by rw [IntKind.wrap_i64]; omega
    clear h2
    by_cases h3 : inB i 0 ((n : Int) - 1) = true
    · obtain ⟨m, rfl⟩ : ∃ m : Nat, i = (m : Int) := ⟨i.toNat, by have := of_decide_eq_true h3; omega⟩
      have hm : m < 2 ^ Nat.log2 n := by rw [← hp.2]; have := of_decide_eq_true h3; omega
      have E1 : Hid (mpc n L m = 0) := hik (by unfold mpc; rw [if_pos H2.out, h3]; rfl)
      have E2 : Hid (mpl n L m = Nat.log2 n) := hik (by unfold mpl; rw [if_pos E1.out])
      have HP := hik hp
      have HM := hik hm
      clear hm hp
      go_enter Tryd.func19, Tryd.ntmps19
      go_wp2_with (first | (go_at_call 59; refine (sLeaves_any c n cap L _ h hz hn).mono ?_; rintro e W1 ⟨rfl, hw⟩; have hw := hw.symm; subst hw) | (go_at_call 63; refine (sIn_any _ _ _ _).mono ?_; rintro e W1 ⟨rfl, hw⟩; have hw := hw.symm; subst hw) | (go_at_call 65; refine (sLevels_any c n cap (Nat.log2 n) L _ h (hik (fun i hi => by have := (lvc_ok H2.out).2.2 i hi; omega)) HP.out.1 HP.out.2).mono ?_; rintro e W2 ⟨g, capo, hh, cc, rfl, hl, k2⟩; have HL := hik hl; have G2 := hik k2; clear hl k2) | (go_at_call 64; refine (sPath_any g capo hh cc (Nat.log2 n) m L _ HL HP.out.1 HM.out).mono ?_; rintro e W3 ⟨v3, rfl, o3, k3⟩; have O3 := hik o3; have G3 := hik k3; clear o3 k3))
      go_ret2
      have hs := G2.out.size
      refine ⟨_, by rw [E1.out]; rfl, ?_, G2.out.trans G3.out⟩
      rw [E2.out, Int.toNat_natCast]
      exact owns_low O3.out hs
    · have h3' : inB i 0 ((n : Int) - 1) = false := by simpa using h3
      have E1 : Hid (mpc n L i = 4) := hik (by unfold mpc; rw [if_pos H2.out, h3']; rfl)
      clear h3 hp
      go_enter Tryd.func19, Tryd.ntmps19
      go_wp2_with (first | (go_at_call 59; refine (sLeaves_any c n cap L _ h hz hn).mono ?_; rintro e W1 ⟨rfl, hw⟩; have hw := hw.symm; subst hw) | (go_at_call 63; refine (sIn_any _ _ _ _).mono ?_; rintro e W1 ⟨rfl, hw⟩; have hw := hw.symm; subst hw))
      go_ret2
      exact PmAns.none E1.out (by decide) _ rfl
  · have hb : (lvc n L != 0) = true := by simpa using h2
    have E1 : Hid (mpc n L i = lvc n L) := hik (if_neg h2)
    have E2 := hik h2
    clear h2
    go_enter Tryd.func19, Tryd.ntmps19
    go_wp2_with (go_at_call 59; refine (sLeaves_any c n cap L _ h hz hn).mono ?_; rintro e W1 ⟨rfl, hw⟩; have hw := hw.symm; subst hw)
    go_ret2
    exact PmAns.none E1.out E2.out _ rfl
end Go.Proofs.YtabioonijjibnabDoor
