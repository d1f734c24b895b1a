/- What MerkleRoot, the way up of a node and MerklePath answer: contracts. Conditions: rows that can be read; the tables hold the shifts and the rounds' constants. -/
import Derived.Test.YtabioonijjibnabDoorIplR
namespace Go.Proofs.YtabioonijjibnabDoor
open Go.ChangeShapes Go.WideShapes Go.ChangeAt Go.RowKit
set_option linter.unusedVariables false
set_option maxRecDepth 100000
set_option linter.unusedSimpArgs false

theorem rsv_top (hh : Nat → Nat) (d : Nat) : rsv hh d d = .slice (some ⟨hh d, 0, none⟩) 1 1 := by
  unfold rsv; rw [Nat.sub_self]

set_option maxHeartbeats 1000000 in
theorem merkleRoot_any (c : Option Addr) (n cap : Nat) (L : Nat → ByteArray) (w : World) (h : Hid (RowV w c n (sb L))) (hz : Hid (∀ i, i < n → (L i).size ≤ 9223372036854775807)) (hn : (n : Int) ≤ 9223372036854775807) (ht : Hid (Tabs w)) :
    Calls Tryd.prog 16 #[.slice c n cap] w fun e w' => e = .returned (.tuple #[.string (mrt n L), .int .i64 (lvc n L)]) ∧ Chg nob w w' := by
  by_cases h2 : lvc n L = 0
  · have e1 : mrt n L = lev L (Nat.log2 n) 0 := if_pos h2
    have H2 := hik h2
    have hb : (lvc n L != 0) = false := by simp [h2]
    obtain ⟨d, hd⟩ : ∃ d, d = Nat.log2 n := ⟨_, rfl⟩
    have hp := lvc_pow h2
    rw [← hd] at hp e1
    rw [e1]
    have HP := hik hp.2
    have hd8 := hp.1
    have hd' : (d : Int) ≤ 8 := by omega
    have HZ : Hid (∀ i, i < n → (L i).size ≤ 65535) := hik (fun i hi => by have := (lvc_ok H2.out).2.2 i hi; omega)
    clear e1 h2 hd hp
    go_enter Tryd.func16, Tryd.ntmps16
    go_wp2_with (first | (go_at_call 57; refine (leavesCode_any c n cap L _ h hz hn).mono ?_; rintro e W1 ⟨rfl, hw⟩; subst hw) | (go_at_call 58; refine (rowsOf_any c n cap d L _ h ht HZ hd8 HP).mono ?_; rintro e W2 ⟨g, capo, hh, nb, rfl, hc, tr, k2⟩; have HC := hik hc; have TR := hik tr; have G2 := hik k2; clear hc tr k2; have c0 : W2.cell? ⟨g, d, none⟩ = some (.slice (some ⟨hh d, 0, none⟩) 1 1) := (by rw [← rsv_top]; exact HC.out d (Nat.le_refl _)); have c1 : W2.cell? ⟨hh d, 0, none⟩ = some (.pointer (some ⟨nb d 0, 0, none⟩)) := World.rowIs.cell (TR.out.row d (Nat.le_refl _)).2 (Nat.two_pow_pos _); have c2 := (TR.out.top 0 (Nat.two_pow_pos _)).hash; have x1 : ((d : Int) + 1 - 1) = (d : Int) := (by omega); have x2 : (d : Int) < (d : Int) + 1 := (by omega)))
    go_ret2
    rw [H2.out]
    exact ⟨rfl, G2.out⟩
  · have e1 : mrt n L = ⟨#[]⟩ := if_neg h2
    have hb : (lvc n L != 0) = true := by simpa using h2
    rw [e1]
    clear e1
    go_enter Tryd.func16, Tryd.ntmps16
    go_wp2_with (go_at_call 57; refine (leavesCode_any c n cap L _ h hz hn).mono ?_; rintro e W1 ⟨rfl, hw⟩; subst hw)
    go_ret2
    exact ⟨rfl, Chg.refl _ _⟩

set_option maxHeartbeats 2000000 in
theorem pathUp_any (B d i : Nat) (hh : Nat → Nat) (nb : Nat → Nat → Nat) (L : Nat → ByteArray) (w : World) (h : Hid (Tr B w L d d hh nb)) (hd : d ≤ 8) (hi : i < 2 ^ d) :
    Calls Tryd.prog 62 #[.pointer (some ⟨nb 0 i, 0, none⟩)] w fun e w' => PtAns w L i d e w' := by
  obtain ⟨i0, hi0, hz0, hz1, hz2⟩ := info_parts infoSt
  have HI := hik hi0
  have HZ0 := hik hz0
  have HZ1 := hik hz1
  have HZ2 := hik hz2
  have HIL := hik hi
  clear hi0 hz0 hz1 hz2 hi
  go_enter Tryd.func62, Tryd.ntmps62
  go_wp2
  go_loopw [0, 3] (fun v0 v3 W => ∃ (k a cap3 : Nat) (c3 : Option Addr), k ≤ d ∧ v0 = .pointer (some ⟨a, 0, none⟩) ∧ v3 = .slice c3 k cap3 ∧ Hid (a = nb k (i / 2 ^ k)) ∧ Hid (W.ownsRow w.heap.size 9 1 (.slice c3 k cap3) k ((List.range k).map (sb (pth L i)))) ∧ Hid (Chg nob w W)) (fun _ v _ => d - (match v with | .slice _ k _ => k | _ => 0))
  case atStart => exact ⟨0, nb 0 i, 0, none, Nat.zero_le _, rfl, rfl, hik (by simp), hik ⟨by simp, .inl ⟨rfl, rfl⟩⟩, hik (Chg.refl _ _)⟩
  case round =>
    obtain ⟨k, a, cap3, c3, hk, rfl, rfl, HA, HW, HG⟩ := hrel
    have hs1 := HG.out.size
    by_cases hlt : k < d
    · have e0 : 2 ^ (d - k) = 2 * 2 ^ (d - (k + 1)) := by
        rw [show d - k = d - (k + 1) + 1 by omega, Nat.pow_succ]; omega
      have hmq : i / 2 ^ k < 2 * 2 ^ (d - (k + 1)) := by
        rw [Nat.div_lt_iff_lt_mul (Nat.two_pow_pos _)]
        have e : 2 * 2 ^ (d - (k + 1)) * 2 ^ k = 2 ^ d := by
          rw [show 2 * 2 ^ (d - (k + 1)) = 2 ^ (d - (k + 1) + 1) by rw [Nat.pow_succ]; omega, ← Nat.pow_add]
          congr 1; omega
        rw [e]; exact HIL.out
      have N0 := h.out.link k (i / 2 ^ k) hlt (by rw [e0]; exact hmq)
      have M0 := h.out.link k (sib (i / 2 ^ k)) hlt (by rw [e0]; exact sib_lt _ _ hmq)
      rw [← HA.out] at N0
      obtain ⟨a2, ha2⟩ : ∃ a2, a2 = nb (k + 1) (i / 2 ^ k / 2) := ⟨_, rfl⟩
      obtain ⟨b2, hb2⟩ : ∃ b2, b2 = nb k (sib (i / 2 ^ k)) := ⟨_, rfl⟩
      rw [← ha2, ← hb2] at N0
      rw [← hb2] at M0
      have N1 := N0.keep HG.out
      have N2 := M0.keep HG.out
      have HN0 := hik N0
      have x1 : wr.cell? ⟨a, 2, none⟩ = some (.pointer (some ⟨a2, 0, none⟩)) := N1.above
      have x2 : wr.cell? ⟨a, 1, none⟩ = some (.pointer (some ⟨b2, 0, none⟩)) := N1.beside
      have x3 : wr.cell? ⟨b2, 0, none⟩ = some (.string (pth L i k)) := N2.hash
      have hab := N1.lt
      have HA2 := hik (show a2 = nb (k + 1) (i / 2 ^ (k + 1)) by rw [ha2, Nat.pow_succ, Nat.div_div_eq_div_mul])
      clear hmq e0 N0 M0 N1 N2 ha2 hb2
      go_wp2_with (at_builtin; refine wpList_append_own _ rfl (.tmp 13) (.tmp 21) 29 rfl w.heap.size 9 i0 (.string ⟨#[]⟩) 1 16 Tryd.underlying29 HI.out HZ0.out HZ1.out HZ2.out rfl (by decide) _ k _ rfl (HW.out.alloc _) ⟨_, 0, none⟩ 1 1 [.string (pth L i k)] rfl rfl ?c1 ?c2 ?c3 ?c4 ?c5 ?c6)
      case c1 =>
        intro j u hj
        match j, hj with
        | 0, hj => simp at hj; subst hj; simp [Addr.add]
        | j + 1, hj => simp at hj
      case c2 => intro u hu; simp at hu; subst hu; rfl
      case c3 => unfold maxLen; omega
      case c4 => omega
      case c5 => simp; omega
      case c6 =>
        intro v' w1 hown hgr _
        have HOW : Hid (w1.ownsRow w.heap.size 9 1 v' (k + 1) ((List.range (k + 1)).map (sb (pth L i)))) := hik (by rw [← snoc_map]; exact hown)
        have HGC := hik ((HG.out.alloc _).grown hgr (fun b e l => absurd (HW.out.lt b e).1 (by omega)))
        obtain ⟨g', cp', rfl, _⟩ := rowV_of_owns HOW.out (by omega)
        have y1 : w1.cell? ⟨a, 2, none⟩ = some (.pointer (some ⟨a2, 0, none⟩)) := (HN0.out.keep HGC.out).above
        clear hown hgr x1 x2 x3
        go_wp2
        go_roundw
        case rel => exact ⟨k + 1, a2, cp', _, by omega, rfl, rfl, HA2, HOW, HGC⟩
        case measure => (simp; omega)
    · obtain rfl : k = d := by omega
      have T := h.out.keep HG.out
      have N1 := T.top (i / 2 ^ k) (by rw [Nat.sub_self, Nat.div_eq_of_lt HIL.out]; omega)
      rw [← HA.out] at N1
      have x1 : wr.cell? ⟨a, 2, none⟩ = some (.pointer none) := N1.above
      clear N1 T
      go_wp2
      go_ret
      exact ⟨_, rfl, HW.out, HG.out⟩
theorem pm_nothing {w : World} {n : Nat} {L : Nat → ByteArray} {i c : Int} (hc : mpc n L i = c) (h0 : c ≠ 0) : PmAns w n L i (.returned (.tuple #[.slice none 0 0, .int .i64 c])) w := by
  have e : mpl n L i = 0 := by unfold mpl; rw [hc, if_neg h0]
  refine ⟨_, by rw [hc], ?_, Chg.refl _ _⟩
  rw [e]
  exact ⟨by simp, .inl ⟨rfl, rfl⟩⟩

set_option maxHeartbeats 2000000 in
theorem merklePath_any (c : Option Addr) (n cap : Nat) (i : Int) (L : Nat → ByteArray) (w : World) (h : Hid (RowV w c n (sb L))) (hz : Hid (∀ i, i < n → (L i).size ≤ 9223372036854775807)) (hn : (n : Int) ≤ 9223372036854775807) (ht : Hid (Tabs w)) :
    Calls Tryd.prog 18 #[.slice c n cap, .int .i64 i] w fun e w' => PmAns w n L i e w' := by
  by_cases h2 : lvc n L = 0
  · have H2 := hik h2
    have hb : (lvc n L != 0) = false := by simp [h2]
    obtain ⟨d, hd⟩ : ∃ d, d = Nat.log2 n := ⟨_, rfl⟩
    have hp := lvc_pow h2
    rw [← hd] at hp
    have hpw := (lvc_ok h2).1
    have HP := hik hp.2
    have HD := hik hd
    have hd8 := hp.1
    have hn1 : 1 ≤ n := by rw [hp.2]; exact two_pos _
    have HZ : Hid (∀ i, i < n → (L i).size ≤ 65535) := hik (fun i hi => by have := (lvc_ok H2.out).2.2 i hi; omega)
    clear hp h2 hd
    by_cases h3 : inB i 0 ((n : Int) - 1) = true
    · obtain ⟨m, rfl⟩ : ∃ m : Nat, i = (m : Int) := ⟨i.toNat, by have := of_decide_eq_true h3; omega⟩
      have hmn : m < n := by have := of_decide_eq_true h3; omega
      have hm : m < 2 ^ d := by rw [← HP.out]; exact hmn
      have E1 : Hid (mpc n L m = 0) := hik (by unfold mpc; rw [if_pos H2.out, h3]; rfl)
      have E2 : Hid (mpl n L m = d) := hik (by unfold mpl; rw [if_pos E1.out, HD.out])
      have hb2 : (plc n m != 0) = false := by unfold plc; rw [hpw, h3]; rfl
      have HM := hik hm
      clear hm h3 hpw
      have hmn' : (m : Int) < (n : Int) := by omega
      have hm0 : (0 : Int) ≤ (m : Int) := by omega
      go_enter Tryd.func18, Tryd.ntmps18
      go_wp2_with (first | (go_at_call 57; refine (leavesCode_any c n cap L _ h hz hn).mono ?_; rintro e W1 ⟨rfl, hw⟩; subst hw) | (go_at_call 61; refine (placeCode_any _ _ _).mono ?_; rintro e W1 ⟨rfl, hw⟩; subst hw) | (go_at_call 58; refine (rowsOf_any c n cap d L _ h ht HZ hd8 HP).mono ?_; rintro e W2 ⟨g, capo, hh, nb, rfl, hc, tr, k2⟩; have HC := hik hc; have TR := hik tr; have G2 := hik k2; clear hc tr k2; have c0 : W2.cell? ⟨g, 0, none⟩ = some (.slice (some ⟨hh 0, 0, none⟩) n n) := (by have q := HC.out 0 (Nat.zero_le _); unfold rsv at q; rw [Nat.sub_zero, ← HP.out] at q; exact q); have c1 : W2.cell? ⟨hh 0, m, none⟩ = some (.pointer (some ⟨nb 0 m, 0, none⟩)) := World.rowIs.cell (TR.out.row 0 (Nat.zero_le _)).2 HM.out; have x2 : (0 : Int) < (d : Int) + 1 := (by omega)) | (go_at_call 62; refine (pathUp_any _ d m hh nb L _ TR hd8 HM.out).mono ?_; rintro e W3 ⟨v3, rfl, o3, k3⟩; have O3 := hik o3; have G3 := hik k3; clear o3 k3))
      go_ret2
      have hs := G2.out.size
      refine ⟨_, by rw [E1.out]; rfl, ?_, G2.out.trans G3.out⟩
      rw [E2.out, Int.toNat_natCast]
      exact owns_low O3.out hs
    · have h3' : inB i 0 ((n : Int) - 1) = false := by simpa using h3
      have E1 : Hid (mpc n L i = 4) := hik (by unfold mpc; rw [if_pos H2.out, h3']; rfl)
      have E2 : plc n i = 4 := by unfold plc; rw [hpw, h3']; rfl
      clear h3 hpw h3'
      go_enter Tryd.func18, Tryd.ntmps18
      go_wp2_with (first | (go_at_call 57; refine (leavesCode_any c n cap L _ h hz hn).mono ?_; rintro e W1 ⟨rfl, hw⟩; subst hw) | (go_at_call 61; refine (placeCode_any _ _ _).mono ?_; rintro e W1 ⟨rfl, hw⟩; subst hw))
      go_ret2
      exact pm_nothing E1.out (by decide)
  · have hb : (lvc n L != 0) = true := by simpa using h2
    have E1 : Hid (mpc n L i = lvc n L) := hik (if_neg h2)
    have E2 := hik h2
    clear h2
    go_enter Tryd.func18, Tryd.ntmps18
    go_wp2_with (go_at_call 57; refine (leavesCode_any c n cap L _ h hz hn).mono ?_; rintro e W1 ⟨rfl, hw⟩; subst hw)
    go_ret2
    exact pm_nothing E1.out E2.out
end Go.Proofs.YtabioonijjibnabDoor
