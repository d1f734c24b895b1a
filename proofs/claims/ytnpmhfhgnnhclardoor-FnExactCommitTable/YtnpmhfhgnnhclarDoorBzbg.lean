/- Several texts in one: What the program's join of two nodes is: a contract. Conditions: two nodes of hashes of 32 bytes; the tables hold the shifts and the rounds' constants. · What the program's row above a row is: a contract. Conditions: nodes of hashes of 32 bytes, each but once; the tables hold the shifts and the rounds' constants in a world from which none of them was written to. -/
import Derived.Test.YtnpmhfhgnnhclarDoorBzbd
import Derived.Test.YtnpmhfhgnnhclarDoorBzbf
import Derived.BigRegion
namespace Go.Proofs.YtnpmhfhgnnhclarDoor
open Go.ChangeShapes Go.WideShapes Go.ChangeAt Go.RowKit
set_option linter.unusedVariables false
set_option maxRecDepth 100000
set_option linter.unusedSimpArgs false

set_option maxRecDepth 100000 in
set_option maxHeartbeats 2000000 in
theorem joined_any (bl br : Nat) (h1 h2 : ByteArray) (w : World) (ht : Hid (Tabs w)) (hl : Hid (Nod w bl h1 nul nul)) (hr : Hid (Nod w br h2 nul nul)) (hne : bl ≠ br) (s1 : h1.size = 32) (s2 : h2.size = 32) :
    Calls Tryd.prog 83 #[.pointer (some ⟨bl, 0, none⟩), .pointer (some ⟨br, 0, none⟩)] w fun e w' => JnAns w bl br h1 h2 e w' := by
  have x1 := hl.out.hash
  have x2 := hr.out.hash
  have HS1 := hik s1
  have HS2 := hik s2
  clear s1 s2
  go_enter Tryd.func83, Tryd.ntmps83
  go_wp2
  go_region_held3 (fun w' => w'.cell? ⟨bl, 0, none⟩ = some (.string h1) ∧ w'.cell? ⟨br, 0, none⟩ = some (.string h2)) (first | (with_reducible exact ⟨by assumption, by assumption⟩) | go_keep) (first | (go_at_call 90; refine (nodeText_any h1 h2 _ (by have := HS1.out; omega) (by have := HS2.out; omega)).mono ?_; rintro e w2 ⟨rfl, hw⟩; subst hw) | (go_at_call 70; refine (hashOf_any (ndT h1 h2) _ (hik (ht.out.keep (Chg.refl nob w).drew1)) (by rw [ndT_size, HS1.out, HS2.out]; omega)).mono ?_; rintro e w3 ⟨rfl, k3⟩; have G3 := hik ((Chg.refl nob w).drew1.trans k3); have y1 := k3.see x1; have y2 := k3.see x2; clear k3))
  have NL := hik ((hl.out.keep G3.out).keep ((Chg.refl nob w3).alloc (.cells #[.string (hsh (ndT h1 h2)), .pointer none, .pointer none] 64)))
  have NR := hik ((hr.out.keep G3.out).keep ((Chg.refl nob w3).alloc (.cells #[.string (hsh (ndT h1 h2)), .pointer none, .pointer none] 64)))
  have NA := hik (Nod.new w3 (hsh (ndT h1 h2)))
  have GA := hik (G3.out.alloc (.cells #[.string (hsh (ndT h1 h2)), .pointer none, .pointer none] 64))
  have hlo : w.heap.size ≤ w3.heap.size := G3.out.size
  rename_i hHeld
  clear hHeld y1 y2 x1 x2
  obtain ⟨ba, hba⟩ : ∃ ba, ba = w3.heap.size := ⟨_, rfl⟩
  obtain ⟨W, hW⟩ : ∃ W, W = w3.alloc (.cells #[.string (hsh (ndT h1 h2)), .pointer none, .pointer none] 64) := ⟨_, rfl⟩
  rw [← hW, ← hba]
  unfold nul at NA
  rw [← hW] at NL NR NA GA
  rw [← hba] at NA hlo
  clear hW hba G3
  have a1 : W.cell? ⟨bl, 1, none⟩ = some (.pointer none) := NL.out.beside
  have a2 : W.cell? ⟨bl, 2, none⟩ = some (.pointer none) := NL.out.above
  have b1 : W.cell? ⟨br, 1, none⟩ = some (.pointer none) := NR.out.beside
  have b2 : W.cell? ⟨br, 2, none⟩ = some (.pointer none) := NR.out.above
  have f1 := World.rowIs.frozen NL.out 1
  have f2 := World.rowIs.frozen NL.out 2
  have g1 := World.rowIs.frozen NR.out 1
  have g2 := World.rowIs.frozen NR.out 2
  have hne' : ¬ br = bl := fun e => hne e.symm
  go_wp2
  go_ret
  have ll := hl.out.lt
  have lr := hr.out.lt
  exact ⟨ba, rfl, hlo, (NA.out.link_other (by omega) (ptr br) (ptr ba)).link_other (by omega) (ptr bl) (ptr ba), (NL.out.link (ptr br) (ptr ba)).link_other hne (ptr bl) (ptr ba), (NR.out.link_other hne' (ptr br) (ptr ba)).link (ptr bl) (ptr ba), chg_link (chg_link GA.out.wide (fun _ => .inl rfl) (ptr br) (ptr ba)) (fun _ => .inr rfl) (ptr bl) (ptr ba)⟩

end Go.Proofs.YtnpmhfhgnnhclarDoor

namespace Go.Proofs.YtnpmhfhgnnhclarDoor
open Go.ChangeShapes Go.WideShapes Go.ChangeAt Go.RowKit
set_option linter.unusedVariables false
set_option maxRecDepth 100000
set_option linter.unusedSimpArgs false

theorem infoNp : (Tryd.prog.info? 62).map (fun i => (i.zero, i.size, i.bytes)) = some (some (.pointer none), 1, 8) := by kernel_rfl

set_option maxRecDepth 100000 in
set_option maxHeartbeats 4000000 in
theorem rowAbove_any (rb cap q r : Nat) (nb : Nat → Nat) (H : Nat → ByteArray) (w0 w : World) (ht : Hid (Tabs w0)) (hg : Hid (Chg nob w0 w)) (hr : Hid (Prow w rb q (fun i => ptr (nb i)))) (hn : Hid (∀ i, i < 2 * r → w0.heap.size ≤ nb i ∧ Nod w (nb i) (H i) nul nul)) (hi : Hid (∀ i j, i < 2 * r → j < 2 * r → nb i = nb j → i = j)) (hs : Hid (∀ i, (H i).size = 32)) (h8 : r ≤ 256) (hq : Hid (q = 2 * r)) :
    Calls Tryd.prog 72 #[.slice (some ⟨rb, 0, none⟩) q cap] w fun e w' => RaAns w r nb H e w' := by
  obtain ⟨i0, hi0, hz0, hz1, hz2⟩ := info_parts infoNp
  have HI := hik hi0
  have HZ0 := hik hz0
  have HZ1 := hik hz1
  have hb : i0.bytes * r ≤ 281474976710656 := by rw [hz2]; omega
  clear hi0 hz0 hz1 hz2
  have e0 : (q : Int).tdiv 2 = (r : Int) := by have := hq.out; rw [Int.tdiv_eq_ediv_of_nonneg (by omega)]; omega
  have hq5 : q ≤ 512 := by have := hq.out; omega
  have hrl := World.rowIs.lt hr.out
  go_enter Tryd.func72, Tryd.ntmps72
  go_wp2_with (at_make; refine wpList_make_row _ rfl (.tmp 7) (.tmp 7) 65 rfl 62 i0 (.pointer none) Tryd.underlying65 HI.out HZ0.out HZ1.out rfl .i64 .i64 r rfl rfl hb (by omega) ?_)
  clear hb HI HZ0 HZ1
  go_loopw [11] (fun i W => ∃ (m : Nat) (nb' : Nat → Nat), m ≤ r ∧ i = .int .i64 m ∧ Hid (RAb w W r m nb nb' H)) (fun i _ => r - (intOf i).toNat)
  case atStart => exact ⟨0, fun _ => 0, Nat.zero_le _, rfl, hik (RAb.start (fun i hi => (hn.out i hi).2))⟩
  case round =>
    obtain ⟨m, nb', hm, rfl, HR⟩ := hrel
    have hsz := HR.out.chg.size
    by_cases hlt : m < r
    · have m1 : 2 * (m : Int) < (q : Int) := by have := hq.out; omega
      have m2 : 2 * (m : Int) + 1 < (q : Int) := by have := hq.out; omega
      have m3 : (0 : Int) ≤ 2 * (m : Int) := by omega
      have m4 : (0 : Int) ≤ 2 * (m : Int) + 1 := by omega
      have t1 : (2 * (m : Int)).toNat = 2 * m := by omega
      have t2 : (2 * (m : Int) + 1).toNat = 2 * m + 1 := by omega
      have v1 : IntKind.i64.wrap (2 * (m : Int)) = 2 * (m : Int) := by rw [IntKind.wrap_i64]; omega
      have v2 : IntKind.i64.wrap (2 * (m : Int) + 1) = 2 * (m : Int) + 1 := by rw [IntKind.wrap_i64]; omega
      have PR := hik (hr.out.chg HR.out.chg (by rintro ⟨i, hi', e⟩; exact (hn.out i hi').2.not_row hr.out e.symm))
      have x1 : wr.cell? ⟨rb, 2 * m, none⟩ = some (.pointer (some ⟨nb (2 * m), 0, none⟩)) := World.rowIs.cell PR.out (by have := hq.out; omega)
      have x2 : wr.cell? ⟨rb, 2 * m + 1, none⟩ = some (.pointer (some ⟨nb (2 * m + 1), 0, none⟩)) := World.rowIs.cell PR.out (by have := hq.out; omega)
      have n1 : ¬ rb = nb (2 * m) := fun e => (hn.out (2 * m) (by omega)).2.not_row hr.out e.symm
      have n2 : ¬ rb = nb (2 * m + 1) := fun e => (hn.out (2 * m + 1) (by omega)).2.not_row hr.out e.symm
      have N1 := hik n1
      have N2 := hik n2
      clear n1 n2
      have hne : ¬ rb = w.heap.size := by omega
      have HT := hik (ht.out.keep (hg.out.near HR.out.chg (fun b q => by obtain ⟨i, hi', e⟩ := q; rw [e]; exact (hn.out i hi').1)))
      have hbs : Hid (∀ i, i < 2 * r → nb i < w.heap.size) := hik (fun i hi' => (hn.out i hi').2.lt)
      go_wp2
      go_region_held3 (fun w' => w'.cell? ⟨rb, 2 * m, none⟩ = some (.pointer (some ⟨nb (2 * m), 0, none⟩)) ∧ w'.cell? ⟨rb, 2 * m + 1, none⟩ = some (.pointer (some ⟨nb (2 * m + 1), 0, none⟩))) (first | (with_reducible exact ⟨by assumption, by assumption⟩) | go_keep) (first | (go_at_call 83; refine (joined_any (nb (2 * m)) (nb (2 * m + 1)) (H (2 * m)) (H (2 * m + 1)) _ (hik (HT.out.keep (Chg.refl nob wr).drew1)) (hik ((HR.out.rest (2 * m) (by omega) (by omega)).keep (Chg.refl nob wr).drew1)) (hik ((HR.out.rest (2 * m + 1) (by omega) (by omega)).keep (Chg.refl nob wr).drew1)) (fun q => absurd (hi.out _ _ (by omega) (by omega) q) (by omega)) (hs.out _) (hs.out _)).mono ?_; rintro e w3 ⟨ba, rfl, j3⟩; have J3 := hik j3; clear j3; have y1 : w3.cell? ⟨rb, 2 * m, none⟩ = some (.pointer (some ⟨nb (2 * m), 0, none⟩)) := (J3.out.chg.cell (p := ⟨rb, 2 * m, none⟩) (World.rowIs.lt PR.out) (fun q => q.elim N1.out N2.out)).trans x1; have y2 : w3.cell? ⟨rb, 2 * m + 1, none⟩ = some (.pointer (some ⟨nb (2 * m + 1), 0, none⟩)) := (J3.out.chg.cell (p := ⟨rb, 2 * m + 1, none⟩) (World.rowIs.lt PR.out) (fun q => q.elim N1.out N2.out)).trans x2; have R3 := hik (HR.out.row.chg (W := wr.drew) J3.out.chg (by have l1 := hbs.out (2 * m) (by omega); have l2 := hbs.out (2 * m + 1) (by omega); omega)); have z3 := World.rowIs.cell R3.out hlt; have f3 := World.rowIs.frozen R3.out m; simp only [Nat.lt_irrefl, if_false] at z3; unfold nul at z3; have u1 : (w3.setCell ⟨w.heap.size, m, none⟩ (.pointer (some ⟨ba, 0, none⟩))).cell? ⟨rb, 2 * m, none⟩ = some (.pointer (some ⟨nb (2 * m), 0, none⟩)) := (by rw [World.cell?_setCell_other _ _ _ _ (by intro q; injection q with q1; omega)]; exact y1); have u2 : (w3.setCell ⟨w.heap.size, m, none⟩ (.pointer (some ⟨ba, 0, none⟩))).cell? ⟨rb, 2 * m + 1, none⟩ = some (.pointer (some ⟨nb (2 * m + 1), 0, none⟩)) := (by rw [World.cell?_setCell_other _ _ _ _ (by intro q; injection q with q1; omega)]; exact y2)))
      have HR2 := hik (RAb.step HR.out hlt hbs.out hi.out (show Jnd wr w3 _ _ ba _ _ from ⟨J3.out.lo, J3.out.new, J3.out.left, J3.out.right, (Chg.refl _ wr).drew1.trans J3.out.chg⟩))
      clear x1 x2 y1 y2 u1 u2 z3 f3
      go_wp2
      go_roundw
      case rel => exact ⟨m + 1, _, by omega, by go_num, HR2⟩
      case measure => simp [intOf]; omega
    · obtain rfl : m = r := by omega
      go_wp2
      go_ret
      exact ⟨nb', rfl, HR.out⟩

end Go.Proofs.YtnpmhfhgnnhclarDoor
