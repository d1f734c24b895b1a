/- What the program's join of two nodes is: a contract. Conditions: two nodes of hashes of 32 bytes; the tables hold the shifts and the rounds' constants. -/
import Derived.Test.YtabioonijjibnabDoorIplM
import Derived.Test.YtabioonijjibnabDoorIplH
import Derived.BigRegion
namespace Go.Proofs.YtabioonijjibnabDoor
open Go.ChangeShapes Go.WideShapes Go.ChangeAt Go.RowKit
set_option linter.unusedVariables false
set_option maxRecDepth 100000
set_option linter.unusedSimpArgs false

set_option maxRecDepth 100000 in
set_option maxHeartbeats 2000000 in
theorem joined_any (bl br : Nat) (h1 h2 : ByteArray) (w : World) (ht : Hid (Tabs w)) (hl : Hid (Nod w bl h1 nul nul)) (hr : Hid (Nod w br h2 nul nul)) (hne : bl ≠ br) (s1 : h1.size = 32) (s2 : h2.size = 32) :
    Calls Tryd.prog 132 #[.pointer (some ⟨bl, 0, none⟩), .pointer (some ⟨br, 0, none⟩)] w fun e w' => JnAns w bl br h1 h2 e w' := by
  have x1 := hl.out.hash
  have x2 := hr.out.hash
  have HS1 := hik s1
  have HS2 := hik s2
  clear s1 s2
  go_enter Tryd.func132, Tryd.ntmps132
  go_wp2
  go_region_held3 (fun w' => w'.cell? ⟨bl, 0, none⟩ = some (.string h1) ∧ w'.cell? ⟨br, 0, none⟩ = some (.string h2)) (first | (with_reducible exact ⟨by assumption, by assumption⟩) | go_keep) (first | (go_at_call 72; refine (nodeText_any h1 h2 _ (by have := HS1.out; omega) (by have := HS2.out; omega)).mono ?_; rintro e w2 ⟨rfl, hw⟩; subst hw) | (go_at_call 70; refine (hashOf_any (ndT h1 h2) _ (hik (ht.out.keep (Chg.refl nob w).drew1)) (by rw [ndT_size, HS1.out, HS2.out]; omega)).mono ?_; rintro e w3 ⟨rfl, k3⟩; have G3 := hik ((Chg.refl nob w).drew1.trans k3); have y1 := k3.see x1; have y2 := k3.see x2; clear k3))
  have NL := hik ((hl.out.keep G3.out).keep ((Chg.refl nob w3).alloc (.cells #[.string (hsh (ndT h1 h2)), .pointer none, .pointer none] 86)))
  have NR := hik ((hr.out.keep G3.out).keep ((Chg.refl nob w3).alloc (.cells #[.string (hsh (ndT h1 h2)), .pointer none, .pointer none] 86)))
  have NA := hik (Nod.new w3 (hsh (ndT h1 h2)))
  have GA := hik (G3.out.alloc (.cells #[.string (hsh (ndT h1 h2)), .pointer none, .pointer none] 86))
  have hlo : w.heap.size ≤ w3.heap.size := G3.out.size
  rename_i hHeld
  clear hHeld y1 y2 x1 x2
  obtain ⟨ba, hba⟩ : ∃ ba, ba = w3.heap.size := ⟨_, rfl⟩
  obtain ⟨W, hW⟩ : ∃ W, W = w3.alloc (.cells #[.string (hsh (ndT h1 h2)), .pointer none, .pointer none] 86) := ⟨_, rfl⟩
  rw [← hW, ← hba]
  unfold nul at NA
  rw [← hW] at NL NR NA GA
  rw [← hba] at NA hlo
  clear hW hba G3
  have a1 : W.cell? ⟨bl, 1, none⟩ = some (.pointer none) := NL.out.beside
  have a2 : W.cell? ⟨bl, 2, none⟩ = some (.pointer none) := NL.out.above
  have b1 : W.cell? ⟨br, 1, none⟩ = some (.pointer none) := NR.out.beside
  have b2 : W.cell? ⟨br, 2, none⟩ = some (.pointer none) := NR.out.above
  have f1 := World.rowIs.frozen NL.out 1
  have f2 := World.rowIs.frozen NL.out 2
  have g1 := World.rowIs.frozen NR.out 1
  have g2 := World.rowIs.frozen NR.out 2
  have hne' : ¬ br = bl := fun e => hne e.symm
  go_wp2
  go_ret
  have ll := hl.out.lt
  have lr := hr.out.lt
  exact ⟨ba, rfl, hlo, (NA.out.link_other (by omega) (ptr br) (ptr ba)).link_other (by omega) (ptr bl) (ptr ba), (NL.out.link (ptr br) (ptr ba)).link_other hne (ptr bl) (ptr ba), (NR.out.link_other hne' (ptr br) (ptr ba)).link (ptr bl) (ptr ba), chg_link (chg_link GA.out.wide (fun _ => .inl rfl) (ptr br) (ptr ba)) (fun _ => .inr rfl) (ptr bl) (ptr ba)⟩
end Go.Proofs.YtabioonijjibnabDoor
