/- Whether a nonce does, by the model: a contract. Conditions: a state of 32 bytes, bits from 0 to 12, a nonce from 0 to 65535. -/
import Derived.Test.YtmnakafplpmphabDoorSpsB
import Derived.Deep.QuietTactic
import Derived.BigQuiet
namespace Go.Proofs.YtmnakafplpmphabDoor
open Go.ChangeShapes Go.WideShapes Go.ChangeAt Go.RowKit
set_option linter.unusedVariables false
set_option maxRecDepth 100000
set_option linter.unusedSimpArgs false

/-- What is hashed of a nonce. -/
def grT (st : ByteArray) (k : Nat) : ByteArray := st ++ ⟨#[103, 114, 105, 110, 100]⟩ ++ be4 k
def grH (st : ByteArray) (k : Nat) : ByteArray := hsh (grT st k)
theorem grT_size (st : ByteArray) (k : Nat) : (grT st k).size = st.size + 9 := by
  unfold grT
  rw [ByteArray.size_append, ByteArray.size_append, be4_size]; rfl
theorem grH_size (st : ByteArray) (k : Nat) : (grH st k).size = 32 := hsh_size _
/-- Does it? -/
def ftb (st : ByteArray) (b k : Nat) : Bool := decide ((zs (grH st k) 0 * 256 + zs (grH st k) 1) / 2 ^ (16 - b) = 0)

set_option maxRecDepth 100000 in
set_option maxHeartbeats 2000000 in
theorem sFits_any (c : Option Addr) (len cap : Nat) (at' : Int) (st : ByteArray) (ct : Int) (b k : Nat) (w : World) (hst : st.size = 32) (hb : b ≤ 12) (hk : k ≤ 65535) :
    Calls Tryd.prog 125 #[.agg #[.slice c len cap, .int .i64 at', .string st, .int .i64 ct], .int .i64 b, .int .i64 k] w fun e w' => e = .returned (.bool (ftb st b k)) ∧ Chg nob w w' := by
  have hst' : (st.size : Int) = 32 := by omega
  have hb4 : (be4 (k : Int)).size = 4 := be4_size _
  have hsz : (grT st k).size ≤ 1048576 := by rw [grT_size]; omega
  have HSZ := hik hsz
  clear hsz
  obtain ⟨h, hh⟩ : ∃ h, h = grH st k := ⟨_, rfl⟩
  have hs32 : h.size = 32 := by rw [hh]; exact grH_size _ _
  have HH := hik hh
  have z0 := zs_at h 0 (by omega)
  have z1 := zs_at h 1 (by omega)
  have l0 := zs_lo h 0
  have u0 := zs_hi h 0
  have l1 := zs_lo h 1
  have u1 := zs_hi h 1
  obtain ⟨x0, hx0⟩ : ∃ x, x = zs h 0 := ⟨_, rfl⟩
  obtain ⟨x1, hx1⟩ : ∃ x, x = zs h 1 := ⟨_, rfl⟩
  rw [← hx0] at z0 l0 u0
  rw [← hx1] at z1 l1 u1
  have E := hik (show ftb st b k = decide ((x0 * 256 + x1) / 2 ^ (16 - b) = 0) by unfold ftb; rw [← hh, hx0, hx1])
  clear hx0 hx1 hh
  go_enter Tryd.func125, Tryd.ntmps125
  go_upto_region 1 with fail
  go_cut [7] from 9 (fun v W => v = .string h ∧ Hid (Chg nob w W))
  case first =>
    refine wp_region_held_drew (S := fun w' => w'.cell? ⟨w.heap.size, 2, none⟩ = some (.string st)) (by kernel_rfl) (by go_simp) (fun hHeld => ?_)
    refine wpAnyH_take (i := 0) (v := ?_) rfl (by kernel_rfl) (by kernel_rfl) (by kernel_rfl) (fun _ _ _ h => h) (Or.inl ⟨by rfl, ?_⟩) (by assumption) ?_
    rotate_left 1
    · (intro w' hSw; (try dsimp only at hSw); go_simp; try with_reducible rfl)
    try simp only [Act.put, List.setIfInBounds_toArray, List.set_cons_zero, List.set_cons_succ, List.getElem_toArray, List.getElem_cons_zero, List.getElem_cons_succ]
    refine wpAnyH_take (i := 1) (v := ?_) rfl (by kernel_rfl) (by kernel_rfl) (by kernel_rfl) (fun _ _ _ h => h) (Or.inl ⟨by rfl, ?_⟩) (by assumption) ?_
    rotate_left 1
    · (intro w' hSw; (try dsimp only at hSw); go_simp; try with_reducible rfl)
    try simp only [Act.put, List.setIfInBounds_toArray, List.set_cons_zero, List.set_cons_succ, List.getElem_toArray, List.getElem_cons_zero, List.getElem_cons_succ]
    refine wpAnyH_take (i := 2) (v := ?_) rfl (by kernel_rfl) (by kernel_rfl) (by kernel_rfl) (fun _ _ _ h => h) (Or.inl ⟨by rfl, ?_⟩) (by assumption) ?_
    rotate_left 1
    · (intro w' hSw; (try dsimp only at hSw); go_simp; try with_reducible rfl)
    try simp only [Act.put, List.setIfInBounds_toArray, List.set_cons_zero, List.set_cons_succ, List.getElem_toArray, List.getElem_cons_zero, List.getElem_cons_succ]
    refine wpAnyH_take (i := 3) (v := ?_) rfl (by kernel_rfl) (by kernel_rfl) (by kernel_rfl) (fun _ _ _ h => h) (Or.inl ⟨by rfl, ?_⟩) (by assumption) ?_
    rotate_left 1
    · (intro w' hSw; (try dsimp only at hSw); go_simp; try with_reducible rfl)
    try simp only [Act.put, List.setIfInBounds_toArray, List.set_cons_zero, List.set_cons_succ, List.getElem_toArray, List.getElem_cons_zero, List.getElem_cons_succ]
    refine wpAnyH_ready (rs := [4]) (by kernel_rfl) (by simp) ?_
    refine AllReadyH.cons rfl (fun K hK => ?_) AllReadyH.nil
    refine stepL_callN 115 #[.tmp 12, .const (.int .i64 4)] #[3, 3] (by rfl) (by rfl) #[.int .i64 k, .int .i64 4] (by simp only [List.map_toArray, List.map_cons, List.map_nil]; rfl) (run_go Tryd.func115 (by kernel_rfl) (by kernel_rfl) _ _) (l02Number_any (k : Int) _ (by omega) (by omega)) ?_
    rintro e W1 ⟨b1, p1, hb1, he, hcells, k1⟩
    refine ⟨_, he, ?_⟩
    refine hK.out _ _ (k1.see hHeld) (fun hHeld => ?_)
    clear hK K
    try simp only [Act.put, List.setIfInBounds_toArray, List.set_cons_zero, List.set_cons_succ, List.getElem_toArray, List.getElem_cons_zero, List.getElem_cons_succ]
    have K1 := hik k1
    have hcv := convB (some ⟨b1, 0, none⟩) 4 p1 (wb k) W1 (four_row (World.block_lt_of_cell? W1 _ (hcells 0 _ rfl)) hcells)
    have hcv : (convert 22 9 (.slice (some ⟨b1, 0, none⟩) 4 p1)).run Tryd.prog W1 = .ok (.string (be4 k)) W1 := hcv
    clear he hcells k1 hb1
    refine wpAnyH_ready (rs := [5]) (by kernel_rfl) (by simp) ?_
    refine AllReadyH.cons rfl (fun K hK => ?_) AllReadyH.nil
    refine stepL_conv 22 9 (.tmp 13) (by rfl) (by rfl) _ _ _ (by rfl) hcv ?_
    refine hK.out _ _ hHeld (fun hHeld => ?_)
    clear hK K
    try simp only [Act.put, List.setIfInBounds_toArray, List.set_cons_zero, List.set_cons_succ, List.getElem_toArray, List.getElem_cons_zero, List.getElem_cons_succ]
    clear hcv
    refine wpAnyH_take (i := 6) (v := ?_) rfl (by kernel_rfl) (by kernel_rfl) (by kernel_rfl) (fun _ _ _ h => h) (Or.inl ⟨by rfl, ?_⟩) (by assumption) ?_
    rotate_left 1
    · (intro w' hSw; (try dsimp only at hSw); go_simp; try with_reducible rfl)
    try simp only [Act.put, List.setIfInBounds_toArray, List.set_cons_zero, List.set_cons_succ, List.getElem_toArray, List.getElem_cons_zero, List.getElem_cons_succ]
    refine wpAnyH_ready (rs := [7]) (by kernel_rfl) (by simp) ?_
    refine AllReadyH.cons rfl (fun K hK => ?_) AllReadyH.nil
    refine stepL_callN 51 #[.tmp 15] #[9] (by rfl) (by rfl) #[.string (grT st k)] (by simp only [List.map_toArray, List.map_cons, List.map_nil]; rfl) (run_go Tryd.func51 (by kernel_rfl) (by kernel_rfl) _ _) (sHash_any (grT st k) _ HSZ.out) ?_
    rintro e W2 ⟨he, k2⟩
    have he : e = .returned (.string h) := by rw [HH.out]; exact he
    refine ⟨_, he, ?_⟩
    refine hK.out _ _ (k2.see hHeld) (fun hHeld => ?_)
    clear hK K
    try simp only [Act.put, List.setIfInBounds_toArray, List.set_cons_zero, List.set_cons_succ, List.getElem_toArray, List.getElem_cons_zero, List.getElem_cons_succ]
    clear he
    have G2 := hik (((Chg.refl nob w).alloc (.cells #[.slice c len cap, .int .i64 at', .string st, .int .i64 ct] 47)).drew1.trans (K1.out.trans k2))
    refine wpAnyH_take (i := 8) (v := ?_) rfl (by kernel_rfl) (by kernel_rfl) (by kernel_rfl) (fun _ _ _ h => h) (Or.inl ⟨by rfl, ?_⟩) (by assumption) ?_
    rotate_left 1
    · (intro w' hSw; (try dsimp only at hSw); go_simp; try with_reducible rfl)
    try simp only [Act.put, List.setIfInBounds_toArray, List.set_cons_zero, List.set_cons_succ, List.getElem_toArray, List.getElem_cons_zero, List.getElem_cons_succ]
    refine wpAnyH_done (by kernel_rfl) ?_ _
    go_wp2_with fail
    go_meet
    case rel => exact ⟨rfl, G2⟩
  case rest =>
    obtain ⟨rfl, G2⟩ := hcut
    have hs1 : (1 : Int) < (h.size : Int) := by omega
    have hs0 : (0 : Int) < (h.size : Int) := by omega
    go_wp2
    go_quiet (fail)
    go_wp2
    go_ret
    exact ⟨by rw [E.out]; rfl, G2.out.drewN _⟩
end Go.Proofs.YtmnakafplpmphabDoor
