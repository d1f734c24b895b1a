/- Several texts in one: Whether a nonce does, by the model: a contract. Conditions: a state of 32 bytes, bits from 0 to 12, a nonce from 0 to 65535. · The least nonce that does, by the model: contracts. Conditions: rows that can be read. · The least nonce that does, and whether one does, by the model, with their codes: contracts. Conditions: rows that can be read. -/
import Derived.Test.YtmnakafplpmphabDoorSpsB
import Derived.Deep.QuietTactic
import Derived.BigQuiet
import Derived.Test.YtmnakafplpmphabDoorSpsZ
namespace Go.Proofs.YtmnakafplpmphabDoor
open Go.ChangeShapes Go.WideShapes Go.ChangeAt Go.RowKit
set_option linter.unusedVariables false
set_option maxRecDepth 100000
set_option linter.unusedSimpArgs false

/-- What is hashed of a nonce. -/
def grT (st : ByteArray) (k : Nat) : ByteArray := st ++ ⟨#[103, 114, 105, 110, 100]⟩ ++ be4 k
def grH (st : ByteArray) (k : Nat) : ByteArray := hsh (grT st k)
theorem grT_size (st : ByteArray) (k : Nat) : (grT st k).size = st.size + 9 := by
  unfold grT
  rw [ByteArray.size_append, ByteArray.size_append, be4_size]; rfl
theorem grH_size (st : ByteArray) (k : Nat) : (grH st k).size = 32 := hsh_size _
/-- Does it? -/
def ftb (st : ByteArray) (b k : Nat) : Bool := decide ((zs (grH st k) 0 * 256 + zs (grH st k) 1) / 2 ^ (16 - b) = 0)

set_option maxRecDepth 100000 in
set_option maxHeartbeats 2000000 in
theorem sFits_any (c : Option Addr) (len cap : Nat) (at' : Int) (st : ByteArray) (ct : Int) (b k : Nat) (w : World) (hst : st.size = 32) (hb : b ≤ 12) (hk : k ≤ 65535) :
    Calls Tryd.prog 125 #[.agg #[.slice c len cap, .int .i64 at', .string st, .int .i64 ct], .int .i64 b, .int .i64 k] w fun e w' => e = .returned (.bool (ftb st b k)) ∧ Chg nob w w' := by
  have hst' : (st.size : Int) = 32 := by omega
  have hb4 : (be4 (k : Int)).size = 4 := be4_size _
  have hsz : (grT st k).size ≤ 1048576 := by rw [grT_size]; omega
  have HSZ := hik hsz
  clear hsz
  obtain ⟨h, hh⟩ : ∃ h, h = grH st k := ⟨_, rfl⟩
  have hs32 : h.size = 32 := by rw [hh]; exact grH_size _ _
  have HH := hik hh
  have z0 := zs_at h 0 (by omega)
  have z1 := zs_at h 1 (by omega)
  have l0 := zs_lo h 0
  have u0 := zs_hi h 0
  have l1 := zs_lo h 1
  have u1 := zs_hi h 1
  obtain ⟨x0, hx0⟩ : ∃ x, x = zs h 0 := ⟨_, rfl⟩
  obtain ⟨x1, hx1⟩ : ∃ x, x = zs h 1 := ⟨_, rfl⟩
  rw [← hx0] at z0 l0 u0
  rw [← hx1] at z1 l1 u1
  have E := hik (show ftb st b k = decide ((x0 * 256 + x1) / 2 ^ (16 - b) = 0) by unfold ftb; rw [← hh, hx0, hx1])
  clear hx0 hx1 hh
  go_enter Tryd.func125, Tryd.ntmps125
  go_upto_region 1 with fail
  go_cut [7] from 9 (fun v W => v = .string h ∧ Hid (Chg nob w W))
  case first =>
    refine wp_region_held_drew (S := fun w' => w'.cell? ⟨w.heap.size, 2, none⟩ = some (.string st)) (by kernel_rfl) (by go_simp) (fun hHeld => ?_)
    refine wpAnyH_take (i := 0) (v := ?_) rfl (by kernel_rfl) (by kernel_rfl) (by kernel_rfl) (fun _ _ _ h => h) (Or.inl ⟨by rfl, ?_⟩) (by assumption) ?_
    rotate_left 1
    · (intro w' hSw; (try dsimp only at hSw); go_simp; try with_reducible rfl)
    try simp only [Act.put, List.setIfInBounds_toArray, List.set_cons_zero, List.set_cons_succ, List.getElem_toArray, List.getElem_cons_zero, List.getElem_cons_succ]
    refine wpAnyH_take (i := 1) (v := ?_) rfl (by kernel_rfl) (by kernel_rfl) (by kernel_rfl) (fun _ _ _ h => h) (Or.inl ⟨by rfl, ?_⟩) (by assumption) ?_
    rotate_left 1
    · (intro w' hSw; (try dsimp only at hSw); go_simp; try with_reducible rfl)
    try simp only [Act.put, List.setIfInBounds_toArray, List.set_cons_zero, List.set_cons_succ, List.getElem_toArray, List.getElem_cons_zero, List.getElem_cons_succ]
    refine wpAnyH_take (i := 2) (v := ?_) rfl (by kernel_rfl) (by kernel_rfl) (by kernel_rfl) (fun _ _ _ h => h) (Or.inl ⟨by rfl, ?_⟩) (by assumption) ?_
    rotate_left 1
    · (intro w' hSw; (try dsimp only at hSw); go_simp; try with_reducible rfl)
    try simp only [Act.put, List.setIfInBounds_toArray, List.set_cons_zero, List.set_cons_succ, List.getElem_toArray, List.getElem_cons_zero, List.getElem_cons_succ]
    refine wpAnyH_take (i := 3) (v := ?_) rfl (by kernel_rfl) (by kernel_rfl) (by kernel_rfl) (fun _ _ _ h => h) (Or.inl ⟨by rfl, ?_⟩) (by assumption) ?_
    rotate_left 1
    · (intro w' hSw; (try dsimp only at hSw); go_simp; try with_reducible rfl)
    try simp only [Act.put, List.setIfInBounds_toArray, List.set_cons_zero, List.set_cons_succ, List.getElem_toArray, List.getElem_cons_zero, List.getElem_cons_succ]
    refine wpAnyH_ready (rs := [4]) (by kernel_rfl) (by simp) ?_
    refine AllReadyH.cons rfl (fun K hK => ?_) AllReadyH.nil
    refine stepL_callN 115 #[.tmp 12, .const (.int .i64 4)] #[3, 3] (by rfl) (by rfl) #[.int .i64 k, .int .i64 4] (by simp only [List.map_toArray, List.map_cons, List.map_nil]; rfl) (run_go Tryd.func115 (by kernel_rfl) (by kernel_rfl) _ _) (l02Number_any (k : Int) _ (by omega) (by omega)) ?_
    rintro e W1 ⟨b1, p1, hb1, he, hcells, k1⟩
    refine ⟨_, he, ?_⟩
    refine hK.out _ _ (k1.see hHeld) (fun hHeld => ?_)
    clear hK K
    try simp only [Act.put, List.setIfInBounds_toArray, List.set_cons_zero, List.set_cons_succ, List.getElem_toArray, List.getElem_cons_zero, List.getElem_cons_succ]
    have K1 := hik k1
    have hcv := convB (some ⟨b1, 0, none⟩) 4 p1 (wb k) W1 (four_row (World.block_lt_of_cell? W1 _ (hcells 0 _ rfl)) hcells)
    have hcv : (convert 22 9 (.slice (some ⟨b1, 0, none⟩) 4 p1)).run Tryd.prog W1 = .ok (.string (be4 k)) W1 := hcv
    clear he hcells k1 hb1
    refine wpAnyH_ready (rs := [5]) (by kernel_rfl) (by simp) ?_
    refine AllReadyH.cons rfl (fun K hK => ?_) AllReadyH.nil
    refine stepL_conv 22 9 (.tmp 13) (by rfl) (by rfl) _ _ _ (by rfl) hcv ?_
    refine hK.out _ _ hHeld (fun hHeld => ?_)
    clear hK K
    try simp only [Act.put, List.setIfInBounds_toArray, List.set_cons_zero, List.set_cons_succ, List.getElem_toArray, List.getElem_cons_zero, List.getElem_cons_succ]
    clear hcv
    refine wpAnyH_take (i := 6) (v := ?_) rfl (by kernel_rfl) (by kernel_rfl) (by kernel_rfl) (fun _ _ _ h => h) (Or.inl ⟨by rfl, ?_⟩) (by assumption) ?_
    rotate_left 1
    · (intro w' hSw; (try dsimp only at hSw); go_simp; try with_reducible rfl)
    try simp only [Act.put, List.setIfInBounds_toArray, List.set_cons_zero, List.set_cons_succ, List.getElem_toArray, List.getElem_cons_zero, List.getElem_cons_succ]
    refine wpAnyH_ready (rs := [7]) (by kernel_rfl) (by simp) ?_
    refine AllReadyH.cons rfl (fun K hK => ?_) AllReadyH.nil
    refine stepL_callN 51 #[.tmp 15] #[9] (by rfl) (by rfl) #[.string (grT st k)] (by simp only [List.map_toArray, List.map_cons, List.map_nil]; rfl) (run_go Tryd.func51 (by kernel_rfl) (by kernel_rfl) _ _) (sHash_any (grT st k) _ HSZ.out) ?_
    rintro e W2 ⟨he, k2⟩
    have he : e = .returned (.string h) := by rw [HH.out]; exact he
    refine ⟨_, he, ?_⟩
    refine hK.out _ _ (k2.see hHeld) (fun hHeld => ?_)
    clear hK K
    try simp only [Act.put, List.setIfInBounds_toArray, List.set_cons_zero, List.set_cons_succ, List.getElem_toArray, List.getElem_cons_zero, List.getElem_cons_succ]
    clear he
    have G2 := hik (((Chg.refl nob w).alloc (.cells #[.slice c len cap, .int .i64 at', .string st, .int .i64 ct] 47)).drew1.trans (K1.out.trans k2))
    refine wpAnyH_take (i := 8) (v := ?_) rfl (by kernel_rfl) (by kernel_rfl) (by kernel_rfl) (fun _ _ _ h => h) (Or.inl ⟨by rfl, ?_⟩) (by assumption) ?_
    rotate_left 1
    · (intro w' hSw; (try dsimp only at hSw); go_simp; try with_reducible rfl)
    try simp only [Act.put, List.setIfInBounds_toArray, List.set_cons_zero, List.set_cons_succ, List.getElem_toArray, List.getElem_cons_zero, List.getElem_cons_succ]
    refine wpAnyH_done (by kernel_rfl) ?_ _
    go_wp2_with fail
    go_meet
    case rel => exact ⟨rfl, G2⟩
  case rest =>
    obtain ⟨rfl, G2⟩ := hcut
    have hs1 : (1 : Int) < (h.size : Int) := by omega
    have hs0 : (0 : Int) < (h.size : Int) := by omega
    go_wp2
    go_quiet (fail)
    go_wp2
    go_ret
    exact ⟨by rw [E.out]; rfl, G2.out.drewN _⟩

end Go.Proofs.YtmnakafplpmphabDoor

namespace Go.Proofs.YtmnakafplpmphabDoor
open Go.ChangeShapes Go.WideShapes Go.ChangeAt Go.RowKit
set_option linter.unusedVariables false
set_option maxRecDepth 100000
set_option linter.unusedSimpArgs false

/-- The first one below n. -/
def fstB (p : Nat → Bool) : Nat → Option Nat
  | 0 => none
  | n + 1 => match fstB p n with
    | some k => some k
    | none => if p n then some n else none
theorem fstB_up {p : Nat → Bool} {k n m : Nat} (h : fstB p n = some k) (hm : n ≤ m) : fstB p m = some k := by
  induction m with
  | zero => obtain rfl : n = 0 := by omega
            exact h
  | succ m ih =>
    by_cases e : n = m + 1
    · subst e; exact h
    · have q := ih (by omega)
      simp only [fstB, q]
theorem fstB_none {p : Nat → Bool} {n : Nat} (h : fstB p n = none) (hp : p n = false) : fstB p (n + 1) = none := by
  simp only [fstB, h, hp]; rfl
theorem fstB_some {p : Nat → Bool} {n : Nat} (h : fstB p n = none) (hp : p n = true) : fstB p (n + 1) = some n := by
  simp only [fstB, h, hp]; rfl
/-- What is found, as values. -/
def gnN (o : Option Nat) : Int := match o with | some k => k | none => 0
def gnB (o : Option Nat) : Bool := match o with | some _ => true | none => false

set_option maxHeartbeats 2000000 in
theorem sGrind_any (c : Option Addr) (len cap : Nat) (at' : Int) (st : ByteArray) (ct : Int) (b : Nat) (w : World) (hst : st.size = 32) (hb : b ≤ 12) :
    Calls Tryd.prog 96 #[.agg #[.slice c len cap, .int .i64 at', .string st, .int .i64 ct], .int .i64 b] w fun e w' => e = .returned (.tuple #[.int .i64 (gnN (fstB (ftb st b) 65536)), .bool (gnB (fstB (ftb st b) 65536))]) ∧ Chg nob w w' := by
  go_enter Tryd.func96, Tryd.ntmps96
  go_wp2
  go_loopw [6] (fun v W => ∃ k : Nat, k ≤ 65536 ∧ v = .int .i64 k ∧ Hid (fstB (ftb st b) k = none) ∧ Hid (W.rowIs w.heap.size 47 4 (pv4 (.slice c len cap) (.int .i64 at') (.string st) (.int .i64 ct))) ∧ Hid (Chg nob w W)) (fun v _ => 65536 - (intOf v).toNat)
  case atStart => exact ⟨0, by omega, rfl, hik rfl, hik (row4_new w _ _ _ _ _), hik ((Chg.refl _ _).alloc _)⟩
  case round =>
    obtain ⟨k, hk, rfl, HF, HR, HG⟩ := hrel
    by_cases hlt : k < 65536
    · have hlt' : (k : Int) < 65536 := by omega
      have x0 : wr.cell? ⟨w.heap.size, 0, none⟩ = some (.slice c len cap) := HR.out.cell (by omega)
      have x1 : wr.cell? ⟨w.heap.size, 1, none⟩ = some (.int .i64 at') := HR.out.cell (by omega)
      have x2 : wr.cell? ⟨w.heap.size, 2, none⟩ = some (.string st) := HR.out.cell (by omega)
      have x3 : wr.cell? ⟨w.heap.size, 3, none⟩ = some (.int .i64 ct) := HR.out.cell (by omega)
      cases hf : ftb st b k
      · have HN := hik (fstB_none HF.out hf)
        go_wp2_with (go_at_call 125; refine (sFits_any c len cap at' st ct b k _ hst hb (by omega)).mono ?_; rintro e W1 ⟨he, k1⟩; rw [hf] at he; subst he; have R1 := hik (rowIs_keep HR.out k1); have G1 := hik (HG.out.trans k1); clear k1)
        clear x0 x1 x2 x3
        go_roundw
        case rel => exact ⟨k + 1, by omega, by go_num, HN, R1, G1⟩
        case measure => simp [intOf]; omega
      · have HN := hik (fstB_up (fstB_some HF.out hf) (show k + 1 ≤ 65536 by omega))
        go_wp2_with (go_at_call 125; refine (sFits_any c len cap at' st ct b k _ hst hb (by omega)).mono ?_; rintro e W1 ⟨he, k1⟩; rw [hf] at he; subst he; have G1 := hik (HG.out.trans k1); clear k1)
        go_ret2
        exact ⟨by rw [HN.out]; rfl, G1.out⟩
    · obtain rfl : k = 65536 := by omega
      go_wp2
      go_ret2
      exact ⟨by rw [HF.out]; rfl, HG.out⟩

end Go.Proofs.YtmnakafplpmphabDoor

namespace Go.Proofs.YtmnakafplpmphabDoor
open Go.ChangeShapes Go.WideShapes Go.ChangeAt Go.RowKit
set_option linter.unusedVariables false
set_option maxRecDepth 100000
set_option linter.unusedSimpArgs false

/-- The code of a source and bits. -/
def gcd5 (ok : Bool) (bits : Int) : Int := if ok then (if 0 ≤ bits ∧ bits ≤ 12 then 0 else 4) else 1
theorem gcd5_bad (bits : Int) : gcd5 false bits = 1 := rfl
theorem gcd5_out {bits : Int} (h : ¬ (0 ≤ bits ∧ bits ≤ 12)) : gcd5 true bits = 4 := by unfold gcd5; rw [if_pos rfl, if_neg h]
theorem gcd5_zero {ok : Bool} {bits : Int} (h : gcd5 ok bits = 0) : ok = true ∧ (0 ≤ bits ∧ bits ≤ 12) := by
  cases ok
  · rw [gcd5_bad] at h; exact absurd h (by decide)
  · by_cases hb : 0 ≤ bits ∧ bits ≤ 12
    · exact ⟨rfl, hb⟩
    · rw [gcd5_out hb] at h; exact absurd h (by decide)
theorem gcd5_ok {bits : Int} (h : 0 ≤ bits ∧ bits ≤ 12) : gcd5 true bits = 0 := by unfold gcd5; rw [if_pos rfl, if_pos h]
/-- What is found, or the code why not. -/
def gnc (ok : Bool) (bits : Int) (st : ByteArray) : Int := if gcd5 ok bits = 0 then (if gnB (fstB (ftb st bits.toNat) 65536) then 0 else 14) else gcd5 ok bits
def gnv (ok : Bool) (bits : Int) (st : ByteArray) : Int := if gcd5 ok bits = 0 then gnN (fstB (ftb st bits.toNat) 65536) else 0
theorem gn_no {ok : Bool} {bits : Int} {st : ByteArray} {cd : Int} (h : gcd5 ok bits = cd) (h0 : ¬ cd = 0) : gnc ok bits st = cd ∧ gnv ok bits st = 0 := by
  unfold gnc gnv; rw [h, if_neg h0, if_neg h0]; exact ⟨rfl, rfl⟩
theorem gn_some {ok : Bool} {bits : Int} {st : ByteArray} {k : Nat} (h : gcd5 ok bits = 0) (hf : fstB (ftb st bits.toNat) 65536 = some k) : gnc ok bits st = 0 ∧ gnv ok bits st = k := by
  unfold gnc gnv; rw [h, if_pos rfl, if_pos rfl, hf]; exact ⟨rfl, rfl⟩
theorem gn_none {ok : Bool} {bits : Int} {st : ByteArray} (h : gcd5 ok bits = 0) (hf : fstB (ftb st bits.toNat) 65536 = none) : gnc ok bits st = 14 ∧ gnv ok bits st = 0 := by
  unfold gnc gnv; rw [h, if_pos rfl, if_pos rfl, hf]; exact ⟨rfl, rfl⟩
theorem fstB_below {p : Nat → Bool} {n : Nat} (h : fstB p n = none) (j : Nat) (hj : j < n) : p j = false := by
  induction n with
  | zero => omega
  | succ n ih =>
    simp only [fstB] at h
    cases e : fstB p n with
    | some i => rw [e] at h; cases h
    | none =>
      rw [e] at h
      cases hp : p n
      · by_cases q : j = n
        · subst q; exact hp
        · exact ih e (by omega)
      · rw [hp] at h; simp at h
theorem fstB_spec {p : Nat → Bool} {n k : Nat} (h : fstB p n = some k) : k < n ∧ p k = true ∧ ∀ j, j < k → p j = false := by
  induction n with
  | zero => cases h
  | succ n ih =>
    simp only [fstB] at h
    cases e : fstB p n with
    | some i =>
      rw [e] at h
      simp at h
      subst h
      obtain ⟨a, b, c⟩ := ih e
      exact ⟨by omega, b, c⟩
    | none =>
      rw [e] at h
      cases hp : p n
      · rw [hp] at h; simp at h
      · rw [hp] at h
        simp at h
        subst h
        exact ⟨by omega, hp, fun j hj => fstB_below e j hj⟩
theorem ftb_zero (st : ByteArray) (k : Nat) : ftb st 0 k = true := by
  unfold ftb
  apply decide_eq_true
  have h0 := zs_B (grH st k) 0
  have h1 := zs_B (grH st k) 1
  show (zs (grH st k) 0 * 256 + zs (grH st k) 1) / 65536 = 0
  omega
/-- Whether a nonce does, or the code why it is not asked. -/
def cnc (ok : Bool) (bits nonce : Int) : Int := if gcd5 ok bits = 0 then (if 0 ≤ nonce ∧ nonce ≤ 65535 then 0 else 4) else gcd5 ok bits
def cnv (ok : Bool) (bits nonce : Int) (st : ByteArray) : Bool := if cnc ok bits nonce = 0 then ftb st bits.toNat nonce.toNat else false
theorem cn_no {ok : Bool} {bits nonce : Int} {st : ByteArray} {cd : Int} (h : gcd5 ok bits = cd) (h0 : ¬ cd = 0) : cnc ok bits nonce = cd ∧ cnv ok bits nonce st = false := by
  have e : cnc ok bits nonce = cd := by unfold cnc; rw [h, if_neg h0]
  exact ⟨e, by unfold cnv; rw [e, if_neg h0]⟩
theorem cn_out {ok : Bool} {bits nonce : Int} {st : ByteArray} (h : gcd5 ok bits = 0) (hn : ¬ (0 ≤ nonce ∧ nonce ≤ 65535)) : cnc ok bits nonce = 4 ∧ cnv ok bits nonce st = false := by
  have e : cnc ok bits nonce = 4 := by unfold cnc; rw [h, if_pos rfl, if_neg hn]
  exact ⟨e, by unfold cnv; rw [e]; rfl⟩
theorem cn_ok {ok : Bool} {bits nonce : Int} {st : ByteArray} (h : gcd5 ok bits = 0) (hn : 0 ≤ nonce ∧ nonce ≤ 65535) : cnc ok bits nonce = 0 ∧ cnv ok bits nonce st = ftb st bits.toNat nonce.toNat := by
  have e : cnc ok bits nonce = 0 := by unfold cnc; rw [h, if_pos rfl, if_pos hn]
  exact ⟨e, by unfold cnv; rw [e]; rfl⟩

set_option maxHeartbeats 2000000 in
theorem sGrindNonce_any (c : Option Addr) (len cap : Nat) (f g : Nat → Int) (at' : Int) (st : ByteArray) (ct : Int) (bits : Int) (w : World) (h : Hid (PairV w c len f g)) (hl : (len : Int) ≤ 9223372036854775807) (hs : (st.size : Int) ≤ 9223372036854775807) :
    Calls Tryd.prog 48 #[.agg #[.slice c len cap, .int .i64 at', .string st, .int .i64 ct], .int .i64 bits] w fun e w' => e = .returned (.tuple #[.int .i64 (gnv (sokb f g len at' st ct) bits st), .int .i64 (gnc (sokb f g len at' st ct) bits st)]) ∧ Chg nob w w' := by
  cases h2 : sokb f g len at' st ct
  · rw [(gn_no (gcd5_bad bits) (by decide)).1, (gn_no (gcd5_bad bits) (by decide)).2]
    go_enter Tryd.func48, Tryd.ntmps48
    go_wp2_with (go_at_call 80; refine (sSourceOK_any c len cap at' st ct f g _ (hik (h.out.keep ((Chg.refl nob w).alloc _))) hl hs).mono ?_; rintro e W1 ⟨he, k1⟩; rw [h2] at he; subst he; have G1 := hik (((Chg.refl nob w).alloc (.cells #[.slice c len cap, .int .i64 at', .string st, .int .i64 ct] 47)).trans k1); have R1 := hik (rowIs_keep (row4_new w (.slice c len cap) (.int .i64 at') (.string st) (.int .i64 ct) 47) k1); obtain ⟨hc1, hf1, hz1⟩ := kcell k1 (w.heap.size + 1) (by simp); clear k1)
    go_ret2
    exact ⟨rfl, G1.out⟩
  obtain ⟨p1, p2, p3, p4, p5⟩ := sokb_parts h2
  by_cases hb : 0 ≤ bits ∧ bits ≤ 12
  · obtain ⟨b, rfl⟩ : ∃ b : Nat, bits = b := ⟨bits.toNat, by omega⟩
    have HIN := hik (show inW (b : Int) 0 12 = true from decide_eq_true hb)
    cases ho : fstB (ftb st b) 65536 with
    | none =>
      rw [(gn_none (gcd5_ok hb) ho).1, (gn_none (gcd5_ok hb) ho).2]
      go_enter Tryd.func48, Tryd.ntmps48
      go_wp2_with (first | (go_at_call 80; refine (sSourceOK_any c len cap at' st ct f g _ (hik (h.out.keep ((Chg.refl nob w).alloc _))) hl hs).mono ?_; rintro e W1 ⟨he, k1⟩; rw [h2] at he; subst he; have G1 := hik (((Chg.refl nob w).alloc (.cells #[.slice c len cap, .int .i64 at', .string st, .int .i64 ct] 47)).trans k1); have R1 := hik (rowIs_keep (row4_new w (.slice c len cap) (.int .i64 at') (.string st) (.int .i64 ct) 47) k1); obtain ⟨hc1, hf1, hz1⟩ := kcell k1 (w.heap.size + 1) (by simp); clear k1) | (go_at_call 63; refine (l01In_any _ _ _ _).mono ?_; rintro e W2 ⟨he, hw⟩; (first | rw [HIN.out] at he); subst he; have hw := hw.symm; subst hw) | (go_at_call 96; refine (sGrind_any c len cap at' st ct b _ p4 (by omega)).mono ?_; rintro e W3 ⟨he, k3⟩; rw [ho] at he; have he : e = .returned (.tuple #[.int .i64 0, .bool false]) := he; subst he; have G3 := hik (G1.out.trans k3); clear k3))
      go_ret2
      exact ⟨rfl, G3.out⟩
    | some k =>
      rw [(gn_some (gcd5_ok hb) ho).1, (gn_some (gcd5_ok hb) ho).2]
      go_enter Tryd.func48, Tryd.ntmps48
      go_wp2_with (first | (go_at_call 80; refine (sSourceOK_any c len cap at' st ct f g _ (hik (h.out.keep ((Chg.refl nob w).alloc _))) hl hs).mono ?_; rintro e W1 ⟨he, k1⟩; rw [h2] at he; subst he; have G1 := hik (((Chg.refl nob w).alloc (.cells #[.slice c len cap, .int .i64 at', .string st, .int .i64 ct] 47)).trans k1); have R1 := hik (rowIs_keep (row4_new w (.slice c len cap) (.int .i64 at') (.string st) (.int .i64 ct) 47) k1); obtain ⟨hc1, hf1, hz1⟩ := kcell k1 (w.heap.size + 1) (by simp); clear k1) | (go_at_call 63; refine (l01In_any _ _ _ _).mono ?_; rintro e W2 ⟨he, hw⟩; (first | rw [HIN.out] at he); subst he; have hw := hw.symm; subst hw) | (go_at_call 96; refine (sGrind_any c len cap at' st ct b _ p4 (by omega)).mono ?_; rintro e W3 ⟨he, k3⟩; rw [ho] at he; have he : e = .returned (.tuple #[.int .i64 k, .bool true]) := he; subst he; have G3 := hik (G1.out.trans k3); clear k3))
      go_ret2
      exact ⟨rfl, G3.out⟩
  · rw [(gn_no (gcd5_out hb) (by decide)).1, (gn_no (gcd5_out hb) (by decide)).2]
    have HIN := hik (show inW bits 0 12 = false from decide_eq_false hb)
    go_enter Tryd.func48, Tryd.ntmps48
    go_wp2_with (first | (go_at_call 80; refine (sSourceOK_any c len cap at' st ct f g _ (hik (h.out.keep ((Chg.refl nob w).alloc _))) hl hs).mono ?_; rintro e W1 ⟨he, k1⟩; rw [h2] at he; subst he; have G1 := hik (((Chg.refl nob w).alloc (.cells #[.slice c len cap, .int .i64 at', .string st, .int .i64 ct] 47)).trans k1); have R1 := hik (rowIs_keep (row4_new w (.slice c len cap) (.int .i64 at') (.string st) (.int .i64 ct) 47) k1); obtain ⟨hc1, hf1, hz1⟩ := kcell k1 (w.heap.size + 1) (by simp); clear k1) | (go_at_call 63; refine (l01In_any _ _ _ _).mono ?_; rintro e W2 ⟨he, hw⟩; (first | rw [HIN.out] at he); subst he; have hw := hw.symm; subst hw))
    go_ret2
    exact ⟨rfl, G1.out⟩

end Go.Proofs.YtmnakafplpmphabDoor
