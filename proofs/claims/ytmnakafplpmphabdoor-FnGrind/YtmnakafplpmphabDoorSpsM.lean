/- The least nonce that does, and whether one does, by the model, with their codes: contracts. Conditions: rows that can be read. -/
import Derived.Test.YtmnakafplpmphabDoorSpsN
import Derived.Test.YtmnakafplpmphabDoorSpsZ
namespace Go.Proofs.YtmnakafplpmphabDoor
open Go.ChangeShapes Go.WideShapes Go.ChangeAt Go.RowKit
set_option linter.unusedVariables false
set_option maxRecDepth 100000
set_option linter.unusedSimpArgs false

/-- The code of a source and bits. -/
def gcd5 (ok : Bool) (bits : Int) : Int := if ok then (if 0 ≤ bits ∧ bits ≤ 12 then 0 else 4) else 1
theorem gcd5_bad (bits : Int) : gcd5 false bits = 1 := rfl
theorem gcd5_out {bits : Int} (h : ¬ (0 ≤ bits ∧ bits ≤ 12)) : gcd5 true bits = 4 := by unfold gcd5; rw [if_pos rfl, if_neg h]
theorem gcd5_zero {ok : Bool} {bits : Int} (h : gcd5 ok bits = 0) : ok = true ∧ (0 ≤ bits ∧ bits ≤ 12) := by
  cases ok
  · rw [gcd5_bad] at h; exact absurd h (by decide)
  · by_cases hb : 0 ≤ bits ∧ bits ≤ 12
    · exact ⟨rfl, hb⟩
    · rw [gcd5_out hb] at h; exact absurd h (by decide)
theorem gcd5_ok {bits : Int} (h : 0 ≤ bits ∧ bits ≤ 12) : gcd5 true bits = 0 := by unfold gcd5; rw [if_pos rfl, if_pos h]
/-- What is found, or the code why not. -/
def gnc (ok : Bool) (bits : Int) (st : ByteArray) : Int := if gcd5 ok bits = 0 then (if gnB (fstB (ftb st bits.toNat) 65536) then 0 else 14) else gcd5 ok bits
def gnv (ok : Bool) (bits : Int) (st : ByteArray) : Int := if gcd5 ok bits = 0 then gnN (fstB (ftb st bits.toNat) 65536) else 0
theorem gn_no {ok : Bool} {bits : Int} {st : ByteArray} {cd : Int} (h : gcd5 ok bits = cd) (h0 : ¬ cd = 0) : gnc ok bits st = cd ∧ gnv ok bits st = 0 := by
  unfold gnc gnv; rw [h, if_neg h0, if_neg h0]; exact ⟨rfl, rfl⟩
theorem gn_some {ok : Bool} {bits : Int} {st : ByteArray} {k : Nat} (h : gcd5 ok bits = 0) (hf : fstB (ftb st bits.toNat) 65536 = some k) : gnc ok bits st = 0 ∧ gnv ok bits st = k := by
  unfold gnc gnv; rw [h, if_pos rfl, if_pos rfl, hf]; exact ⟨rfl, rfl⟩
theorem gn_none {ok : Bool} {bits : Int} {st : ByteArray} (h : gcd5 ok bits = 0) (hf : fstB (ftb st bits.toNat) 65536 = none) : gnc ok bits st = 14 ∧ gnv ok bits st = 0 := by
  unfold gnc gnv; rw [h, if_pos rfl, if_pos rfl, hf]; exact ⟨rfl, rfl⟩
theorem fstB_below {p : Nat → Bool} {n : Nat} (h : fstB p n = none) (j : Nat) (hj : j < n) : p j = false := by
  induction n with
  | zero => omega
  | succ n ih =>
    simp only [fstB] at h
    cases e : fstB p n with
    | some i => rw [e] at h; cases h
    | none =>
      rw [e] at h
      cases hp : p n
      · by_cases q : j = n
        · subst q; exact hp
        · exact ih e (by omega)
      · rw [hp] at h; simp at h
theorem fstB_spec {p : Nat → Bool} {n k : Nat} (h : fstB p n = some k) : k < n ∧ p k = true ∧ ∀ j, j < k → p j = false := by
  induction n with
  | zero => cases h
  | succ n ih =>
    simp only [fstB] at h
    cases e : fstB p n with
    | some i =>
      rw [e] at h
      simp at h
      subst h
      obtain ⟨a, b, c⟩ := ih e
      exact ⟨by omega, b, c⟩
    | none =>
      rw [e] at h
      cases hp : p n
      · rw [hp] at h; simp at h
      · rw [hp] at h
        simp at h
        subst h
        exact ⟨by omega, hp, fun j hj => fstB_below e j hj⟩
theorem ftb_zero (st : ByteArray) (k : Nat) : ftb st 0 k = true := by
  unfold ftb
  apply decide_eq_true
  have h0 := zs_B (grH st k) 0
  have h1 := zs_B (grH st k) 1
  show (zs (grH st k) 0 * 256 + zs (grH st k) 1) / 65536 = 0
  omega
/-- Whether a nonce does, or the code why it is not asked. -/
def cnc (ok : Bool) (bits nonce : Int) : Int := if gcd5 ok bits = 0 then (if 0 ≤ nonce ∧ nonce ≤ 65535 then 0 else 4) else gcd5 ok bits
def cnv (ok : Bool) (bits nonce : Int) (st : ByteArray) : Bool := if cnc ok bits nonce = 0 then ftb st bits.toNat nonce.toNat else false
theorem cn_no {ok : Bool} {bits nonce : Int} {st : ByteArray} {cd : Int} (h : gcd5 ok bits = cd) (h0 : ¬ cd = 0) : cnc ok bits nonce = cd ∧ cnv ok bits nonce st = false := by
  have e : cnc ok bits nonce = cd := by unfold cnc; rw [h, if_neg h0]
  exact ⟨e, by unfold cnv; rw [e, if_neg h0]⟩
theorem cn_out {ok : Bool} {bits nonce : Int} {st : ByteArray} (h : gcd5 ok bits = 0) (hn : ¬ (0 ≤ nonce ∧ nonce ≤ 65535)) : cnc ok bits nonce = 4 ∧ cnv ok bits nonce st = false := by
  have e : cnc ok bits nonce = 4 := by unfold cnc; rw [h, if_pos rfl, if_neg hn]
  exact ⟨e, by unfold cnv; rw [e]; rfl⟩
theorem cn_ok {ok : Bool} {bits nonce : Int} {st : ByteArray} (h : gcd5 ok bits = 0) (hn : 0 ≤ nonce ∧ nonce ≤ 65535) : cnc ok bits nonce = 0 ∧ cnv ok bits nonce st = ftb st bits.toNat nonce.toNat := by
  have e : cnc ok bits nonce = 0 := by unfold cnc; rw [h, if_pos rfl, if_pos hn]
  exact ⟨e, by unfold cnv; rw [e]; rfl⟩

set_option maxHeartbeats 2000000 in
theorem sGrindNonce_any (c : Option Addr) (len cap : Nat) (f g : Nat → Int) (at' : Int) (st : ByteArray) (ct : Int) (bits : Int) (w : World) (h : Hid (PairV w c len f g)) (hl : (len : Int) ≤ 9223372036854775807) (hs : (st.size : Int) ≤ 9223372036854775807) :
    Calls Tryd.prog 48 #[.agg #[.slice c len cap, .int .i64 at', .string st, .int .i64 ct], .int .i64 bits] w fun e w' => e = .returned (.tuple #[.int .i64 (gnv (sokb f g len at' st ct) bits st), .int .i64 (gnc (sokb f g len at' st ct) bits st)]) ∧ Chg nob w w' := by
  cases h2 : sokb f g len at' st ct
  · rw [(gn_no (gcd5_bad bits) (by decide)).1, (gn_no (gcd5_bad bits) (by decide)).2]
    go_enter Tryd.func48, Tryd.ntmps48
    go_wp2_with (go_at_call 80; refine (sSourceOK_any c len cap at' st ct f g _ (hik (h.out.keep ((Chg.refl nob w).alloc _))) hl hs).mono ?_; rintro e W1 ⟨he, k1⟩; rw [h2] at he; subst he; have G1 := hik (((Chg.refl nob w).alloc (.cells #[.slice c len cap, .int .i64 at', .string st, .int .i64 ct] 47)).trans k1); have R1 := hik (rowIs_keep (row4_new w (.slice c len cap) (.int .i64 at') (.string st) (.int .i64 ct) 47) k1); obtain ⟨hc1, hf1, hz1⟩ := kcell k1 (w.heap.size + 1) (by simp); clear k1)
    go_ret2
    exact ⟨rfl, G1.out⟩
  obtain ⟨p1, p2, p3, p4, p5⟩ := sokb_parts h2
  by_cases hb : 0 ≤ bits ∧ bits ≤ 12
  · obtain ⟨b, rfl⟩ : ∃ b : Nat, bits = b := ⟨bits.toNat, by omega⟩
    have HIN := hik (show inW (b : Int) 0 12 = true from decide_eq_true hb)
    cases ho : fstB (ftb st b) 65536 with
    | none =>
      rw [(gn_none (gcd5_ok hb) ho).1, (gn_none (gcd5_ok hb) ho).2]
      go_enter Tryd.func48, Tryd.ntmps48
      go_wp2_with (first | (go_at_call 80; refine (sSourceOK_any c len cap at' st ct f g _ (hik (h.out.keep ((Chg.refl nob w).alloc _))) hl hs).mono ?_; rintro e W1 ⟨he, k1⟩; rw [h2] at he; subst he; have G1 := hik (((Chg.refl nob w).alloc (.cells #[.slice c len cap, .int .i64 at', .string st, .int .i64 ct] 47)).trans k1); have R1 := hik (rowIs_keep (row4_new w (.slice c len cap) (.int .i64 at') (.string st) (.int .i64 ct) 47) k1); obtain ⟨hc1, hf1, hz1⟩ := kcell k1 (w.heap.size + 1) (by simp); clear k1) | (go_at_call 63; refine (l01In_any _ _ _ _).mono ?_; rintro e W2 ⟨he, hw⟩; (first | rw [HIN.out] at he); subst he; have hw := hw.symm; subst hw) | (go_at_call 96; refine (sGrind_any c len cap at' st ct b _ p4 (by omega)).mono ?_; rintro e W3 ⟨he, k3⟩; rw [ho] at he; have he : e = .returned (.tuple #[.int .i64 0, .bool false]) := he; subst he; have G3 := hik (G1.out.trans k3); clear k3))
      go_ret2
      exact ⟨rfl, G3.out⟩
    | some k =>
      rw [(gn_some (gcd5_ok hb) ho).1, (gn_some (gcd5_ok hb) ho).2]
      go_enter Tryd.func48, Tryd.ntmps48
      go_wp2_with (first | (go_at_call 80; refine (sSourceOK_any c len cap at' st ct f g _ (hik (h.out.keep ((Chg.refl nob w).alloc _))) hl hs).mono ?_; rintro e W1 ⟨he, k1⟩; rw [h2] at he; subst he; have G1 := hik (((Chg.refl nob w).alloc (.cells #[.slice c len cap, .int .i64 at', .string st, .int .i64 ct] 47)).trans k1); have R1 := hik (rowIs_keep (row4_new w (.slice c len cap) (.int .i64 at') (.string st) (.int .i64 ct) 47) k1); obtain ⟨hc1, hf1, hz1⟩ := kcell k1 (w.heap.size + 1) (by simp); clear k1) | (go_at_call 63; refine (l01In_any _ _ _ _).mono ?_; rintro e W2 ⟨he, hw⟩; (first | rw [HIN.out] at he); subst he; have hw := hw.symm; subst hw) | (go_at_call 96; refine (sGrind_any c len cap at' st ct b _ p4 (by omega)).mono ?_; rintro e W3 ⟨he, k3⟩; rw [ho] at he; have he : e = .returned (.tuple #[.int .i64 k, .bool true]) := he; subst he; have G3 := hik (G1.out.trans k3); clear k3))
      go_ret2
      exact ⟨rfl, G3.out⟩
  · rw [(gn_no (gcd5_out hb) (by decide)).1, (gn_no (gcd5_out hb) (by decide)).2]
    have HIN := hik (show inW bits 0 12 = false from decide_eq_false hb)
    go_enter Tryd.func48, Tryd.ntmps48
    go_wp2_with (first | (go_at_call 80; refine (sSourceOK_any c len cap at' st ct f g _ (hik (h.out.keep ((Chg.refl nob w).alloc _))) hl hs).mono ?_; rintro e W1 ⟨he, k1⟩; rw [h2] at he; subst he; have G1 := hik (((Chg.refl nob w).alloc (.cells #[.slice c len cap, .int .i64 at', .string st, .int .i64 ct] 47)).trans k1); have R1 := hik (rowIs_keep (row4_new w (.slice c len cap) (.int .i64 at') (.string st) (.int .i64 ct) 47) k1); obtain ⟨hc1, hf1, hz1⟩ := kcell k1 (w.heap.size + 1) (by simp); clear k1) | (go_at_call 63; refine (l01In_any _ _ _ _).mono ?_; rintro e W2 ⟨he, hw⟩; (first | rw [HIN.out] at he); subst he; have hw := hw.symm; subst hw))
    go_ret2
    exact ⟨rfl, G1.out⟩