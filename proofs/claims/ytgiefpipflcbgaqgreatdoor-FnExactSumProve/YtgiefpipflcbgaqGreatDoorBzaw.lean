/- Several texts in one: What the model's own copies of sources are, and its new sources: contracts. Conditions: rows that can be read. · What the model's sources are behind what they take in: contracts. Conditions: rows that can be read. · The least nonce that does, and whether one does, by the model, with their codes: contracts. Conditions: rows that can be read. -/
import Derived.Test.YtgiefpipflcbgaqGreatDoorBzaf
import Derived.Test.YtgiefpipflcbgaqGreatDoorSpsB
import Derived.Test.YtgiefpipflcbgaqGreatDoorBzav
namespace Go.Proofs.YtgiefpipflcbgaqGreatDoor
open Go.ChangeShapes Go.WideShapes Go.ChangeAt Go.RowKit
set_option linter.unusedVariables false
set_option maxRecDepth 100000
set_option linter.unusedSimpArgs false

theorem nwT_in (label : ByteArray) (h : label.size ≤ 100) : (nwT label).size ≤ 65536 := by rw [nwT_size]; omega
/-- The code of a label. -/
def lbc (n : Nat) : Int := if 65536 < n then 2 else if 100 < n then 4 else 0
/-- The state of a new source, or none. -/
def lbS (label : ByteArray) : ByteArray := if label.size ≤ 100 then nwS label else ⟨#[]⟩
theorem lb_long {label : ByteArray} (h : 65536 < label.size) : lbc label.size = 2 ∧ lbS label = ⟨#[]⟩ := ⟨if_pos h, if_neg (by omega)⟩
theorem lb_range {label : ByteArray} (h : ¬ 65536 < label.size) (h' : 100 < label.size) : lbc label.size = 4 ∧ lbS label = ⟨#[]⟩ := ⟨by unfold lbc; rw [if_neg h, if_pos h'], if_neg (by omega)⟩
theorem lb_ok {label : ByteArray} (h' : ¬ 100 < label.size) : lbc label.size = 0 ∧ lbS label = nwS label := ⟨by unfold lbc; rw [if_neg (by omega), if_neg h'], if_pos (by omega)⟩

/-- The code of a new script, and what it holds. -/
def scc (m : Nat) (len : Nat) (ok : Bool) : Int := if 65536 < m ∨ 4096 < len then 2 else if ok = false then 1 else if 100 < m ∨ len < 1 ∨ 64 < len then 4 else 0
def scn (code : Int) (len : Nat) : Nat := if code = 0 then len else 0
def scS (code : Int) (st : ByteArray) : ByteArray := if code = 0 then st else ⟨#[]⟩

set_option maxRecDepth 100000 in
set_option maxHeartbeats 1000000 in
theorem sOwn_any (c : Option Addr) (n cap : Nat) (f g : Nat → Int) (at' : Int) (st : ByteArray) (ct : Int) (w : World) (h : Hid (PairV w c n f g)) (hn : n ≤ 1099511627776) :
    Calls Tryz.prog 29 #[.agg #[.slice c n cap, .int .i64 at', .string st, .int .i64 ct]] w fun e w' => SrAns w n f g at' st ct e w' := by
  obtain ⟨i0, hi, hz0, hz1, hz2⟩ := info_parts infoExt
  have HI := hik hi
  have HZ0 := hik hz0
  have HZ1 := hik hz1
  have HZ2 := hik hz2
  clear hi hz0 hz1 hz2
  go_enter Tryz.func29, Tryz.ntmps29
  go_wp2_with (at_builtin; refine wpList_append_pairs _ (.tmp 3) (.tmp 5) 29 rfl rfl i0 Tryz.underlying29 HI.out HZ0.out HZ1.out HZ2.out (w.heap.size + 1 + 1) (by simp) rfl c n cap f g rfl (h.out.keep ((((Chg.refl nob w).alloc _).alloc _).alloc _)) hn ?_)
  intro c1 cap1 W1 ho hle hm k1
  have R0 := hik (rowIs_keep (World.rowIs.alloc (World.rowIs.alloc (row4_new w (.slice c n cap) (.int .i64 at') (.string st) (.int .i64 ct) 31) (.cells #[.slice none 0 0, .int .i64 0, .string ⟨#[]⟩, .int .i64 0] 31)) (.cells #[] 45)) k1)
  have R1 := hik (rowIs_keep (World.rowIs.alloc (row4_new (w.alloc (.cells #[.slice c n cap, .int .i64 at', .string st, .int .i64 ct] 31)) (.slice none 0 0) (.int .i64 0) (.string ⟨#[]⟩) (.int .i64 0) 31) (.cells #[] 45)) k1)
  have G1 := hik (((((Chg.refl nob w).alloc (.cells #[.slice c n cap, .int .i64 at', .string st, .int .i64 ct] 31)).alloc (.cells #[.slice none 0 0, .int .i64 0, .string ⟨#[]⟩, .int .i64 0] 31)).alloc (.cells #[] 45)).trans k1)
  have HO := hik ho
  have y0 : W1.cell? ⟨w.heap.size, 0, none⟩ = some (.slice c n cap) := R0.out.cell (by omega)
  obtain ⟨hc1, hf1, hz1⟩ := kcell k1 (w.heap.size + 2) (by simp)
  clear k1 ho hle hm HI HZ0 HZ1 HZ2
  go_wp2
  have R2 : Hid ((W1.setCell ⟨w.heap.size, 0, none⟩ (.slice c1 n cap1)).rowIs (w.heap.size + 1) 31 4 (pv4 (.slice none 0 0) (.int .i64 0) (.string ⟨#[]⟩) (.int .i64 0))) := hik (World.rowIs.setOther (by simpa using R1.out) (by simp) _)
  exact bodyPost_ret (v := .agg #[.slice c1 n cap1, .int .i64 at', .string st, .int .i64 ct]) (by simp [results, Tryz.results29, go_sem, row4_s0 R2.out (.slice c1 n cap1), row4_s1 R2.out (.slice c1 n cap1) (.int .i64 at'), row4_s2 R2.out (.slice c1 n cap1) (.int .i64 at') (.string st), row4_s3 R2.out (.slice c1 n cap1) (.int .i64 at') (.string st) (.int .i64 ct)]) rfl ⟨_, _, rfl, ((HO.out.chg (P := fun b => b < w.heap.size + 2) (chg4_set ((Chg.refl _ W1).setCell (p := ⟨w.heap.size, 0, none⟩) (fun _ => (by show w.heap.size < w.heap.size + 2; omega)) _) _ (fun _ => (by show w.heap.size + 1 < w.heap.size + 2; omega)) _ _ _ _) (fun b hb _ hp => (by first | omega | (simp at hb; omega)))).low (B' := w.heap.size) (by first | omega | (simp; omega))), chg4_set (G1.out.setCell (p := ⟨w.heap.size, 0, none⟩) (fun l => absurd l (by simp)) _) _ (fun l => absurd l (by simp)) _ _ _ _⟩

end Go.Proofs.YtgiefpipflcbgaqGreatDoor

namespace Go.Proofs.YtgiefpipflcbgaqGreatDoor
open Go.ChangeShapes Go.WideShapes Go.ChangeAt Go.RowKit
set_option linter.unusedVariables false
set_option maxRecDepth 100000
set_option linter.unusedSimpArgs false

/-- The code of a text that is taken in. -/
def atc (m : Nat) (ok : Bool) : Int := if 65536 < m then 2 else if ok then 0 else 1
def scI (code : Int) (a : Int) : Int := if code = 0 then a else 0
theorem atc_long {m : Nat} {ok : Bool} (h : 65536 < m) : atc m ok = 2 := if_pos h
theorem atc_bad {m : Nat} (h : ¬ 65536 < m) : atc m false = 1 := by unfold atc; rw [if_neg h]; rfl
theorem atc_ok {m : Nat} (h : ¬ 65536 < m) : atc m true = 0 := by unfold atc; rw [if_neg h]; rfl
theorem sokb_parts {f g : Nat → Int} {len : Nat} {at' : Int} {st : ByteArray} {ct : Int} (h : sokb f g len at' st ct = true) : len ≤ 64 ∧ okP f g len = true ∧ (0 ≤ at' ∧ at' ≤ 1000000) ∧ st.size = 32 ∧ (0 ≤ ct ∧ ct ≤ 1000000) := by
  unfold sokb inW at h
  simp only [Bool.and_eq_true, decide_eq_true_eq] at h
  exact ⟨h.1.1.1.1, h.1.1.1.2, h.1.1.2, h.1.2, h.2⟩

end Go.Proofs.YtgiefpipflcbgaqGreatDoor

namespace Go.Proofs.YtgiefpipflcbgaqGreatDoor
open Go.ChangeShapes Go.WideShapes Go.ChangeAt Go.RowKit
set_option linter.unusedVariables false
set_option maxRecDepth 100000
set_option linter.unusedSimpArgs false

/-- The code of a source and bits. -/
def gcd5 (ok : Bool) (bits : Int) : Int := if ok then (if 0 ≤ bits ∧ bits ≤ 12 then 0 else 4) else 1
theorem gcd5_bad (bits : Int) : gcd5 false bits = 1 := rfl
theorem gcd5_out {bits : Int} (h : ¬ (0 ≤ bits ∧ bits ≤ 12)) : gcd5 true bits = 4 := by unfold gcd5; rw [if_pos rfl, if_neg h]
theorem gcd5_zero {ok : Bool} {bits : Int} (h : gcd5 ok bits = 0) : ok = true ∧ (0 ≤ bits ∧ bits ≤ 12) := by
  cases ok
  · rw [gcd5_bad] at h; exact absurd h (by decide)
  · by_cases hb : 0 ≤ bits ∧ bits ≤ 12
    · exact ⟨rfl, hb⟩
    · rw [gcd5_out hb] at h; exact absurd h (by decide)
theorem gcd5_ok {bits : Int} (h : 0 ≤ bits ∧ bits ≤ 12) : gcd5 true bits = 0 := by unfold gcd5; rw [if_pos rfl, if_pos h]
/-- What is found, or the code why not. -/
def gnc (ok : Bool) (bits : Int) (st : ByteArray) : Int := if gcd5 ok bits = 0 then (if gnB (fstB (ftb st bits.toNat) 65536) then 0 else 14) else gcd5 ok bits
def gnv (ok : Bool) (bits : Int) (st : ByteArray) : Int := if gcd5 ok bits = 0 then gnN (fstB (ftb st bits.toNat) 65536) else 0
theorem gn_no {ok : Bool} {bits : Int} {st : ByteArray} {cd : Int} (h : gcd5 ok bits = cd) (h0 : ¬ cd = 0) : gnc ok bits st = cd ∧ gnv ok bits st = 0 := by
  unfold gnc gnv; rw [h, if_neg h0, if_neg h0]; exact ⟨rfl, rfl⟩
theorem gn_some {ok : Bool} {bits : Int} {st : ByteArray} {k : Nat} (h : gcd5 ok bits = 0) (hf : fstB (ftb st bits.toNat) 65536 = some k) : gnc ok bits st = 0 ∧ gnv ok bits st = k := by
  unfold gnc gnv; rw [h, if_pos rfl, if_pos rfl, hf]; exact ⟨rfl, rfl⟩
theorem gn_none {ok : Bool} {bits : Int} {st : ByteArray} (h : gcd5 ok bits = 0) (hf : fstB (ftb st bits.toNat) 65536 = none) : gnc ok bits st = 14 ∧ gnv ok bits st = 0 := by
  unfold gnc gnv; rw [h, if_pos rfl, if_pos rfl, hf]; exact ⟨rfl, rfl⟩
theorem fstB_below {p : Nat → Bool} {n : Nat} (h : fstB p n = none) (j : Nat) (hj : j < n) : p j = false := by
  induction n with
  | zero => omega
  | succ n ih =>
    simp only [fstB] at h
    cases e : fstB p n with
    | some i => rw [e] at h; cases h
    | none =>
      rw [e] at h
      cases hp : p n
      · by_cases q : j = n
        · subst q; exact hp
        · exact ih e (by omega)
      · rw [hp] at h; simp at h
theorem fstB_spec {p : Nat → Bool} {n k : Nat} (h : fstB p n = some k) : k < n ∧ p k = true ∧ ∀ j, j < k → p j = false := by
  induction n with
  | zero => cases h
  | succ n ih =>
    simp only [fstB] at h
    cases e : fstB p n with
    | some i =>
      rw [e] at h
      simp at h
      subst h
      obtain ⟨a, b, c⟩ := ih e
      exact ⟨by omega, b, c⟩
    | none =>
      rw [e] at h
      cases hp : p n
      · rw [hp] at h; simp at h
      · rw [hp] at h
        simp at h
        subst h
        exact ⟨by omega, hp, fun j hj => fstB_below e j hj⟩
theorem ftb_zero (st : ByteArray) (k : Nat) : ftb st 0 k = true := by
  unfold ftb
  apply decide_eq_true
  have h0 := zs_B (grH st k) 0
  have h1 := zs_B (grH st k) 1
  show (zs (grH st k) 0 * 256 + zs (grH st k) 1) / 65536 = 0
  omega
/-- Whether a nonce does, or the code why it is not asked. -/
def cnc (ok : Bool) (bits nonce : Int) : Int := if gcd5 ok bits = 0 then (if 0 ≤ nonce ∧ nonce ≤ 65535 then 0 else 4) else gcd5 ok bits
def cnv (ok : Bool) (bits nonce : Int) (st : ByteArray) : Bool := if cnc ok bits nonce = 0 then ftb st bits.toNat nonce.toNat else false
theorem cn_no {ok : Bool} {bits nonce : Int} {st : ByteArray} {cd : Int} (h : gcd5 ok bits = cd) (h0 : ¬ cd = 0) : cnc ok bits nonce = cd ∧ cnv ok bits nonce st = false := by
  have e : cnc ok bits nonce = cd := by unfold cnc; rw [h, if_neg h0]
  exact ⟨e, by unfold cnv; rw [e, if_neg h0]⟩
theorem cn_out {ok : Bool} {bits nonce : Int} {st : ByteArray} (h : gcd5 ok bits = 0) (hn : ¬ (0 ≤ nonce ∧ nonce ≤ 65535)) : cnc ok bits nonce = 4 ∧ cnv ok bits nonce st = false := by
  have e : cnc ok bits nonce = 4 := by unfold cnc; rw [h, if_pos rfl, if_neg hn]
  exact ⟨e, by unfold cnv; rw [e]; rfl⟩
theorem cn_ok {ok : Bool} {bits nonce : Int} {st : ByteArray} (h : gcd5 ok bits = 0) (hn : 0 ≤ nonce ∧ nonce ≤ 65535) : cnc ok bits nonce = 0 ∧ cnv ok bits nonce st = ftb st bits.toNat nonce.toNat := by
  have e : cnc ok bits nonce = 0 := by unfold cnc; rw [h, if_pos rfl, if_pos hn]
  exact ⟨e, by unfold cnv; rw [e]; rfl⟩

end Go.Proofs.YtgiefpipflcbgaqGreatDoor
