/- Several texts in one: What the model's own copies of sources are, and its new sources: contracts. Conditions: rows that can be read. · What the model draws, whatever draws: contracts. Conditions: rows that can be read; a right source with draws left. -/
import Derived.Test.YtccgjbdjbgefiaaGreatDoorBzab
import Derived.Test.YtccgjbdjbgefiaaGreatDoorBzap
import Derived.Test.YtccgjbdjbgefiaaGreatDoorBzar
import Derived.Test.YtccgjbdjbgefiaaGreatDoorBzau
namespace Go.Proofs.YtccgjbdjbgefiaaGreatDoor
open Go.ChangeShapes Go.WideShapes Go.ChangeAt Go.RowKit
set_option linter.unusedVariables false
set_option maxRecDepth 100000
set_option linter.unusedSimpArgs false

def scn (code : Int) (len : Nat) : Nat := if code = 0 then len else 0
def scS (code : Int) (st : ByteArray) : ByteArray := if code = 0 then st else ⟨#[]⟩

set_option maxRecDepth 100000 in
set_option maxHeartbeats 1000000 in
theorem sOwn_any (c : Option Addr) (n cap : Nat) (f g : Nat → Int) (at' : Int) (st : ByteArray) (ct : Int) (w : World) (h : Hid (PairV w c n f g)) (hn : n ≤ 1099511627776) :
    Calls Tryz.prog 28 #[.agg #[.slice c n cap, .int .i64 at', .string st, .int .i64 ct]] w fun e w' => SrAns w n f g at' st ct e w' := by
  obtain ⟨i0, hi, hz0, hz1, hz2⟩ := info_parts infoExt
  have HI := hik hi
  have HZ0 := hik hz0
  have HZ1 := hik hz1
  have HZ2 := hik hz2
  clear hi hz0 hz1 hz2
  go_enter Tryz.func28, Tryz.ntmps28
  go_wp2_with (at_builtin; refine wpList_append_pairs _ (.tmp 3) (.tmp 5) 30 rfl rfl i0 Tryz.underlying30 HI.out HZ0.out HZ1.out HZ2.out (w.heap.size + 1 + 1) (by simp) rfl c n cap f g rfl (h.out.keep ((((Chg.refl nob w).alloc _).alloc _).alloc _)) hn ?_)
  intro c1 cap1 W1 ho hle hm k1
  have R0 := hik (rowIs_keep (World.rowIs.alloc (World.rowIs.alloc (row4_new w (.slice c n cap) (.int .i64 at') (.string st) (.int .i64 ct) 33) (.cells #[.slice none 0 0, .int .i64 0, .string ⟨#[]⟩, .int .i64 0] 33)) (.cells #[] 31)) k1)
  have R1 := hik (rowIs_keep (World.rowIs.alloc (row4_new (w.alloc (.cells #[.slice c n cap, .int .i64 at', .string st, .int .i64 ct] 33)) (.slice none 0 0) (.int .i64 0) (.string ⟨#[]⟩) (.int .i64 0) 33) (.cells #[] 31)) k1)
  have G1 := hik (((((Chg.refl nob w).alloc (.cells #[.slice c n cap, .int .i64 at', .string st, .int .i64 ct] 33)).alloc (.cells #[.slice none 0 0, .int .i64 0, .string ⟨#[]⟩, .int .i64 0] 33)).alloc (.cells #[] 31)).trans k1)
  have HO := hik ho
  have y0 : W1.cell? ⟨w.heap.size, 0, none⟩ = some (.slice c n cap) := R0.out.cell (by omega)
  obtain ⟨hc1, hf1, hz1⟩ := kcell k1 (w.heap.size + 2) (by simp)
  clear k1 ho hle hm HI HZ0 HZ1 HZ2
  go_wp2
  have R2 : Hid ((W1.setCell ⟨w.heap.size, 0, none⟩ (.slice c1 n cap1)).rowIs (w.heap.size + 1) 33 4 (pv4 (.slice none 0 0) (.int .i64 0) (.string ⟨#[]⟩) (.int .i64 0))) := hik (World.rowIs.setOther (by simpa using R1.out) (by simp) _)
  exact bodyPost_ret (v := .agg #[.slice c1 n cap1, .int .i64 at', .string st, .int .i64 ct]) (by simp [results, Tryz.results28, go_sem, row4_s0 R2.out (.slice c1 n cap1), row4_s1 R2.out (.slice c1 n cap1) (.int .i64 at'), row4_s2 R2.out (.slice c1 n cap1) (.int .i64 at') (.string st), row4_s3 R2.out (.slice c1 n cap1) (.int .i64 at') (.string st) (.int .i64 ct)]) rfl ⟨_, _, rfl, ((HO.out.chg (P := fun b => b < w.heap.size + 2) (chg4_set ((Chg.refl _ W1).setCell (p := ⟨w.heap.size, 0, none⟩) (fun _ => (by show w.heap.size < w.heap.size + 2; omega)) _) _ (fun _ => (by show w.heap.size + 1 < w.heap.size + 2; omega)) _ _ _ _) (fun b hb _ hp => (by first | omega | (simp at hb; omega)))).low (B' := w.heap.size) (by first | omega | (simp; omega))), chg4_set (G1.out.setCell (p := ⟨w.heap.size, 0, none⟩) (fun l => absurd l (by simp)) _) _ (fun l => absurd l (by simp)) _ _ _ _⟩


end Go.Proofs.YtccgjbdjbgefiaaGreatDoor

namespace Go.Proofs.YtccgjbdjbgefiaaGreatDoor
open Go.ChangeShapes Go.WideShapes Go.ChangeAt Go.RowKit
set_option linter.unusedVariables false
set_option maxRecDepth 100000
set_option linter.unusedSimpArgs false

/-- The two numbers of a source behind k draws. -/
def dnA (len : Nat) (a : Int) (k : Nat) : Int := if 0 < len then a + k else a
def dnC (len : Nat) (c : Int) (k : Nat) : Int := if 0 < len then c else c + k
/-- Its k-th draw from here. -/
def drE (f : Nat → Int) (len : Nat) (a : Int) (st : ByteArray) (ct : Int) (k : Nat) : Int := if 0 < len then f ((a + k).toNat % len) else drA st (ct + k)
def drF (g : Nat → Int) (len : Nat) (a : Int) (st : ByteArray) (ct : Int) (k : Nat) : Int := if 0 < len then g ((a + k).toNat % len) else drB st (ct + k)
theorem dnA_zero (len : Nat) (a : Int) : dnA len a 0 = a := by unfold dnA; split <;> omega
theorem dnC_zero (len : Nat) (c : Int) : dnC len c 0 = c := by unfold dnC; split <;> omega
theorem dnA_le (len : Nat) (a : Int) (k : Nat) : a ≤ dnA len a k ∧ dnA len a k ≤ a + k := by unfold dnA; split <;> omega
theorem dnC_le (len : Nat) (c : Int) (k : Nat) : c ≤ dnC len c k ∧ dnC len c k ≤ c + k := by unfold dnC; split <;> omega
theorem tmod_nat (a : Int) (len : Nat) (a0 : 0 ≤ a) (h : 0 < len) : a.tmod (len : Int) = ((a.toNat % len : Nat) : Int) := by
  rw [Int.tmod_eq_emod_of_nonneg a0, Int.natCast_emod, Int.toNat_of_nonneg a0]

set_option maxHeartbeats 1000000 in
theorem sDraw_any (c : Option Addr) (len cap : Nat) (at' : Int) (st : ByteArray) (ct : Int) (f g : Nat → Int) (w : World) (h : Hid (PairV w c len f g)) (hl : len ≤ 64) (hst : st.size = 32) (a0 : 0 ≤ at') (a1 : at' ≤ 1000000) (c0 : 0 ≤ ct) (c1 : ct ≤ 1000000) :
    Calls Tryz.prog 41 #[.agg #[.slice c len cap, .int .i64 at', .string st, .int .i64 ct]] w fun e w' => e = .returned (.tuple #[.agg #[.slice c len cap, .int .i64 (dnA len at' 1), .string st, .int .i64 (dnC len ct 1)], .agg #[.int .i64 (drE f len at' st ct 0), .int .i64 (drF g len at' st ct 0)]]) ∧ Chg nob w w' := by
  by_cases h0 : 0 < len
  · refine (sDrawS_any c len cap (at'.toNat % len) at' st ct f g w h (Nat.mod_lt _ h0) hl a0 a1 (tmod_nat at' len a0 h0)).mono ?_
    rintro e w' ⟨rfl, k⟩
    refine ⟨?_, k⟩
    have e1 : dnA len at' 1 = at' + 1 := by unfold dnA; rw [if_pos h0]; omega
    have e2 : dnC len ct 1 = ct := by unfold dnC; rw [if_pos h0]
    have e3 : drE f len at' st ct 0 = f (at'.toNat % len) := by unfold drE; rw [if_pos h0]; simp
    have e4 : drF g len at' st ct 0 = g (at'.toNat % len) := by unfold drF; rw [if_pos h0]; simp
    rw [e1, e2, e3, e4]
  · obtain rfl : len = 0 := by omega
    refine (sDrawH_any c cap at' st ct w hst c0 c1).mono ?_
    rintro e w' ⟨rfl, k⟩
    refine ⟨?_, k⟩
    have e1 : dnA 0 at' 1 = at' := rfl
    have e2 : dnC 0 ct 1 = ct + 1 := rfl
    have e3 : drE f 0 at' st ct 0 = drA st ct := by unfold drE; rw [if_neg (by omega)]; simp
    have e4 : drF g 0 at' st ct 0 = drB st ct := by unfold drF; rw [if_neg (by omega)]; simp
    rw [e1, e2, e3, e4]

end Go.Proofs.YtccgjbdjbgefiaaGreatDoor
