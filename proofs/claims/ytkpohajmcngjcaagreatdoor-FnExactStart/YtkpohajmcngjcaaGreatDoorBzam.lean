/- Several texts in one: What looks at settings answer, the program's and the model's: contracts. No condition but those that each theorem states. · What the model's look at rounds answers, and whether a source has draws left: contracts. Conditions: lists that can be read, of at most 2 to the 40. · What a proof begins with: plain. No condition but those that each theorem states. · What the program's Source.answering and drawsLeft answer: contracts. Conditions: a right source with a draw left, a right list that can be read. -/
import Derived.Test.YtkpohajmcngjcaaGreatDoorBzab
import Derived.Test.YtkpohajmcngjcaaGreatDoorBzad
import Derived.Test.YtkpohajmcngjcaaGreatDoorBzap
import Derived.Test.YtkpohajmcngjcaaGreatDoorBzae
import Derived.Test.YtkpohajmcngjcaaGreatDoorBzan
import Derived.Test.YtkpohajmcngjcaaGreatDoorBzaf
import Derived.Test.YtkpohajmcngjcaaGreatDoorBzah
import Derived.Test.YtkpohajmcngjcaaGreatDoorBzaq
import Derived.Test.YtkpohajmcngjcaaGreatDoorBzba
import Derived.Test.YtkpohajmcngjcaaGreatDoorBzbb
import Derived.Test.YtkpohajmcngjcaaGreatDoorBzar
import Derived.Test.YtkpohajmcngjcaaGreatDoorBzao
namespace Go.Proofs.YtkpohajmcngjcaaGreatDoor
open Go.ChangeShapes Go.WideShapes Go.ChangeAt Go.RowKit
set_option linter.unusedVariables false
set_option maxRecDepth 100000
set_option linter.unusedSimpArgs false

/-- A setting's rate is in its bounds. -/
def rtB (r : Int) : Bool := decide (1 ≤ r ∧ r ≤ 3)
/-- A setting's numbers are in their bounds. -/
def stb (r q g : Int) : Bool := decide ((1 ≤ r ∧ r ≤ 3) ∧ (1 ≤ q ∧ q ≤ 8) ∧ (0 ≤ g ∧ g ≤ 12))
theorem stb_parts {r q g : Int} (h : stb r q g = true) : (1 ≤ r ∧ r ≤ 3) ∧ (1 ≤ q ∧ q ≤ 8) ∧ (0 ≤ g ∧ g ≤ 12) := of_decide_eq_true h

theorem toSetting_any (r q g : Int) (w : World) :
    Calls Tryz.prog 9 #[.agg #[.int .i64 r, .int .i64 q, .int .i64 g]] w fun e w' => e = .returned (.agg #[.int .i64 r, .int .i64 q, .int .i64 g]) ∧ Chg nob w w' := by
  go_enter Tryz.func9, Tryz.ntmps9
  go_wp2
  exact bodyPost_ret (v := .agg #[.int .i64 r, .int .i64 q, .int .i64 g]) (by simp [results, Tryz.results9, go_sem]) rfl ⟨rfl, (((Chg.refl _ _).alloc _).alloc _).alloc _⟩

set_option maxHeartbeats 1000000 in
theorem sSettingOK_any (r q g : Int) (w : World) :
    Calls Tryz.prog 64 #[.agg #[.int .i64 r, .int .i64 q, .int .i64 g]] w fun e w' => e = .returned (.bool (stb r q g)) ∧ Chg nob w w' := by
  cases h1 : inW r 1 3
  · have H := hik (show stb r q g = false from decide_eq_false (fun x => by have y := of_decide_eq_false h1; exact y x.1))
    go_enter Tryz.func64, Tryz.ntmps64
    go_wp2_with (go_at_call 99; refine (l01In_any _ _ _ _).mono ?_; rintro e w' ⟨rfl, rfl⟩)
    go_ret
    exact ⟨ret_bool H.out.symm, (Chg.refl _ _).alloc _⟩
  · cases h2 : inW q 1 8
    · have H := hik (show stb r q g = false from decide_eq_false (fun x => by have y := of_decide_eq_false h2; exact y x.2.1))
      go_enter Tryz.func64, Tryz.ntmps64
      go_wp2_with (go_at_call 99; refine (l01In_any _ _ _ _).mono ?_; rintro e w' ⟨rfl, rfl⟩)
      go_ret
      exact ⟨ret_bool H.out.symm, (Chg.refl _ _).alloc _⟩
    · have H := hik (show stb r q g = inW g 0 12 from by
        have y1 := of_decide_eq_true h1
        have y2 := of_decide_eq_true h2
        unfold stb inW
        rw [decide_eq_decide]
        exact ⟨fun x => x.2.2, fun x => ⟨y1, y2, x⟩⟩)
      go_enter Tryz.func64, Tryz.ntmps64
      go_wp2_with (go_at_call 99; refine (l01In_any _ _ _ _).mono ?_; rintro e w' ⟨rfl, rfl⟩)
      go_ret
      exact ⟨ret_bool H.out.symm, (Chg.refl _ _).alloc _⟩

set_option maxHeartbeats 1000000 in
theorem isOpenRate_any (r : Int) (w : World) :
    Calls Tryz.prog 104 #[.int .i64 r] w fun e w' => e = .returned (.bool (rtB r)) ∧ w' = w := by
  by_cases h1 : 1 ≤ r
  · by_cases h2 : r ≤ 3
    · have H := hik (show rtB r = true from decide_eq_true ⟨h1, h2⟩)
      go_enter Tryz.func104, Tryz.ntmps104
      go_wp2
      go_ret
      exact ⟨ret_bool H.out.symm, rfl⟩
    · have H := hik (show rtB r = false from decide_eq_false (fun x => h2 x.2))
      go_enter Tryz.func104, Tryz.ntmps104
      go_wp2
      go_ret
      exact ⟨ret_bool H.out.symm, rfl⟩
  · have H := hik (show rtB r = false from decide_eq_false (fun x => h1 x.1))
    go_enter Tryz.func104, Tryz.ntmps104
    go_wp2
    go_ret
    exact ⟨ret_bool H.out.symm, rfl⟩

set_option maxHeartbeats 2000000 in
theorem settingOK_any (r q g : Int) (w : World) :
    Calls Tryz.prog 73 #[.agg #[.int .i64 r, .int .i64 q, .int .i64 g]] w fun e w' => e = .returned (.bool (stb r q g)) ∧ Chg nob w w' := by
  cases h1 : rtB r
  · have H := hik (show stb r q g = false from decide_eq_false (fun x => by have y := of_decide_eq_false h1; exact y x.1))
    go_enter Tryz.func73, Tryz.ntmps73
    go_wp2_with (go_at_call 104; refine (isOpenRate_any _ _).mono ?_; rintro e w' ⟨rfl, rfl⟩)
    go_ret
    exact ⟨ret_bool H.out.symm, (Chg.refl _ _).alloc _⟩
  · by_cases h2 : 1 ≤ q
    · by_cases h3 : q ≤ 8
      · by_cases h4 : 0 ≤ g
        · by_cases h5 : g ≤ 12
          · have H := hik (show stb r q g = true from decide_eq_true ⟨of_decide_eq_true h1, ⟨h2, h3⟩, h4, h5⟩)
            go_enter Tryz.func73, Tryz.ntmps73
            go_wp2_with (go_at_call 104; refine (isOpenRate_any _ _).mono ?_; rintro e w' ⟨rfl, rfl⟩)
            go_ret
            exact ⟨ret_bool H.out.symm, (Chg.refl _ _).alloc _⟩
          · have H := hik (show stb r q g = false from decide_eq_false (fun x => h5 x.2.2.2))
            go_enter Tryz.func73, Tryz.ntmps73
            go_wp2_with (go_at_call 104; refine (isOpenRate_any _ _).mono ?_; rintro e w' ⟨rfl, rfl⟩)
            go_ret
            exact ⟨ret_bool (by rw [H.out]; exact decide_eq_false (by omega)), (Chg.refl _ _).alloc _⟩
        · have H := hik (show stb r q g = false from decide_eq_false (fun x => h4 x.2.2.1))
          go_enter Tryz.func73, Tryz.ntmps73
          go_wp2_with (go_at_call 104; refine (isOpenRate_any _ _).mono ?_; rintro e w' ⟨rfl, rfl⟩)
          go_ret
          exact ⟨ret_bool H.out.symm, (Chg.refl _ _).alloc _⟩
      · have H := hik (show stb r q g = false from decide_eq_false (fun x => h3 x.2.1.2))
        go_enter Tryz.func73, Tryz.ntmps73
        go_wp2_with (go_at_call 104; refine (isOpenRate_any _ _).mono ?_; rintro e w' ⟨rfl, rfl⟩)
        go_ret
        exact ⟨ret_bool H.out.symm, (Chg.refl _ _).alloc _⟩
    · have H := hik (show stb r q g = false from decide_eq_false (fun x => h2 x.2.1.1))
      go_enter Tryz.func73, Tryz.ntmps73
      go_wp2_with (go_at_call 104; refine (isOpenRate_any _ _).mono ?_; rintro e w' ⟨rfl, rfl⟩)
      go_ret
      exact ⟨ret_bool H.out.symm, (Chg.refl _ _).alloc _⟩


end Go.Proofs.YtkpohajmcngjcaaGreatDoor

namespace Go.Proofs.YtkpohajmcngjcaaGreatDoor
open Go.ChangeShapes Go.WideShapes Go.ChangeAt Go.RowKit
set_option linter.unusedVariables false
set_option maxRecDepth 100000
set_option linter.unusedSimpArgs false

/-- A source has not n draws left. -/
def spb (at' ct : Int) (n : Nat) : Bool := decide (1000000 - (n : Int) < at') || decide (1000000 - (n : Int) < ct)

set_option maxHeartbeats 1000000 in
theorem sSpent_any (c : Option Addr) (len cap : Nat) (at' : Int) (st : ByteArray) (ct : Int) (n : Nat) (w : World) (hn : n ≤ 1000) :
    Calls Tryz.prog 67 #[.agg #[.slice c len cap, .int .i64 at', .string st, .int .i64 ct], .int .i64 n] w fun e w' => e = .returned (.bool (spb at' ct n)) ∧ Chg nob w w' := by
  cases b1 : decide (1000000 - (n : Int) < at')
  · have HV := hik (show spb at' ct n = decide (1000000 - (n : Int) < ct) by unfold spb; rw [b1, Bool.false_or])
    rw [HV.out]
    cases b2 : decide (1000000 - (n : Int) < ct)
    · go_enter Tryz.func67, Tryz.ntmps67
      go_wp2
      go_ret
      exact ⟨by simp [b2], (Chg.refl _ _).alloc _⟩
    · go_enter Tryz.func67, Tryz.ntmps67
      go_wp2
      go_ret
      exact ⟨by simp [b2], (Chg.refl _ _).alloc _⟩
  · have HV := hik (show spb at' ct n = true by unfold spb; rw [b1, Bool.true_or])
    rw [HV.out]
    go_enter Tryz.func67, Tryz.ntmps67
    go_wp2
    go_ret
    exact ⟨by simp, (Chg.refl _ _).alloc _⟩

end Go.Proofs.YtkpohajmcngjcaaGreatDoor

namespace Go.Proofs.YtkpohajmcngjcaaGreatDoor
open Go.ChangeShapes Go.WideShapes Go.ChangeAt Go.RowKit
set_option linter.unusedVariables false

/-- Numbers, four bytes each, behind a text. -/
def stW (T : ByteArray) (f : Nat → Int) : Nat → ByteArray
  | 0 => T
  | k + 1 => stW T f k ++ be4 (f k)
theorem stW_size (T : ByteArray) (f : Nat → Int) : ∀ k, (stW T f k).size = T.size + 4 * k
  | 0 => rfl
  | k + 1 => by rw [stW, ByteArray.size_append, stW_size T f k, be4_size]; omega
/-- The text of a system's hash, a setting, and what is public. -/
def stT (s : Sy) (r n g : Int) : ByteArray := hsh (sdK s 3) ++ by3 r n g
theorem stT_size (s : Sy) (r n g : Int) : (stT s r n g).size = 35 := by unfold stT; rw [ByteArray.size_append, hsh_size, by3_size]
def stX (s : Sy) (r n g : Int) (P : Nat) (f : Nat → Int) : ByteArray := stW (stT s r n g) f P
theorem stX_size (s : Sy) (r n g : Int) (P : Nat) (f : Nat → Int) : (stX s r n g P f).size = 35 + 4 * P := by unfold stX; rw [stW_size, stT_size]
/-- The faults that are told. -/
def stk (s : Sy) (r n g : Int) (P : Nat) (f : Nat → Int) (sk : Bool) (at' ct : Int) : Int := if sysb s = false ∨ stb r n g = false ∨ fds P f = false ∨ sk = false then 1 else if (P : Int) ≠ s.p then 17 else if spb at' ct 200 = true then 6 else 0
/-- The faults that Start tells. -/
def stc (s : Sy) (r n g : Int) (P : Nat) (f : Nat → Int) (sk : Bool) (at' ct : Int) : Int := if 4096 < P then 2 else stk s r n g P f sk at' ct
theorem stk_0 {s : Sy} {r n g : Int} {P : Nat} {f : Nat → Int} {sk : Bool} {at' ct : Int} (h : stk s r n g P f sk at' ct = 0) : sysb s = true ∧ stb r n g = true ∧ fds P f = true ∧ sk = true ∧ (P : Int) = s.p ∧ spb at' ct 200 = false := by
  unfold stk at h
  split at h
  · cases h
  · split at h
    · cases h
    · split at h
      · cases h
      · rename_i h1 h2 h3
        simp only [not_or, Bool.not_eq_false] at h1
        simp only [ne_eq, Decidable.not_not] at h2
        simp only [Bool.not_eq_true] at h3
        exact ⟨h1.1, h1.2.1, h1.2.2.1, h1.2.2.2, h2, h3⟩
theorem sokb_in {f g : Nat → Int} {len : Nat} {at' : Int} {st : ByteArray} {ct : Int} (h : sokb f g len at' st ct = true) : 0 ≤ at' ∧ at' ≤ 1000000 ∧ 0 ≤ ct ∧ ct ≤ 1000000 := by
  unfold sokb inW at h
  simp only [Bool.and_eq_true, decide_eq_true_eq] at h
  omega
theorem sokb_st {f g : Nat → Int} {len : Nat} {at' : Int} {st : ByteArray} {ct : Int} (h : sokb f g len at' st ct = true) : len ≤ 64 ∧ st.size = 32 := by
  unfold sokb inW at h
  simp only [Bool.and_eq_true, decide_eq_true_eq] at h
  exact ⟨h.1.1.1.1, h.1.2⟩
theorem ba_zs9 {T U : ByteArray} (h : T.size = U.size) (hz : ∀ i, i < T.size → zs T i = zs U i) : T = U := by
  apply ByteArray.ext
  apply Array.ext'
  have l1 : T.data.toList.length = T.size := by simp
  have l2 : U.data.toList.length = U.size := by simp
  apply List.ext_getElem
  · rw [l1, l2, h]
  · intro i h1 h2
    have q := hz i (by rw [← l1]; exact h1)
    unfold zs at q
    rw [List.getElem?_eq_getElem h1, List.getElem?_eq_getElem h2] at q
    simp only [Option.getD_some] at q
    exact UInt8.toNat_inj.1 (by omega)
theorem zs_in9 (T : ByteArray) (i : Nat) : 0 ≤ zs T i ∧ zs T i < 256 := by
  unfold zs
  have := (T.data.toList[i]?.getD 0).toNat_lt
  omega
theorem bt_zs9 (T : ByteArray) : bt (zs T) T.size = T := ba_zs9 (bt_size _ _) (fun i hi => by
  rw [bt_size] at hi
  exact bt_zs _ _ _ hi (zs_in9 T i).1 (zs_in9 T i).2)

end Go.Proofs.YtkpohajmcngjcaaGreatDoor

namespace Go.Proofs.YtkpohajmcngjcaaGreatDoor
open Go.ChangeShapes Go.WideShapes Go.ChangeAt Go.RowKit
set_option linter.unusedVariables false
set_option maxRecDepth 100000
set_option linter.unusedSimpArgs false

set_option maxHeartbeats 1000000 in
/-- Fewer than n draws are left just if one of the two numbers leaves fewer. -/
theorem left_any (c : Option Addr) (len cap : Nat) (at' : Int) (st : ByteArray) (ct : Int) (w : World) (a0 : 0 ≤ at') (a1 : at' ≤ 1000000) (c0 : 0 ≤ ct) (c1 : ct ≤ 1000000) :
    Calls Tryz.prog 76 #[.agg #[.slice c len cap, .int .i64 at', .string st, .int .i64 ct]] w fun e w' => ∃ lf : Int, e = .returned (.int .i64 lf) ∧ (∀ n : Nat, lf < (n : Int) ↔ spb at' ct n = true) ∧ Chg nob w w' := by
  go_enter Tryz.func76, Tryz.ntmps76
  go_wp2
  all_goals
    go_ret
    refine ⟨_, rfl, fun n => ?_, (Chg.refl _ _).alloc _⟩
    unfold spb
    simp only [Bool.or_eq_true, decide_eq_true_eq]
    omega


end Go.Proofs.YtkpohajmcngjcaaGreatDoor
