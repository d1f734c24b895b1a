/- Several texts in one: What looks at settings answer, the program's and the model's: contracts. No condition but those that each theorem states. · When an opening has all its parts: words. No condition but those that each theorem states. -/
import Derived.Test.YtfbjlohnbpienaaGreatBzac
import Derived.Test.YtfbjlohnbpienaaGreatBzad
import Derived.Test.YtfbjlohnbpienaaGreatBzak
namespace Go.Proofs.YtfbjlohnbpienaaGreat
open Go.ChangeShapes Go.WideShapes Go.ChangeAt Go.RowKit
set_option linter.unusedVariables false
set_option maxRecDepth 100000
set_option linter.unusedSimpArgs false

/-- A setting's rate is in its bounds. -/
def rtB (r : Int) : Bool := decide (1 ≤ r ∧ r ≤ 3)
/-- A setting's numbers are in their bounds. -/
def stb (r q g : Int) : Bool := decide ((1 ≤ r ∧ r ≤ 3) ∧ (1 ≤ q ∧ q ≤ 8) ∧ (0 ≤ g ∧ g ≤ 12))
/-- As many variables as an opening may have. -/
def vrB (v : Int) : Bool := decide (1 ≤ v ∧ v ≤ 6)
theorem stb_parts {r q g : Int} (h : stb r q g = true) : (1 ≤ r ∧ r ≤ 3) ∧ (1 ≤ q ∧ q ≤ 8) ∧ (0 ≤ g ∧ g ≤ 12) := of_decide_eq_true h
theorem vrB_parts {v : Int} (h : vrB v = true) : 1 ≤ v ∧ v ≤ 6 := of_decide_eq_true h

theorem toSetting_any (r q g : Int) (w : World) :
    Calls Tryz.prog 9 #[.agg #[.int .i64 r, .int .i64 q, .int .i64 g]] w fun e w' => e = .returned (.agg #[.int .i64 r, .int .i64 q, .int .i64 g]) ∧ Chg nob w w' := by
  go_enter Tryz.func9, Tryz.ntmps9
  go_wp2
  exact bodyPost_ret (v := .agg #[.int .i64 r, .int .i64 q, .int .i64 g]) (by simp [results, Tryz.results9, go_sem]) rfl ⟨rfl, (((Chg.refl _ _).alloc _).alloc _).alloc _⟩

set_option maxHeartbeats 1000000 in
theorem sSettingOK_any (r q g : Int) (w : World) :
    Calls Tryz.prog 42 #[.agg #[.int .i64 r, .int .i64 q, .int .i64 g]] w fun e w' => e = .returned (.bool (stb r q g)) ∧ Chg nob w w' := by
  cases h1 : inW r 1 3
  · have H := hik (show stb r q g = false from decide_eq_false (fun x => by have y := of_decide_eq_false h1; exact y x.1))
    go_enter Tryz.func42, Tryz.ntmps42
    go_wp2_with (go_at_call 67; refine (l01In_any _ _ _ _).mono ?_; rintro e w' ⟨rfl, rfl⟩)
    go_ret
    exact ⟨ret_bool H.out.symm, (Chg.refl _ _).alloc _⟩
  · cases h2 : inW q 1 8
    · have H := hik (show stb r q g = false from decide_eq_false (fun x => by have y := of_decide_eq_false h2; exact y x.2.1))
      go_enter Tryz.func42, Tryz.ntmps42
      go_wp2_with (go_at_call 67; refine (l01In_any _ _ _ _).mono ?_; rintro e w' ⟨rfl, rfl⟩)
      go_ret
      exact ⟨ret_bool H.out.symm, (Chg.refl _ _).alloc _⟩
    · have H := hik (show stb r q g = inW g 0 12 from by
        have y1 := of_decide_eq_true h1
        have y2 := of_decide_eq_true h2
        unfold stb inW
        rw [decide_eq_decide]
        exact ⟨fun x => x.2.2, fun x => ⟨y1, y2, x⟩⟩)
      go_enter Tryz.func42, Tryz.ntmps42
      go_wp2_with (go_at_call 67; refine (l01In_any _ _ _ _).mono ?_; rintro e w' ⟨rfl, rfl⟩)
      go_ret
      exact ⟨ret_bool H.out.symm, (Chg.refl _ _).alloc _⟩

set_option maxHeartbeats 1000000 in
theorem isOpenRate_any (r : Int) (w : World) :
    Calls Tryz.prog 93 #[.int .i64 r] w fun e w' => e = .returned (.bool (rtB r)) ∧ w' = w := by
  by_cases h1 : 1 ≤ r
  · by_cases h2 : r ≤ 3
    · have H := hik (show rtB r = true from decide_eq_true ⟨h1, h2⟩)
      go_enter Tryz.func93, Tryz.ntmps93
      go_wp2
      go_ret
      exact ⟨ret_bool H.out.symm, rfl⟩
    · have H := hik (show rtB r = false from decide_eq_false (fun x => h2 x.2))
      go_enter Tryz.func93, Tryz.ntmps93
      go_wp2
      go_ret
      exact ⟨ret_bool H.out.symm, rfl⟩
  · have H := hik (show rtB r = false from decide_eq_false (fun x => h1 x.1))
    go_enter Tryz.func93, Tryz.ntmps93
    go_wp2
    go_ret
    exact ⟨ret_bool H.out.symm, rfl⟩

set_option maxHeartbeats 1000000 in
theorem isOpenVars_any (v : Int) (w : World) :
    Calls Tryz.prog 81 #[.int .i64 v] w fun e w' => e = .returned (.bool (vrB v)) ∧ w' = w := by
  by_cases h1 : 1 ≤ v
  · by_cases h2 : v ≤ 6
    · have H := hik (show vrB v = true from decide_eq_true ⟨h1, h2⟩)
      go_enter Tryz.func81, Tryz.ntmps81
      go_wp2
      go_ret
      exact ⟨ret_bool H.out.symm, rfl⟩
    · have H := hik (show vrB v = false from decide_eq_false (fun x => h2 x.2))
      go_enter Tryz.func81, Tryz.ntmps81
      go_wp2
      go_ret
      exact ⟨ret_bool H.out.symm, rfl⟩
  · have H := hik (show vrB v = false from decide_eq_false (fun x => h1 x.1))
    go_enter Tryz.func81, Tryz.ntmps81
    go_wp2
    go_ret
    exact ⟨ret_bool H.out.symm, rfl⟩

set_option maxHeartbeats 2000000 in
theorem settingOK_any (r q g : Int) (w : World) :
    Calls Tryz.prog 80 #[.agg #[.int .i64 r, .int .i64 q, .int .i64 g]] w fun e w' => e = .returned (.bool (stb r q g)) ∧ Chg nob w w' := by
  cases h1 : rtB r
  · have H := hik (show stb r q g = false from decide_eq_false (fun x => by have y := of_decide_eq_false h1; exact y x.1))
    go_enter Tryz.func80, Tryz.ntmps80
    go_wp2_with (go_at_call 93; refine (isOpenRate_any _ _).mono ?_; rintro e w' ⟨rfl, rfl⟩)
    go_ret
    exact ⟨ret_bool H.out.symm, (Chg.refl _ _).alloc _⟩
  · by_cases h2 : 1 ≤ q
    · by_cases h3 : q ≤ 8
      · by_cases h4 : 0 ≤ g
        · by_cases h5 : g ≤ 12
          · have H := hik (show stb r q g = true from decide_eq_true ⟨of_decide_eq_true h1, ⟨h2, h3⟩, h4, h5⟩)
            go_enter Tryz.func80, Tryz.ntmps80
            go_wp2_with (go_at_call 93; refine (isOpenRate_any _ _).mono ?_; rintro e w' ⟨rfl, rfl⟩)
            go_ret
            exact ⟨ret_bool H.out.symm, (Chg.refl _ _).alloc _⟩
          · have H := hik (show stb r q g = false from decide_eq_false (fun x => h5 x.2.2.2))
            go_enter Tryz.func80, Tryz.ntmps80
            go_wp2_with (go_at_call 93; refine (isOpenRate_any _ _).mono ?_; rintro e w' ⟨rfl, rfl⟩)
            go_ret
            exact ⟨ret_bool (by rw [H.out]; exact decide_eq_false (by omega)), (Chg.refl _ _).alloc _⟩
        · have H := hik (show stb r q g = false from decide_eq_false (fun x => h4 x.2.2.1))
          go_enter Tryz.func80, Tryz.ntmps80
          go_wp2_with (go_at_call 93; refine (isOpenRate_any _ _).mono ?_; rintro e w' ⟨rfl, rfl⟩)
          go_ret
          exact ⟨ret_bool H.out.symm, (Chg.refl _ _).alloc _⟩
      · have H := hik (show stb r q g = false from decide_eq_false (fun x => h3 x.2.1.2))
        go_enter Tryz.func80, Tryz.ntmps80
        go_wp2_with (go_at_call 93; refine (isOpenRate_any _ _).mono ?_; rintro e w' ⟨rfl, rfl⟩)
        go_ret
        exact ⟨ret_bool H.out.symm, (Chg.refl _ _).alloc _⟩
    · have H := hik (show stb r q g = false from decide_eq_false (fun x => h2 x.2.1.1))
      go_enter Tryz.func80, Tryz.ntmps80
      go_wp2_with (go_at_call 93; refine (isOpenRate_any _ _).mono ?_; rintro e w' ⟨rfl, rfl⟩)
      go_ret
      exact ⟨ret_bool H.out.symm, (Chg.refl _ _).alloc _⟩

set_option maxHeartbeats 1000000 in
theorem pathLength_any (r q g v k : Int) (w : World) (r0 : 0 ≤ r) (r1 : r ≤ 1000) (v0 : 0 ≤ v) (v1 : v ≤ 1000) (k0 : 0 ≤ k) (k1 : k ≤ 1000) :
    Calls Tryz.prog 101 #[.agg #[.int .i64 r, .int .i64 q, .int .i64 g], .int .i64 v, .int .i64 k] w fun e w' => e = .returned (.int .i64 (v + r - 1 - k)) ∧ w' = w.alloc (.cells #[.int .i64 r, .int .i64 q, .int .i64 g] 53) := by
  go_enter Tryz.func101, Tryz.ntmps101
  go_wp2
  go_ret
  exact ⟨rfl, rfl⟩

end Go.Proofs.YtfbjlohnbpienaaGreat

namespace Go.Proofs.YtfbjlohnbpienaaGreat
open Go.RowKit
set_option linter.unusedVariables false

/-- Of all. -/
def allN (n : Nat) (p : Nat → Bool) : Bool := decide (∀ i, i < n → p i = true)
theorem allN_no {n : Nat} {p : Nat → Bool} {k : Nat} (hk : k < n) (h : p k = false) : allN n p = false := decide_eq_false (fun x => by rw [x k hk] at h; cases h)
theorem allN_yes {n : Nat} {p : Nat → Bool} (h : ∀ i, i < n → p i = true) : allN n p = true := decide_eq_true h
theorem allN_at {n : Nat} {p : Nat → Bool} (h : allN n p = true) {i : Nat} (hi : i < n) : p i = true := of_decide_eq_true h i hi
/-- A hash has 32 bytes. -/
def h32 (s : ByteArray) : Bool := decide (s.size = 32)
def hsB (L : Nat → ByteArray) (n : Nat) : Bool := allN n (fun i => h32 (L i))
/-- A round: three right elements. -/
def r1B (l : Nat) (f g : Nat → Int) : Bool := decide (l = 3) && okP f g l
def rnB (o : OD) (v : Int) : Bool := decide ((o.nr : Int) = v) && allN o.nr (fun i => r1B (o.rl i) (o.rf i) (o.rg i))
/-- Rounds, v of them, each of m right elements. -/
def rfB (m : Nat) (v : Int) (n : Nat) (l : Nat → Nat) (f g : Nat → Nat → Int) : Bool := decide ((n : Int) = v) && allN n (fun i => decide (l i = m) && okP (f i) (g i) (l i))
theorem rfB_3 (o : OD) (v : Int) : rfB 3 v o.nr o.rl o.rf o.rg = rnB o v := rfl
/-- A path. -/
def ptB (v r : Int) (l : Nat) (T : Nat → ByteArray) (j : Nat) : Bool := decide ((l : Int) = v + r - 1 - (j : Int)) && hsB T l
/-- A query. -/
def qrB (q : QD) (v r : Int) : Bool := (decide ((q.np : Int) = 2 * v) && okP q.f q.g q.np && decide ((q.nq : Int) = v)) && allN q.nq (fun j => ptB v r (q.l j) (q.T j) j)
def qsB (o : OD) (v r n : Int) : Bool := decide ((o.nq : Int) = n) && allN o.nq (fun i => qrB (o.q i) v r)
/-- All parts. -/
def ook (o : OD) (v r q g : Int) : Bool := stb r q g && (vrB v && (rnB o v && (decide ((o.nt : Int) = v - 1) && (hsB o.ts o.nt && (eok o.la o.lb && (decide (0 ≤ o.no) && (decide (o.no < 65536) && qsB o v r q)))))))

end Go.Proofs.YtfbjlohnbpienaaGreat
