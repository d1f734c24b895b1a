/- Several texts in one: What the program's ReadOpening answers: a contract. Conditions: bytes that can be read, numbers from 0 to 255, of at most 2 to the 40. · What ReadOpening tells is small: plain. -/
import Derived.Test.YtfgnhaoonpknlaaBzaz
import Derived.Test.YtfgnhaoonpknlaaBzbf
import Derived.Test.YtfgnhaoonpknlaaBzaw
namespace Go.Proofs.Ytfgnhaoonpknlaa
open Go.ChangeShapes Go.WideShapes Go.ChangeAt Go.RowKit
set_option linter.unusedVariables false
set_option maxRecDepth 100000
set_option linter.unusedSimpArgs false

/-- ReadOpening's code; the opening that is told. -/
def roc (n : Nat) (z : Nat → Int) (v r q g : Int) : Int := if 65536 < n then 2 else if stb r q g then (if vrB v then (if (n : Int) = osn v r q ∧ ook (rdO z v.toNat r.toNat q.toNat 0) v r q g = true then 0 else 3) else 4) else 1
def noO : OD := { nr := 0, rl := fun _ => 0, rf := fun _ _ => 0, rg := fun _ _ => 0, nt := 0, ts := fun _ => ⟨#[]⟩, la := 0, lb := 0, no := 0, nq := 0, q := fun _ => { np := 0, f := fun _ => 0, g := fun _ => 0, nq := 0, l := fun _ => 0, T := fun _ _ => ⟨#[]⟩ } }
def rov (n : Nat) (z : Nat → Int) (v r q g : Int) : OD := if roc n z v r q g = 0 then rdO z v.toNat r.toNat q.toNat 0 else noO
/-- Where an opening's lists lie. -/
structure OA where
  cR : Option Addr
  pR : Nat
  cT : Option Addr
  pT : Nat
  cQ : Option Addr
  pQ : Nat
/-- An opening of a call's own and a code. -/
def RoAns (w : World) (d : OD) (code : Int) (e : Ending) (w' : World) : Prop :=
  ∃ a : OA, e = .returned (.tuple #[.agg #[.slice a.cR d.nr a.pR, .slice a.cT d.nt a.pT, .int .i64 d.la, .int .i64 d.lb, .int .i64 d.no, .slice a.cQ d.nq a.pQ], .int .i64 code]) ∧ OpF w' (Iv w.heap.size w'.heap.size) d a.cR a.pR a.cT a.pT a.cQ a.pQ ∧ Chg nob w w'
theorem OpF.none9 (w : World) (S : Nat → Prop) : OpF w S noO none 0 none 0 none 0 := by
  refine ⟨fun _ => False, fun _ => False, fun _ => False, fun _ => False, fun _ => False, fun _ => False, ⟨fun _ x => x, _, _, rfl, .inl rfl⟩, ⟨fun _ x => x, _, _, rfl, .inl rfl⟩, ⟨fun _ x => x, _, _, rfl, .inl rfl⟩, fun c hc => ?_, fun c hc => absurd hc (fun x => x), fun c hc => absurd hc (fun x => x), fun c hc => absurd hc (fun x => x)⟩
  rcases hc with x | x | x <;> exact x.elim
theorem RoAns.no {w w' : World} {n : Nat} {z : Nat → Int} {v r q g code : Int} {e : Ending} (hb : roc n z v r q g = code) (hc : code ≠ 0) (h : e = .returned (.tuple #[.agg #[.slice none 0 0, .slice none 0 0, .int .i64 0, .int .i64 0, .int .i64 0, .slice none 0 0], .int .i64 code])) (k : Chg nob w w') : RoAns w (rov n z v r q g) (roc n z v r q g) e w' := by
  have e1 : rov n z v r q g = noO := by unfold rov; rw [if_neg (by rw [hb]; exact hc)]
  rw [e1, hb]
  exact ⟨⟨none, 0, none, 0, none, 0⟩, h, OpF.none9 _ _, k⟩

set_option maxHeartbeats 8000000 in
theorem readOpening_any (c : Option Addr) (n cap : Nat) (z : Nat → Int) (v r q g : Int) (w : World) (h : Hid (RowV w c n (bw z))) (hz : Hid (∀ j, 0 ≤ z j ∧ z j < 256)) (hn : n ≤ 1099511627776) (hcap : n ≤ cap) (hc' : (cap : Int) ≤ 9223372036854775807) :
    Calls Try.prog 7 #[.slice c n cap, .int .i64 v, .agg #[.int .i64 r, .int .i64 q, .int .i64 g]] w fun e w' => RoAns w (rov n z v r q g) (roc n z v r q g) e w' := by
  have K0 := hik (((Chg.refl nob w).alloc (.cells #[.int .i64 r, .int .i64 q, .int .i64 g] 35)).alloc (.cells #[.slice none 0 0, .slice none 0 0, .int .i64 0, .int .i64 0, .int .i64 0, .slice none 0 0] 31))
  have RT := hik (rowIs_keep (rowN_new w 3 #[.int .i64 r, .int .i64 q, .int .i64 g] 35 rfl) ((Chg.refl nob _).alloc (.cells #[.slice none 0 0, .slice none 0 0, .int .i64 0, .int .i64 0, .int .i64 0, .slice none 0 0] 31)))
  have RX := hik (rowN_new (w.alloc (.cells #[.int .i64 r, .int .i64 q, .int .i64 g] 35)) 6 #[.slice none 0 0, .slice none 0 0, .int .i64 0, .int .i64 0, .int .i64 0, .slice none 0 0] 31 rfl)
  rw [asz] at RX
  have HCA := hik (And.intro hcap hc')
  clear hcap hc'
  by_cases hlen : 65536 < n
  · have HB := hik (show roc n z v r q g = 2 by unfold roc; rw [if_pos hlen])
    have hl2 : (65536 : Int) < (n : Int) := by omega
    go_enter Try.func7, Try.ntmps7
    go_upto_region 1 with fail
    generalize hW : (w.alloc (.cells #[.int .i64 r, .int .i64 q, .int .i64 g] 35)).alloc (.cells #[.slice none 0 0, .slice none 0 0, .int .i64 0, .int .i64 0, .int .i64 0, .slice none 0 0] 31) = W0 at K0 RT RX ⊢
    clear hW
    have y0 : W0.cell? ⟨w.heap.size + 1, 0, none⟩ = some (.slice none 0 0) := RX.out.cell (i := 0) (by omega)
    have u0 := RX.out.frozen 0
    have y1 : W0.cell? ⟨w.heap.size + 1, 1, none⟩ = some (.slice none 0 0) := RX.out.cell (i := 1) (by omega)
    have u1 := RX.out.frozen 1
    have y2 : W0.cell? ⟨w.heap.size + 1, 2, none⟩ = some (.int .i64 0) := RX.out.cell (i := 2) (by omega)
    have u2 := RX.out.frozen 2
    have y3 : W0.cell? ⟨w.heap.size + 1, 3, none⟩ = some (.int .i64 0) := RX.out.cell (i := 3) (by omega)
    have u3 := RX.out.frozen 3
    have y4 : W0.cell? ⟨w.heap.size + 1, 4, none⟩ = some (.int .i64 0) := RX.out.cell (i := 4) (by omega)
    have u4 := RX.out.frozen 4
    have y5 : W0.cell? ⟨w.heap.size + 1, 5, none⟩ = some (.slice none 0 0) := RX.out.cell (i := 5) (by omega)
    have u5 := RX.out.frozen 5
    have lx := RX.out.lt
    go_wp2
    exact bodyPost_ret (v := .tuple #[.agg #[.slice none 0 0, .slice none 0 0, .int .i64 0, .int .i64 0, .int .i64 0, .slice none 0 0], .int .i64 2]) (by simp [results, Try.results7, go_sem, *]) rfl (RoAns.no HB.out (by decide) rfl ((((((K0.out.setCell (p := ⟨w.heap.size + 1, 0, none⟩) (fun l => absurd (show w.heap.size + 1 < w.heap.size from l) (by omega)) (.slice none 0 0)).setCell (p := ⟨w.heap.size + 1, 1, none⟩) (fun l => absurd (show w.heap.size + 1 < w.heap.size from l) (by omega)) (.slice none 0 0)).setCell (p := ⟨w.heap.size + 1, 2, none⟩) (fun l => absurd (show w.heap.size + 1 < w.heap.size from l) (by omega)) (.int .i64 0)).setCell (p := ⟨w.heap.size + 1, 3, none⟩) (fun l => absurd (show w.heap.size + 1 < w.heap.size from l) (by omega)) (.int .i64 0)).setCell (p := ⟨w.heap.size + 1, 4, none⟩) (fun l => absurd (show w.heap.size + 1 < w.heap.size from l) (by omega)) (.int .i64 0)).setCell (p := ⟨w.heap.size + 1, 5, none⟩) (fun l => absurd (show w.heap.size + 1 < w.heap.size from l) (by omega)) (.slice none 0 0)))
  have hl2 : ¬ (65536 : Int) < (n : Int) := by omega
  have HS9 := hik (fun w' => openingSize_any v r q g w')
  cases b1 : stb r q g
  · have HB := hik (show roc n z v r q g = 1 by unfold roc; rw [if_neg hlen, b1]; rfl)
    have HO1 := hik (show osc v r q g = 1 by unfold osc; rw [b1]; rfl)
    go_enter Try.func7, Try.ntmps7
    go_wp2_with fail
    generalize hW : (w.alloc (.cells #[.int .i64 r, .int .i64 q, .int .i64 g] 35)).alloc (.cells #[.slice none 0 0, .slice none 0 0, .int .i64 0, .int .i64 0, .int .i64 0, .slice none 0 0] 31) = W0 at K0 RT RX ⊢
    clear hW
    refine (HS9.out _).mono ?_
    rintro e W1 ⟨rfl, kk⟩
    replace K0 := hik (K0.out.trans kk)
    replace RT := hik (rowIs_keep RT.out kk)
    replace RX := hik (rowIs_keep RX.out kk)
    clear kk
    rw [HO1.out]
    have y0 : W1.cell? ⟨w.heap.size + 1, 0, none⟩ = some (.slice none 0 0) := RX.out.cell (i := 0) (by omega)
    have u0 := RX.out.frozen 0
    have y1 : W1.cell? ⟨w.heap.size + 1, 1, none⟩ = some (.slice none 0 0) := RX.out.cell (i := 1) (by omega)
    have u1 := RX.out.frozen 1
    have y2 : W1.cell? ⟨w.heap.size + 1, 2, none⟩ = some (.int .i64 0) := RX.out.cell (i := 2) (by omega)
    have u2 := RX.out.frozen 2
    have y3 : W1.cell? ⟨w.heap.size + 1, 3, none⟩ = some (.int .i64 0) := RX.out.cell (i := 3) (by omega)
    have u3 := RX.out.frozen 3
    have y4 : W1.cell? ⟨w.heap.size + 1, 4, none⟩ = some (.int .i64 0) := RX.out.cell (i := 4) (by omega)
    have u4 := RX.out.frozen 4
    have y5 : W1.cell? ⟨w.heap.size + 1, 5, none⟩ = some (.slice none 0 0) := RX.out.cell (i := 5) (by omega)
    have u5 := RX.out.frozen 5
    have lx := RX.out.lt
    go_wp2
    exact bodyPost_ret (v := .tuple #[.agg #[.slice none 0 0, .slice none 0 0, .int .i64 0, .int .i64 0, .int .i64 0, .slice none 0 0], .int .i64 1]) (by simp [results, Try.results7, go_sem, *]) rfl (RoAns.no HB.out (by decide) rfl ((((((K0.out.setCell (p := ⟨w.heap.size + 1, 0, none⟩) (fun l => absurd (show w.heap.size + 1 < w.heap.size from l) (by omega)) (.slice none 0 0)).setCell (p := ⟨w.heap.size + 1, 1, none⟩) (fun l => absurd (show w.heap.size + 1 < w.heap.size from l) (by omega)) (.slice none 0 0)).setCell (p := ⟨w.heap.size + 1, 2, none⟩) (fun l => absurd (show w.heap.size + 1 < w.heap.size from l) (by omega)) (.int .i64 0)).setCell (p := ⟨w.heap.size + 1, 3, none⟩) (fun l => absurd (show w.heap.size + 1 < w.heap.size from l) (by omega)) (.int .i64 0)).setCell (p := ⟨w.heap.size + 1, 4, none⟩) (fun l => absurd (show w.heap.size + 1 < w.heap.size from l) (by omega)) (.int .i64 0)).setCell (p := ⟨w.heap.size + 1, 5, none⟩) (fun l => absurd (show w.heap.size + 1 < w.heap.size from l) (by omega)) (.slice none 0 0)))
  cases b2 : vrB v
  · have HB := hik (show roc n z v r q g = 4 by unfold roc; rw [if_neg hlen, b1, b2]; rfl)
    have HO1 := hik (show osc v r q g = 4 by unfold osc; rw [b1, b2]; rfl)
    go_enter Try.func7, Try.ntmps7
    go_wp2_with fail
    generalize hW : (w.alloc (.cells #[.int .i64 r, .int .i64 q, .int .i64 g] 35)).alloc (.cells #[.slice none 0 0, .slice none 0 0, .int .i64 0, .int .i64 0, .int .i64 0, .slice none 0 0] 31) = W0 at K0 RT RX ⊢
    clear hW
    refine (HS9.out _).mono ?_
    rintro e W1 ⟨rfl, kk⟩
    replace K0 := hik (K0.out.trans kk)
    replace RT := hik (rowIs_keep RT.out kk)
    replace RX := hik (rowIs_keep RX.out kk)
    clear kk
    rw [HO1.out]
    have y0 : W1.cell? ⟨w.heap.size + 1, 0, none⟩ = some (.slice none 0 0) := RX.out.cell (i := 0) (by omega)
    have u0 := RX.out.frozen 0
    have y1 : W1.cell? ⟨w.heap.size + 1, 1, none⟩ = some (.slice none 0 0) := RX.out.cell (i := 1) (by omega)
    have u1 := RX.out.frozen 1
    have y2 : W1.cell? ⟨w.heap.size + 1, 2, none⟩ = some (.int .i64 0) := RX.out.cell (i := 2) (by omega)
    have u2 := RX.out.frozen 2
    have y3 : W1.cell? ⟨w.heap.size + 1, 3, none⟩ = some (.int .i64 0) := RX.out.cell (i := 3) (by omega)
    have u3 := RX.out.frozen 3
    have y4 : W1.cell? ⟨w.heap.size + 1, 4, none⟩ = some (.int .i64 0) := RX.out.cell (i := 4) (by omega)
    have u4 := RX.out.frozen 4
    have y5 : W1.cell? ⟨w.heap.size + 1, 5, none⟩ = some (.slice none 0 0) := RX.out.cell (i := 5) (by omega)
    have u5 := RX.out.frozen 5
    have lx := RX.out.lt
    go_wp2
    exact bodyPost_ret (v := .tuple #[.agg #[.slice none 0 0, .slice none 0 0, .int .i64 0, .int .i64 0, .int .i64 0, .slice none 0 0], .int .i64 4]) (by simp [results, Try.results7, go_sem, *]) rfl (RoAns.no HB.out (by decide) rfl ((((((K0.out.setCell (p := ⟨w.heap.size + 1, 0, none⟩) (fun l => absurd (show w.heap.size + 1 < w.heap.size from l) (by omega)) (.slice none 0 0)).setCell (p := ⟨w.heap.size + 1, 1, none⟩) (fun l => absurd (show w.heap.size + 1 < w.heap.size from l) (by omega)) (.slice none 0 0)).setCell (p := ⟨w.heap.size + 1, 2, none⟩) (fun l => absurd (show w.heap.size + 1 < w.heap.size from l) (by omega)) (.int .i64 0)).setCell (p := ⟨w.heap.size + 1, 3, none⟩) (fun l => absurd (show w.heap.size + 1 < w.heap.size from l) (by omega)) (.int .i64 0)).setCell (p := ⟨w.heap.size + 1, 4, none⟩) (fun l => absurd (show w.heap.size + 1 < w.heap.size from l) (by omega)) (.int .i64 0)).setCell (p := ⟨w.heap.size + 1, 5, none⟩) (fun l => absurd (show w.heap.size + 1 < w.heap.size from l) (by omega)) (.slice none 0 0)))
  have HO1 := hik (show osc v r q g = 0 by unfold osc; rw [b1, b2]; rfl)
  have HO2 := hik (show osv v r q g = osn v r q by unfold osv; rw [b1, b2]; rfl)
  have HROC := hik (show roc n z v r q g = (if (n : Int) = osn v r q ∧ ook (rdO z v.toNat r.toNat q.toNat 0) v r q g = true then 0 else 3) by unfold roc; rw [if_neg hlen, b1, b2]; rfl)
  by_cases h3 : (n : Int) = osn v r q
  rotate_left 1
  · have HB := hik (show roc n z v r q g = 3 by rw [HROC.out, if_neg (fun x => h3 x.1)])
    go_enter Try.func7, Try.ntmps7
    go_wp2_with fail
    generalize hW : (w.alloc (.cells #[.int .i64 r, .int .i64 q, .int .i64 g] 35)).alloc (.cells #[.slice none 0 0, .slice none 0 0, .int .i64 0, .int .i64 0, .int .i64 0, .slice none 0 0] 31) = W0 at K0 RT RX ⊢
    clear hW
    refine (HS9.out _).mono ?_
    rintro e W1 ⟨rfl, kk⟩
    replace K0 := hik (K0.out.trans kk)
    replace RT := hik (rowIs_keep RT.out kk)
    replace RX := hik (rowIs_keep RX.out kk)
    clear kk
    rw [HO1.out, HO2.out]
    have y0 : W1.cell? ⟨w.heap.size + 1, 0, none⟩ = some (.slice none 0 0) := RX.out.cell (i := 0) (by omega)
    have u0 := RX.out.frozen 0
    have y1 : W1.cell? ⟨w.heap.size + 1, 1, none⟩ = some (.slice none 0 0) := RX.out.cell (i := 1) (by omega)
    have u1 := RX.out.frozen 1
    have y2 : W1.cell? ⟨w.heap.size + 1, 2, none⟩ = some (.int .i64 0) := RX.out.cell (i := 2) (by omega)
    have u2 := RX.out.frozen 2
    have y3 : W1.cell? ⟨w.heap.size + 1, 3, none⟩ = some (.int .i64 0) := RX.out.cell (i := 3) (by omega)
    have u3 := RX.out.frozen 3
    have y4 : W1.cell? ⟨w.heap.size + 1, 4, none⟩ = some (.int .i64 0) := RX.out.cell (i := 4) (by omega)
    have u4 := RX.out.frozen 4
    have y5 : W1.cell? ⟨w.heap.size + 1, 5, none⟩ = some (.slice none 0 0) := RX.out.cell (i := 5) (by omega)
    have u5 := RX.out.frozen 5
    have lx := RX.out.lt
    go_wp2
    exact bodyPost_ret (v := .tuple #[.agg #[.slice none 0 0, .slice none 0 0, .int .i64 0, .int .i64 0, .int .i64 0, .slice none 0 0], .int .i64 3]) (by simp [results, Try.results7, go_sem, *]) rfl (RoAns.no HB.out (by decide) rfl ((((((K0.out.setCell (p := ⟨w.heap.size + 1, 0, none⟩) (fun l => absurd (show w.heap.size + 1 < w.heap.size from l) (by omega)) (.slice none 0 0)).setCell (p := ⟨w.heap.size + 1, 1, none⟩) (fun l => absurd (show w.heap.size + 1 < w.heap.size from l) (by omega)) (.slice none 0 0)).setCell (p := ⟨w.heap.size + 1, 2, none⟩) (fun l => absurd (show w.heap.size + 1 < w.heap.size from l) (by omega)) (.int .i64 0)).setCell (p := ⟨w.heap.size + 1, 3, none⟩) (fun l => absurd (show w.heap.size + 1 < w.heap.size from l) (by omega)) (.int .i64 0)).setCell (p := ⟨w.heap.size + 1, 4, none⟩) (fun l => absurd (show w.heap.size + 1 < w.heap.size from l) (by omega)) (.int .i64 0)).setCell (p := ⟨w.heap.size + 1, 5, none⟩) (fun l => absurd (show w.heap.size + 1 < w.heap.size from l) (by omega)) (.slice none 0 0)))
  obtain ⟨V, rfl⟩ : ∃ V : Nat, v = (V : Int) := ⟨v.toNat, by have := vrB_parts b2; omega⟩
  obtain ⟨R, rfl⟩ : ∃ R : Nat, r = (R : Int) := ⟨r.toNat, by have := stb_parts b1; omega⟩
  obtain ⟨Q, rfl⟩ : ∃ Q : Nat, q = (Q : Int) := ⟨q.toNat, by have := stb_parts b1; omega⟩
  have v0 : 1 ≤ V ∧ V ≤ 6 := by have := vrB_parts b2; omega
  have r0 : 1 ≤ R ∧ R ≤ 3 := by have := (stb_parts b1).1; omega
  have q0 : 1 ≤ Q ∧ Q ≤ 8 := by have := (stb_parts b1).2.1; omega
  have H3 := hik (show n = osN V R Q by have := osN_osn V R Q v0.1 r0.1; omega)
  rw [Int.toNat_natCast, Int.toNat_natCast, Int.toNat_natCast] at HROC
  have HRV := hik (show rov n z (V : Int) (R : Int) (Q : Int) g = if roc n z (V : Int) (R : Int) (Q : Int) g = 0 then rdO z V R Q 0 else noO by unfold rov; rw [Int.toNat_natCast, Int.toNat_natCast, Int.toNat_natCast])
  have H33 := hik h3
  have hn36 : (36 : Int) ≤ (n : Int) := by have := H3.out; have e9 : osN V R Q = oL9 V + 12 + Q * qsz V R := rfl; have e8 : oL9 V = 24 * V + 32 * (V - 1) := rfl; omega
  clear h3 hlen
  go_enter Try.func7, Try.ntmps7
  go_wp2_with fail
  generalize hW : (w.alloc (.cells #[.int .i64 (R : Int), .int .i64 (Q : Int), .int .i64 g] 35)).alloc (.cells #[.slice none 0 0, .slice none 0 0, .int .i64 0, .int .i64 0, .int .i64 0, .slice none 0 0] 31) = W0 at K0 RT RX ⊢
  clear hW
  refine (HS9.out _).mono ?_
  rintro e W1 ⟨rfl, kk⟩
  replace K0 := hik (K0.out.trans kk)
  replace RT := hik (rowIs_keep RT.out kk)
  replace RX := hik (rowIs_keep RX.out kk)
  clear kk
  rw [HO1.out, HO2.out, ← H33.out]
  have kk := (Chg.refl nob W1).alloc (.cells #[.slice c n cap] 52)
  have RR := hik (rowN_new W1 1 #[.slice c n cap] 52 rfl)
  have RV := hik (h.out.keep K0.out)
  have hWr : W1.heap.size < (W1.alloc (.cells #[.slice c n cap] 52)).heap.size := by simp
  have hW1 : w.heap.size + 1 < W1.heap.size := RX.out.lt
  have HRD := hik (show RdS (W1.alloc (.cells #[.slice c n cap] 52)) 52 W1.heap.size n cap 0 z from ⟨c, by rw [Nat.sub_zero, Nat.sub_zero]; exact RR.out.congr (g := fun _ => .slice c n cap) (fun i hi => by have hi' : i < 1 := hi; match i, hi' with | 0, _ => rfl), fun i hi => by
    obtain ⟨xb, xo, e, l, q_⟩ := RV.out i (by omega)
    exact ⟨xb, xo, e, l, by rw [Nat.zero_add]; exact kk.see q_⟩⟩)
  replace K0 := hik (K0.out.trans kk)
  replace RT := hik (rowIs_keep RT.out kk)
  replace RX := hik (rowIs_keep RX.out kk)
  clear kk RR RV
  have x0 : (W1.alloc (.cells #[.slice c n cap] 52)).cell? ⟨w.heap.size, 0, none⟩ = some (.int .i64 (R : Int)) := RT.out.cell (i := 0) (by omega)
  have x1 : (W1.alloc (.cells #[.slice c n cap] 52)).cell? ⟨w.heap.size, 1, none⟩ = some (.int .i64 (Q : Int)) := RT.out.cell (i := 1) (by omega)
  have x2 : (W1.alloc (.cells #[.slice c n cap] 52)).cell? ⟨w.heap.size, 2, none⟩ = some (.int .i64 g) := RT.out.cell (i := 2) (by omega)
  go_wp2_with fail
  generalize hgr : W1.heap.size = gr at HRD hWr hW1 ⊢
  generalize hW : W1.alloc (.cells #[.slice c n cap] 52) = W2 at HRD K0 RT RX hWr x0 x1 x2 ⊢
  clear hW hgr x0 x1 x2
  refine (rdOpening_any 52 gr n cap 0 V R Q g z _ HRD hz v0.1 v0.2 r0.1 r0.2 q0.1 q0.2 (by have := H3.out; omega) HCA.out.1 HCA.out.2).mono ?_
  rintro e W3 ⟨bR, bT, bQ, rfl, oo, _, kk⟩
  have hgl := HRD.out.lt
  have OO := hik oo
  have HLO := hik (show w.heap.size + 1 < W2.heap.size by omega)
  replace K0 := hik (K0.out.near kk (fun b e => by have e' : b = gr := e; omega))
  replace RT := hik (rowIs_chg RT.out kk (fun e => by have e' : w.heap.size = gr := e; omega))
  replace RX := hik (rowIs_chg RX.out kk (fun e => by have e' : w.heap.size + 1 = gr := e; omega))
  clear kk oo HRD
  have hsm := rd_small z V R Q 0 v0.2 r0.2 q0.2
  have HSM := hik hsm
  generalize hD : rdO z V R Q 0 = D at OO HROC HRV HSM ⊢
  have hD1 : D.nr = V := by rw [← hD]; rfl
  have hD2 : D.nt = V - 1 := by rw [← hD]; rfl
  have hD3 : D.nq = Q := by rw [← hD]; rfl
  have OO2 : Hid (OpF W3 (Iv W2.heap.size W3.heap.size) D (some ⟨bR, 0, none⟩) V (some ⟨bT, 0, none⟩) (V - 1) (some ⟨bQ, 0, none⟩) Q) := OO
  clear OO hsm
  have HD := hik (And.intro hD1 (And.intro hD2 hD3))
  clear hD hD1 hD2 hD3
  have kk := (Chg.refl nob W3).alloc (.cells #[.slice (some ⟨bR, 0, none⟩) V V, .slice (some ⟨bT, 0, none⟩) (V - 1) (V - 1), .int .i64 D.la, .int .i64 D.lb, .int .i64 D.no, .slice (some ⟨bQ, 0, none⟩) Q Q] 31)
  have RO := hik (rowN_new W3 6 #[.slice (some ⟨bR, 0, none⟩) V V, .slice (some ⟨bT, 0, none⟩) (V - 1) (V - 1), .int .i64 D.la, .int .i64 D.lb, .int .i64 D.no, .slice (some ⟨bQ, 0, none⟩) Q Q] 31 rfl)
  have hW3 := K0.out.size
  have hg3 : W3.heap.size < (W3.alloc (.cells #[.slice (some ⟨bR, 0, none⟩) V V, .slice (some ⟨bT, 0, none⟩) (V - 1) (V - 1), .int .i64 D.la, .int .i64 D.lb, .int .i64 D.no, .slice (some ⟨bQ, 0, none⟩) Q Q] 31)).heap.size := by simp
  have hx3 : w.heap.size + 1 < W3.heap.size := RX.out.lt
  replace K0 := hik (K0.out.trans kk)
  replace RT := hik (rowIs_keep RT.out kk)
  replace RX := hik (rowIs_keep RX.out kk)
  replace OO2 := hik (OO2.out.keep kk)
  have HTOP := hik kk.size
  clear kk
  have x0 : (W3.alloc (.cells #[.slice (some ⟨bR, 0, none⟩) V V, .slice (some ⟨bT, 0, none⟩) (V - 1) (V - 1), .int .i64 D.la, .int .i64 D.lb, .int .i64 D.no, .slice (some ⟨bQ, 0, none⟩) Q Q] 31)).cell? ⟨w.heap.size, 0, none⟩ = some (.int .i64 (R : Int)) := RT.out.cell (i := 0) (by omega)
  have x1 : (W3.alloc (.cells #[.slice (some ⟨bR, 0, none⟩) V V, .slice (some ⟨bT, 0, none⟩) (V - 1) (V - 1), .int .i64 D.la, .int .i64 D.lb, .int .i64 D.no, .slice (some ⟨bQ, 0, none⟩) Q Q] 31)).cell? ⟨w.heap.size, 1, none⟩ = some (.int .i64 (Q : Int)) := RT.out.cell (i := 1) (by omega)
  have x2 : (W3.alloc (.cells #[.slice (some ⟨bR, 0, none⟩) V V, .slice (some ⟨bT, 0, none⟩) (V - 1) (V - 1), .int .i64 D.la, .int .i64 D.lb, .int .i64 D.no, .slice (some ⟨bQ, 0, none⟩) Q Q] 31)).cell? ⟨w.heap.size, 2, none⟩ = some (.int .i64 g) := RT.out.cell (i := 2) (by omega)
  go_wp2_with fail
  generalize hgo : W3.heap.size = go at RO hg3 hx3 OO2 HTOP ⊢
  generalize hW : W3.alloc (.cells #[.slice (some ⟨bR, 0, none⟩) V V, .slice (some ⟨bT, 0, none⟩) (V - 1) (V - 1), .int .i64 D.la, .int .i64 D.lb, .int .i64 D.no, .slice (some ⟨bQ, 0, none⟩) Q Q] 31) = W4 at K0 RT RX RO OO2 hg3 HTOP x0 x1 x2 ⊢
  clear hW hgo x0 x1 x2
  have HOK := (openingOK_any D (some ⟨bR, 0, none⟩) V (some ⟨bT, 0, none⟩) (V - 1) (some ⟨bQ, 0, none⟩) Q (V : Int) (R : Int) (Q : Int) g W4 (hik OO2.out.rep) HSM)
  rw [HD.out.1, HD.out.2.1, HD.out.2.2] at HOK
  refine HOK.mono ?_
  clear HOK
  rintro e W5 ⟨rfl, kk⟩
  replace K0 := hik (K0.out.trans kk)
  replace RX := hik (rowIs_keep RX.out kk)
  replace RO := hik (rowIs_keep RO.out kk)
  replace OO2 := hik (OO2.out.keep kk)
  replace HTOP := hik (Nat.le_trans HTOP.out kk.size)
  clear kk RT
  cases b3 : ook D (V : Int) (R : Int) (Q : Int) g
  · have HB := hik (show roc n z (V : Int) (R : Int) (Q : Int) g = 3 by rw [HROC.out, if_neg (fun x => by rw [b3] at x; exact absurd x.2 (by decide))])
    have lx := RX.out.lt
    have y0 : W5.cell? ⟨w.heap.size + 1, 0, none⟩ = some (.slice none 0 0) := RX.out.cell (i := 0) (by omega)
    have u0 := RX.out.frozen 0
    have y1 : W5.cell? ⟨w.heap.size + 1, 1, none⟩ = some (.slice none 0 0) := RX.out.cell (i := 1) (by omega)
    have u1 := RX.out.frozen 1
    have y2 : W5.cell? ⟨w.heap.size + 1, 2, none⟩ = some (.int .i64 0) := RX.out.cell (i := 2) (by omega)
    have u2 := RX.out.frozen 2
    have y3 : W5.cell? ⟨w.heap.size + 1, 3, none⟩ = some (.int .i64 0) := RX.out.cell (i := 3) (by omega)
    have u3 := RX.out.frozen 3
    have y4 : W5.cell? ⟨w.heap.size + 1, 4, none⟩ = some (.int .i64 0) := RX.out.cell (i := 4) (by omega)
    have u4 := RX.out.frozen 4
    have y5 : W5.cell? ⟨w.heap.size + 1, 5, none⟩ = some (.slice none 0 0) := RX.out.cell (i := 5) (by omega)
    have u5 := RX.out.frozen 5
    have KF := hik ((((((K0.out.setCell (p := ⟨w.heap.size + 1, 0, none⟩) (fun l => absurd (show w.heap.size + 1 < w.heap.size from l) (by omega)) (.slice none 0 0)).setCell (p := ⟨w.heap.size + 1, 1, none⟩) (fun l => absurd (show w.heap.size + 1 < w.heap.size from l) (by omega)) (.slice none 0 0)).setCell (p := ⟨w.heap.size + 1, 2, none⟩) (fun l => absurd (show w.heap.size + 1 < w.heap.size from l) (by omega)) (.int .i64 0)).setCell (p := ⟨w.heap.size + 1, 3, none⟩) (fun l => absurd (show w.heap.size + 1 < w.heap.size from l) (by omega)) (.int .i64 0)).setCell (p := ⟨w.heap.size + 1, 4, none⟩) (fun l => absurd (show w.heap.size + 1 < w.heap.size from l) (by omega)) (.int .i64 0)).setCell (p := ⟨w.heap.size + 1, 5, none⟩) (fun l => absurd (show w.heap.size + 1 < w.heap.size from l) (by omega)) (.slice none 0 0))
    go_wp2
    exact bodyPost_ret (v := .tuple #[.agg #[.slice none 0 0, .slice none 0 0, .int .i64 0, .int .i64 0, .int .i64 0, .slice none 0 0], .int .i64 3]) (by simp [results, Try.results7, go_sem, *]) rfl (RoAns.no HB.out (by decide) rfl KF.out)
  · have HB := hik (show roc n z (V : Int) (R : Int) (Q : Int) g = 0 by rw [HROC.out, if_pos ⟨H33.out, b3⟩])
    have lx := RX.out.lt
    have lo9 := RO.out.lt
    have y0 : W5.cell? ⟨w.heap.size + 1, 0, none⟩ = some (.slice none 0 0) := RX.out.cell (i := 0) (by omega)
    have u0 := RX.out.frozen 0
    have xo0 : W5.cell? ⟨go, 0, none⟩ = some (.slice (some ⟨bR, 0, none⟩) V V) := RO.out.cell (i := 0) (by omega)
    have y1 : W5.cell? ⟨w.heap.size + 1, 1, none⟩ = some (.slice none 0 0) := RX.out.cell (i := 1) (by omega)
    have u1 := RX.out.frozen 1
    have xo1 : W5.cell? ⟨go, 1, none⟩ = some (.slice (some ⟨bT, 0, none⟩) (V - 1) (V - 1)) := RO.out.cell (i := 1) (by omega)
    have y2 : W5.cell? ⟨w.heap.size + 1, 2, none⟩ = some (.int .i64 0) := RX.out.cell (i := 2) (by omega)
    have u2 := RX.out.frozen 2
    have xo2 : W5.cell? ⟨go, 2, none⟩ = some (.int .i64 D.la) := RO.out.cell (i := 2) (by omega)
    have y3 : W5.cell? ⟨w.heap.size + 1, 3, none⟩ = some (.int .i64 0) := RX.out.cell (i := 3) (by omega)
    have u3 := RX.out.frozen 3
    have xo3 : W5.cell? ⟨go, 3, none⟩ = some (.int .i64 D.lb) := RO.out.cell (i := 3) (by omega)
    have y4 : W5.cell? ⟨w.heap.size + 1, 4, none⟩ = some (.int .i64 0) := RX.out.cell (i := 4) (by omega)
    have u4 := RX.out.frozen 4
    have xo4 : W5.cell? ⟨go, 4, none⟩ = some (.int .i64 D.no) := RO.out.cell (i := 4) (by omega)
    have y5 : W5.cell? ⟨w.heap.size + 1, 5, none⟩ = some (.slice none 0 0) := RX.out.cell (i := 5) (by omega)
    have u5 := RX.out.frozen 5
    have xo5 : W5.cell? ⟨go, 5, none⟩ = some (.slice (some ⟨bQ, 0, none⟩) Q Q) := RO.out.cell (i := 5) (by omega)
    have KF := hik ((((((K0.out.setCell (p := ⟨w.heap.size + 1, 0, none⟩) (fun l => absurd (show w.heap.size + 1 < w.heap.size from l) (by omega)) (.slice (some ⟨bR, 0, none⟩) V V)).setCell (p := ⟨w.heap.size + 1, 1, none⟩) (fun l => absurd (show w.heap.size + 1 < w.heap.size from l) (by omega)) (.slice (some ⟨bT, 0, none⟩) (V - 1) (V - 1))).setCell (p := ⟨w.heap.size + 1, 2, none⟩) (fun l => absurd (show w.heap.size + 1 < w.heap.size from l) (by omega)) (.int .i64 D.la)).setCell (p := ⟨w.heap.size + 1, 3, none⟩) (fun l => absurd (show w.heap.size + 1 < w.heap.size from l) (by omega)) (.int .i64 D.lb)).setCell (p := ⟨w.heap.size + 1, 4, none⟩) (fun l => absurd (show w.heap.size + 1 < w.heap.size from l) (by omega)) (.int .i64 D.no)).setCell (p := ⟨w.heap.size + 1, 5, none⟩) (fun l => absurd (show w.heap.size + 1 < w.heap.size from l) (by omega)) (.slice (some ⟨bQ, 0, none⟩) Q Q))
    have kS := (((((((Chg.refl (fun b => b = w.heap.size + 1) W5).setCell (p := ⟨w.heap.size + 1, 0, none⟩) (fun _ => rfl) (.slice (some ⟨bR, 0, none⟩) V V)).setCell (p := ⟨w.heap.size + 1, 1, none⟩) (fun _ => rfl) (.slice (some ⟨bT, 0, none⟩) (V - 1) (V - 1))).setCell (p := ⟨w.heap.size + 1, 2, none⟩) (fun _ => rfl) (.int .i64 D.la)).setCell (p := ⟨w.heap.size + 1, 3, none⟩) (fun _ => rfl) (.int .i64 D.lb)).setCell (p := ⟨w.heap.size + 1, 4, none⟩) (fun _ => rfl) (.int .i64 D.no)).setCell (p := ⟨w.heap.size + 1, 5, none⟩) (fun _ => rfl) (.slice (some ⟨bQ, 0, none⟩) Q Q))
    have hsz : ((((((W5.setCell ⟨w.heap.size + 1, 0, none⟩ (.slice (some ⟨bR, 0, none⟩) V V)).setCell ⟨w.heap.size + 1, 1, none⟩ (.slice (some ⟨bT, 0, none⟩) (V - 1) (V - 1))).setCell ⟨w.heap.size + 1, 2, none⟩ (.int .i64 D.la)).setCell ⟨w.heap.size + 1, 3, none⟩ (.int .i64 D.lb)).setCell ⟨w.heap.size + 1, 4, none⟩ (.int .i64 D.no)).setCell ⟨w.heap.size + 1, 5, none⟩ (.slice (some ⟨bQ, 0, none⟩) Q Q)).heap.size = W5.heap.size := by simp
    have OF := hik ((OO2.out.chg kS (fun c hc e => by have e' : c = w.heap.size + 1 := e; have := HLO.out; unfold Iv at hc; omega)).wide (S' := Iv w.heap.size W5.heap.size) (fun c hc => by have := HLO.out; have := HTOP.out; unfold Iv at hc ⊢; omega))
    clear kS OO2 K0
    go_wp2
    refine bodyPost_ret (v := .tuple #[.agg #[.slice (some ⟨bR, 0, none⟩) V V, .slice (some ⟨bT, 0, none⟩) (V - 1) (V - 1), .int .i64 D.la, .int .i64 D.lb, .int .i64 D.no, .slice (some ⟨bQ, 0, none⟩) Q Q], .int .i64 0]) (by simp [results, Try.results7, go_sem, *]) rfl ?_
    rw [HRV.out, HB.out, if_pos rfl]
    refine ⟨⟨some ⟨bR, 0, none⟩, V, some ⟨bT, 0, none⟩, V - 1, some ⟨bQ, 0, none⟩, Q⟩, ?_, by rw [hsz]; exact OF.out, KF.out⟩
    rw [HD.out.1, HD.out.2.1, HD.out.2.2]

end Go.Proofs.Ytfgnhaoonpknlaa

namespace Go.Proofs.Ytfgnhaoonpknlaa
open Go.ChangeShapes Go.WideShapes Go.ChangeAt Go.RowKit
set_option linter.unusedVariables false
theorem sumN_bd (f : Nat → Nat) (B : Nat) (h : ∀ i, f i ≤ B) : ∀ n, sumN f n ≤ n * B
  | 0 => Nat.zero_le _
  | n + 1 => by
    have a := sumN_bd f B h n
    have b := h n
    rw [Nat.succ_mul]
    simp only [sumN]
    omega
theorem rdO_mc (z : Nat → Int) (v r q k : Nat) (hv : v ≤ 6) (hr : r ≤ 3) (hq : q ≤ 8) : (rdO z v r q k).mc ≤ 100000 := by
  have h1 := sumN_bd (rdO z v r q k).rl 3 (fun _ => Nat.le_refl 3) (rdO z v r q k).nr
  have h2 := sumN_bd (fun i => ((rdO z v r q k).q i).mc) 1000 (fun i => by
    have h3 := sumN_bd ((rdO z v r q k).q i).l 9 (fun j => by show v + r - 1 - j ≤ 9; omega) ((rdO z v r q k).q i).nq
    unfold QD.mc
    have e1 : ((rdO z v r q k).q i).np = 2 * v := rfl
    have e2 : ((rdO z v r q k).q i).nq = v := rfl
    rw [e2] at h3 ⊢
    rw [e1]
    omega) (rdO z v r q k).nq
  have e3 : (rdO z v r q k).nr = v := rfl
  have e4 : (rdO z v r q k).nq = q := rfl
  have e5 : (rdO z v r q k).nt = v - 1 := rfl
  unfold OD.mc
  rw [e3] at h1 ⊢
  rw [e4] at h2 ⊢
  rw [e5]
  omega
theorem rov_small (n : Nat) (z : Nat → Int) (v r q g : Int) : (rov n z v r q g).small ∧ (rov n z v r q g).mc ≤ 100000 := by
  unfold rov
  by_cases hc : roc n z v r q g = 0
  · rw [if_pos hc]
    unfold roc at hc
    by_cases h1 : 65536 < n
    · rw [if_pos h1] at hc
      omega
    · rw [if_neg h1] at hc
      cases hs : stb r q g
      · rw [hs, if_neg (by decide)] at hc
        omega
      · cases hv : vrB v
        · rw [hs, hv, if_pos rfl, if_neg (by decide)] at hc
          omega
        · obtain ⟨⟨r0, r1⟩, ⟨q0, q1⟩, g0, g1⟩ := stb_parts hs
          obtain ⟨v0, v1⟩ := vrB_parts hv
          exact ⟨rd_small z _ _ _ 0 (by omega) (by omega) (by omega), rdO_mc z _ _ _ 0 (by omega) (by omega) (by omega)⟩
  · rw [if_neg hc]
    exact ⟨⟨⟨by decide, fun i j hi => absurd hi (by show ¬ i < 0; omega)⟩, ⟨by decide, fun i hi => absurd hi (by show ¬ i < 0; omega)⟩, ⟨by decide, fun i j hi => absurd hi (by show ¬ i < 0; omega)⟩⟩, by decide⟩

end Go.Proofs.Ytfgnhaoonpknlaa
