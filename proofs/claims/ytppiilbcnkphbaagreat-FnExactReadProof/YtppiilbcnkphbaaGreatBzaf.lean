/- Several texts in one: What ReadExts answers: a contract. Condition: bytes that can be read. · Blocks of four cells: laws. No program is named here. · Slices of elements that a call made: words; what is appended to an empty slice; what the laws' marks do. Conditions: rows that can be read, lengths of at most 2 to the 40. · What the laws' helpers on sources do: contracts. Conditions: rows that can be read, lengths of at most 2 to the 40. -/
import Derived.Test.YtppiilbcnkphbaaGreatBzad
import Derived.Test.YtppiilbcnkphbaaGreatBzab
import Derived.ArgAppend
import Derived.Deep.AppendSrc
import Derived.Deep.QuietTactic
import Derived.Deep.RegionHeld3
import Derived.BigQuiet
namespace Go.Proofs.YtppiilbcnkphbaaGreat
open Go.ChangeShapes Go.WideShapes Go.ChangeAt Go.RowKit
set_option linter.unusedVariables false
set_option linter.unusedSimpArgs false

theorem RowV.whole {w : World} {c : Option Addr} {n : Nat} {f : Nat → Value} (h : RowV w c n f) (hn : 0 < n) : ∃ xb xo : Nat, c = some ⟨xb, xo, none⟩ ∧ xb < w.heap.size ∧ ∀ i, i < n → w.cell? ⟨xb, xo + i, none⟩ = some (f i) := by
  obtain ⟨xb, xo, e, l, _⟩ := h 0 hn
  refine ⟨xb, xo, e, l, fun i hi => ?_⟩
  obtain ⟨xb', xo', e', _, hc⟩ := h i hi
  rw [e] at e'
  obtain ⟨rfl, rfl⟩ : xb = xb' ∧ xo = xo' := by simpa using e'
  exact hc
/-- What the bytes say. -/
def rf (z : Nat → Int) (i : Nat) : Int := w4 z (i * 8)
def rg (z : Nat → Int) (i : Nat) : Int := w4 z (i * 8 + 4)
/-- The code of bytes. -/
def rc (z : Nat → Int) (n : Nat) : Int := if 65536 < n then 2 else if n % 8 = 0 then (if okP (rf z) (rg z) (n / 8) then (if 4096 < n / 8 then 6 else 0) else 3) else 3
def NoList (w : World) (code : Int) (e : Ending) (w' : World) : Prop := e = .returned (.tuple #[.slice none 0 0, .int .i64 code]) ∧ Chg nob w w'
def NewList (w : World) (n : Nat) (z : Nat → Int) (e : Ending) (w' : World) : Prop :=
  ∃ b : Nat, w.heap.size ≤ b ∧ e = .returned (.tuple #[.slice (some ⟨b, 0, none⟩) (n / 8) (n / 8), .int .i64 0]) ∧ w'.rowIs b 31 (n / 8 * 2) (pf (rf z) (rg z)) ∧ Chg nob w w'
def RAns (w : World) (n : Nat) (z : Nat → Int) (e : Ending) (w' : World) : Prop := (rc z n ≠ 0 ∧ NoList w (rc z n) e w') ∨ (rc z n = 0 ∧ NewList w n z e w')
theorem RAns.no {w w' : World} {n : Nat} {z : Nat → Int} {e : Ending} {code : Int} (hb : rc z n = code) (hc : code ≠ 0) (h : e = .returned (.tuple #[.slice none 0 0, .int .i64 code])) (k : Chg nob w w') : RAns w n z e w' :=
  .inl ⟨by rw [hb]; exact hc, by rw [hb]; exact ⟨h, k⟩⟩


end Go.Proofs.YtppiilbcnkphbaaGreat

namespace Go.Proofs.YtppiilbcnkphbaaGreat
open Go.RowKit
set_option linter.unusedVariables false

section
variable {W : World} {g : Nat} {ty : TypeId} {f : Nat → Value}
end

theorem rowIs_kind {W : World} {b : Nat} {t u : TypeId} {n m : Nat} {f g : Nat → Value} (h : W.rowIs b t n f) (k : W.rowIs b u m g) : t = u := by
  obtain ⟨c, h1, _⟩ := h
  obtain ⟨d, k1, _⟩ := k
  rw [h1] at k1
  cases k1
  rfl

end Go.Proofs.YtppiilbcnkphbaaGreat

namespace Go.Proofs.YtppiilbcnkphbaaGreat
open Go.ChangeShapes Go.WideShapes Go.ChangeAt Go.RowKit
set_option linter.unusedVariables false
set_option maxRecDepth 100000
set_option linter.unusedSimpArgs false

/-- n elements behind c in a block of the call's own (not below B), or none. -/
def OwnE (w : World) (B : Nat) (c : Option Addr) (n : Nat) (f g : Nat → Int) : Prop :=
  n = 0 ∨ ∃ (b N : Nat) (h : Nat → Value), c = some ⟨b, 0, none⟩ ∧ B ≤ b ∧ w.rowIs b 31 N h ∧ n * 2 ≤ N ∧ ∀ i, i < n * 2 → h i = pf f g i
theorem OwnE.zero {w : World} {B : Nat} {c : Option Addr} {f g : Nat → Int} : OwnE w B c 0 f g := .inl rfl
theorem OwnE.of_row {w : World} {B b n : Nat} {f g : Nat → Int} (h : w.rowIs b 31 (n * 2) (pf f g)) (hB : B ≤ b) : OwnE w B (some ⟨b, 0, none⟩) n f g := .inr ⟨b, n * 2, pf f g, rfl, hB, h, Nat.le_refl _, fun _ _ => rfl⟩
theorem OwnE.pairs {w : World} {B : Nat} {c : Option Addr} {n : Nat} {f g : Nat → Int} (h : OwnE w B c n f g) : PairV w c n f g := by
  rcases h with rfl | ⟨b, N, h, rfl, hB, hr, hN, he⟩
  · intro i hi; omega
  · intro i hi
    refine ⟨b, 0, rfl, hr.lt, ?_, ?_⟩
    · rw [Nat.zero_add, hr.cell (by omega), he _ (by omega), pf_even]
    · rw [Nat.zero_add, hr.cell (by omega), he _ (by omega), pf_odd]
theorem OwnE.low {w : World} {B B' : Nat} {c : Option Addr} {n : Nat} {f g : Nat → Int} (h : OwnE w B c n f g) (hB : B' ≤ B) : OwnE w B' c n f g := by
  rcases h with rfl | ⟨b, N, h, e, hb, r⟩
  · exact .inl rfl
  · exact .inr ⟨b, N, h, e, by omega, r⟩
theorem OwnE.congr {w : World} {B : Nat} {c : Option Addr} {n : Nat} {f g f' g' : Nat → Int} (h : OwnE w B c n f g) (e : ∀ i, i < n → f i = f' i ∧ g i = g' i) : OwnE w B c n f' g' := by
  rcases h with rfl | ⟨b, N, h, ec, hb, hr, hN, he⟩
  · exact .inl rfl
  · refine .inr ⟨b, N, h, ec, hb, hr, hN, fun i hi => ?_⟩
    rw [he i hi]
    unfold pf
    rw [(e (i / 2) (by omega)).1, (e (i / 2) (by omega)).2]
theorem OwnE.chg {P : Nat → Prop} {w w' : World} {B : Nat} {c : Option Addr} {n : Nat} {f g : Nat → Int} (h : OwnE w B c n f g) (k : Chg P w w') (hp : ∀ b, B ≤ b → c = some ⟨b, 0, none⟩ → ¬ P b) : OwnE w' B c n f g := by
  rcases h with rfl | ⟨b, N, h, e, hb, hr, r⟩
  · exact .inl rfl
  · exact .inr ⟨b, N, h, e, hb, rowIs_chg hr k (hp b hb e), r⟩
theorem OwnE.keep {w w' : World} {B : Nat} {c : Option Addr} {n : Nat} {f g : Nat → Int} (h : OwnE w B c n f g) (k : Chg nob w w') : OwnE w' B c n f g := h.chg k (fun _ _ _ x => x)
theorem OwnE.of_owns {w : World} {B n : Nat} {v : Value} {f g : Nat → Int} (ho : w.ownsRow B 31 2 v n ((List.range (n * 2)).map (pf f g))) : ∃ c cap, v = .slice c n cap ∧ n ≤ cap ∧ OwnE w B c n f g := by
  rcases ho.2 with ⟨rfl, rfl⟩ | ⟨b, cap, cur, rfl, hb, hcur, hl, _, hsz, ht⟩
  · exact ⟨none, 0, rfl, Nat.le_refl _, .inl rfl⟩
  · have hN : n * 2 ≤ cap * 2 := by omega
    refine ⟨_, cap, rfl, hl, .inr ⟨b, cap * 2, fun i => cur.toList[i]?.getD (.int .i64 0), rfl, hb, ⟨cur, hcur, hsz, fun i hi => ?_⟩, hN, fun i hi => ?_⟩⟩
    · have hi2 : i < cur.size := by omega
      simp [hi2]
    · have h1 : (cur.toList.take (n * 2))[i]? = some (pf f g i) := by rw [ht]; simp [List.getElem?_map, List.getElem?_range hi]
      rw [List.getElem?_take_of_lt hi] at h1
      show cur.toList[i]?.getD (.int .i64 0) = _
      rw [h1]; rfl

section
variable {P : Program}
end

/-- The block of elements behind c. -/
def Mkb (w : World) (B : Nat) (c : Option Addr) (b : Nat) : Prop := B ≤ b ∧ c = some ⟨b, 0, none⟩ ∧ ∃ N h, w.rowIs b 31 N h
theorem Mkb.not {w : World} {B : Nat} {c : Option Addr} {b : Nat} {t : TypeId} {n : Nat} {f : Nat → Value} (h : w.rowIs b t n f) (ht : t ≠ 31) : ¬ Mkb w B c b := fun ⟨_, _, _, _, k⟩ => ht (rowIs_kind h k)
theorem Mkb.back {w : World} {B : Nat} {c : Option Addr} {i : Nat} {v : Array Value} {t : TypeId} (ht : t ≠ 31) (m : Mkb (w.alloc (.cells v t)) B c i) : Mkb w B c i := by
  obtain ⟨hb, hc, N, h, r⟩ := m
  by_cases e : i < w.heap.size
  · exact ⟨hb, hc, N, h, r.of_block (Go.Deep.blk_alloc_lt w _ i e).symm⟩
  · obtain ⟨d, r1, _⟩ := r
    have hl : i < (w.alloc (.cells v t)).heap.size := (Array.getElem?_eq_some_iff.1 r1).1
    simp at hl
    obtain rfl : i = w.heap.size := by omega
    rw [Go.Deep.blk_alloc_new] at r1
    cases r1
    exact absurd rfl ht
/-- The marks of a row, from k on. -/
def mka (k : Int) (i : Nat) : Int := k + 2 * (i : Int)
def mkd (k : Int) (i : Nat) : Int := k + 2 * (i : Int) + 1

set_option maxHeartbeats 1000000 in
theorem markExtS_own (B : Nat) (c : Option Addr) (n cap : Nat) (f g : Nat → Int) (q : Int) (w : World) (ho : Hid (OwnE w B c n f g)) (hn : n ≤ 1099511627776) (q0 : 0 ≤ q) (q1 : q ≤ 1099511627776) :
    Calls Tryz.prog 55 #[.slice c n cap, .int .i64 q] w fun e w' => e = .returned (.int .i64 (q + 2 * n)) ∧ OwnE w' B c n (mka q) (mkd q) ∧ Chg (Mkb w B c) w w' := by
  rcases ho.out with rfl | ⟨b, N, h, rfl, hB, hr, hN, he⟩
  · clear ho
    go_enter Tryz.func55, Tryz.ntmps55
    go_wp2
    go_loopw [1, 5] (fun v i W => i = .int .i64 0 ∧ v = .int .i64 q ∧ Hid (Chg nob w W)) (fun _ _ _ => 0)
    case atStart => exact ⟨rfl, rfl, hik (Chg.refl _ _)⟩
    case round =>
      obtain ⟨rfl, rfl, HC⟩ := hrel
      go_wp2
      go_ret
      exact ⟨by simp, .inl rfl, HC.out.wide⟩
  · have HR0 := hik hr
    have HB := hik hB
    have HNN := hik hN
    have HQ0 := hik q0
    clear ho he hr hB hN
    go_enter Tryz.func55, Tryz.ntmps55
    go_wp2
    go_loopw [1, 5] (fun v i W => ∃ k : Nat, k ≤ n ∧ i = .int .i64 k ∧ v = .int .i64 (q + 2 * k) ∧ Hid (W.rowIs b 31 N (fun j => if j < k * 2 then .int .i64 (q + j) else h j)) ∧ Hid (Chg (fun x => x = b) w W)) (fun _ i _ => n - (intOf i).toNat)
    case atStart => exact ⟨0, Nat.zero_le _, rfl, by simp, hik (HR0.out.congr (fun i _ => by simp)), hik (Chg.refl _ _)⟩
    case round =>
      obtain ⟨k, hk, rfl, rfl, HR, HC⟩ := hrel
      by_cases hlt : k < n
      · have hg0 := HR.out.cell (i := k * 2) (by have := HNN.out; omega)
        have hg1 := HR.out.cell (i := k * 2 + 1) (by have := HNN.out; omega)
        have hf0 := HR.out.frozen (k * 2)
        have hf1 := HR.out.frozen (k * 2 + 1)
        simp only [Nat.lt_irrefl, if_false] at hg0
        simp only [show ¬ k * 2 + 1 < k * 2 by omega, if_false] at hg1
        have HR2 := hik (show _ from ((HR.out.set (k * 2) (.int .i64 (q + 2 * (k : Int)))).set (k * 2 + 1) (.int .i64 (q + 2 * (k : Int) + 1))).congr (g := fun j => if j < (k + 1) * 2 then .int .i64 (q + j) else h j) (fun i _ => by
          by_cases e : i = k * 2 + 1
          · subst e; simp [show k * 2 + 1 < (k + 1) * 2 by omega]; omega
          · by_cases e1 : i = k * 2
            · subst e1; simp [show k * 2 < (k + 1) * 2 by omega]; omega
            · by_cases e2 : i < k * 2
              · simp [e, e1, e2, show i < (k + 1) * 2 by omega]
              · simp [e, e1, e2, show ¬ i < (k + 1) * 2 by omega]))
        have HC2 := hik ((HC.out.setCell (p := ⟨b, k * 2, none⟩) (fun _ => rfl) (.int .i64 (q + 2 * (k : Int)))).setCell (p := ⟨b, k * 2 + 1, none⟩) (fun _ => rfl) (.int .i64 (q + 2 * (k : Int) + 1)))
        go_wp2
        go_roundw
        case rel => exact ⟨k + 1, by omega, by go_num, by go_num, HR2, HC2⟩
        case measure => simp [intOf]; omega
      · obtain rfl : k = n := by omega
        go_wp2
        go_ret
        exact ⟨rfl, .inr ⟨b, N, _, rfl, HB.out, HR.out, HNN.out, fun i hi => by
          simp only [hi, if_true]
          unfold pf mka mkd
          rcases (show i % 2 = 0 ∨ i % 2 = 1 by omega) with e | e
          · rw [if_pos e, show q + (i : Int) = q + 2 * ((i / 2 : Nat) : Int) by omega]
          · rw [if_neg (by omega), show q + (i : Int) = q + 2 * ((i / 2 : Nat) : Int) + 1 by omega]⟩, HC.out.mono (fun i _ e => by subst e; exact ⟨HB.out, rfl, _, _, HR0.out⟩)⟩

set_option maxHeartbeats 1000000 in
theorem heldExtS_own (c : Option Addr) (n cap : Nat) (q : Int) (w : World) (h : Hid (PairV w c n (mka q) (mkd q))) (hn : n ≤ 1099511627776) (q0 : 0 ≤ q) (q1 : q ≤ 1099511627776) :
    Calls Tryz.prog 58 #[.slice c n cap, .int .i64 q] w fun e w' => e = .returned (.int .i64 (q + 2 * n)) ∧ Chg nob w w' := by
  go_enter Tryz.func58, Tryz.ntmps58
  go_wp2
  go_loopw [1, 5] (fun v i W => ∃ k : Nat, k ≤ n ∧ i = .int .i64 k ∧ v = .int .i64 (q + 2 * k) ∧ Hid (Chg nob w W)) (fun _ i _ => n - (intOf i).toNat)
  case atStart => exact ⟨0, Nat.zero_le _, rfl, by simp, hik (Chg.refl _ _)⟩
  case round =>
    obtain ⟨k, hk, rfl, rfl, HC⟩ := hrel
    by_cases hlt : k < n
    · obtain ⟨xb, xo, rfl, hxb, hx0, hx1⟩ := (h.out.keep HC.out) k hlt
      have y0 : _ = some (Value.int .i64 (q + 2 * (k : Int))) := hx0
      have y1 : _ = some (Value.int .i64 (q + 2 * (k : Int) + 1)) := hx1
      clear hx0 hx1
      go_wp2
      go_roundw
      case rel => exact ⟨k + 1, by omega, by go_num, by go_num, HC⟩
      case measure => simp [intOf]; omega
    · obtain rfl : k = n := by omega
      go_wp2
      go_ret
      exact ⟨rfl, HC.out⟩


end Go.Proofs.YtppiilbcnkphbaaGreat

namespace Go.Proofs.YtppiilbcnkphbaaGreat
open Go.ChangeShapes Go.WideShapes Go.ChangeAt Go.RowKit
set_option linter.unusedVariables false
set_option maxRecDepth 100000
set_option linter.unusedSimpArgs false


end Go.Proofs.YtppiilbcnkphbaaGreat
