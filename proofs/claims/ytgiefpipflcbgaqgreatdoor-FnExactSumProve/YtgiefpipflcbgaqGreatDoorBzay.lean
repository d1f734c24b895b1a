/- Several texts in one: Bytes of elements: what is written, how, by the program and by its model: contracts. Conditions: rows that can be read, right elements. · What the laws' helpers on slices of bytes, and on own rows of elements, do: contracts. Conditions: rows that can be read, lengths of at most 2 to the 40. · What ExtBytes answers: a contract. Condition: a row that can be read. -/
import Derived.Test.YtgiefpipflcbgaqGreatDoorBzad
import Derived.OwnWalk
import Derived.Deep.QuietTactic
import Derived.BigQuiet
import Derived.Deep.RegionWith
namespace Go.Proofs.YtgiefpipflcbgaqGreatDoor
open Go.ChangeShapes Go.WideShapes Go.ChangeAt Go.RowKit
set_option linter.unusedVariables false
set_option linter.unusedSimpArgs false

theorem infoU8 : (Tryz.prog.info? 5).map (fun i => (i.zero, i.size, i.bytes)) = some (some (.int .u8 0), 1, 1) := by kernel_rfl
/-- The four bytes of a number, the higher ones first. -/
def wb (a : Int) : Nat → Int
  | 0 => a / 16777216 % 256
  | 1 => a / 65536 % 256
  | 2 => a / 256 % 256
  | _ => a % 256
/-- The bytes of elements. -/
def byt (f g : Nat → Int) (i : Nat) : Int := if i % 8 < 4 then wb (f (i / 8)) (i % 8) else wb (g (i / 8)) (i % 8 - 4)
def bvl (f g : Nat → Int) (i : Nat) : Value := .int .u8 (byt f g i)
theorem wb_lo (a : Int) (j : Nat) : 0 ≤ wb a j := by unfold wb; split <;> omega
theorem wb_hi (a : Int) (j : Nat) : wb a j < 256 := by unfold wb; split <;> omega
theorem byt_lo (f g : Nat → Int) (i : Nat) : 0 ≤ byt f g i := by unfold byt; split <;> exact wb_lo _ _
theorem byt_hi (f g : Nat → Int) (i : Nat) : byt f g i < 256 := by unfold byt; split <;> exact wb_hi _ _
theorem bvl_a (f g : Nat → Int) (k j : Nat) (h : j < 4) : bvl f g (k * 8 + j) = .int .u8 (wb (f k) j) := by
  unfold bvl byt
  rw [if_pos (by omega), show (k * 8 + j) / 8 = k by omega, show (k * 8 + j) % 8 = j by omega]
theorem bvl_b (f g : Nat → Int) (k j : Nat) (h : j < 4) : bvl f g (k * 8 + 4 + j) = .int .u8 (wb (g k) j) := by
  unfold bvl byt
  rw [if_neg (by omega), show (k * 8 + 4 + j) / 8 = k by omega, show (k * 8 + 4 + j) % 8 - 4 = j by omega]
/-- The values of a number's bytes. -/
def wv (a : Int) : List Value := [.int .u8 (wb a 0), .int .u8 (wb a 1), .int .u8 (wb a 2), .int .u8 (wb a 3)]
theorem range_four (h : Nat → Value) (m : Nat) : (List.range m).map h ++ [h m, h (m + 1), h (m + 2), h (m + 3)] = (List.range (m + 4)).map h := by
  rw [show m + 4 = m + 1 + 1 + 1 + 1 by omega, List.range_succ, List.range_succ, List.range_succ, List.range_succ]
  simp
theorem bytes_a (f g : Nat → Int) (k : Nat) : (List.range (k * 8)).map (bvl f g) ++ wv (f k) = (List.range (k * 8 + 4)).map (bvl f g) := by
  rw [← range_four]
  have h0 := bvl_a f g k 0 (by omega)
  rw [Nat.add_zero] at h0
  rw [h0, bvl_a f g k 1 (by omega), bvl_a f g k 2 (by omega), bvl_a f g k 3 (by omega)]
  rfl
theorem bytes_b (f g : Nat → Int) (k : Nat) : (List.range (k * 8 + 4)).map (bvl f g) ++ wv (g k) = (List.range ((k + 1) * 8)).map (bvl f g) := by
  rw [show (k + 1) * 8 = k * 8 + 4 + 4 by omega, ← range_four (bvl f g) (k * 8 + 4)]
  have h0 := bvl_b f g k 0 (by omega)
  rw [Nat.add_zero] at h0
  rw [h0, bvl_b f g k 1 (by omega), bvl_b f g k 2 (by omega), bvl_b f g k 3 (by omega)]
  rfl

set_option maxHeartbeats 1000000 in
theorem appendWord_any (B g k cap : Nat) (xs : List Value) (a : Int) (w : World) (hown : Hid (w.ownsRow B 5 1 (.slice (some ⟨g, 0, none⟩) k cap) k xs)) (hB : B ≤ w.heap.size) (hk : k + 4 ≤ cap) (a0 : 0 ≤ a) (a1 : a < 2130706433) :
    Calls Tryz.prog 109 #[.slice (some ⟨g, 0, none⟩) k cap, .int .i64 a] w fun e w' => e = .returned (.slice (some ⟨g, 0, none⟩) (k + 4) cap) ∧ w'.ownsRow B 5 1 (.slice (some ⟨g, 0, none⟩) (k + 4) cap) (k + 4) (xs ++ wv a) ∧ Chg (fun b => b = g) w w' := by
  obtain ⟨i0, hi, hz0, hz1, hz2⟩ := info_parts infoU8
  have HI := hide hi
  have HZ1 := hide hz1
  clear hi hz0 hz1 hz2
  go_enter Tryz.func109, Tryz.ntmps109
  go_wp2_with (at_builtin; refine wpList_append_fits _ rfl (.tmp 5) (.tmp 17) 106 rfl B 5 i0 1 Tryz.underlying106 HI.out HZ1.out g k cap xs rfl (hown.out.alloc _) ⟨_, 0, none⟩ 4 4 (wv a) rfl rfl ?c1 ?c2 hk ?c3)
  case c1 =>
    intro j u hj
    match j, hj with
    | 0, hj => simp [wv, wb] at hj; subst hj; simp [Addr.add]; omega
    | 1, hj => simp [wv, wb] at hj; subst hj; simp [Addr.add]
    | 2, hj => simp [wv, wb] at hj; subst hj; simp [Addr.add]
    | 3, hj => simp [wv, wb] at hj; subst hj; simp [Addr.add]
    | j + 4, hj => simp [wv] at hj
  case c2 => intro u hu; simp [wv] at hu; rcases hu with rfl | rfl | rfl | rfl <;> rfl
  case c3 =>
    intro w1 ho hgr
    have HO := hide ho
    have HG := hide (((Chg.refl (fun b => b = g) w).alloc _).grown hgr (fun b e _ => by simpa using e.symm))
    clear ho hgr
    go_wp2
    go_ret
    exact ⟨rfl, HO.out, HG.out⟩

theorem Chg.lookP {P : Nat → Prop} {w w' : World} (h : Chg P w w') {b o : Nat} (hn : ¬ P b) {v : Value} (c : w.cell? ⟨b, o, none⟩ = some v) : w'.cell? ⟨b, o, none⟩ = some v :=
  (h.cell (p := ⟨b, o, none⟩) (World.block_lt_of_cell? w _ c) hn).trans c
/-- The code of a list. -/
def bc (f g : Nat → Int) (n : Nat) : Int := if 4096 < n then 2 else if okP f g n then 0 else 1
/-- No bytes, and a code. -/
def NoBytes (w : World) (code : Int) (e : Ending) (w' : World) : Prop := e = .returned (.tuple #[.slice none 0 0, .int .i64 code]) ∧ Chg nob w w'
/-- A new row of the bytes. -/
def NewBytes (w : World) (n : Nat) (f g : Nat → Int) (e : Ending) (w' : World) : Prop :=
  ∃ b : Nat, w.heap.size ≤ b ∧ e = .returned (.tuple #[.slice (some ⟨b, 0, none⟩) (n * 8) (n * 8), .int .i64 0]) ∧ w'.rowIs b 5 (n * 8) (bvl f g) ∧ Chg nob w w'
/-- Either, by the code. -/
def EAns (w : World) (n : Nat) (f g : Nat → Int) (e : Ending) (w' : World) : Prop := (bc f g n ≠ 0 ∧ NoBytes w (bc f g n) e w') ∨ (bc f g n = 0 ∧ NewBytes w n f g e w')
theorem EAns.no {w w' : World} {n : Nat} {f g : Nat → Int} {e : Ending} {code : Int} (hb : bc f g n = code) (hc : code ≠ 0) (h : e = .returned (.tuple #[.slice none 0 0, .int .i64 code])) (k : Chg nob w w') : EAns w n f g e w' :=
  .inl ⟨by rw [hb]; exact hc, by rw [hb]; exact ⟨h, k⟩⟩
/-- An owned row, all of it in use, is a row. -/
theorem rowIs_of_owns {w : World} {B b n : Nat} {t : TypeId} {h : Nat → Value} (ho : w.ownsRow B t 1 (.slice (some ⟨b, 0, none⟩) n n) n ((List.range n).map h)) : w.rowIs b t n h := by
  rcases ho.2 with ⟨hv, _⟩ | ⟨g', cap, cur, hv, _, hcur, _, _, hsz, htk⟩
  · cases hv
  · simp at hv
    obtain ⟨rfl, rfl⟩ := hv
    refine ⟨cur, hcur, by omega, fun i hi => ?_⟩
    have e : cur.toList = (List.range n).map h := by
      rw [← htk]
      exact (List.take_of_length_le (by simp; omega)).symm
    rw [← Array.getElem?_toList, e, List.getElem?_map, List.getElem?_range hi]
    rfl

end Go.Proofs.YtgiefpipflcbgaqGreatDoor

namespace Go.Proofs.YtgiefpipflcbgaqGreatDoor
open Go.ChangeShapes Go.WideShapes Go.ChangeAt Go.RowKit
set_option linter.unusedVariables false
set_option maxRecDepth 100000
set_option linter.unusedSimpArgs false

/-- Bytes as values. -/
def bw (f : Nat → Int) (i : Nat) : Value := .int .u8 (f i)
theorem hid {p : Prop} (h : p) : Hid p := h

/-- The numbers that markByteS writes. -/
def mkb (i : Nat) : Int := (1 + (i : Int)) % 256

/-- The numbers that markExtS writes, cell by cell. -/
def mkc (i : Nat) : Value := .int .i64 (1 + (i : Int))

set_option maxHeartbeats 1000000 in
theorem markExtS_any (g n cap : Nat) (h : Nat → Value) (w : World) (hr : Hid (w.rowIs g 45 (n * 2) h)) (hn : n ≤ 1099511627776) :
    Calls Tryz.prog 16 #[.slice (some ⟨g, 0, none⟩) n cap, .int .i64 1] w fun e w' => e = .returned (.int .i64 (1 + 2 * n)) ∧ w'.rowIs g 45 (n * 2) mkc ∧ Chg (fun b => b = g) w w' := by
  go_enter Tryz.func16, Tryz.ntmps16
  go_wp2
  go_loopw [1, 5] (fun v i W => ∃ k : Nat, k ≤ n ∧ i = .int .i64 k ∧ v = .int .i64 (1 + 2 * k) ∧ Hid (W.rowIs g 45 (n * 2) (fun j => if j < k * 2 then mkc j else h j)) ∧ Hid (Chg (fun b => b = g) w W)) (fun _ i _ => n - (intOf i).toNat)
  case atStart => exact ⟨0, Nat.zero_le _, rfl, rfl, hid (hr.out.congr (fun i _ => by simp)), hid (Chg.refl _ _)⟩
  case round =>
    obtain ⟨k, hk, rfl, rfl, HR, HC⟩ := hrel
    by_cases hlt : k < n
    · have hg0 := HR.out.cell (i := k * 2) (by omega)
      have hg1 := HR.out.cell (i := k * 2 + 1) (by omega)
      have hf0 := HR.out.frozen (k * 2)
      have hf1 := HR.out.frozen (k * 2 + 1)
      simp only [Nat.lt_irrefl, if_false] at hg0
      simp only [show ¬ k * 2 + 1 < k * 2 by omega, if_false] at hg1
      have HR2 := hid (show _ from ((HR.out.set (k * 2) (.int .i64 (1 + 2 * (k : Int)))).set (k * 2 + 1) (.int .i64 (1 + 2 * (k : Int) + 1))).congr (g := fun j => if j < (k + 1) * 2 then mkc j else h j) (fun i _ => by
        by_cases e : i = k * 2 + 1
        · subst e; simp [mkc, show k * 2 + 1 < (k + 1) * 2 by omega]; omega
        · by_cases e1 : i = k * 2
          · subst e1; simp [mkc, show k * 2 < (k + 1) * 2 by omega]; omega
          · by_cases e2 : i < k * 2
            · simp [e, e1, e2, show i < (k + 1) * 2 by omega]
            · simp [e, e1, e2, show ¬ i < (k + 1) * 2 by omega]))
      have HC2 := hid ((HC.out.setCell (p := ⟨g, k * 2, none⟩) (fun _ => rfl) (.int .i64 (1 + 2 * (k : Int)))).setCell (p := ⟨g, k * 2 + 1, none⟩) (fun _ => rfl) (.int .i64 (1 + 2 * (k : Int) + 1)))
      go_wp2
      go_roundw
      case rel => exact ⟨k + 1, by omega, by go_num, by go_num, HR2, HC2⟩
      case measure => simp [intOf]; omega
    · obtain rfl : k = n := by omega
      go_wp2
      go_ret
      exact ⟨rfl, HR.out.congr (fun i hi => by simp [hi]), HC.out⟩

theorem extBytes_no (c : Option Addr) (n cap : Nat) (f g : Nat → Int) (w : World) (h : Calls Tryz.prog 87 #[.slice c n cap] w fun e w' => EAns w n f g e w') (hb : bc f g n ≠ 0) :
    Calls Tryz.prog 87 #[.slice c n cap] w fun e w' => NoBytes w (bc f g n) e w' := by
  refine h.mono ?_
  rintro e w' (⟨_, h⟩ | ⟨h0, _⟩)
  · exact h
  · exact absurd h0 hb
theorem extBytes_yes (c : Option Addr) (n cap : Nat) (f g : Nat → Int) (w : World) (h : Calls Tryz.prog 87 #[.slice c n cap] w fun e w' => EAns w n f g e w') (hb : bc f g n = 0) :
    Calls Tryz.prog 87 #[.slice c n cap] w fun e w' => NewBytes w n f g e w' := by
  refine h.mono ?_
  rintro e w' (⟨h0, _⟩ | ⟨_, h⟩)
  · exact absurd hb h0
  · exact h

end Go.Proofs.YtgiefpipflcbgaqGreatDoor

namespace Go.Proofs.YtgiefpipflcbgaqGreatDoor
open Go.ChangeShapes Go.WideShapes Go.ChangeAt Go.RowKit
set_option linter.unusedVariables false
set_option linter.unusedSimpArgs false

set_option maxHeartbeats 1000000 in
theorem extBytes_any (c : Option Addr) (n cap : Nat) (f g : Nat → Int) (w : World) (h : Hid (PairV w c n f g)) (hn : n ≤ 1099511627776) :
    Calls Tryz.prog 87 #[.slice c n cap] w fun e w' => EAns w n f g e w' := by
  by_cases hl : 4096 < n
  · have hl' : 4096 < (n : Int) := by omega
    have HB := hide (show bc f g n = 2 by simp [bc, hl])
    go_enter Tryz.func87, Tryz.ntmps87
    go_wp2
    go_ret2
    exact EAns.no HB.out (by omega) rfl (Chg.refl _ _)
  have hl' : ¬ 4096 < (n : Int) := by omega
  cases ho : okP f g n
  · have HB := hide (show bc f g n = 1 by simp [bc, hl, ho])
    go_enter Tryz.func87, Tryz.ntmps87
    go_wp2_with fail
    refine (extsOK_any c n cap f g _ h hn).mono ?_
    rintro e w1 ⟨rfl, k1⟩
    go_wp2
    go_ret2
    exact EAns.no HB.out (by omega) rfl k1
  have HB := hide (show bc f g n = 0 by simp [bc, hl, ho])
  have HOK := hide ho
  obtain ⟨i0, hi, hz0, hz1, hz2⟩ := info_parts infoU8
  have HI := hide hi
  have HZ0 := hide hz0
  have HZ1 := hide hz1
  have hb : i0.bytes * (n * 8) ≤ 281474976710656 := by rw [hz2]; omega
  clear hi hz0 hz1 hz2
  go_enter Tryz.func87, Tryz.ntmps87
  go_wp2_with fail
  refine (extsOK_any c n cap f g _ h hn).mono ?_
  rintro e w1 ⟨rfl, k1⟩
  have K1 := hide k1
  clear k1
  go_wp2_with (at_make; refine wpList_make_own _ rfl (.const (.int .i64 0)) (.tmp 15) 106 rfl w1.heap.size 5 i0 (.int .u8 0) 1 Tryz.underlying106 HI.out HZ0.out HZ1.out .i64 .i64 _ (n * 8) rfl rfl (by omega) hb (by unfold maxLen; omega) (Nat.le_refl _) ?_)
  intro w2 hown hgr
  have HW0 := hide hown
  have K2 := hide (K1.out.grown hgr (fun b e _ => by cases e))
  clear hown hgr hb HI HZ0 HZ1
  go_wp2
  go_loopw [4, 19] (fun v i W => ∃ k : Nat, k ≤ n ∧ i = .int .i64 k ∧ v = .slice (some ⟨w1.heap.size, 0, none⟩) (k * 8) (n * 8) ∧ Hid (W.ownsRow w1.heap.size 5 1 (.slice (some ⟨w1.heap.size, 0, none⟩) (k * 8) (n * 8)) (k * 8) ((List.range (k * 8)).map (bvl f g))) ∧ Hid (Chg nob w W)) (fun _ i _ => n - (intOf i).toNat)
  case atStart => exact ⟨0, Nat.zero_le _, rfl, rfl, HW0, K2⟩
  case round =>
    obtain ⟨k, hk, rfl, rfl, HW, HC⟩ := hrel
    by_cases hlt : k < n
    · obtain ⟨xb, xo, rfl, hxb, hx0, hx1⟩ := (h.out.keep HC.out) k hlt
      have ee := okP_all f g n HOK.out k hlt
      have a0 := fok_lo (eok_a ee)
      have a1 := fok_hi (eok_a ee)
      have b0 := fok_lo (eok_b ee)
      have b1 := fok_hi (eok_b ee)
      clear ee
      have hb1 : w1.heap.size < wr.heap.size := (HW.out.lt w1.heap.size rfl).2
      have hne : ¬ wr.heap.size = w1.heap.size := by omega
      have hw1 := K1.out.size
      have s0 : (wr.alloc (.cells #[.int .i64 (f k), .int .i64 (g k)] 45)).drew.cell? ⟨wr.heap.size, 0, none⟩ = some (.int .i64 (f k)) := by go_simp
      have s1 : (wr.alloc (.cells #[.int .i64 (f k), .int .i64 (g k)] 45)).drew.cell? ⟨wr.heap.size, 1, none⟩ = some (.int .i64 (g k)) := by go_simp
      have HS0 := hide s0
      have HS1 := hide s1
      clear s0 s1
      go_wp2
      go_region_held3 (fun w' => w'.cell? ⟨wr.heap.size, 0, none⟩ = some (.int .i64 (f k)) ∧ w'.cell? ⟨wr.heap.size, 1, none⟩ = some (.int .i64 (g k))) (first | with_reducible exact ⟨HS0.out, HS1.out⟩ | with_reducible exact ⟨k2.lookP hne (k1.lookP hne HS0.out), k2.lookP hne (k1.lookP hne HS1.out)⟩ | with_reducible exact ⟨k1.lookP hne HS0.out, k1.lookP hne HS1.out⟩) (first | (go_at_call_of 109 (Value.int IntKind.i64 (f k)); refine (appendWord_any w1.heap.size w1.heap.size (k * 8) (n * 8) _ (f k) _ (hide ((HW.out.alloc _).drew)) (by simp; omega) (by omega) a0 a1).mono ?_; rintro e w3 ⟨rfl, o1, k1⟩; have HO1 : Hid (w3.ownsRow w1.heap.size 5 1 (.slice (some ⟨w1.heap.size, 0, none⟩) (k * 8 + 4) (n * 8)) (k * 8 + 4) ((List.range (k * 8 + 4)).map (bvl f g))) := hide (by rw [← bytes_a]; exact o1); have hs1 : wr.heap.size + 1 ≤ w3.heap.size := (by have := k1.size; simpa using this); clear o1) | (go_at_call_of 109 (Value.int IntKind.i64 (g k)); refine (appendWord_any w1.heap.size w1.heap.size (k * 8 + 4) (n * 8) _ (g k) _ HO1 (by omega) (by omega) b0 b1).mono ?_; rintro e w4 ⟨rfl, o2, k2⟩; have HO2 : Hid (w4.ownsRow w1.heap.size 5 1 (.slice (some ⟨w1.heap.size, 0, none⟩) (k * 8 + 4 + 4) (n * 8)) (k * 8 + 4 + 4) ((List.range ((k + 1) * 8)).map (bvl f g))) := hide (by rw [← bytes_b]; exact o2); clear o2))
      have HC2 : Hid (Chg nob w w4) := hide ((((HC.out.alloc _).drew.wide.trans k1).trans k2).mono (fun i hi e => by omega))
      clear k1 k2
      go_wp2
      go_roundw
      case rel => exact ⟨k + 1, by omega, by go_num, by rw [show (k + 1) * 8 = k * 8 + 4 + 4 by omega], hide (by have q := HO2.out; rw [show k * 8 + 4 + 4 = (k + 1) * 8 by omega] at q; exact q), HC2⟩
      case measure => simp [intOf]; omega
    · obtain rfl : k = n := by omega
      go_wp2
      go_ret2
      exact .inr ⟨HB.out, w1.heap.size, K1.out.size, rfl, rowIs_of_owns HW.out, HC.out⟩

end Go.Proofs.YtgiefpipflcbgaqGreatDoor
