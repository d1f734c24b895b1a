/- Bytes of elements: what is written, how, by the program and by its model: contracts. Conditions: rows that can be read, right elements. -/
import Derived.Test.YtnpmhfhgnnhclarERow
import Derived.OwnWalk
namespace Go.Proofs.Ytnpmhfhgnnhclar
open Go.ChangeShapes Go.WideShapes Go.ChangeAt Go.RowKit
set_option linter.unusedVariables false
set_option linter.unusedSimpArgs false

theorem infoU8 : (Try.prog.info? 5).map (fun i => (i.zero, i.size, i.bytes)) = some (some (.int .u8 0), 1, 1) := by kernel_rfl
/-- The four bytes of a number, the higher ones first. -/
def wb (a : Int) : Nat → Int
  | 0 => a / 16777216 % 256
  | 1 => a / 65536 % 256
  | 2 => a / 256 % 256
  | _ => a % 256
/-- The bytes of elements. -/
def byt (f g : Nat → Int) (i : Nat) : Int := if i % 8 < 4 then wb (f (i / 8)) (i % 8) else wb (g (i / 8)) (i % 8 - 4)
def bvl (f g : Nat → Int) (i : Nat) : Value := .int .u8 (byt f g i)
theorem wb_lo (a : Int) (j : Nat) : 0 ≤ wb a j := by unfold wb; split <;> omega
theorem wb_hi (a : Int) (j : Nat) : wb a j < 256 := by unfold wb; split <;> omega
theorem byt_lo (f g : Nat → Int) (i : Nat) : 0 ≤ byt f g i := by unfold byt; split <;> exact wb_lo _ _
theorem byt_hi (f g : Nat → Int) (i : Nat) : byt f g i < 256 := by unfold byt; split <;> exact wb_hi _ _
theorem bvl_a (f g : Nat → Int) (k j : Nat) (h : j < 4) : bvl f g (k * 8 + j) = .int .u8 (wb (f k) j) := by
  unfold bvl byt
  rw [if_pos (by omega), show (k * 8 + j) / 8 = k by omega, show (k * 8 + j) % 8 = j by omega]
theorem bvl_b (f g : Nat → Int) (k j : Nat) (h : j < 4) : bvl f g (k * 8 + 4 + j) = .int .u8 (wb (g k) j) := by
  unfold bvl byt
  rw [if_neg (by omega), show (k * 8 + 4 + j) / 8 = k by omega, show (k * 8 + 4 + j) % 8 - 4 = j by omega]
/-- The values of a number's bytes. -/
def wv (a : Int) : List Value := [.int .u8 (wb a 0), .int .u8 (wb a 1), .int .u8 (wb a 2), .int .u8 (wb a 3)]
theorem range_four (h : Nat → Value) (m : Nat) : (List.range m).map h ++ [h m, h (m + 1), h (m + 2), h (m + 3)] = (List.range (m + 4)).map h := by
  rw [show m + 4 = m + 1 + 1 + 1 + 1 by omega, List.range_succ, List.range_succ, List.range_succ, List.range_succ]
  simp
theorem bytes_a (f g : Nat → Int) (k : Nat) : (List.range (k * 8)).map (bvl f g) ++ wv (f k) = (List.range (k * 8 + 4)).map (bvl f g) := by
  rw [← range_four]
  have h0 := bvl_a f g k 0 (by omega)
  rw [Nat.add_zero] at h0
  rw [h0, bvl_a f g k 1 (by omega), bvl_a f g k 2 (by omega), bvl_a f g k 3 (by omega)]
  rfl
theorem bytes_b (f g : Nat → Int) (k : Nat) : (List.range (k * 8 + 4)).map (bvl f g) ++ wv (g k) = (List.range ((k + 1) * 8)).map (bvl f g) := by
  rw [show (k + 1) * 8 = k * 8 + 4 + 4 by omega, ← range_four (bvl f g) (k * 8 + 4)]
  have h0 := bvl_b f g k 0 (by omega)
  rw [Nat.add_zero] at h0
  rw [h0, bvl_b f g k 1 (by omega), bvl_b f g k 2 (by omega), bvl_b f g k 3 (by omega)]
  rfl

set_option maxHeartbeats 1000000 in
theorem appendWord_any (B g k cap : Nat) (xs : List Value) (a : Int) (w : World) (hown : Hid (w.ownsRow B 5 1 (.slice (some ⟨g, 0, none⟩) k cap) k xs)) (hB : B ≤ w.heap.size) (hk : k + 4 ≤ cap) (a0 : 0 ≤ a) (a1 : a < 2130706433) :
    Calls Try.prog 43 #[.slice (some ⟨g, 0, none⟩) k cap, .int .i64 a] w fun e w' => e = .returned (.slice (some ⟨g, 0, none⟩) (k + 4) cap) ∧ w'.ownsRow B 5 1 (.slice (some ⟨g, 0, none⟩) (k + 4) cap) (k + 4) (xs ++ wv a) ∧ Chg (fun b => b = g) w w' := by
  obtain ⟨i0, hi, hz0, hz1, hz2⟩ := info_parts infoU8
  have HI := hide hi
  have HZ1 := hide hz1
  clear hi hz0 hz1 hz2
  go_enter Try.func43, Try.ntmps43
  go_wp2_with (at_builtin; refine wpList_append_fits _ rfl (.tmp 5) (.tmp 17) 45 rfl B 5 i0 1 Try.underlying45 HI.out HZ1.out g k cap xs rfl (hown.out.alloc _) ⟨_, 0, none⟩ 4 4 (wv a) rfl rfl ?c1 ?c2 hk ?c3)
  case c1 =>
    intro j u hj
    match j, hj with
    | 0, hj => simp [wv, wb] at hj; subst hj; simp [Addr.add]; omega
    | 1, hj => simp [wv, wb] at hj; subst hj; simp [Addr.add]
    | 2, hj => simp [wv, wb] at hj; subst hj; simp [Addr.add]
    | 3, hj => simp [wv, wb] at hj; subst hj; simp [Addr.add]
    | j + 4, hj => simp [wv] at hj
  case c2 => intro u hu; simp [wv] at hu; rcases hu with rfl | rfl | rfl | rfl <;> rfl
  case c3 =>
    intro w1 ho hgr
    have HO := hide ho
    have HG := hide (((Chg.refl (fun b => b = g) w).alloc _).grown hgr (fun b e _ => by simpa using e.symm))
    clear ho hgr
    go_wp2
    go_ret
    exact ⟨rfl, HO.out, HG.out⟩

theorem Chg.lookP {P : Nat → Prop} {w w' : World} (h : Chg P w w') {b o : Nat} (hn : ¬ P b) {v : Value} (c : w.cell? ⟨b, o, none⟩ = some v) : w'.cell? ⟨b, o, none⟩ = some v :=
  (h.cell (p := ⟨b, o, none⟩) (World.block_lt_of_cell? w _ c) hn).trans c
/-- The code of a list. -/
def bc (f g : Nat → Int) (n : Nat) : Int := if 4096 < n then 2 else if okP f g n then 0 else 1
/-- No bytes, and a code. -/
def NoBytes (w : World) (code : Int) (e : Ending) (w' : World) : Prop := e = .returned (.tuple #[.slice none 0 0, .int .i64 code]) ∧ Chg nob w w'
/-- A new row of the bytes. -/
def NewBytes (w : World) (n : Nat) (f g : Nat → Int) (e : Ending) (w' : World) : Prop :=
  ∃ b : Nat, w.heap.size ≤ b ∧ e = .returned (.tuple #[.slice (some ⟨b, 0, none⟩) (n * 8) (n * 8), .int .i64 0]) ∧ w'.rowIs b 5 (n * 8) (bvl f g) ∧ Chg nob w w'
/-- Either, by the code. -/
def EAns (w : World) (n : Nat) (f g : Nat → Int) (e : Ending) (w' : World) : Prop := (bc f g n ≠ 0 ∧ NoBytes w (bc f g n) e w') ∨ (bc f g n = 0 ∧ NewBytes w n f g e w')
theorem EAns.no {w w' : World} {n : Nat} {f g : Nat → Int} {e : Ending} {code : Int} (hb : bc f g n = code) (hc : code ≠ 0) (h : e = .returned (.tuple #[.slice none 0 0, .int .i64 code])) (k : Chg nob w w') : EAns w n f g e w' :=
  .inl ⟨by rw [hb]; exact hc, by rw [hb]; exact ⟨h, k⟩⟩
/-- An owned row, all of it in use, is a row. -/
theorem rowIs_of_owns {w : World} {B b n : Nat} {t : TypeId} {h : Nat → Value} (ho : w.ownsRow B t 1 (.slice (some ⟨b, 0, none⟩) n n) n ((List.range n).map h)) : w.rowIs b t n h := by
  rcases ho.2 with ⟨hv, _⟩ | ⟨g', cap, cur, hv, _, hcur, _, _, hsz, htk⟩
  · cases hv
  · simp at hv
    obtain ⟨rfl, rfl⟩ := hv
    refine ⟨cur, hcur, by omega, fun i hi => ?_⟩
    have e : cur.toList = (List.range n).map h := by
      rw [← htk]
      exact (List.take_of_length_le (by simp; omega)).symm
    rw [← Array.getElem?_toList, e, List.getElem?_map, List.getElem?_range hi]
    rfl

end Go.Proofs.Ytnpmhfhgnnhclar
