/- Several texts in one: What a gate's text tells: plain. No condition but those that each theorem states. · A gate's text read back: plain. No condition but those that each theorem states. -/
import Derived.Test.YtpndbkgjdnkmcaaDoorBzat
import Derived.Test.YtpndbkgjdnkmcaaDoorBzab
namespace Go.Proofs.YtpndbkgjdnkmcaaDoor
set_option linter.unusedVariables false
set_option linter.unusedSimpArgs false
/-- A word's op, 0 of any other. -/
def opl : List (List UInt8) := [[105, 110, 112, 117, 116], [112, 117, 98, 108, 105, 99], [99, 111, 110, 115, 116], [97, 100, 100], [115, 117, 98], [109, 117, 108], [101, 113, 117, 97, 108], [98, 105, 116]]
def opw (l : List UInt8) : Nat := if opl.idxOf l < 8 then opl.idxOf l + 1 else 0
theorem opl_nodup : opl.Nodup := by decide
theorem opw_at {l : List UInt8} {i : Nat} (hi : i < 8) (h : opl.getD i [] = l) : opw l = i + 1 := by
  have hl : opl.length = 8 := rfl
  have e : opl[i]'(by omega) = l := by rw [← h, List.getD_eq_getElem?_getD, List.getElem?_eq_getElem (by omega)]; rfl
  have : opl.idxOf l = i := by rw [← e]; exact List.Nodup.idxOf_getElem opl_nodup i (by omega)
  unfold opw
  rw [this, if_pos hi]
theorem opw_no {l : List UInt8} (h : ∀ i, i < 8 → opl.getD i [] ≠ l) : opw l = 0 := by
  have hl : opl.length = 8 := rfl
  unfold opw
  by_cases e : opl.idxOf l < 8
  · exfalso
    refine h _ e ?_
    rw [List.getD_eq_getElem?_getD, List.getElem?_eq_getElem (by omega)]
    exact List.getElem_idxOf (by omega)
  · rw [if_neg e]
theorem opw_le (l : List UInt8) : opw l ≤ 8 := by unfold opw; split <;> omega
/-- The gate of an op and of numbers. -/
def gof (o : Nat) (z : Nat → Int) : Gt := if o = 3 then (3, 0, 0, z 0) else if gnn o = 2 then ((o : Int), z 0, z 1, 0) else if gnn o = 1 then ((o : Int), z 0, 0, 0) else ((o : Int), 0, 0, 0)
def nzv (ws : List (List UInt8)) (i : Nat) : Int := nmv (ws.getD i [])
/-- Whether words are a gate's text. -/
def rgb : List (List UInt8) → Bool
  | [] => false
  | w0 :: rest => decide (opw w0 ≠ 0) && (rest.all nmb && decide (rest.length = gnn (opw w0))) && gtb 15 (gof (opw w0) (nzv rest))
def rgg : List (List UInt8) → Gt
  | [] => (0, 0, 0, 0)
  | w0 :: rest => if rgb (w0 :: rest) = true then gof (opw w0) (nzv rest) else (0, 0, 0, 0)
/-- ReadGate's code and gate. -/
def rgc (s : List UInt8) : Int := if 65536 < s.length then 2 else if rgb (wds s) = true then 0 else 3
def rgv (s : List UInt8) : Gt := if rgc s = 0 then rgg (wds s) else (0, 0, 0, 0)

end Go.Proofs.YtpndbkgjdnkmcaaDoor

namespace Go.Proofs.YtpndbkgjdnkmcaaDoor
set_option linter.unusedVariables false
set_option linter.unusedSimpArgs false
theorem dec_all : ∀ (f n : Nat), n < 10 ^ (f + 1) → (Go.Lib.decDigits n).all dgb = true ∧ dvl 0 (Go.Lib.decDigits n) = n ∧ Go.Lib.decDigits n ≠ [] := by
  have hd : ∀ k, k < 10 → dgb (UInt8.ofNat (48 + k)) = true ∧ (UInt8.ofNat (48 + k)).toNat - 48 = k := by decide
  intro f
  induction f with
  | zero =>
    intro n h
    have h' : n < 10 := by simpa using h
    rw [dec_small h']
    obtain ⟨e1, e2⟩ := hd n h'
    refine ⟨by rw [List.all_cons, e1]; rfl, ?_, by simp⟩
    show 0 * 10 + ((UInt8.ofNat (48 + n)).toNat - 48) = n
    rw [e2]; omega
  | succ f ih =>
    intro n h
    by_cases q : n < 10
    · rw [dec_small q]
      obtain ⟨e1, e2⟩ := hd n q
      refine ⟨by rw [List.all_cons, e1]; rfl, ?_, by simp⟩
      show 0 * 10 + ((UInt8.ofNat (48 + n)).toNat - 48) = n
      rw [e2]; omega
    · rw [dec_big q]
      obtain ⟨i1, i2, i3⟩ := ih (n / 10) (by rw [Nat.pow_succ] at h; omega)
      obtain ⟨e1, e2⟩ := hd (n % 10) (by omega)
      refine ⟨by rw [List.all_append, i1, List.all_cons, e1]; rfl, ?_, by simp⟩
      rw [dvl_app, i2, e2]
      omega
theorem itoa_read {z : Int} (h0 : 0 ≤ z) (h1 : z < 2130706433) : nmb (Go.Lib.itoa z) = true ∧ nmv (Go.Lib.itoa z) = z ∧ Go.Lib.itoa z ≠ [] ∧ ∀ x ∈ Go.Lib.itoa z, x ≠ 32 := by
  obtain ⟨e1, e2, e3⟩ := dec_all 9 z.toNat (by show z.toNat < 10000000000; omega)
  have e4 : nlz (Go.Lib.decDigits z.toNat) = true := by
    obtain ⟨k, hk⟩ : ∃ k, (Go.Lib.decDigits z.toNat).length = k + 1 := ⟨(Go.Lib.decDigits z.toNat).length - 1, by have := List.length_pos_iff.2 e3; omega⟩
    exact (dec_back k _ hk e1).1 (by rw [e2])
  rw [ito_nat h0]
  obtain ⟨n1, n2⟩ := nm_nok e3
  have e5 : nokb (Go.Lib.decDigits z.toNat) = true := by
    unfold nokb
    rw [e1, e4, e2]
    simp
    omega
  rw [e5] at n1
  have n3 := n2 e5
  rw [e2] at n3
  refine ⟨by simp at n1; exact n1.1, by omega, e3, fun x hx e => ?_⟩
  have := List.all_eq_true.1 e1 x hx
  rw [e] at this
  exact absurd this (by decide)
theorem gwd_at : ∀ k : Nat, k < 8 → gwd ((k + 1 : Nat) : Int) ≠ [] ∧ (∀ x ∈ gwd ((k + 1 : Nat) : Int), x ≠ 32) ∧ opw (gwd ((k + 1 : Nat) : Int)) = k + 1 := by decide
theorem wds_gtl {g : Gt} (hw : gwd g.1 ≠ []) (h32 : ∀ x ∈ gwd g.1, x ≠ 32) (hz : ∀ i, Go.Lib.itoa (gnv g i) ≠ [] ∧ ∀ x ∈ Go.Lib.itoa (gnv g i), x ≠ 32) :
    wds (gtl g 0) = [gwd g.1] ∧ wds (gtl g 1) = [gwd g.1, Go.Lib.itoa (gnv g 0)] ∧ wds (gtl g 2) = [gwd g.1, Go.Lib.itoa (gnv g 0), Go.Lib.itoa (gnv g 1)] := by
  have hl : (gwd g.1).isEmpty = false := by simpa using hw
  have h0 : (Go.Lib.itoa (gnv g 0)).isEmpty = false := by simpa using (hz 0).1
  have h1 : (Go.Lib.itoa (gnv g 1)).isEmpty = false := by simpa using (hz 1).1
  refine ⟨?_, ?_, ?_⟩
  · show wdG [] (gwd g.1) = _
    rw [wdG_end _ _ h32]
    simp [hl]
  · show wdG [] (gwd g.1 ++ (32 :: Go.Lib.itoa (gnv g 0))) = _
    rw [wdG_run _ _ _ h32, wdG_end _ _ (hz 0).2]
    simp [hl, h0]
  · show wdG [] ((gwd g.1 ++ (32 :: Go.Lib.itoa (gnv g 0))) ++ (32 :: Go.Lib.itoa (gnv g 1))) = _
    rw [List.append_assoc, List.cons_append, wdG_run _ _ _ h32, wdG_run _ _ _ (hz 0).2, wdG_end _ _ (hz 1).2]
    simp [hl, h0, h1]
theorem gnv_lt {g : Gt} (h : gtb 15 g = true) (i : Nat) : 0 ≤ gnv g i ∧ gnv g i < 2130706433 := by
  unfold gtb at h
  simp only [Bool.and_eq_true] at h
  obtain ⟨_, ha, hb, hk⟩ := h
  unfold ptb at ha hb hk
  simp only [Bool.and_eq_true, decide_eq_true_eq] at ha hb hk
  obtain ⟨a0, a1⟩ := ha
  obtain ⟨b0, b1⟩ := hb
  obtain ⟨k0, k1⟩ := hk
  unfold gnv
  split
  · exact ⟨k0, by split at k1 <;> omega⟩
  · split
    · exact ⟨a0, by split at a1 <;> omega⟩
    · exact ⟨b0, by split at b1 <;> omega⟩
/-- A right gate is read back from its text. -/
theorem gate_read {g : Gt} (h : gtb 15 g = true) : rgb (wds (gxt g)) = true ∧ rgg (wds (gxt g)) = g := by
  have hx : gxt g = gtl g (gnn g.1) := by unfold gxt; rw [if_pos h]
  rw [hx]
  obtain ⟨o, a, b, k⟩ := g
  have hn : ∀ i, nmb (Go.Lib.itoa (gnv (o, a, b, k) i)) = true ∧ nmv (Go.Lib.itoa (gnv (o, a, b, k) i)) = gnv (o, a, b, k) i ∧ Go.Lib.itoa (gnv (o, a, b, k) i) ≠ [] ∧ ∀ x ∈ Go.Lib.itoa (gnv (o, a, b, k) i), x ≠ 32 := fun i => itoa_read (gnv_lt h i).1 (gnv_lt h i).2
  have h9 := h
  unfold gtb at h
  simp only [Bool.and_eq_true, decide_eq_true_eq] at h
  obtain ⟨⟨o1, o8⟩, ha, hb, hk⟩ := h
  unfold ptb at ha hb hk
  simp only [Bool.and_eq_true, decide_eq_true_eq] at ha hb hk
  obtain ⟨j, rfl⟩ : ∃ j : Nat, o = ((j + 1 : Nat) : Int) := ⟨(o - 1).toNat, by omega⟩
  obtain ⟨g1, g2, g3⟩ := gwd_at j (by omega)
  obtain ⟨w0, w1, w2⟩ := wds_gtl (g := (((j + 1 : Nat) : Int), a, b, k)) g1 g2 (fun i => (hn i).2.2)
  have fin : ∀ ws, ws.all nmb = true → ws.length = gnn ((j + 1 : Nat) : Int) → gof (j + 1) (nzv ws) = (((j + 1 : Nat) : Int), a, b, k) → rgb (gwd ((j + 1 : Nat) : Int) :: ws) = true ∧ rgg (gwd ((j + 1 : Nat) : Int) :: ws) = (((j + 1 : Nat) : Int), a, b, k) := by
    intro ws a1 a2 a3
    have hb : rgb (gwd ((j + 1 : Nat) : Int) :: ws) = true := by
      show (decide (opw (gwd ((j + 1 : Nat) : Int)) ≠ 0) && (ws.all nmb && decide (ws.length = gnn (opw (gwd ((j + 1 : Nat) : Int))))) && gtb 15 (gof (opw (gwd ((j + 1 : Nat) : Int))) (nzv ws))) = true
      rw [g3, a1, a2, a3, h9]
      simp
    refine ⟨hb, ?_⟩
    show (if rgb (gwd ((j + 1 : Nat) : Int) :: ws) = true then gof (opw (gwd ((j + 1 : Nat) : Int))) (nzv ws) else (0, 0, 0, 0)) = _
    rw [if_pos hb, g3, a3]
  have hj : j < 8 := by omega
  rcases (show j = 0 ∨ j = 1 ∨ j = 2 ∨ j = 3 ∨ j = 4 ∨ j = 5 ∨ j = 6 ∨ j = 7 by omega) with rfl | rfl | rfl | rfl | rfl | rfl | rfl | rfl
  all_goals
    simp [usg] at ha hb hk
  · rw [show gnn (((0 + 1 : Nat) : Int)) = 0 from rfl, w0]
    refine fin [] rfl rfl ?_
    show ((1 : Int), (0 : Int), (0 : Int), (0 : Int)) = _
    congr 1; congr 1
    · omega
    · congr 1 <;> omega
  · rw [show gnn (((1 + 1 : Nat) : Int)) = 0 from rfl, w0]
    refine fin [] rfl rfl ?_
    show ((2 : Int), (0 : Int), (0 : Int), (0 : Int)) = _
    congr 1; congr 1
    · omega
    · congr 1 <;> omega
  · rw [show gnn (((2 + 1 : Nat) : Int)) = 1 from rfl, w1]
    refine fin [_] (by rw [List.all_cons, (hn 0).1]; rfl) rfl ?_
    show ((3 : Int), (0 : Int), (0 : Int), nmv (Go.Lib.itoa (gnv (((2 + 1 : Nat) : Int), a, b, k) 0))) = _
    rw [(hn 0).2.1]
    show ((3 : Int), (0 : Int), (0 : Int), k) = _
    congr 1; congr 1
    · omega
    · congr 1; omega
  · rw [show gnn (((3 + 1 : Nat) : Int)) = 2 from rfl, w2]
    refine fin [_, _] (by rw [List.all_cons, List.all_cons, (hn 0).1, (hn 1).1]; rfl) rfl ?_
    show ((4 : Int), nmv (Go.Lib.itoa (gnv (((3 + 1 : Nat) : Int), a, b, k) 0)), nmv (Go.Lib.itoa (gnv (((3 + 1 : Nat) : Int), a, b, k) 1)), (0 : Int)) = _
    rw [(hn 0).2.1, (hn 1).2.1]
    show ((4 : Int), a, b, (0 : Int)) = _
    congr 1; congr 1; congr 1; omega
  · rw [show gnn (((4 + 1 : Nat) : Int)) = 2 from rfl, w2]
    refine fin [_, _] (by rw [List.all_cons, List.all_cons, (hn 0).1, (hn 1).1]; rfl) rfl ?_
    show ((5 : Int), nmv (Go.Lib.itoa (gnv (((4 + 1 : Nat) : Int), a, b, k) 0)), nmv (Go.Lib.itoa (gnv (((4 + 1 : Nat) : Int), a, b, k) 1)), (0 : Int)) = _
    rw [(hn 0).2.1, (hn 1).2.1]
    show ((5 : Int), a, b, (0 : Int)) = _
    congr 1; congr 1; congr 1; omega
  · rw [show gnn (((5 + 1 : Nat) : Int)) = 2 from rfl, w2]
    refine fin [_, _] (by rw [List.all_cons, List.all_cons, (hn 0).1, (hn 1).1]; rfl) rfl ?_
    show ((6 : Int), nmv (Go.Lib.itoa (gnv (((5 + 1 : Nat) : Int), a, b, k) 0)), nmv (Go.Lib.itoa (gnv (((5 + 1 : Nat) : Int), a, b, k) 1)), (0 : Int)) = _
    rw [(hn 0).2.1, (hn 1).2.1]
    show ((6 : Int), a, b, (0 : Int)) = _
    congr 1; congr 1; congr 1; omega
  · rw [show gnn (((6 + 1 : Nat) : Int)) = 2 from rfl, w2]
    refine fin [_, _] (by rw [List.all_cons, List.all_cons, (hn 0).1, (hn 1).1]; rfl) rfl ?_
    show ((7 : Int), nmv (Go.Lib.itoa (gnv (((6 + 1 : Nat) : Int), a, b, k) 0)), nmv (Go.Lib.itoa (gnv (((6 + 1 : Nat) : Int), a, b, k) 1)), (0 : Int)) = _
    rw [(hn 0).2.1, (hn 1).2.1]
    show ((7 : Int), a, b, (0 : Int)) = _
    congr 1; congr 1; congr 1; omega
  · rw [show gnn (((7 + 1 : Nat) : Int)) = 1 from rfl, w1]
    refine fin [_] (by rw [List.all_cons, (hn 0).1]; rfl) rfl ?_
    show ((8 : Int), nmv (Go.Lib.itoa (gnv (((7 + 1 : Nat) : Int), a, b, k) 0)), (0 : Int), (0 : Int)) = _
    rw [(hn 0).2.1]
    show ((8 : Int), a, (0 : Int), (0 : Int)) = _
    congr 1; congr 1; congr 1
    · omega
    · omega
/-- ReadGate at a right gate's text tells the gate. -/
theorem gate_back {g : Gt} (h : gtb 15 g = true) : rgc (gxt g) = 0 ∧ rgv (gxt g) = g := by
  obtain ⟨e1, e2⟩ := gate_read h
  have hl : (gxt g).length ≤ 72 := by
    unfold gxt
    rw [if_pos h]
    have := gtl_len (gtb_nums h) (gnn g.1)
    have h2 : gnn g.1 ≤ 2 := by unfold gnn usg; split <;> (try split) <;> (try split) <;> omega
    omega
  have e3 : rgc (gxt g) = 0 := by unfold rgc; rw [if_neg (by omega), if_pos e1]
  exact ⟨e3, by unfold rgv; rw [if_pos e3]; exact e2⟩
theorem gtb_mono {m : Int} {g : Gt} (hm : m ≤ 15) (h : gtb m g = true) : gtb 15 g = true := by
  unfold gtb ptb at h ⊢
  simp only [Bool.and_eq_true, decide_eq_true_eq] at h ⊢
  obtain ⟨h0, ⟨a0, a1⟩, ⟨b0, b1⟩, hk⟩ := h
  refine ⟨h0, ⟨a0, ?_⟩, ⟨b0, ?_⟩, hk⟩
  · split at a1 <;> rename_i q <;> simp only [q] <;> simp <;> omega
  · split at b1 <;> rename_i q <;> simp only [q] <;> simp <;> omega

end Go.Proofs.YtpndbkgjdnkmcaaDoor
