/- What the program's new scripts are: a contract. Conditions: rows that can be read, the tables hold the shifts and the rounds' constants. -/
import Derived.Test.YtmnakafplpmphabDoorIpsC
namespace Go.Proofs.YtmnakafplpmphabDoor
open Go.ChangeShapes Go.WideShapes Go.ChangeAt Go.RowKit
set_option linter.unusedVariables false
set_option maxRecDepth 100000
set_option linter.unusedSimpArgs false

set_option maxHeartbeats 2000000 in
theorem newScript_any (label : ByteArray) (c : Option Addr) (len cap : Nat) (f g : Nat → Int) (w : World) (ht : Hid (Tabs w)) (h : Hid (PairV w c len f g)) (hm : (label.size : Int) ≤ 9223372036854775807) (hl : (len : Int) ≤ 9223372036854775807) :
    Calls Tryd.prog 45 #[.string label, .slice c len cap] w fun e w' => SCAns w (scc label.size len (okP f g len)) (scn (scc label.size len (okP f g len)) len) f g 0 (scS (scc label.size len (okP f g len)) (nwS label)) 0 e w' := by
  by_cases h1 : 65536 < label.size
  · have e1 : scc label.size len (okP f g len) = 2 := if_pos (.inl h1)
    rw [e1]
    have b1 : decide (65536 < (label.size : Int)) = true := by simp; omega
    go_enter Tryd.func45, Tryd.ntmps45
    go_wp2
    exact bodyPost_ret (v := .tuple #[.agg #[.slice none 0 0, .int .i64 0, .string ⟨#[]⟩, .int .i64 0], .int .i64 2]) (by simp [results, Tryd.results45, go_sem]) rfl ⟨_, _, rfl, .inl rfl, (Chg.refl _ _).alloc _⟩
  have b1 : decide (65536 < (label.size : Int)) = false := by simp; omega
  by_cases h1' : 4096 < len
  · have e1 : scc label.size len (okP f g len) = 2 := if_pos (.inr h1')
    rw [e1]
    have b2 : decide (4096 < (len : Int)) = true := by simp; omega
    go_enter Tryd.func45, Tryd.ntmps45
    go_wp2
    exact bodyPost_ret (v := .tuple #[.agg #[.slice none 0 0, .int .i64 0, .string ⟨#[]⟩, .int .i64 0], .int .i64 2]) (by simp [results, Tryd.results45, go_sem]) rfl ⟨_, _, rfl, .inl rfl, (Chg.refl _ _).alloc _⟩
  have b2 : decide (4096 < (len : Int)) = false := by simp; omega
  have hl40 : len ≤ 1099511627776 := by omega
  have e0 : ∀ ok : Bool, scc label.size len ok = if ok = false then 1 else if 100 < label.size ∨ len < 1 ∨ 64 < len then 4 else 0 := fun ok => if_neg (by omega)
  cases h2 : okP f g len
  · have e1 : scc label.size len false = 1 := by rw [e0]; rfl
    rw [e1]
    clear e0
    go_enter Tryd.func45, Tryd.ntmps45
    go_wp2_with (go_at_call 88; refine (extsOK_any c len cap f g _ (hik (h.out.keep ((Chg.refl nob w).alloc _))) hl40).mono ?_; rintro e W1 ⟨he, k1⟩; rw [h2] at he; subst he; have G1 := hik (((Chg.refl nob w).alloc (.cells #[.slice none 0 0, .int .i64 0, .string ⟨#[]⟩, .int .i64 0] 47)).trans k1); have R1 := hik (rowIs_keep (row4_new w (.slice none 0 0) (.int .i64 0) (.string ⟨#[]⟩) (.int .i64 0) 47) k1); obtain ⟨hc1, hf1, hz1⟩ := kcell k1 (w.heap.size + 1) (by simp); clear k1)
    exact bodyPost_ret (v := .tuple #[.agg #[.slice none 0 0, .int .i64 0, .string ⟨#[]⟩, .int .i64 0], .int .i64 1]) (by simp [results, Tryd.results45, go_sem, row4_s0 R1.out (.slice none 0 0), row4_s1 R1.out (.slice none 0 0) (.int .i64 0), row4_s2 R1.out (.slice none 0 0) (.int .i64 0) (.string ⟨#[]⟩), row4_s3 R1.out (.slice none 0 0) (.int .i64 0) (.string ⟨#[]⟩) (.int .i64 0)]) rfl ⟨_, _, rfl, .inl rfl, chg4_set G1.out _ (fun l => absurd l (by simp)) _ _ _ _⟩
  have e3 : scc label.size len true = if 100 < label.size ∨ len < 1 ∨ 64 < len then 4 else 0 := by rw [e0]; rfl
  clear e0
  by_cases h3 : 100 < label.size
  · rw [e3, if_pos (.inl h3)]
    have b3 : decide (100 < (label.size : Int)) = true := by simp; omega
    clear e3
    go_enter Tryd.func45, Tryd.ntmps45
    go_wp2_with (go_at_call 88; refine (extsOK_any c len cap f g _ (hik (h.out.keep ((Chg.refl nob w).alloc _))) hl40).mono ?_; rintro e W1 ⟨he, k1⟩; rw [h2] at he; subst he; have G1 := hik (((Chg.refl nob w).alloc (.cells #[.slice none 0 0, .int .i64 0, .string ⟨#[]⟩, .int .i64 0] 47)).trans k1); have R1 := hik (rowIs_keep (row4_new w (.slice none 0 0) (.int .i64 0) (.string ⟨#[]⟩) (.int .i64 0) 47) k1); obtain ⟨hc1, hf1, hz1⟩ := kcell k1 (w.heap.size + 1) (by simp); clear k1)
    exact bodyPost_ret (v := .tuple #[.agg #[.slice none 0 0, .int .i64 0, .string ⟨#[]⟩, .int .i64 0], .int .i64 4]) (by simp [results, Tryd.results45, go_sem, row4_s0 R1.out (.slice none 0 0), row4_s1 R1.out (.slice none 0 0) (.int .i64 0), row4_s2 R1.out (.slice none 0 0) (.int .i64 0) (.string ⟨#[]⟩), row4_s3 R1.out (.slice none 0 0) (.int .i64 0) (.string ⟨#[]⟩) (.int .i64 0)]) rfl ⟨_, _, rfl, .inl rfl, chg4_set G1.out _ (fun l => absurd l (by simp)) _ _ _ _⟩
  have b3 : decide (100 < (label.size : Int)) = false := by simp; omega
  by_cases h4 : len < 1
  · rw [e3, if_pos (.inr (.inl h4))]
    have b4 : decide ((len : Int) < 1) = true := by simp; omega
    clear e3
    go_enter Tryd.func45, Tryd.ntmps45
    go_wp2_with (go_at_call 88; refine (extsOK_any c len cap f g _ (hik (h.out.keep ((Chg.refl nob w).alloc _))) hl40).mono ?_; rintro e W1 ⟨he, k1⟩; rw [h2] at he; subst he; have G1 := hik (((Chg.refl nob w).alloc (.cells #[.slice none 0 0, .int .i64 0, .string ⟨#[]⟩, .int .i64 0] 47)).trans k1); have R1 := hik (rowIs_keep (row4_new w (.slice none 0 0) (.int .i64 0) (.string ⟨#[]⟩) (.int .i64 0) 47) k1); obtain ⟨hc1, hf1, hz1⟩ := kcell k1 (w.heap.size + 1) (by simp); clear k1)
    exact bodyPost_ret (v := .tuple #[.agg #[.slice none 0 0, .int .i64 0, .string ⟨#[]⟩, .int .i64 0], .int .i64 4]) (by simp [results, Tryd.results45, go_sem, row4_s0 R1.out (.slice none 0 0), row4_s1 R1.out (.slice none 0 0) (.int .i64 0), row4_s2 R1.out (.slice none 0 0) (.int .i64 0) (.string ⟨#[]⟩), row4_s3 R1.out (.slice none 0 0) (.int .i64 0) (.string ⟨#[]⟩) (.int .i64 0)]) rfl ⟨_, _, rfl, .inl rfl, chg4_set G1.out _ (fun l => absurd l (by simp)) _ _ _ _⟩
  have b4 : decide ((len : Int) < 1) = false := by simp; omega
  by_cases h5 : 64 < len
  · rw [e3, if_pos (.inr (.inr h5))]
    have b5 : decide (64 < (len : Int)) = true := by simp; omega
    clear e3
    go_enter Tryd.func45, Tryd.ntmps45
    go_wp2_with (go_at_call 88; refine (extsOK_any c len cap f g _ (hik (h.out.keep ((Chg.refl nob w).alloc _))) hl40).mono ?_; rintro e W1 ⟨he, k1⟩; rw [h2] at he; subst he; have G1 := hik (((Chg.refl nob w).alloc (.cells #[.slice none 0 0, .int .i64 0, .string ⟨#[]⟩, .int .i64 0] 47)).trans k1); have R1 := hik (rowIs_keep (row4_new w (.slice none 0 0) (.int .i64 0) (.string ⟨#[]⟩) (.int .i64 0) 47) k1); obtain ⟨hc1, hf1, hz1⟩ := kcell k1 (w.heap.size + 1) (by simp); clear k1)
    exact bodyPost_ret (v := .tuple #[.agg #[.slice none 0 0, .int .i64 0, .string ⟨#[]⟩, .int .i64 0], .int .i64 4]) (by simp [results, Tryd.results45, go_sem, row4_s0 R1.out (.slice none 0 0), row4_s1 R1.out (.slice none 0 0) (.int .i64 0), row4_s2 R1.out (.slice none 0 0) (.int .i64 0) (.string ⟨#[]⟩), row4_s3 R1.out (.slice none 0 0) (.int .i64 0) (.string ⟨#[]⟩) (.int .i64 0)]) rfl ⟨_, _, rfl, .inl rfl, chg4_set G1.out _ (fun l => absurd l (by simp)) _ _ _ _⟩
  have b5 : decide (64 < (len : Int)) = false := by simp; omega
  rw [e3, if_neg (by omega)]
  rw [show scn 0 len = len from rfl, show scS 0 (nwS label) = nwS label from rfl]
  clear e3
  have hsz := nwT_in label (by omega)
  go_enter Tryd.func45, Tryd.ntmps45
  go_wp2_with (first | (go_at_call 88; refine (extsOK_any c len cap f g _ (hik (h.out.keep ((Chg.refl nob w).alloc _))) hl40).mono ?_; rintro e W1 ⟨he, k1⟩; rw [h2] at he; subst he; have G1 := hik (((Chg.refl nob w).alloc (.cells #[.slice none 0 0, .int .i64 0, .string ⟨#[]⟩, .int .i64 0] 47)).trans k1); have R1 := hik (rowIs_keep (row4_new w (.slice none 0 0) (.int .i64 0) (.string ⟨#[]⟩) (.int .i64 0) 47) k1); obtain ⟨hc1, hf1, hz1⟩ := kcell k1 (w.heap.size + 1) (by simp); clear k1) | (go_at_call 70; refine (hashOf_any (nwT label) _ (hik (ht.out.keep G1.out)) hsz).mono ?_; rintro e W2 ⟨he, k2⟩; have he : e = .returned (.string (nwS label)) := he; subst he; have G2 := hik (G1.out.trans k2); have R2 := hik (rowIs_keep R1.out k2); clear k2))
  refine (copied_any c len cap f g 0 (nwS label) 0 _ (hik (h.out.keep G2.out)) hl40).mono ?_
  rintro e W3 ⟨c3, cap3, rfl, o3, k3⟩
  have G3 := hik (G2.out.trans k3)
  have R3 := hik (rowIs_keep R2.out k3)
  have O3 := hik o3
  have L2 := hik R2.out.lt
  clear k3 o3
  have hz3 : w.heap.size < W3.heap.size := R3.out.lt
  have y0 := R3.out.cell (i := 0) (by omega)
  have y1 := R3.out.cell (i := 1) (by omega)
  have y2 := R3.out.cell (i := 2) (by omega)
  have y3 := R3.out.cell (i := 3) (by omega)
  have v0 := R3.out.frozen 0
  have v1 := R3.out.frozen 1
  have v2 := R3.out.frozen 2
  have v3 := R3.out.frozen 3
  go_wp2
  exact bodyPost_ret (v := .tuple #[.agg #[.slice c3 len cap3, .int .i64 0, .string (nwS label), .int .i64 0], .int .i64 0]) (by simp [results, Tryd.results45, go_sem, row4_s0 R3.out (.slice c3 len cap3), row4_s1 R3.out (.slice c3 len cap3) (.int .i64 0), row4_s2 R3.out (.slice c3 len cap3) (.int .i64 0) (.string (nwS label)), row4_s3 R3.out (.slice c3 len cap3) (.int .i64 0) (.string (nwS label)) (.int .i64 0)]) rfl ⟨_, _, rfl, ((O3.out.chg (P := fun b => b = w.heap.size) (chg4_set (Chg.refl (fun b => b = w.heap.size) W3) w.heap.size (fun _ => rfl) _ _ _ _) (fun b hb _ hp => (by have := L2.out; omega))).low (B' := w.heap.size) (by have := L2.out; omega)), chg4_set G3.out _ (fun l => absurd l (by simp)) _ _ _ _⟩

end Go.Proofs.YtmnakafplpmphabDoor
