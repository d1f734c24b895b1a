/- What the model's ReadExts answers, and the last of the laws' helpers on elements: contracts. Conditions: bytes that can be read. -/
import Derived.Test.YtencdbocifpekaaRedR
namespace Go.Proofs.Ytencdbocifpekaa
open Go.ChangeShapes Go.WideShapes Go.ChangeAt Go.RowKit
set_option linter.unusedVariables false
set_option linter.unusedSimpArgs false

theorem conv_bytes (c : Option Addr) (n cap : Nat) (z : Nat → Int) (w : World) (h : RowV w c n (bw z)) :
    (convert 22 9 (.slice c n cap)).run Try.prog w = .ok (.string (strOfNums ((List.range n).map z))) w := by
  by_cases hn : n = 0
  · subst hn
    cases c with
    | none =>
      rw [run_convert_bytes_nil w 22 5 Try.underlying22 Try.underlying5 0 cap 9 Try.underlying9]
      rfl
    | some a =>
      rw [run_convert_bytes_string w 22 9 5 _ 0 cap Try.underlying22 Try.underlying5 Try.underlying9, run_bytesToString w a 0 cap [] (by simp [loadCells, loadCellsFrom])]
      rfl
  · obtain ⟨xb, xo, rfl, _, hc⟩ := h.whole (by omega)
    exact run_convert_bytes_arg w 22 5 Try.underlying22 Try.underlying5 xb xo n cap ((List.range n).map z) (by simp) (fun i hi => by rw [hc i hi]; simp [bw, List.getD, List.getElem?_map, List.getElem?_range hi]) 9 Try.underlying9
theorem sz_nums (z : Nat → Int) (n i : Nat) (hi : i < n) (h0 : 0 ≤ z i) (h1 : z i < 256) : sz (strOfNums ((List.range n).map z)) i = z i := by
  unfold sz
  rw [strOfNums_data, List.getElem?_map, List.getElem?_map, List.getElem?_range hi]
  simp
  omega
theorem okP_congr (f g f' g' : Nat → Int) (n : Nat) (h : ∀ i, i < n → f i = f' i ∧ g i = g' i) : okP f g n = okP f' g' n := by
  induction n with
  | zero => rfl
  | succ n ih => simp only [okP]; rw [ih (fun i hi => h i (by omega)), (h n (by omega)).1, (h n (by omega)).2]
theorem words_eq (z z' : Nat → Int) (n : Nat) (h : ∀ i, i < n → z i = z' i) : ∀ i, i < n / 8 → rf z i = rf z' i ∧ rg z i = rg z' i := by
  intro i hi
  unfold rf rg w4
  rw [h (i * 8) (by omega), h (i * 8 + 1) (by omega), h (i * 8 + 2) (by omega), h (i * 8 + 3) (by omega), h (i * 8 + 4) (by omega), h (i * 8 + 4 + 1) (by omega), h (i * 8 + 4 + 2) (by omega), h (i * 8 + 4 + 3) (by omega)]
  exact ⟨rfl, rfl⟩
/-- The model's answer, by the code. -/
def SRAns (w : World) (n : Nat) (z : Nat → Int) (e : Ending) (w' : World) : Prop :=
  (rc z n ≠ 0 ∧ ∃ (c0 : Option Addr) (cap0 : Nat), e = .returned (.tuple #[.slice c0 0 cap0, .int .i64 (rc z n)]) ∧ Chg nob w w') ∨
  (rc z n = 0 ∧ ∃ (c0 : Option Addr) (cap0 : Nat), e = .returned (.tuple #[.slice c0 (n / 8) cap0, .int .i64 0]) ∧ PairV w' c0 (n / 8) (rf z) (rg z) ∧ Chg nob w w')
theorem SRAns.no {w w' : World} {n : Nat} {z : Nat → Int} {e : Ending} {code : Int} {c0 : Option Addr} {cap0 : Nat} (hb : rc z n = code) (hc : code ≠ 0) (h : e = .returned (.tuple #[.slice c0 0 cap0, .int .i64 code])) (k : Chg nob w w') : SRAns w n z e w' :=
  .inl ⟨by rw [hb]; exact hc, c0, cap0, by rw [hb]; exact h, k⟩

set_option maxHeartbeats 1000000 in
theorem sReadExts_any (c : Option Addr) (n cap : Nat) (z : Nat → Int) (w : World) (h : Hid (RowV w c n (bw z))) (hz : Hid (∀ j, 0 ≤ z j ∧ z j < 256)) (hn : n ≤ 1099511627776) :
    Calls Try.prog 39 #[.slice c n cap] w fun e w' => SRAns w n z e w' := by
  by_cases hl : 65536 < n
  · have hl' : 65536 < (n : Int) := by omega
    have HB := hide (show rc z n = 2 by simp [rc, hl])
    go_enter Try.func39, Try.ntmps39
    go_wp2
    go_ret2
    exact SRAns.no HB.out (by omega) rfl ((Chg.refl _ _).alloc _)
  have hl' : ¬ 65536 < (n : Int) := by omega
  obtain ⟨S, hS, hsz, hzz⟩ : ∃ S : ByteArray, (convert 22 9 (.slice c n cap)).run Try.prog w = .ok (.string S) w ∧ S.size = n ∧ ∀ i, i < n → sz S i = z i :=
    ⟨_, conv_bytes c n cap z w h.out, by rw [strOfNums_size]; simp, fun i hi => sz_nums z n i hi (hz.out i).1 (hz.out i).2⟩
  have hw := words_eq (sz S) z n hzz
  have ho := okP_congr (rf (sz S)) (rg (sz S)) (rf z) (rg z) (n / 8) hw
  have HSZ := hide hsz
  have HOK := hide ho
  have HWE := hide hw
  clear hsz ho hw hzz
  go_enter Try.func39, Try.ntmps39
  go_wp2_with fail
  refine (l02Read_any S _ (by rw [HSZ.out]; omega)).mono ?_
  rintro e w1 hrd
  unfold SRd at hrd
  rw [HSZ.out, HOK.out] at hrd
  rcases hrd with ⟨hno, c0, cap0, rfl, k1⟩ | ⟨⟨h8, hok⟩, c0, cap0, rfl, hP, k1⟩
  · have HB : Hid (rc z n = 3) := hide (by
      unfold rc
      rw [if_neg hl]
      by_cases h8 : n % 8 = 0
      · rw [if_pos h8]
        cases hk : okP (rf z) (rg z) (n / 8)
        · simp
        · exact absurd ⟨h8, hk⟩ hno
      · rw [if_neg h8])
    have K1 := hide k1
    clear hno k1 hS
    go_wp2
    go_ret2
    exact SRAns.no HB.out (by omega) rfl (K1.out.alloc _)
  · have HP := hide (hP.congr HWE.out)
    have K1 := hide k1
    by_cases hm : 4096 < n / 8
    · have hm' : 4096 < ((n / 8 : Nat) : Int) := by omega
      have HB := hide (show rc z n = 6 by simp [rc, hl, h8, hok, hm])
      clear hP k1 hS h8 hok
      go_wp2
      go_ret2
      exact SRAns.no HB.out (by omega) rfl (K1.out.alloc _)
    · have hm' : ¬ 4096 < ((n / 8 : Nat) : Int) := by omega
      have HB := hide (show rc z n = 0 by simp [rc, hl, h8, hok]; omega)
      clear hP k1 hS h8 hok
      go_wp2
      go_ret2
      exact .inr ⟨HB.out, c0, cap0, rfl, HP.out, K1.out⟩

/-- The numbers of markExtS, by elements. -/
def mk1 (i : Nat) : Int := 1 + 2 * (i : Int)
def mk2 (i : Nat) : Int := 2 + 2 * (i : Int)
theorem mkc_pf {w : World} {b n : Nat} {t : TypeId} (h : w.rowIs b t (n * 2) mkc) : w.rowIs b t (n * 2) (pf mk1 mk2) := h.congr (fun i hi => by
  unfold mkc pf mk1 mk2
  by_cases e : i % 2 = 0
  · rw [if_pos e]; congr 1; omega
  · rw [if_neg e]; congr 1; omega)

theorem readExts_no (c : Option Addr) (n cap : Nat) (z : Nat → Int) (w : World) (h : Calls Try.prog 35 #[.slice c n cap] w fun e w' => RAns w n z e w') (hb : rc z n ≠ 0) :
    Calls Try.prog 35 #[.slice c n cap] w fun e w' => NoList w (rc z n) e w' := by
  refine h.mono ?_
  rintro e w' (⟨_, h⟩ | ⟨h0, _⟩)
  · exact h
  · exact absurd h0 hb
theorem readExts_yes (c : Option Addr) (n cap : Nat) (z : Nat → Int) (w : World) (h : Calls Try.prog 35 #[.slice c n cap] w fun e w' => RAns w n z e w') (hb : rc z n = 0) :
    Calls Try.prog 35 #[.slice c n cap] w fun e w' => NewList w n z e w' := by
  refine h.mono ?_
  rintro e w' (⟨h0, _⟩ | ⟨_, h⟩)
  · exact absurd hb h0
  · exact h

end Go.Proofs.Ytencdbocifpekaa
