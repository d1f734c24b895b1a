/- Several texts in one: What the model's reading of bytes answers: contracts; the list is of the call's own. Conditions: bytes that can be read. · What the model's cutting of a text answers: contracts. Conditions: a text of at most 2 to the 16 bytes, parts of at most 2 to the 12. -/
import Derived.Test.YtfgnhaoonpknlaaBzaj
import Derived.Test.YtfgnhaoonpknlaaBzak
import Derived.Test.YtfgnhaoonpknlaaBzam
import Derived.Test.YtfgnhaoonpknlaaBzax
namespace Go.Proofs.Ytfgnhaoonpknlaa
open Go.ChangeShapes Go.WideShapes Go.ChangeAt Go.RowKit
set_option linter.unusedVariables false
set_option linter.unusedSimpArgs false
set_option maxRecDepth 100000

/-- What the model's reading of a string gives. -/
def SRo (w : World) (s : ByteArray) (e : Ending) (w' : World) : Prop :=
  (¬ (s.size % 8 = 0 ∧ okP (rf (sz s)) (rg (sz s)) (s.size / 8) = true) ∧ ∃ (c0 : Option Addr) (cap0 : Nat), e = .returned (.tuple #[.slice c0 0 cap0, .bool false]) ∧ Chg nob w w') ∨
  ((s.size % 8 = 0 ∧ okP (rf (sz s)) (rg (sz s)) (s.size / 8) = true) ∧ ∃ (c0 : Option Addr) (cap0 : Nat), e = .returned (.tuple #[.slice c0 (s.size / 8) cap0, .bool true]) ∧ OwnE w' w.heap.size c0 (s.size / 8) (rf (sz s)) (rg (sz s)) ∧ Chg nob w w')

set_option maxHeartbeats 2000000 in
theorem l02Read_own (s : ByteArray) (w : World) (hn : s.size ≤ 65536) :
    Calls Try.prog 56 #[.string s] w fun e w' => SRo w s e w' := by
  by_cases h8 : s.size % 8 = 0
  · obtain ⟨m, hm⟩ : ∃ m, s.size = m * 8 := ⟨s.size / 8, by omega⟩
    have hd : s.size / 8 = m := by omega
    have HM := hide hm
    have h8' : (s.size : Int) % 8 = 0 := by omega
    have hmi : (s.size : Int) = (m : Int) * 8 := by omega
    obtain ⟨i0, hi, hz0, hz1, hz2⟩ := info_parts infoExt
    have HI := hide hi
    have HZ0 := hide hz0
    have HZ1 := hide hz1
    have HZ2 := hide hz2
    clear hi hz0 hz1 hz2 hm
    have HMI := hide hmi
    have H8 := hide h8
    clear hmi h8
    go_enter Try.func56, Try.ntmps56
    go_wp2
    clear h8'
    go_loopw [4, 5] (fun v i W => ∃ k : Nat, k ≤ m ∧ i = .int .i64 ((k * 8 : Nat) : Int) ∧ Hid (W.ownsRow w.heap.size 28 2 v k ((List.range (k * 2)).map (pf (rf (sz s)) (rg (sz s))))) ∧ Hid (Chg nob w W)) (fun _ i _ => s.size - (intOf i).toNat)
    case atStart => exact ⟨0, Nat.zero_le _, rfl, hide (owns_none _ _ _ _ (Nat.le_refl _)), hide ((Chg.refl _ _).alloc _)⟩
    case round =>
      obtain ⟨k, hk, rfl, HW, HC⟩ := hrel
      have hsz := HC.out.size
      by_cases hlt : k < m
      · have q0 : ((k * 8 : Nat) : Int) < (s.size : Int) := by have := HM.out; omega
        have q1 : ((k * 8 : Nat) : Int) + 4 ≤ (s.size : Int) := by have := HM.out; omega
        have q2 : ((k * 8 : Nat) : Int) + 8 ≤ (s.size : Int) := by have := HM.out; omega
        have q3 : k * 8 + 8 ≤ s.size := by have := HM.out; omega
        have p0 : (0 : Int) ≤ (k : Int) * 8 := by omega
        have p1 : (k : Int) * 8 + 4 ≤ (s.size : Int) := by omega
        have p2 : (k : Int) * 8 + 8 ≤ (s.size : Int) := by omega
        have p3 : (k : Int) * 8 + 4 ≤ (k : Int) * 8 + 8 := by omega
        have p4 : (k : Int) * 8 ≤ (k : Int) * 8 + 4 := by omega
        have p5 : (0 : Int) ≤ (k : Int) * 8 + 4 := by omega
        have p6 : (0 : Int) ≤ (k : Int) * 8 + 8 := by omega
        have p7 : ¬ (k : Int) * 8 + 8 < (k : Int) * 8 + 4 := by omega
        have ws4 : IntKind.i64.wrap ((k : Int) * 8 + 4) = (k : Int) * 8 + 4 := by rw [IntKind.wrap_i64]; omega
        have ws8 : IntKind.i64.wrap ((k : Int) * 8 + 8) = (k : Int) * 8 + 8 := by rw [IntKind.wrap_i64]; omega
        go_wp2
        go_region_held3 (fun _ => True) (exact True.intro) (first | (go_at_call 33; refine (l02Four_any _ _ (by simp; omega)).mono ?_; rintro e w' ⟨rfl, rfl⟩) | (refine step_append_lies _ (by rfl) (.tmp 18) (.tmp 33) 61 (by rfl) w.heap.size 28 i0 (.agg #[.int .i64 0, .int .i64 0]) 2 16 Try.underlying61 HI.out HZ0.out HZ1.out HZ2.out rfl (by decide) _ k _ (by rfl) (HW.out.drew.alloc _) ⟨_, 0, none⟩ 1 1 [.int .i64 (w4 (sz (s.extract ((k : Int) * 8).toNat ((k : Int) * 8 + 4).toNat)) 0), .int .i64 (w4 (sz (s.extract ((k : Int) * 8 + 4).toNat ((k : Int) * 8 + 8).toNat)) 0)] (by rfl) rfl (news2 _ _ _ _) (one2 _ _) (by decide) (by unfold maxLen; omega) (by omega) (by simp; omega) _ rfl ?_; intro g6 cp6 w6 o6 hg6 hat6 hlt6))
        have EA : w4 (sz (s.extract ((k : Int) * 8).toNat ((k : Int) * 8 + 4).toNat)) 0 = rf (sz s) k := by
          rw [show ((k : Int) * 8).toNat = k * 8 by omega, show ((k : Int) * 8 + 4).toNat = k * 8 + 4 by omega]
          exact four_extract s (k * 8) (by omega)
        have EB : w4 (sz (s.extract ((k : Int) * 8 + 4).toNat ((k : Int) * 8 + 8).toNat)) 0 = rg (sz s) k := by
          rw [show ((k : Int) * 8 + 4).toNat = k * 8 + 4 by omega, show ((k : Int) * 8 + 8).toNat = k * 8 + 4 + 4 by omega]
          exact four_extract s (k * 8 + 4) (by omega)
        have HO : Hid (w6.ownsRow w.heap.size 28 2 (.slice (some ⟨g6, 0, none⟩) (k + 1) cp6) (k + 1) ((List.range ((k + 1) * 2)).map (pf (rf (sz s)) (rg (sz s))))) := hide (by rw [← range_pair, ← EA, ← EB]; exact o6)
        have HG := hide ((HC.out.alloc _).drew.grown hg6 (fun b e l => absurd (HW.out.lt b e).1 (by omega)))
        clear o6 hg6 hat6 EA EB
        go_wp2
        go_roundw
        case rel => exact ⟨k + 1, by omega, by go_num, HO, HG⟩
        case measure => simp [intOf]; omega
      · obtain rfl : k = m := by omega
        have q0 : ¬ ((k * 8 : Nat) : Int) < (s.size : Int) := by have := HM.out; omega
        obtain ⟨c1, cap1, rfl, _, hO⟩ := OwnE.of_owns HW.out
        have HP := hide hO.pairs
        have HOW := hide hO
        clear hO
        cases ho : okP (rf (sz s)) (rg (sz s)) k
        · have HN := hide ho
          clear ho
          go_wp2_with fail
          refine (l02List_any c1 k cap1 (rf (sz s)) (rg (sz s)) _ HP (by omega)).mono ?_
          rintro e w1 ⟨rfl, k1⟩
          have HC1 := hide (HC.out.trans k1)
          have ho := HN.out
          clear k1
          go_wp2
          go_ret2
          exact .inl ⟨fun hh => (by have h2 := hh.2; rw [hd, HN.out] at h2; cases h2), _, _, rfl, HC1.out.alloc _⟩
        · have HN := hide ho
          clear ho
          go_wp2_with fail
          refine (l02List_any c1 k cap1 (rf (sz s)) (rg (sz s)) _ HP (by omega)).mono ?_
          rintro e w1 ⟨rfl, k1⟩
          have HC1 := hide (HC.out.trans k1)
          have HP1 := hide (HOW.out.keep k1)
          have ho := HN.out
          clear k1
          go_wp2
          go_ret2
          exact .inr ⟨⟨H8.out, by rw [hd]; exact HN.out⟩, c1, cap1, by rw [hd]; rfl, by rw [hd]; exact HP1.out, HC1.out⟩
  · have h8' : ¬ (s.size : Int) % 8 = 0 := by omega
    go_enter Try.func56, Try.ntmps56
    go_wp2
    go_ret2
    exact .inl ⟨fun h => h8 h.1, _, _, rfl, (Chg.refl _ _).alloc _⟩


end Go.Proofs.Ytfgnhaoonpknlaa

namespace Go.Proofs.Ytfgnhaoonpknlaa
open Go.ChangeShapes Go.WideShapes Go.ChangeAt Go.RowKit
set_option linter.unusedVariables false
set_option maxRecDepth 100000
set_option linter.unusedSimpArgs false

/-- A text that is cut: while all went well (ok), it is what the n bytes of z leave from byte K on; where G holds, all goes well. -/
def CtI (W : World) (gx n K : Nat) (z : Nat → Int) (G : Prop) (ok : Bool) : Prop :=
  ∃ t : ByteArray, W.rowIs gx 46 2 (fun i => if i = 0 then .string t else .bool ok) ∧ t.size ≤ 65536 ∧ (ok = true → K ≤ n ∧ t.size = n - K ∧ ∀ i, i < n - K → sz t i = z (K + i)) ∧ (G → ok = true)
theorem CtI.chg {P : Nat → Prop} {W W' : World} {gx n K : Nat} {z : Nat → Int} {G : Prop} {ok : Bool} (h : CtI W gx n K z G ok) (k : Chg P W W') (hp : ¬ P gx) : CtI W' gx n K z G ok := by
  obtain ⟨t, r, q⟩ := h
  exact ⟨t, rowIs_chg r k hp, q⟩
theorem CtI.keep {W W' : World} {gx n K : Nat} {z : Nat → Int} {G : Prop} {ok : Bool} (h : CtI W gx n K z G ok) (k : Chg nob W W') : CtI W' gx n K z G ok := h.chg k (fun x => x)
theorem CtI.lt {W : World} {gx n K : Nat} {z : Nat → Int} {G : Prop} {ok : Bool} (h : CtI W gx n K z G ok) : gx < W.heap.size := by
  obtain ⟨t, r, q⟩ := h
  exact r.lt
/-- What a cut of m bytes answers. -/
def CtA (w : World) (gx n K m : Nat) (z : Nat → Int) (G : Prop) (ok : Bool) (e : Ending) (w' : World) : Prop :=
  ∃ (s : ByteArray) (ok' : Bool), e = .returned (.string s) ∧ s.size = m ∧ (ok' = true → ok = true ∧ K + m ≤ n ∧ ∀ i, i < m → sz s i = z (K + i)) ∧ CtI w' gx n (K + m) z G ok' ∧ Chg (RG gx) w w'
theorem ext_size (t : ByteArray) (a b : Nat) (h : a ≤ b) (hb : b ≤ t.size) : (t.extract a b).size = b - a := by
  rw [ByteArray.size_extract]
  omega

set_option maxHeartbeats 2000000 in
theorem cutTake_any (gx n K m : Nat) (z : Nat → Int) (G : Prop) (ok : Bool) (w : World) (h : Hid (CtI w gx n K z G ok)) (hm : m ≤ 65536) (hG : Hid (G → K + m ≤ n)) :
    Calls Try.prog 31 #[.pointer (some ⟨gx, 0, none⟩), .int .i64 (m : Int)] w fun e w' => CtA w gx n K m z G ok e w' := by
  obtain ⟨t, HR0, ht, hok, hg⟩ := h.out
  have HR := hik HR0
  have HOK := hik hok
  have HG1 := hik hg
  have HT := hik ht
  have x0 : w.cell? ⟨gx, 0, none⟩ = some (.string t) := HR.out.cell (i := 0) (by omega)
  have x1 : w.cell? ⟨gx, 1, none⟩ = some (.bool ok) := HR.out.cell (i := 1) (by omega)
  have f0 := HR.out.frozen 0
  have f1 := HR.out.frozen 1
  have l0 := HR.out.lt
  clear HR0 hok hg h ht
  by_cases hb : t.size < m
  · have hbi : (t.size : Int) < (m : Int) := by omega
    obtain ⟨i0, hi, hz0, hz1, hz2⟩ := info_parts infoU8
    have HI := hik hi
    have HZ0 := hik hz0
    have HZ1 := hik hz1
    have HZ2 := hik hz2
    have hbb : i0.bytes * m ≤ 281474976710656 := by rw [hz2]; omega
    clear hi hz0 hz1 hz2
    have hcv : (convert 22 9 (.slice (some ⟨w.heap.size, 0, none⟩) m m)).run Try.prog ((w.setCell ⟨gx, 1, none⟩ (.bool false)).alloc (.cells (madeCells #[.int .u8 0] m) 5)) = .ok (.string (strOfNums ((List.range m).map (fun _ => (0 : Int))))) ((w.setCell ⟨gx, 1, none⟩ (.bool false)).alloc (.cells (madeCells #[.int .u8 0] m) 5)) :=
      conv_bytes _ m m (fun _ => 0) _ (fun i hi => by
        have r := World.rowIs_made (w.setCell ⟨gx, 1, none⟩ (.bool false)) (.int .u8 0) m 5
        rw [show (w.setCell ⟨gx, 1, none⟩ (.bool false)).heap.size = w.heap.size by simp] at r
        exact ⟨w.heap.size, 0, rfl, r.lt, by rw [Nat.zero_add]; exact r.cell hi⟩)
    have HF := hik (show CtI ((w.setCell ⟨gx, 1, none⟩ (.bool false)).alloc (.cells (madeCells #[.int .u8 0] m) 5)) gx n (K + m) z G false ∧ Chg (RG gx) w ((w.setCell ⟨gx, 1, none⟩ (.bool false)).alloc (.cells (madeCells #[.int .u8 0] m) 5)) from
      ⟨⟨t, (rowIs_keep (HR.out.set 1 (.bool false)) ((Chg.refl nob _).alloc _)).congr (fun i hi => by
          by_cases e : i = 1
          · subst e; rfl
          · obtain rfl : i = 0 := by omega
            rfl), HT.out, (fun e => by cases e), fun q => by
          have a := HOK.out (HG1.out q)
          have b := hG.out q
          omega⟩, ((Chg.refl (RG gx) w).setCell (p := ⟨gx, 1, none⟩) (fun _ => rfl) _).alloc _⟩)
    go_enter Try.func31, Try.ntmps31
    go_wp2_with (at_make; refine wpList_make_row _ rfl (.tmp 16) (.tmp 16) 22 rfl 5 i0 (.int .u8 0) Try.underlying22 HI.out HZ0.out HZ1.out rfl .i64 .i64 m rfl rfl hbb (by omega) ?_)
    go_ret
    exact ⟨_, false, rfl, by rw [strOfNums_size]; simp, (fun e => by cases e), HF.out.1, HF.out.2⟩
  · have hbi : ¬ (t.size : Int) < (m : Int) := by omega
    have h1 : (m : Int) ≤ (t.size : Int) := by omega
    have h2 : (0 : Int) ≤ (m : Int) := by omega
    have HB := hik (show m ≤ t.size by omega)
    clear hb
    go_enter Try.func31, Try.ntmps31
    go_wp2
    go_ret
    refine ⟨t.extract 0 m, ok, rfl, ?_, fun e => ?_, ⟨t.extract m t.size, (HR.out.set 0 (.string (t.extract m t.size))).congr (fun i hi => ?_), ?_, fun e => ?_, HG1.out⟩, (Chg.refl (RG gx) w).setCell (p := ⟨gx, 0, none⟩) (fun _ => rfl) _⟩
    · rw [ext_size t 0 m (by omega) HB.out]
      omega
    · obtain ⟨a1, a2, a3⟩ := HOK.out e
      have := HB.out
      refine ⟨e, by omega, fun i hi => ?_⟩
      rw [sz_extract t 0 m i HB.out (by omega), Nat.zero_add]
      exact a3 i (by omega)
    · by_cases e : i = 0
      · subst e; rfl
      · obtain rfl : i = 1 := by omega
        rfl
    · have := HT.out
      rw [ext_size t m t.size HB.out (Nat.le_refl _)]
      omega
    · obtain ⟨a1, a2, a3⟩ := HOK.out e
      have := HB.out
      refine ⟨by omega, by rw [ext_size t m t.size HB.out (Nat.le_refl _)]; omega, fun i hi => ?_⟩
      rw [sz_extract t m t.size i (Nat.le_refl _) (by omega), a3 (m + i) (by omega), Nat.add_assoc]

/-- What the reading of m elements off a cut answers. -/
def CxA (w : World) (gx n K m : Nat) (z : Nat → Int) (G : Prop) (ok : Bool) (e : Ending) (w' : World) : Prop :=
  ∃ (c : Option Addr) (l cap : Nat) (f g : Nat → Int) (ok' : Bool), e = .returned (.slice c l cap) ∧ (l = 0 ∨ l = m) ∧ OwnE w' w.heap.size c l f g ∧ (ok' = true → ok = true ∧ K + 8 * m ≤ n ∧ l = m ∧ ∀ i, i < m → f i = rf (zk z K) i ∧ g i = rg (zk z K) i) ∧ CtI w' gx n (K + 8 * m) z G ok' ∧ Chg (RG gx) w w'

set_option maxHeartbeats 2000000 in
theorem cutExts_any (gx n K m : Nat) (z : Nat → Int) (G : Prop) (ok : Bool) (w : World) (h : Hid (CtI w gx n K z G ok)) (hm : m ≤ 4096) (hG : Hid (G → K + 8 * m ≤ n ∧ okP (rf (zk z K)) (rg (zk z K)) m = true)) :
    Calls Try.prog 30 #[.pointer (some ⟨gx, 0, none⟩), .int .i64 (m : Int)] w fun e w' => CxA w gx n K m z G ok e w' := by
  have hgl := h.out.lt
  go_enter Try.func30, Try.ntmps30
  go_wp2_with fail
  rw [show (8 : Int) * (m : Int) = ((8 * m : Nat) : Int) by omega]
  refine (cutTake_any gx n K (8 * m) z G ok w h (by omega) (hik (fun q => (hG.out q).1))).mono ?_
  rintro e W1 ⟨s, ok1, rfl, hs, hok1, hc1, k1⟩
  have HS := hik hs
  have HK1 := hik hok1
  have HC1 := hik hc1
  have K1 := hik k1
  clear hs hok1 hc1 k1
  go_wp2_with fail
  refine (l02Read_own s _ (by rw [HS.out]; omega)).mono ?_
  rintro e W2 hrd
  have HW : Hid (ok1 = true → okP (rf (sz s)) (rg (sz s)) m = okP (rf (zk z K)) (rg (zk z K)) m ∧ ∀ i, i < m → rf (sz s) i = rf (zk z K) i ∧ rg (sz s) i = rg (zk z K) i) := hik (fun q => by
    have a := words_eq (sz s) (zk z K) (8 * m) (HK1.out q).2.2
    rw [show 8 * m / 8 = m by omega] at a
    exact ⟨okP_congr _ _ _ _ m a, a⟩)
  unfold SRo at hrd
  rw [HS.out, show 8 * m / 8 = m by omega] at hrd
  rcases hrd with ⟨hno, c0, cap0, rfl, k2⟩ | ⟨⟨h8, hokp⟩, c0, cap0, rfl, hO, k2⟩
  · have HNO := hik (show okP (rf (sz s)) (rg (sz s)) m = false by
      cases hk : okP (rf (sz s)) (rg (sz s)) m
      · rfl
      · exact absurd ⟨by omega, hk⟩ hno)
    obtain ⟨t, hr, ht, hk, hg⟩ := hik (HC1.out.keep k2)
    have HR := hik hr
    have x1 : W2.cell? ⟨gx, 1, none⟩ = some (.bool ok1) := HR.out.cell (i := 1) (by omega)
    have f1 := HR.out.frozen 1
    have l0 := HR.out.lt
    have HF := hik (show CtI (W2.setCell ⟨gx, 1, none⟩ (.bool false)) gx n (K + 8 * m) z G false ∧ Chg (RG gx) w (W2.setCell ⟨gx, 1, none⟩ (.bool false)) from
      ⟨⟨t, (HR.out.set 1 (.bool false)).congr (fun i hi => by
          by_cases e : i = 1
          · subst e; rfl
          · obtain rfl : i = 0 := by omega
            rfl), ht, (fun e => by cases e), fun q => by
          have a := (hG.out q).2
          rw [← (HW.out (hg q)).1, HNO.out] at a
          exact a⟩, (K1.out.trans (k2.mono (fun _ _ x => x.elim))).setCell (p := ⟨gx, 1, none⟩) (fun _ => rfl) _⟩)
    clear hr ht hk hg hno k2
    cases ok1
    all_goals
      go_wp2
      go_ret
      exact ⟨c0, 0, cap0, _, _, false, rfl, .inl rfl, OwnE.zero (f := fun _ => 0) (g := fun _ => 0), (fun e => by cases e), HF.out.1, HF.out.2⟩
  · obtain ⟨t, hr, ht, hk, hg⟩ := hik (HC1.out.keep k2)
    have HR := hik hr
    have HO := hik hO
    have x1 : W2.cell? ⟨gx, 1, none⟩ = some (.bool ok1) := HR.out.cell (i := 1) (by omega)
    have f1 := HR.out.frozen 1
    have l0 := HR.out.lt
    have hsz := K1.out.size
    have HF := hik (show CtI (W2.setCell ⟨gx, 1, none⟩ (.bool ok1)) gx n (K + 8 * m) z G ok1 ∧ OwnE (W2.setCell ⟨gx, 1, none⟩ (.bool ok1)) w.heap.size c0 m (rf (sz s)) (rg (sz s)) ∧ Chg (RG gx) w (W2.setCell ⟨gx, 1, none⟩ (.bool ok1)) from
      ⟨⟨t, (HR.out.set 1 (.bool ok1)).congr (fun i hi => by
          by_cases e : i = 1
          · subst e; rfl
          · obtain rfl : i = 0 := by omega
            rfl), ht, hk, hg⟩, (HO.out.low hsz).chg ((Chg.refl (RG gx) W2).setCell (p := ⟨gx, 1, none⟩) (fun _ => rfl) _) (fun b hb _ q => by have q' : b = gx := q; omega), (K1.out.trans (k2.mono (fun _ _ x => x.elim))).setCell (p := ⟨gx, 1, none⟩) (fun _ => rfl) _⟩)
    clear hr ht hk hg k2 h8 hokp hO hsz
    cases ok1
    all_goals
      go_wp2
      go_ret
      exact ⟨c0, m, cap0, _, _, _, rfl, .inr rfl, HF.out.2.1, (fun e => ⟨(HK1.out (by first | exact e | exact True.intro)).1, (HK1.out (by first | exact e | exact True.intro)).2.1, rfl, (HW.out (by first | exact e | exact True.intro)).2⟩), HF.out.1, HF.out.2.2⟩
/-- What the reading of one element off a cut answers. -/
def CoA (w : World) (gx n K : Nat) (z : Nat → Int) (G : Prop) (ok : Bool) (e : Ending) (w' : World) : Prop :=
  ∃ (a b : Int) (ok' : Bool), e = .returned (.agg #[.int .i64 a, .int .i64 b]) ∧ (ok' = true → ok = true ∧ K + 8 ≤ n ∧ a = w4 z K ∧ b = w4 z (K + 4)) ∧ CtI w' gx n (K + 8) z G ok' ∧ Chg (RG gx) w w'

set_option maxHeartbeats 2000000 in
theorem cutOne_any (gx n K : Nat) (z : Nat → Int) (G : Prop) (ok : Bool) (w : World) (h : Hid (CtI w gx n K z G ok)) (hG : Hid (G → K + 8 ≤ n ∧ okP (rf (zk z K)) (rg (zk z K)) 1 = true)) :
    Calls Try.prog 32 #[.pointer (some ⟨gx, 0, none⟩)] w fun e w' => CoA w gx n K z G ok e w' := by
  have hgl := h.out.lt
  have KA := hik ((Chg.refl nob w).alloc (.cells #[.int .i64 0, .int .i64 0] 28))
  have HB := hik (rowN_new w 2 #[.int .i64 0, .int .i64 0] 28 rfl)
  have hzw : w.heap.size + 1 = (w.alloc (.cells #[.int .i64 0, .int .i64 0] 28)).heap.size := by simp
  go_enter Try.func32, Try.ntmps32
  go_wp2_with fail
  refine (cutExts_any gx n K 1 z G ok _ (hik (h.out.keep KA.out)) (by omega) hG).mono ?_
  rintro e W1 ⟨c, l, cap, f, g, ok', rfl, hl, hO, hok, hc, k⟩
  have HO := hik hO
  have HOK := hik hok
  have HC := hik hc
  have K1 := hik k
  have RB := hik (rowIs_chg HB.out k (fun q => by have q' : w.heap.size = gx := q; omega))
  have ks := k.size
  clear hO hok hc k
  have x0 : W1.cell? ⟨w.heap.size, 0, none⟩ = some (.int .i64 0) := RB.out.cell (i := 0) (by omega)
  have x1 : W1.cell? ⟨w.heap.size, 1, none⟩ = some (.int .i64 0) := RB.out.cell (i := 1) (by omega)
  have f0 := RB.out.frozen 0
  have f1 := RB.out.frozen 1
  have l0 := RB.out.lt
  have HFIN : ∀ a b : Int, Hid (CtI ((W1.setCell ⟨w.heap.size, 0, none⟩ (.int .i64 a)).setCell ⟨w.heap.size, 1, none⟩ (.int .i64 b)) gx n (K + 8) z G ok' ∧ Chg (RG gx) w ((W1.setCell ⟨w.heap.size, 0, none⟩ (.int .i64 a)).setCell ⟨w.heap.size, 1, none⟩ (.int .i64 b))) := fun a b => hik (by
    have kk : Chg (fun y => y = w.heap.size) W1 ((W1.setCell ⟨w.heap.size, 0, none⟩ (.int .i64 a)).setCell ⟨w.heap.size, 1, none⟩ (.int .i64 b)) := ((Chg.refl (fun y => y = w.heap.size) W1).setCell (p := ⟨w.heap.size, 0, none⟩) (fun _ => rfl) _).setCell (p := ⟨w.heap.size, 1, none⟩) (fun _ => rfl) _
    refine ⟨HC.out.chg kk (fun q => by have q' : gx = w.heap.size := q; omega), ((((Chg.refl (RG gx) w).alloc (.cells #[.int .i64 0, .int .i64 0] 28)).trans K1.out).setCell (p := ⟨w.heap.size, 0, none⟩) (fun l => absurd l (by simp)) _).setCell (p := ⟨w.heap.size, 1, none⟩) (fun l => absurd l (by simp)) _⟩)
  rcases hl with rfl | rfl
  · go_wp2
    refine bodyPost_ret (v := .agg #[.int .i64 0, .int .i64 0]) (by simp [results, Try.results32, go_sem, *]) rfl ?_
    refine ⟨0, 0, ok', rfl, (fun e => ?_), (HFIN 0 0).out.1, (HFIN 0 0).out.2⟩
    have q := (HOK.out e).2.2.1
    omega
  · obtain ⟨xb, xo, rfl, hxb, y0, y1⟩ := HO.out.pairs 0 (by omega)
    simp only [Nat.zero_mul, Nat.add_zero] at y0 y1
    go_wp2
    refine bodyPost_ret (v := .agg #[.int .i64 (f 0), .int .i64 (g 0)]) (by simp [results, Try.results32, go_sem, *]) rfl ?_
    refine ⟨f 0, g 0, ok', rfl, (fun e => ?_), (HFIN _ _).out.1, (HFIN _ _).out.2⟩
    obtain ⟨q1, q2, q3, q4⟩ := HOK.out e
    refine ⟨q1, by omega, ?_, ?_⟩
    · rw [(q4 0 (by omega)).1]
      show w4 (zk z K) (0 * 8) = _
      rw [zk_w4, Nat.zero_mul, Nat.add_zero]
    · rw [(q4 0 (by omega)).2]
      show w4 (zk z K) (0 * 8 + 4) = _
      rw [zk_w4, Nat.zero_mul, Nat.zero_add]

end Go.Proofs.Ytfgnhaoonpknlaa
