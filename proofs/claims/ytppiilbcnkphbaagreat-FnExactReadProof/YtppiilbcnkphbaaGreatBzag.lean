/- Several texts in one: What the model's reading of bytes answers: contracts; the list is of the call's own. Conditions: bytes that can be read. · Data of a call's own by the blocks that bear it and those that marks change: words; marks: contracts. Conditions: lists of a call's own, of at most 2 to the 20 items; marks from 1 to 2 to the 39. · What the program's readers of an opening's parts answer: contracts. Conditions: bytes that can be read, as many as are read, of at most 2 to the 20. · What the model's cutting of a text answers: contracts. Conditions: a text of at most 2 to the 16 bytes, parts of at most 2 to the 12. -/
import Derived.Test.YtppiilbcnkphbaaGreatBzae
import Derived.Test.YtppiilbcnkphbaaGreatBzaf
import Derived.Test.YtppiilbcnkphbaaGreatBzao
import Derived.Test.YtppiilbcnkphbaaGreatBzah
namespace Go.Proofs.YtppiilbcnkphbaaGreat
open Go.ChangeShapes Go.WideShapes Go.ChangeAt Go.RowKit
set_option linter.unusedVariables false
set_option linter.unusedSimpArgs false
set_option maxRecDepth 100000

/-- What the model's reading of a string gives. -/
def SRo (w : World) (s : ByteArray) (e : Ending) (w' : World) : Prop :=
  (¬ (s.size % 8 = 0 ∧ okP (rf (sz s)) (rg (sz s)) (s.size / 8) = true) ∧ ∃ (c0 : Option Addr) (cap0 : Nat), e = .returned (.tuple #[.slice c0 0 cap0, .bool false]) ∧ Chg nob w w') ∨
  ((s.size % 8 = 0 ∧ okP (rf (sz s)) (rg (sz s)) (s.size / 8) = true) ∧ ∃ (c0 : Option Addr) (cap0 : Nat), e = .returned (.tuple #[.slice c0 (s.size / 8) cap0, .bool true]) ∧ OwnE w' w.heap.size c0 (s.size / 8) (rf (sz s)) (rg (sz s)) ∧ Chg nob w w')

set_option maxHeartbeats 2000000 in
theorem l02Read_own (s : ByteArray) (w : World) (hn : s.size ≤ 65536) :
    Calls Tryz.prog 61 #[.string s] w fun e w' => SRo w s e w' := by
  by_cases h8 : s.size % 8 = 0
  · obtain ⟨m, hm⟩ : ∃ m, s.size = m * 8 := ⟨s.size / 8, by omega⟩
    have hd : s.size / 8 = m := by omega
    have HM := hide hm
    have h8' : (s.size : Int) % 8 = 0 := by omega
    have hmi : (s.size : Int) = (m : Int) * 8 := by omega
    obtain ⟨i0, hi, hz0, hz1, hz2⟩ := info_parts infoExt
    have HI := hide hi
    have HZ0 := hide hz0
    have HZ1 := hide hz1
    have HZ2 := hide hz2
    clear hi hz0 hz1 hz2 hm
    have HMI := hide hmi
    have H8 := hide h8
    clear hmi h8
    go_enter Tryz.func61, Tryz.ntmps61
    go_wp2
    clear h8'
    go_loopw [4, 5] (fun v i W => ∃ k : Nat, k ≤ m ∧ i = .int .i64 ((k * 8 : Nat) : Int) ∧ Hid (W.ownsRow w.heap.size 31 2 v k ((List.range (k * 2)).map (pf (rf (sz s)) (rg (sz s))))) ∧ Hid (Chg nob w W)) (fun _ i _ => s.size - (intOf i).toNat)
    case atStart => exact ⟨0, Nat.zero_le _, rfl, hide (owns_none _ _ _ _ (Nat.le_refl _)), hide ((Chg.refl _ _).alloc _)⟩
    case round =>
      obtain ⟨k, hk, rfl, HW, HC⟩ := hrel
      have hsz := HC.out.size
      by_cases hlt : k < m
      · have q0 : ((k * 8 : Nat) : Int) < (s.size : Int) := by have := HM.out; omega
        have q1 : ((k * 8 : Nat) : Int) + 4 ≤ (s.size : Int) := by have := HM.out; omega
        have q2 : ((k * 8 : Nat) : Int) + 8 ≤ (s.size : Int) := by have := HM.out; omega
        have q3 : k * 8 + 8 ≤ s.size := by have := HM.out; omega
        have p0 : (0 : Int) ≤ (k : Int) * 8 := by omega
        have p1 : (k : Int) * 8 + 4 ≤ (s.size : Int) := by omega
        have p2 : (k : Int) * 8 + 8 ≤ (s.size : Int) := by omega
        have p3 : (k : Int) * 8 + 4 ≤ (k : Int) * 8 + 8 := by omega
        have p4 : (k : Int) * 8 ≤ (k : Int) * 8 + 4 := by omega
        have p5 : (0 : Int) ≤ (k : Int) * 8 + 4 := by omega
        have p6 : (0 : Int) ≤ (k : Int) * 8 + 8 := by omega
        have p7 : ¬ (k : Int) * 8 + 8 < (k : Int) * 8 + 4 := by omega
        have ws4 : IntKind.i64.wrap ((k : Int) * 8 + 4) = (k : Int) * 8 + 4 := by rw [IntKind.wrap_i64]; omega
        have ws8 : IntKind.i64.wrap ((k : Int) * 8 + 8) = (k : Int) * 8 + 8 := by rw [IntKind.wrap_i64]; omega
        go_wp2
        go_region_held3 (fun _ => True) (exact True.intro) (first | (go_at_call 62; refine (l02Four_any _ _ (by simp; omega)).mono ?_; rintro e w' ⟨rfl, rfl⟩) | (refine step_append_lies _ (by rfl) (.tmp 18) (.tmp 33) 81 (by rfl) w.heap.size 31 i0 (.agg #[.int .i64 0, .int .i64 0]) 2 16 Tryz.underlying81 HI.out HZ0.out HZ1.out HZ2.out rfl (by decide) _ k _ (by rfl) (HW.out.drew.alloc _) ⟨_, 0, none⟩ 1 1 [.int .i64 (w4 (sz (s.extract ((k : Int) * 8).toNat ((k : Int) * 8 + 4).toNat)) 0), .int .i64 (w4 (sz (s.extract ((k : Int) * 8 + 4).toNat ((k : Int) * 8 + 8).toNat)) 0)] (by rfl) rfl (news2 _ _ _ _) (one2 _ _) (by decide) (by unfold maxLen; omega) (by omega) (by simp; omega) _ rfl ?_; intro g6 cp6 w6 o6 hg6 hat6 hlt6))
        have EA : w4 (sz (s.extract ((k : Int) * 8).toNat ((k : Int) * 8 + 4).toNat)) 0 = rf (sz s) k := by
          rw [show ((k : Int) * 8).toNat = k * 8 by omega, show ((k : Int) * 8 + 4).toNat = k * 8 + 4 by omega]
          exact four_extract s (k * 8) (by omega)
        have EB : w4 (sz (s.extract ((k : Int) * 8 + 4).toNat ((k : Int) * 8 + 8).toNat)) 0 = rg (sz s) k := by
          rw [show ((k : Int) * 8 + 4).toNat = k * 8 + 4 by omega, show ((k : Int) * 8 + 8).toNat = k * 8 + 4 + 4 by omega]
          exact four_extract s (k * 8 + 4) (by omega)
        have HO : Hid (w6.ownsRow w.heap.size 31 2 (.slice (some ⟨g6, 0, none⟩) (k + 1) cp6) (k + 1) ((List.range ((k + 1) * 2)).map (pf (rf (sz s)) (rg (sz s))))) := hide (by rw [← range_pair, ← EA, ← EB]; exact o6)
        have HG := hide ((HC.out.alloc _).drew.grown hg6 (fun b e l => absurd (HW.out.lt b e).1 (by omega)))
        clear o6 hg6 hat6 EA EB
        go_wp2
        go_roundw
        case rel => exact ⟨k + 1, by omega, by go_num, HO, HG⟩
        case measure => simp [intOf]; omega
      · obtain rfl : k = m := by omega
        have q0 : ¬ ((k * 8 : Nat) : Int) < (s.size : Int) := by have := HM.out; omega
        obtain ⟨c1, cap1, rfl, _, hO⟩ := OwnE.of_owns HW.out
        have HP := hide hO.pairs
        have HOW := hide hO
        clear hO
        cases ho : okP (rf (sz s)) (rg (sz s)) k
        · have HN := hide ho
          clear ho
          go_wp2_with fail
          refine (l02List_any c1 k cap1 (rf (sz s)) (rg (sz s)) _ HP (by omega)).mono ?_
          rintro e w1 ⟨rfl, k1⟩
          have HC1 := hide (HC.out.trans k1)
          have ho := HN.out
          clear k1
          go_wp2
          go_ret2
          exact .inl ⟨fun hh => (by have h2 := hh.2; rw [hd, HN.out] at h2; cases h2), _, _, rfl, HC1.out.alloc _⟩
        · have HN := hide ho
          clear ho
          go_wp2_with fail
          refine (l02List_any c1 k cap1 (rf (sz s)) (rg (sz s)) _ HP (by omega)).mono ?_
          rintro e w1 ⟨rfl, k1⟩
          have HC1 := hide (HC.out.trans k1)
          have HP1 := hide (HOW.out.keep k1)
          have ho := HN.out
          clear k1
          go_wp2
          go_ret2
          exact .inr ⟨⟨H8.out, by rw [hd]; exact HN.out⟩, c1, cap1, by rw [hd]; rfl, by rw [hd]; exact HP1.out, HC1.out⟩
  · have h8' : ¬ (s.size : Int) % 8 = 0 := by omega
    go_enter Tryz.func61, Tryz.ntmps61
    go_wp2
    go_ret2
    exact .inl ⟨fun h => h8 h.1, _, _, rfl, (Chg.refl _ _).alloc _⟩


end Go.Proofs.YtppiilbcnkphbaaGreat

namespace Go.Proofs.YtppiilbcnkphbaaGreat
open Go.ChangeShapes Go.WideShapes Go.ChangeAt Go.RowKit
set_option linter.unusedVariables false
set_option maxRecDepth 100000
set_option linter.unusedSimpArgs false

/-- Data of a call's own: S: the blocks that bear it, M: those of them that its marks change. -/
structure Df where
  D : Dt
  Own : World → (Nat → Prop) → (Nat → Prop) → Value → Prop
  rep : ∀ {w : World} {S M : Nat → Prop} {v : Value}, Own w S M v → D.Rep w v
  sub : ∀ {w : World} {S M : Nat → Prop} {v : Value}, Own w S M v → ∀ c, M c → S c
  chg : ∀ {P : Nat → Prop} {w w' : World} {S M : Nat → Prop} {v : Value}, Chg P w w' → Own w S M v → (∀ c, S c → ¬ P c) → Own w' S M v
  wide : ∀ {w : World} {S M S' : Nat → Prop} {v : Value}, Own w S M v → (∀ c, S c → S' c) → Own w S' M v
theorem Df.keep {d : Df} {w w' : World} {S M : Nat → Prop} {v : Value} (h : d.Own w S M v) (k : Chg nob w w') : d.Own w' S M v := d.chg k h (fun _ _ x => x)
theorem OwnE.at_ {w : World} {B b : Nat} {n : Nat} {f g : Nat → Int} (h : OwnE w B (some ⟨b, 0, none⟩) n f g) : OwnE w b (some ⟨b, 0, none⟩) n f g := by
  rcases h with h0 | ⟨b', N, hh, e, _, q⟩
  · exact .inl h0
  · cases e
    exact .inr ⟨b, N, hh, rfl, Nat.le_refl _, q⟩
/-- Elements. -/
def exF (n : Nat) (f g : Nat → Int) : Df where
  D := Dt.exts n f g
  Own w S M v := (∀ c, M c → S c) ∧ ∃ (c : Option Addr) (cap : Nat), v = .slice c n cap ∧ (n = 0 ∨ ∃ b, c = some ⟨b, 0, none⟩ ∧ M b ∧ OwnE w b c n f g)
  rep := by
    rintro w S M v ⟨_, c, cap, e, rfl | ⟨b, _, _, h⟩⟩
    · exact ⟨c, cap, e, fun i hi => absurd hi (by omega)⟩
    · exact ⟨c, cap, e, h.pairs⟩
  sub := fun h => h.1
  chg := by
    rintro P w w' S M v k ⟨hs, c, cap, e, h0 | ⟨b, e', hb, h⟩⟩ hp
    · exact ⟨hs, c, cap, e, .inl h0⟩
    · exact ⟨hs, c, cap, e, .inr ⟨b, e', hb, h.chg k (fun b' _ ec => by rw [e'] at ec; cases ec; exact hp _ (hs _ hb))⟩⟩
  wide := by
    rintro w S M S' v ⟨hs, q⟩ h
    exact ⟨fun c hc => h c (hs c hc), q⟩
/-- Texts. -/
def txF (n : Nat) (L : Nat → ByteArray) : Df where
  D := Dt.texts n L
  Own w S M v := (∀ c, M c → S c) ∧ ∃ (c : Option Addr) (cap : Nat), v = .slice c n cap ∧ (n = 0 ∨ ∃ b, c = some ⟨b, 0, none⟩ ∧ M b ∧ WRow w b n (sb L))
  rep := by
    rintro w S M v ⟨_, c, cap, e, rfl | ⟨b, rfl, _, h⟩⟩
    · exact ⟨c, cap, e, fun i hi => absurd hi (by omega)⟩
    · exact ⟨_, cap, e, h.row⟩
  sub := fun h => h.1
  chg := by
    rintro P w w' S M v k ⟨hs, c, cap, e, h0 | ⟨b, e', hb, h⟩⟩ hp
    · exact ⟨hs, c, cap, e, .inl h0⟩
    · refine ⟨hs, c, cap, e, .inr ⟨b, e', hb, Nat.lt_of_lt_of_le h.lt k.size, fun i hi => ?_, fun i hi => ?_⟩⟩
      · rw [k.cell (p := ⟨b, i, none⟩) h.lt (hp b (hs b hb))]; exact h.cell i hi
      · rw [World.frozen?_of_block (a := ⟨b, i, none⟩) (k.block b h.lt (hp b (hs b hb)))]; exact h.fro i hi
  wide := by
    rintro w S M S' v ⟨hs, q⟩ h
    exact ⟨fun c hc => h c (hs c hc), q⟩
/-- A row of cells, each with blocks of its own: no cell's marks change what bears another, nor the row. -/
structure OwnK (w : World) (n m : Nat) (x : Nat → Nat → Df) (b : Nat) (Si Mi : Nat → Nat → Nat → Prop) : Prop where
  lt : b < w.heap.size
  cell : ∀ i j, i < n → j < m → ∃ u, w.cell? ⟨b, i * m + j, none⟩ = some u ∧ (x i j).Own w (Si i j) (Mi i j) u
  top : ∀ i j, i < n → j < m → ¬ Mi i j b
  dis : ∀ i j i' j', i < n → j < m → i' < n → j' < m → ¬ (i = i' ∧ j = j') → ∀ c, Mi i j c → ¬ Si i' j' c
theorem OwnK.chg {P : Nat → Prop} {w w' : World} {n m : Nat} {x : Nat → Nat → Df} {b : Nat} {Si Mi : Nat → Nat → Nat → Prop} (o : OwnK w n m x b Si Mi) (k : Chg P w w') (hb : ¬ P b) (hp : ∀ i j c, i < n → j < m → Si i j c → ¬ P c) : OwnK w' n m x b Si Mi :=
  ⟨Nat.lt_of_lt_of_le o.lt k.size, fun i j hi hj => by
    obtain ⟨u, hc, hr⟩ := o.cell i j hi hj
    exact ⟨u, by rw [k.cell (p := ⟨b, i * m + j, none⟩) o.lt hb]; exact hc, (x i j).chg k hr (fun c hc => hp i j c hi hj hc)⟩, o.top, o.dis⟩
theorem OwnK.step {w w' : World} {n m : Nat} {x y : Nat → Nat → Df} {b : Nat} {Si Mi : Nat → Nat → Nat → Prop} (o : OwnK w n m x b Si Mi) {i0 j0 : Nat} (hi0 : i0 < n) (hj0 : j0 < m) {u0 : Value} (hu0 : w.cell? ⟨b, i0 * m + j0, none⟩ = some u0)
    (k : Chg (Mi i0 j0) w w') (hy : (y i0 j0).Own w' (Si i0 j0) (Mi i0 j0) u0) (he : ∀ i j, i < n → j < m → ¬ (i = i0 ∧ j = j0) → y i j = x i j) : OwnK w' n m y b Si Mi := by
  refine ⟨Nat.lt_of_lt_of_le o.lt k.size, fun i j hi hj => ?_, o.top, o.dis⟩
  by_cases e : i = i0 ∧ j = j0
  · obtain ⟨rfl, rfl⟩ := e
    exact ⟨u0, by rw [k.cell (p := ⟨b, i * m + j, none⟩) o.lt (o.top i j hi hj)]; exact hu0, hy⟩
  · obtain ⟨u, hc, hr⟩ := o.cell i j hi hj
    refine ⟨u, by rw [k.cell (p := ⟨b, i * m + j, none⟩) o.lt (o.top i0 j0 hi0 hj0)]; exact hc, ?_⟩
    rw [he i j hi hj e]
    exact (x i j).chg k hr (fun c h1 h2 => o.dis i0 j0 i j hi0 hj0 hi hj (fun q => e ⟨q.1.symm, q.2.symm⟩) c h2 h1)
theorem OwnK.congr {w : World} {n m : Nat} {x y : Nat → Nat → Df} {b : Nat} {Si Mi : Nat → Nat → Nat → Prop} (o : OwnK w n m x b Si Mi) (he : ∀ i j, i < n → j < m → y i j = x i j) : OwnK w n m y b Si Mi :=
  ⟨o.lt, fun i j hi hj => by obtain ⟨u, hc, hr⟩ := o.cell i j hi hj; exact ⟨u, hc, by rw [he i j hi hj]; exact hr⟩, o.top, o.dis⟩
/-- Lists of n items of m cells each. -/
def liF (n m : Nat) (x : Nat → Nat → Df) : Df where
  D := Dt.list n m (fun i j => (x i j).D)
  Own w S M v := (∀ c, M c → S c) ∧ ∃ (c : Option Addr) (cap : Nat), v = .slice c n cap ∧ (n = 0 ∨ ∃ (b : Nat) (Si Mi : Nat → Nat → Nat → Prop), c = some ⟨b, 0, none⟩ ∧ S b ∧ OwnK w n m x b Si Mi ∧ (∀ i j c, i < n → j < m → Si i j c → S c) ∧ (∀ i j c, i < n → j < m → Mi i j c → M c))
  rep := by
    rintro w S M v ⟨_, c, cap, e, h⟩
    refine ⟨c, cap, e, fun i hi => ?_⟩
    rcases h with rfl | ⟨b, Si, Mi, ec, _, o, _⟩
    · omega
    · refine ⟨b, 0, ec, o.lt, fun j hj => ?_⟩
      obtain ⟨u, hc, hr⟩ := o.cell i j hi hj
      exact ⟨u, by rw [Nat.zero_add]; exact hc, (x i j).rep hr⟩
  sub := fun h => h.1
  chg := by
    rintro P w w' S M v k ⟨hs, c, cap, e, h0 | ⟨b, Si, Mi, ec, hb, o, hS, hM⟩⟩ hp
    · exact ⟨hs, c, cap, e, .inl h0⟩
    · exact ⟨hs, c, cap, e, .inr ⟨b, Si, Mi, ec, hb, o.chg k (hp b hb) (fun i j c hi hj hc => hp c (hS i j c hi hj hc)), hS, hM⟩⟩
  wide := by
    rintro w S M S' v ⟨hs, c, cap, e, h0 | ⟨b, Si, Mi, ec, hb, o, hS, hM⟩⟩ h
    · exact ⟨fun c hc => h c (hs c hc), c, cap, e, .inl h0⟩
    · exact ⟨fun c hc => h c (hs c hc), c, cap, e, .inr ⟨b, Si, Mi, ec, h b hb, o, fun i j c hi hj hc => h c (hS i j c hi hj hc), hM⟩⟩
/-- The blocks from lo to hi. -/
def Iv (lo hi c : Nat) : Prop := lo ≤ c ∧ c < hi
theorem ex_of {w : World} {lo hi n : Nat} {f g : Nat → Int} {v : Value} (h : (Dt.exts n f g).Own w lo hi v) : (exF n f g).Own w (Iv lo hi) (Iv lo hi) v := by
  obtain ⟨c, cap, e, h0 | ⟨ho, b, rfl, hb⟩⟩ := h
  · exact ⟨fun _ x => x, c, cap, e, .inl h0⟩
  · rcases ho with h0 | ⟨b', N, hh, e', hB, hr⟩
    · exact ⟨fun _ x => x, _, cap, e, .inl h0⟩
    · cases e'
      exact ⟨fun _ x => x, _, cap, e, .inr ⟨b, rfl, ⟨hB, hb⟩, .inr ⟨b, N, hh, rfl, Nat.le_refl _, hr⟩⟩⟩
theorem tx_of {w : World} {lo hi n : Nat} {L : Nat → ByteArray} {v : Value} (h : (Dt.texts n L).Own w lo hi v) : (txF n L).Own w (Iv lo hi) (Iv lo hi) v := by
  obtain ⟨c, cap, e, h0 | ⟨b, rfl, hb, hb', r⟩⟩ := h
  · exact ⟨fun _ x => x, c, cap, e, .inl h0⟩
  · exact ⟨fun _ x => x, _, cap, e, .inr ⟨b, rfl, ⟨hb, hb'⟩, r⟩⟩
theorem li_of {w : World} {lo hi n m : Nat} {y : Nat → Nat → Dt} {x : Nat → Nat → Df} {v : Value} (h : (Dt.list n m y).Own w lo hi v) (hx : ∀ i j lo hi u, i < n → j < m → (y i j).Own w lo hi u → (x i j).Own w (Iv lo hi) (Iv lo hi) u) : (liF n m x).Own w (Iv lo hi) (Iv lo hi) v := by
  obtain ⟨c, cap, e, h0 | ⟨b, l, hh, ec, o⟩⟩ := h
  · exact ⟨fun _ x => x, c, cap, e, .inl h0⟩
  · refine ⟨fun _ x => x, c, cap, e, .inr ⟨b, fun i j => Iv (l i j) (hh i j), fun i j => Iv (l i j) (hh i j), ec, ⟨o.lob, o.hib⟩, ⟨o.lt, fun i j hi hj => ?_, o.top, fun i j i' j' h1 h2 h3 h4 hne c q1 q2 => ?_⟩, fun i j c h1 h2 q => ?_, fun i j c h1 h2 q => ?_⟩⟩
    · obtain ⟨u, hc, hr⟩ := o.cell i j hi hj
      exact ⟨u, hc, hx i j _ _ u hi hj hr⟩
    · have := o.dis i j i' j' h1 h2 h3 h4 hne
      unfold Iv at q1 q2
      omega
    · have := o.lol i j h1 h2
      have := o.hih i j h1 h2
      unfold Iv at q ⊢
      omega
    · have := o.lol i j h1 h2
      have := o.hih i j h1 h2
      unfold Iv at q ⊢
      omega
def dSSf (n : Nat) (l : Nat → Nat) (T : Nat → Nat → ByteArray) : Df := liF n 1 (fun i _ => txF (l i) (T i))
def dEEf (n : Nat) (l : Nat → Nat) (f g : Nat → Nat → Int) : Df := liF n 1 (fun i _ => exF (l i) (f i) (g i))
def QD.Pf (q : QD) : Df := exF q.np q.f q.g
def QD.Sf (q : QD) : Df := dSSf q.nq q.l q.T
def dQsf (n : Nat) (q : Nat → QD) : Df := liF n 2 (fun i j => if j = 0 then (q i).Pf else (q i).Sf)
theorem dEEf_of {w : World} {lo hi n : Nat} {l : Nat → Nat} {f g : Nat → Nat → Int} {v : Value} (h : (dEE n l f g).Own w lo hi v) : (dEEf n l f g).Own w (Iv lo hi) (Iv lo hi) v := li_of h (fun i j lo hi u _ _ q => ex_of q)
theorem dSSf_of {w : World} {lo hi n : Nat} {l : Nat → Nat} {T : Nat → Nat → ByteArray} {v : Value} (h : (dSS n l T).Own w lo hi v) : (dSSf n l T).Own w (Iv lo hi) (Iv lo hi) v := li_of h (fun i j lo hi u _ _ q => tx_of q)
theorem dQsf_of {w : World} {lo hi n : Nat} {x : Nat → QD} {v : Value} (h : (dQs n x).Own w lo hi v) : (dQsf n x).Own w (Iv lo hi) (Iv lo hi) v := li_of h (fun i j lo hi u _ _ q => by
  by_cases e : j = 0
  · rw [if_pos e] at q ⊢
    exact ex_of q
  · rw [if_neg e] at q ⊢
    exact dSSf_of q)
theorem dQsf_rep {w : World} {S M : Nat → Prop} {n : Nat} {x : Nat → QD} {v : Value} (h : (dQsf n x).Own w S M v) : (dQs n x).Rep w v := by
  obtain ⟨c, cap, e, q⟩ := (dQsf n x).rep h
  refine ⟨c, cap, e, fun i hi => ?_⟩
  obtain ⟨xb, xo, ec, l, hj⟩ := q i hi
  refine ⟨xb, xo, ec, l, fun j hm => ?_⟩
  obtain ⟨u, hc, hr⟩ := hj j hm
  refine ⟨u, hc, ?_⟩
  by_cases e0 : j = 0
  · simp only [e0, if_true] at hr ⊢
    exact hr
  · simp only [e0, if_false] at hr ⊢
    exact hr
theorem markExtS_f (S M : Nat → Prop) (c : Option Addr) (n cap : Nat) (f g : Nat → Int) (q : Nat) (w : World) (h : Hid ((exF n f g).Own w S M (.slice c n cap))) (hn : n ≤ 549755813888) (q1 : q ≤ 549755813888) :
    Calls Tryz.prog 55 #[.slice c n cap, .int .i64 (q : Int)] w fun e w' => e = .returned (.int .i64 ((q + 2 * n : Nat) : Int)) ∧ (exF n (mka (q : Int)) (mkd (q : Int))).Own w' S M (.slice c n cap) ∧ Chg M w w' := by
  obtain ⟨hs, c', cap', e', h0⟩ := h.out
  cases e'
  rcases h0 with rfl | ⟨b, rfl, hb, ho⟩
  · refine (markNone c cap q w).mono ?_
    rintro e w' ⟨rfl, k⟩
    exact ⟨rfl, ⟨hs, _, _, rfl, .inl rfl⟩, k.wide⟩
  · refine (markExtS_own b (some ⟨b, 0, none⟩) n cap f g (q : Int) w (hik ho) (by omega) (by omega) (by omega)).mono ?_
    rintro e w' ⟨rfl, ho', k⟩
    refine ⟨by rw [show (q : Int) + 2 * (n : Int) = ((q + 2 * n : Nat) : Int) by omega], ⟨hs, _, _, rfl, .inr ⟨b, rfl, hb, ho'⟩⟩, k.mono (fun i _ m => ?_)⟩
    obtain ⟨m1, m2, _⟩ := m
    cases m2
    exact hb
theorem markStringS_f (S M : Nat → Prop) (c : Option Addr) (n cap : Nat) (L : Nat → ByteArray) (q : Nat) (w : World) (h : Hid ((txF n L).Own w S M (.slice c n cap))) (q0 : 1 ≤ q) (q1 : q + n ≤ 1099511627775) (hn : n ≤ 549755813888) :
    Calls Tryz.prog 56 #[.slice c n cap, .int .i64 (q : Int)] w fun e w' => e = .returned (.int .i64 ((q + n : Nat) : Int)) ∧ (txF n (mvq q)).Own w' S M (.slice c n cap) ∧ Chg M w w' := by
  obtain ⟨hs, c', cap', e', h0⟩ := h.out
  cases e'
  rcases h0 with rfl | ⟨b, rfl, hb, hw⟩
  · refine (markTextNone c cap q w).mono ?_
    rintro e w' ⟨rfl, k⟩
    exact ⟨rfl, ⟨hs, _, _, rfl, .inl rfl⟩, k.wide⟩
  · refine (markText_row b n cap (sb L) q w (hik hw) hn q0 q1).mono ?_
    rintro e w' ⟨rfl, hw', k⟩
    exact ⟨rfl, ⟨hs, _, _, rfl, .inr ⟨b, rfl, hb, hw'⟩⟩, k.mono (fun i _ e => by rw [e]; exact hb)⟩
/-- The blocks that the marks of a list change. -/
def InK (n m : Nat) (Mi : Nat → Nat → Nat → Prop) (y : Nat) : Prop := ∃ i j, i < n ∧ j < m ∧ Mi i j y
def mEEf (n : Nat) (l : Nat → Nat) (q : Nat) : Df := dEEf n l (fun i => mka ((q + 2 * sumN l i : Nat) : Int)) (fun i => mkd ((q + 2 * sumN l i : Nat) : Int))
def mSSf (n : Nat) (l : Nat → Nat) (q : Nat) : Df := dSSf n l (fun i => mvq (q + 1 * sumN l i))
set_option maxHeartbeats 2000000 in
theorem markExtSS_k (b n cap : Nat) (l : Nat → Nat) (f g : Nat → Nat → Int) (Si Mi : Nat → Nat → Nat → Prop) (q : Nat) (w : World) (h : Hid (OwnK w n 1 (fun i j => (exF (l i) (f i) (g i))) b Si Mi)) (hn : n ≤ 1048576) (q0 : 1 ≤ q) (q1 : q + 2 * sumN l n ≤ 549755813888) :
    Calls Tryz.prog 29 #[.slice (some ⟨b, 0, none⟩) n cap, .int .i64 (q : Int)] w fun e w' => e = .returned (.int .i64 ((q + 2 * sumN l n : Nat) : Int)) ∧ OwnK w' n 1 (fun i j => (exF (l i) (mka ((q + 2 * sumN l i : Nat) : Int)) (mkd ((q + 2 * sumN l i : Nat) : Int)))) b Si Mi ∧ Chg (InK n 1 Mi) w w' := by
  have HB := hik h.out.lt
  have HO0 := h
  clear h
  go_enter Tryz.func29, Tryz.ntmps29
  go_wp2
  go_loopw [1, 5] (fun v i W => ∃ k m : Nat, k ≤ n ∧ i = .int .i64 (k : Int) ∧ v = .int .i64 (m : Int) ∧ Hid (m = q + 2 * sumN l k) ∧ Hid (OwnK W n 1 (fun i j => if i < k then (exF (l i) (mka ((q + 2 * sumN l i : Nat) : Int)) (mkd ((q + 2 * sumN l i : Nat) : Int))) else (exF (l i) (f i) (g i))) b Si Mi) ∧ Hid (Chg (InK n 1 Mi) w W)) (fun _ i _ => n - (intOf i).toNat)
  case atStart => exact ⟨0, q, Nat.zero_le _, rfl, rfl, hik (by simp [sumN]), hik (HO0.out.congr (y := fun i j => if i < 0 then (exF (l i) (mka ((q + 2 * sumN l i : Nat) : Int)) (mkd ((q + 2 * sumN l i : Nat) : Int))) else (exF (l i) (f i) (g i))) (fun i j _ _ => if_neg (by omega))), hik (Chg.refl _ _)⟩
  case round =>
    clear HO0
    obtain ⟨k, m, hk, rfl, rfl, HM, HO, HG⟩ := hrel
    rename World => wi
    by_cases hlt : k < n
    · have hk1 : (k : Int) < (n : Int) := by omega
      have hk0 : (0 : Int) ≤ (k : Int) := by omega
      obtain ⟨u, hc, hr⟩ := HO.out.cell k 0 hlt (by omega)
      have hr' : ((exF (l k) (f k) (g k))).Own wi (Si k 0) (Mi k 0) u := by simpa using hr
      have hr0 := hr'
      obtain ⟨_, c1, p1, rfl, _⟩ := hr'
      have RK := hik hr0
      have HCC := hik hc
      rw [Nat.mul_one, Nat.add_zero] at hc
      have hbl := HO.out.lt
      have hlk : sumN l k + l k ≤ sumN l n := sumN_le l (i := k + 1) (by omega)
      have hm0 : 1 ≤ m := by have := HM.out; omega
      have hm1 : m + 2 * l k ≤ 549755813888 := by have := HM.out; omega
      clear hr hr0
      go_wp2_with fail
      refine (markExtS_f (Si k 0) (Mi k 0) c1 (l k) p1 (f k) (g k) m _ RK (by omega) (by omega)).mono ?_
      rintro e W1 ⟨rfl, o1, k1⟩
      have HO2 := hik (OwnK.step HO.out (y := fun i j => if i < k + 1 then (exF (l i) (mka ((q + 2 * sumN l i : Nat) : Int)) (mkd ((q + 2 * sumN l i : Nat) : Int))) else (exF (l i) (f i) (g i))) hlt (by omega) HCC.out k1 (by
        show (if k < k + 1 then _ else _ : Df).Own _ _ _ _
        rw [if_pos (by omega), ← HM.out]
        exact o1) (fun i j hi' hj hne => by
        have e9 : i ≠ k := fun e => hne ⟨e, by omega⟩
        show (if i < k + 1 then (exF (l i) (mka ((q + 2 * sumN l i : Nat) : Int)) (mkd ((q + 2 * sumN l i : Nat) : Int))) else (exF (l i) (f i) (g i)) : Df) = if i < k then (exF (l i) (mka ((q + 2 * sumN l i : Nat) : Int)) (mkd ((q + 2 * sumN l i : Nat) : Int))) else (exF (l i) (f i) (g i))
        by_cases e2 : i < k
        · rw [if_pos e2, if_pos (by omega)]
        · rw [if_neg e2, if_neg (by omega)]))
      have HG2 := hik (HG.out.trans (k1.mono (Q := InK n 1 Mi) (fun y _ e => ⟨k, 0, hlt, by omega, e⟩)))
      have HM2 := hik (show m + 2 * l k = q + 2 * sumN l (k + 1) by rw [HM.out]; simp only [sumN]; omega)
      clear o1 k1 hc RK HCC
      generalize m + 2 * l k = m2 at HM2 hm1 ⊢
      go_wp2
      go_roundw
      case rel => exact ⟨k + 1, m2, by omega, by go_num, rfl, HM2, HO2, HG2⟩
      case measure => simp [intOf]; omega
    · obtain rfl : n = k := by omega
      have hcc : ¬ (n : Int) < (n : Int) := by omega
      go_wp2
      go_ret
      have HOZ := HO.out.congr (y := fun i _ => (exF (l i) (mka ((q + 2 * sumN l i : Nat) : Int)) (mkd ((q + 2 * sumN l i : Nat) : Int)))) (fun i j hi' _ => (if_pos hi').symm)
      exact ⟨ret_i (by have := HM.out; omega), (by first | exact HOZ | simpa using HOZ), HG.out⟩
set_option maxHeartbeats 2000000 in
theorem markExtSS_f (S M : Nat → Prop) (c : Option Addr) (n cap : Nat) (l : Nat → Nat) (f g : Nat → Nat → Int) (q : Nat) (w : World) (h : Hid ((dEEf n l f g).Own w S M (.slice c n cap))) (hn : n ≤ 1048576) (q0 : 1 ≤ q) (q1 : q + 2 * sumN l n ≤ 549755813888) :
    Calls Tryz.prog 29 #[.slice c n cap, .int .i64 (q : Int)] w fun e w' => e = .returned (.int .i64 ((q + 2 * sumN l n : Nat) : Int)) ∧ (mEEf n l q).Own w' S M (.slice c n cap) ∧ Chg M w w' := by
  obtain ⟨hs, c', cap', e', h0⟩ := h.out
  cases e'
  rcases h0 with rfl | ⟨b, Si, Mi, rfl, hSb, ho, hS, hM⟩
  · clear h
    go_enter Tryz.func29, Tryz.ntmps29
    go_wp2
    go_loopw [1, 5] (fun v i W => i = .int .i64 0 ∧ v = .int .i64 (q : Int) ∧ Hid (Chg nob w W)) (fun _ _ _ => 0)
    case atStart => exact ⟨rfl, rfl, hik (Chg.refl _ _)⟩
    case round =>
      obtain ⟨rfl, rfl, HC⟩ := hrel
      go_wp2
      go_ret
      exact ⟨by simp [sumN], ⟨hs, _, _, rfl, .inl rfl⟩, HC.out.wide⟩
  · refine (markExtSS_k b n cap l f g Si Mi q w (hik ho) hn q0 q1).mono ?_
    rintro e w' ⟨rfl, o', k⟩
    exact ⟨rfl, ⟨hs, _, _, rfl, .inr ⟨b, Si, Mi, rfl, hSb, o', hS, hM⟩⟩, k.mono (fun y _ e => by obtain ⟨i, j, hi, hj, h⟩ := e; exact hM i j y hi hj h)⟩
set_option maxHeartbeats 2000000 in
theorem markStringSS_k (b n cap : Nat) (l : Nat → Nat) (T : Nat → Nat → ByteArray) (Si Mi : Nat → Nat → Nat → Prop) (q : Nat) (w : World) (h : Hid (OwnK w n 1 (fun i j => (txF (l i) (T i))) b Si Mi)) (hn : n ≤ 1048576) (q0 : 1 ≤ q) (q1 : q + 1 * sumN l n ≤ 549755813888) :
    Calls Tryz.prog 84 #[.slice (some ⟨b, 0, none⟩) n cap, .int .i64 (q : Int)] w fun e w' => e = .returned (.int .i64 ((q + 1 * sumN l n : Nat) : Int)) ∧ OwnK w' n 1 (fun i j => (txF (l i) (mvq (q + 1 * sumN l i)))) b Si Mi ∧ Chg (InK n 1 Mi) w w' := by
  have HB := hik h.out.lt
  have HO0 := h
  clear h
  go_enter Tryz.func84, Tryz.ntmps84
  go_wp2
  go_loopw [1, 5] (fun v i W => ∃ k m : Nat, k ≤ n ∧ i = .int .i64 (k : Int) ∧ v = .int .i64 (m : Int) ∧ Hid (m = q + 1 * sumN l k) ∧ Hid (OwnK W n 1 (fun i j => if i < k then (txF (l i) (mvq (q + 1 * sumN l i))) else (txF (l i) (T i))) b Si Mi) ∧ Hid (Chg (InK n 1 Mi) w W)) (fun _ i _ => n - (intOf i).toNat)
  case atStart => exact ⟨0, q, Nat.zero_le _, rfl, rfl, hik (by simp [sumN]), hik (HO0.out.congr (y := fun i j => if i < 0 then (txF (l i) (mvq (q + 1 * sumN l i))) else (txF (l i) (T i))) (fun i j _ _ => if_neg (by omega))), hik (Chg.refl _ _)⟩
  case round =>
    clear HO0
    obtain ⟨k, m, hk, rfl, rfl, HM, HO, HG⟩ := hrel
    rename World => wi
    by_cases hlt : k < n
    · have hk1 : (k : Int) < (n : Int) := by omega
      have hk0 : (0 : Int) ≤ (k : Int) := by omega
      obtain ⟨u, hc, hr⟩ := HO.out.cell k 0 hlt (by omega)
      have hr' : ((txF (l k) (T k))).Own wi (Si k 0) (Mi k 0) u := by simpa using hr
      have hr0 := hr'
      obtain ⟨_, c1, p1, rfl, _⟩ := hr'
      have RK := hik hr0
      have HCC := hik hc
      rw [Nat.mul_one, Nat.add_zero] at hc
      have hbl := HO.out.lt
      have hlk : sumN l k + l k ≤ sumN l n := sumN_le l (i := k + 1) (by omega)
      have hm0 : 1 ≤ m := by have := HM.out; omega
      have hm1 : m + l k ≤ 549755813888 := by have := HM.out; omega
      clear hr hr0
      go_wp2_with fail
      refine (markStringS_f (Si k 0) (Mi k 0) c1 (l k) p1 (T k) m _ RK hm0 (by omega) (by omega)).mono ?_
      rintro e W1 ⟨rfl, o1, k1⟩
      have HO2 := hik (OwnK.step HO.out (y := fun i j => if i < k + 1 then (txF (l i) (mvq (q + 1 * sumN l i))) else (txF (l i) (T i))) hlt (by omega) HCC.out k1 (by
        show (if k < k + 1 then _ else _ : Df).Own _ _ _ _
        rw [if_pos (by omega), ← HM.out]
        exact o1) (fun i j hi' hj hne => by
        have e9 : i ≠ k := fun e => hne ⟨e, by omega⟩
        show (if i < k + 1 then (txF (l i) (mvq (q + 1 * sumN l i))) else (txF (l i) (T i)) : Df) = if i < k then (txF (l i) (mvq (q + 1 * sumN l i))) else (txF (l i) (T i))
        by_cases e2 : i < k
        · rw [if_pos e2, if_pos (by omega)]
        · rw [if_neg e2, if_neg (by omega)]))
      have HG2 := hik (HG.out.trans (k1.mono (Q := InK n 1 Mi) (fun y _ e => ⟨k, 0, hlt, by omega, e⟩)))
      have HM2 := hik (show m + l k = q + 1 * sumN l (k + 1) by rw [HM.out]; simp only [sumN]; omega)
      clear o1 k1 hc RK HCC
      generalize m + l k = m2 at HM2 hm1 ⊢
      go_wp2
      go_roundw
      case rel => exact ⟨k + 1, m2, by omega, by go_num, rfl, HM2, HO2, HG2⟩
      case measure => simp [intOf]; omega
    · obtain rfl : n = k := by omega
      have hcc : ¬ (n : Int) < (n : Int) := by omega
      go_wp2
      go_ret
      have HOZ := HO.out.congr (y := fun i _ => (txF (l i) (mvq (q + 1 * sumN l i)))) (fun i j hi' _ => (if_pos hi').symm)
      exact ⟨ret_i (by have := HM.out; omega), (by first | exact HOZ | simpa using HOZ), HG.out⟩
set_option maxHeartbeats 2000000 in
theorem markStringSS_f (S M : Nat → Prop) (c : Option Addr) (n cap : Nat) (l : Nat → Nat) (T : Nat → Nat → ByteArray) (q : Nat) (w : World) (h : Hid ((dSSf n l T).Own w S M (.slice c n cap))) (hn : n ≤ 1048576) (q0 : 1 ≤ q) (q1 : q + 1 * sumN l n ≤ 549755813888) :
    Calls Tryz.prog 84 #[.slice c n cap, .int .i64 (q : Int)] w fun e w' => e = .returned (.int .i64 ((q + 1 * sumN l n : Nat) : Int)) ∧ (mSSf n l q).Own w' S M (.slice c n cap) ∧ Chg M w w' := by
  obtain ⟨hs, c', cap', e', h0⟩ := h.out
  cases e'
  rcases h0 with rfl | ⟨b, Si, Mi, rfl, hSb, ho, hS, hM⟩
  · clear h
    go_enter Tryz.func84, Tryz.ntmps84
    go_wp2
    go_loopw [1, 5] (fun v i W => i = .int .i64 0 ∧ v = .int .i64 (q : Int) ∧ Hid (Chg nob w W)) (fun _ _ _ => 0)
    case atStart => exact ⟨rfl, rfl, hik (Chg.refl _ _)⟩
    case round =>
      obtain ⟨rfl, rfl, HC⟩ := hrel
      go_wp2
      go_ret
      exact ⟨by simp [sumN], ⟨hs, _, _, rfl, .inl rfl⟩, HC.out.wide⟩
  · refine (markStringSS_k b n cap l T Si Mi q w (hik ho) hn q0 q1).mono ?_
    rintro e w' ⟨rfl, o', k⟩
    exact ⟨rfl, ⟨hs, _, _, rfl, .inr ⟨b, Si, Mi, rfl, hSb, o', hS, hM⟩⟩, k.mono (fun y _ e => by obtain ⟨i, j, hi, hj, h⟩ := e; exact hM i j y hi hj h)⟩
def mQsf (n : Nat) (x : Nat → QD) (q : Nat) : Df := dQsf n (fun i => (x i).mk9 (q + sumN (fun i => (x i).mc) i))
/-- Cells of queries, the first ones marked. -/
def qxf (x : Nat → QD) (q k p : Nat) (i j : Nat) : Df :=
  if i < k ∨ (i = k ∧ j < p) then (if j = 0 then ((x i).mk9 (q + sumN (fun i => (x i).mc) i)).Pf else ((x i).mk9 (q + sumN (fun i => (x i).mc) i)).Sf) else (if j = 0 then (x i).Pf else (x i).Sf)
theorem qxf_new {x : Nat → QD} {q k p i j : Nat} (h : i < k ∨ (i = k ∧ j < p)) : qxf x q k p i j = (if j = 0 then ((x i).mk9 (q + sumN (fun i => (x i).mc) i)).Pf else ((x i).mk9 (q + sumN (fun i => (x i).mc) i)).Sf) := if_pos h
theorem qxf_old {x : Nat → QD} {q k p i j : Nat} (h : ¬ (i < k ∨ (i = k ∧ j < p))) : qxf x q k p i j = (if j = 0 then (x i).Pf else (x i).Sf) := if_neg h
theorem qxf_ne {x : Nat → QD} {q k p k' p' i j : Nat} (h : (i < k ∨ (i = k ∧ j < p)) ↔ (i < k' ∨ (i = k' ∧ j < p'))) : qxf x q k p i j = qxf x q k' p' i j := by
  by_cases e : i < k ∨ (i = k ∧ j < p)
  · rw [qxf_new e, qxf_new (h.1 e)]
  · rw [qxf_old e, qxf_old (fun y => e (h.2 y))]

set_option maxHeartbeats 2000000 in
theorem markQueryS_k (b n cap : Nat) (x : Nat → QD) (Si Mi : Nat → Nat → Nat → Prop) (q : Nat) (w : World) (h : Hid (OwnK w n 2 (fun i j => if j = 0 then (x i).Pf else (x i).Sf) b Si Mi)) (hn : n ≤ 1048576) (hq : Hid (∀ i, i < n → (x i).np ≤ 1048576 ∧ (x i).nq ≤ 1048576)) (q0 : 1 ≤ q) (q1 : q + sumN (fun i => (x i).mc) n ≤ 549755813888) :
    Calls Tryz.prog 57 #[.slice (some ⟨b, 0, none⟩) n cap, .int .i64 (q : Int)] w fun e w' => e = .returned (.int .i64 ((q + sumN (fun i => (x i).mc) n : Nat) : Int)) ∧ OwnK w' n 2 (fun i j => if j = 0 then ((x i).mk9 (q + sumN (fun i => (x i).mc) i)).Pf else ((x i).mk9 (q + sumN (fun i => (x i).mc) i)).Sf) b Si Mi ∧ Chg (InK n 2 Mi) w w' := by
  have HO0 := hik (show OwnK w n 2 (fun i j => qxf x q 0 0 i j) b Si Mi from h.out.congr (fun i j _ _ => qxf_old (by omega)))
  clear h
  go_enter Tryz.func57, Tryz.ntmps57
  go_wp2
  go_loopw [1, 5] (fun v i W => ∃ k m : Nat, k ≤ n ∧ i = .int .i64 (k : Int) ∧ v = .int .i64 (m : Int) ∧ Hid (m = q + sumN (fun i => (x i).mc) k) ∧ Hid (OwnK W n 2 (fun i j => qxf x q k 0 i j) b Si Mi) ∧ Hid (Chg (InK n 2 Mi) w W)) (fun _ i _ => n - (intOf i).toNat)
  case atStart => exact ⟨0, q, Nat.zero_le _, rfl, rfl, hik (by simp [sumN]), HO0, hik (Chg.refl _ _)⟩
  case round =>
    clear HO0
    obtain ⟨k, m, hk, rfl, rfl, HM, HO, HG⟩ := hrel
    rename World => wi
    by_cases hlt : k < n
    · have hk1 : (k : Int) < (n : Int) := by omega
      have hk0 : (0 : Int) ≤ (k : Int) := by omega
      have hmc : sumN (fun i => (x i).mc) k + (x k).mc ≤ sumN (fun i => (x i).mc) n := sumN_le (fun i => (x i).mc) (i := k + 1) (by omega)
      have hmd : (x k).mc = 2 * (x k).np + 1 * sumN (x k).l (x k).nq := rfl
      have hm0 : 1 ≤ m := by have := HM.out; omega
      have hm1 : m + 2 * (x k).np + 1 * sumN (x k).l (x k).nq ≤ 549755813888 := by have := HM.out; omega
      have hqk := hq.out k hlt
      obtain ⟨u, hc, hr⟩ := HO.out.cell k 0 hlt (by omega)
      have hr' : (x k).Pf.Own wi (Si k 0) (Mi k 0) u := by rw [qxf_old (by omega)] at hr; exact hr
      have hr0 := hr'
      obtain ⟨_, c1, p1, rfl, _⟩ := hr'
      have RK := hik hr0
      have HCC := hik hc
      rw [Nat.add_zero] at hc
      have hbl := HO.out.lt
      clear hr hr0 hmc hmd
      go_wp2_with fail
      refine (markExtS_f (Si k 0) (Mi k 0) c1 (x k).np p1 (x k).f (x k).g m _ RK (by omega) (by omega)).mono ?_
      rintro e W1 ⟨rfl, o1, k1⟩
      have HO2 := hik (OwnK.step HO.out (y := qxf x q k 1) hlt (by omega) HCC.out k1 (by
        show (qxf x q k 1 k 0).Own _ _ _ _
        rw [qxf_new (by omega), ← HM.out]
        exact o1) (fun i j hi' hj hne => qxf_ne (by omega)))
      have HG2 := hik (HG.out.trans (k1.mono (Q := InK n 2 Mi) (fun y _ e => ⟨k, 0, hlt, by omega, e⟩)))
      clear o1 k1 hc RK HCC
      have HM1 := hik (show m + 2 * (x k).np = q + sumN (fun i => (x i).mc) k + 2 * (x k).np by rw [HM.out])
      generalize m + 2 * (x k).np = m1 at HM1 hm1 ⊢
      have hm2 : 1 ≤ m1 := by have := HM1.out; omega
      obtain ⟨u, hc, hr⟩ := HO2.out.cell k 1 hlt (by omega)
      have hr' : (x k).Sf.Own W1 (Si k 1) (Mi k 1) u := by rw [qxf_old (by omega)] at hr; exact hr
      have hr0 := hr'
      obtain ⟨_, c2, p2, rfl, _⟩ := hr'
      have RK := hik hr0
      have HCC := hik hc
      have hbl2 := HO2.out.lt
      clear hr hr0
      go_wp2_with fail
      refine (markStringSS_f (Si k 1) (Mi k 1) c2 (x k).nq p2 (x k).l (x k).T m1 _ RK (by omega) (by omega) (by omega)).mono ?_
      rintro e W2 ⟨rfl, o2, k2⟩
      have HO3 := hik (OwnK.step HO2.out (y := qxf x q (k + 1) 0) hlt (by omega) HCC.out k2 (by
        show (qxf x q (k + 1) 0 k 1).Own _ _ _ _
        rw [qxf_new (by omega)]
        rw [HM1.out] at o2
        exact o2) (fun i j hi' hj hne => qxf_ne (by omega)))
      have HG3 := hik (HG2.out.trans (k2.mono (Q := InK n 2 Mi) (fun y _ e => ⟨k, 1, hlt, by omega, e⟩)))
      have HM2 := hik (show m1 + 1 * sumN (x k).l (x k).nq = q + sumN (fun i => (x i).mc) (k + 1) by rw [HM1.out]; simp only [sumN, QD.mc]; omega)
      clear o2 k2 hc RK HCC
      generalize m1 + 1 * sumN (x k).l (x k).nq = m2 at HM2 hm1 ⊢
      go_wp2
      go_roundw
      case rel => exact ⟨k + 1, m2, by omega, by go_num, rfl, HM2, HO3, HG3⟩
      case measure => simp [intOf]; omega
    · obtain rfl : n = k := by omega
      have hcc : ¬ (n : Int) < (n : Int) := by omega
      go_wp2
      go_ret
      exact ⟨ret_i (by have := HM.out; omega), HO.out.congr (fun i j hi' _ => (qxf_new (.inl hi')).symm), HG.out⟩
set_option maxHeartbeats 2000000 in
theorem markQueryS_f (S M : Nat → Prop) (c : Option Addr) (n cap : Nat) (x : Nat → QD) (q : Nat) (w : World) (h : Hid ((dQsf n x).Own w S M (.slice c n cap))) (hn : n ≤ 1048576) (hq : Hid (∀ i, i < n → (x i).np ≤ 1048576 ∧ (x i).nq ≤ 1048576)) (q0 : 1 ≤ q) (q1 : q + sumN (fun i => (x i).mc) n ≤ 549755813888) :
    Calls Tryz.prog 57 #[.slice c n cap, .int .i64 (q : Int)] w fun e w' => e = .returned (.int .i64 ((q + sumN (fun i => (x i).mc) n : Nat) : Int)) ∧ (mQsf n x q).Own w' S M (.slice c n cap) ∧ Chg M w w' := by
  obtain ⟨hs, c', cap', e', h0⟩ := h.out
  cases e'
  rcases h0 with rfl | ⟨b, Si, Mi, rfl, hSb, ho, hS, hM⟩
  · clear h
    go_enter Tryz.func57, Tryz.ntmps57
    go_wp2
    go_loopw [1, 5] (fun v i W => i = .int .i64 0 ∧ v = .int .i64 (q : Int) ∧ Hid (Chg nob w W)) (fun _ _ _ => 0)
    case atStart => exact ⟨rfl, rfl, hik (Chg.refl _ _)⟩
    case round =>
      obtain ⟨rfl, rfl, HC⟩ := hrel
      go_wp2
      go_ret
      exact ⟨by simp [sumN], ⟨hs, _, _, rfl, .inl rfl⟩, HC.out.wide⟩
  · refine (markQueryS_k b n cap x Si Mi q w (hik ho) hn hq q0 q1).mono ?_
    rintro e w' ⟨rfl, o', k⟩
    exact ⟨rfl, ⟨hs, _, _, rfl, .inr ⟨b, Si, Mi, rfl, hSb, o', hS, hM⟩⟩, k.mono (fun y _ e => by obtain ⟨i, j, hi, hj, h⟩ := e; exact hM i j y hi hj h)⟩
/-- An opening of a call's own, in blocks of S. -/
def OpF (w : World) (S : Nat → Prop) (o : OD) (cR : Option Addr) (pR : Nat) (cT : Option Addr) (pT : Nat) (cQ : Option Addr) (pQ : Nat) : Prop :=
  ∃ SR MR ST MT SQ MQ : Nat → Prop, (dEEf o.nr o.rl o.rf o.rg).Own w SR MR (.slice cR o.nr pR) ∧ (txF o.nt o.ts).Own w ST MT (.slice cT o.nt pT) ∧ (dQsf o.nq o.q).Own w SQ MQ (.slice cQ o.nq pQ) ∧ (∀ c, SR c ∨ ST c ∨ SQ c → S c) ∧ (∀ c, MR c → ¬ ST c ∧ ¬ SQ c) ∧ (∀ c, MT c → ¬ SR c ∧ ¬ SQ c) ∧ (∀ c, MQ c → ¬ SR c ∧ ¬ ST c)
theorem OpF.chg {P : Nat → Prop} {w w' : World} {S : Nat → Prop} {o : OD} {cR : Option Addr} {pR : Nat} {cT : Option Addr} {pT : Nat} {cQ : Option Addr} {pQ : Nat} (h : OpF w S o cR pR cT pT cQ pQ) (k : Chg P w w') (hp : ∀ c, S c → ¬ P c) : OpF w' S o cR pR cT pT cQ pQ := by
  obtain ⟨SR, MR, ST, MT, SQ, MQ, oR, oT, oQ, hs, q⟩ := h
  exact ⟨SR, MR, ST, MT, SQ, MQ, (dEEf o.nr o.rl o.rf o.rg).chg k oR (fun c hc => hp c (hs c (.inl hc))), (txF o.nt o.ts).chg k oT (fun c hc => hp c (hs c (.inr (.inl hc)))), (dQsf o.nq o.q).chg k oQ (fun c hc => hp c (hs c (.inr (.inr hc)))), hs, q⟩
theorem OpF.keep {w w' : World} {S : Nat → Prop} {o : OD} {cR : Option Addr} {pR : Nat} {cT : Option Addr} {pT : Nat} {cQ : Option Addr} {pQ : Nat} (h : OpF w S o cR pR cT pT cQ pQ) (k : Chg nob w w') : OpF w' S o cR pR cT pT cQ pQ := h.chg k (fun _ _ x => x)
theorem OpF.rep {w : World} {S : Nat → Prop} {o : OD} {cR : Option Addr} {pR : Nat} {cT : Option Addr} {pT : Nat} {cQ : Option Addr} {pQ : Nat} (h : OpF w S o cR pR cT pT cQ pQ) : OpV w o cR pR cT pT cQ pQ := by
  obtain ⟨SR, MR, ST, MT, SQ, MQ, oR, oT, oQ, _⟩ := h
  exact ⟨(dEEf o.nr o.rl o.rf o.rg).rep oR, (txF o.nt o.ts).rep oT, dQsf_rep oQ⟩
theorem OpF.wide {w : World} {S S' : Nat → Prop} {o : OD} {cR : Option Addr} {pR : Nat} {cT : Option Addr} {pT : Nat} {cQ : Option Addr} {pQ : Nat} (h : OpF w S o cR pR cT pT cQ pQ) (hs : ∀ c, S c → S' c) : OpF w S' o cR pR cT pT cQ pQ := by
  obtain ⟨SR, MR, ST, MT, SQ, MQ, oR, oT, oQ, h1, q⟩ := h
  exact ⟨SR, MR, ST, MT, SQ, MQ, oR, oT, oQ, fun c hc => hs c (h1 c hc), q⟩
theorem OpF.of {w : World} {lo m1 m2 hi : Nat} {o : OD} {cR : Option Addr} {pR : Nat} {cT : Option Addr} {pT : Nat} {cQ : Option Addr} {pQ : Nat} (h : OpO w lo m1 m2 hi o cR pR cT pT cQ pQ) : OpF w (Iv lo hi) o cR pR cT pT cQ pQ := by
  obtain ⟨h1, h2, h3, oR, oS, oQ⟩ := h
  refine ⟨Iv lo m1, Iv lo m1, Iv m1 m2, Iv m1 m2, Iv m2 hi, Iv m2 hi, dEEf_of oR, tx_of oS, dQsf_of oQ, fun c hc => ?_, fun c hc => ⟨fun q => ?_, fun q => ?_⟩, fun c hc => ⟨fun q => ?_, fun q => ?_⟩, fun c hc => ⟨fun q => ?_, fun q => ?_⟩⟩ <;> unfold Iv at * <;> omega
set_option maxHeartbeats 2000000 in
theorem markOpening_f (S : Nat → Prop) (o : OD) (cR : Option Addr) (pR : Nat) (cT : Option Addr) (pT : Nat) (cQ : Option Addr) (pQ : Nat) (q : Nat) (w : World) (h : Hid (OpF w S o cR pR cT pT cQ pQ)) (hs : Hid o.small) (hw : ∀ c, S c → c < w.heap.size) (q0 : 1 ≤ q) (q1 : q + o.mc ≤ 549755813888) :
    Calls Tryz.prog 30 #[.agg #[.slice cR o.nr pR, .slice cT o.nt pT, .int .i64 o.la, .int .i64 o.lb, .int .i64 o.no, .slice cQ o.nq pQ], .int .i64 (q : Int)] w fun e w' => e = .returned (.int .i64 ((q + o.mc : Nat) : Int)) ∧ OpF w' S (o.mk9 q) cR pR cT pT cQ pQ ∧ Chg S w w' := by
  have hnr : o.nr ≤ 1048576 := hs.out.1.1
  have hnt : o.nt ≤ 1048576 := hs.out.2.1.1
  have hnq : o.nq ≤ 1048576 := hs.out.2.2.1
  have hmd : o.mc = 2 * sumN o.rl o.nr + o.nt + sumN (fun i => (o.q i).mc) o.nq := rfl
  have HQN := hik (show ∀ i, i < o.nq → (o.q i).np ≤ 1048576 ∧ (o.q i).nq ≤ 1048576 from fun i hi => ⟨hs.out.2.2.2 i 0 hi (by omega), (show (o.q i).S.small 1048576 from hs.out.2.2.2 i 1 hi (by omega)).1⟩)
  obtain ⟨SR, MR, ST, MT, SQ, MQ, oR, oT, oQ, hsub, hr, ht, hq⟩ := h.out
  have HSU := hik hsub
  have HW := hik (show ¬ S w.heap.size from fun x => absurd (hw _ x) (by omega))
  have MRS := hik (fun c hc => hsub c (.inl ((dEEf o.nr o.rl o.rf o.rg).sub oR c hc)))
  have MTS := hik (fun c hc => hsub c (.inr (.inl ((txF o.nt o.ts).sub oT c hc))))
  have MQS := hik (fun c hc => hsub c (.inr (.inr ((dQsf o.nq o.q).sub oQ c hc))))
  have HR := hik hr
  have HT := hik ht
  have HQ := hik hq
  have KA := hik ((Chg.refl S w).alloc (.cells #[.slice cR o.nr pR, .slice cT o.nt pT, .int .i64 o.la, .int .i64 o.lb, .int .i64 o.no, .slice cQ o.nq pQ] 35))
  have KN := hik ((Chg.refl nob w).alloc (.cells #[.slice cR o.nr pR, .slice cT o.nt pT, .int .i64 o.la, .int .i64 o.lb, .int .i64 o.no, .slice cQ o.nq pQ] 35))
  have RA := hik (rowN_new w 6 #[.slice cR o.nr pR, .slice cT o.nt pT, .int .i64 o.la, .int .i64 o.lb, .int .i64 o.no, .slice cQ o.nq pQ] 35 rfl)
  have OR := hik (Df.keep oR KN.out)
  have OS := hik (Df.keep oT KN.out)
  have OQ := hik (Df.keep oQ KN.out)
  clear oR oT oQ h hsub hr ht hq hw
  go_enter Tryz.func30, Tryz.ntmps30
  go_wp2_with fail
  generalize hW : w.alloc (.cells #[.slice cR o.nr pR, .slice cT o.nt pT, .int .i64 o.la, .int .i64 o.lb, .int .i64 o.no, .slice cQ o.nq pQ] 35) = W0 at RA KA OR OS OQ ⊢
  clear hW KN
  refine (markExtSS_f SR MR cR o.nr pR o.rl o.rf o.rg q _ OR hnr q0 (by omega)).mono ?_
  rintro e W1 ⟨rfl, o1, k1⟩
  replace RA := hik (rowIs_chg RA.out k1 (fun e => HW.out (MRS.out _ e)))
  replace OS := hik ((txF o.nt o.ts).chg k1 OS.out (fun c h1 h2 => (HR.out c h2).1 h1))
  replace OQ := hik ((dQsf o.nq o.q).chg k1 OQ.out (fun c h1 h2 => (HR.out c h2).2 h1))
  replace KA := hik (KA.out.trans (k1.mono (Q := S) (fun y _ e => MRS.out y e)))
  have O1 := hik o1
  have HM1 := hik (show q + 2 * sumN o.rl o.nr = q + 2 * sumN o.rl o.nr from rfl)
  clear o1 k1 OR
  generalize hn1 : q + 2 * sumN o.rl o.nr = n1 at HM1 ⊢
  have hn1' : 1 ≤ n1 := by omega
  have x1 : _ = some (.slice cT o.nt pT : Value) := RA.out.cell (i := 1) (by omega)
  have raz := RA.out.lt
  go_wp2_with fail
  refine (markStringS_f ST MT cT o.nt pT o.ts n1 _ OS hn1' (by omega) (by omega)).mono ?_
  rintro e W2 ⟨rfl, o2, k2⟩
  replace RA := hik (rowIs_chg RA.out k2 (fun e => HW.out (MTS.out _ e)))
  replace O1 := hik ((mEEf o.nr o.rl q).chg k2 O1.out (fun c h1 h2 => (HT.out c h2).1 h1))
  replace OQ := hik ((dQsf o.nq o.q).chg k2 OQ.out (fun c h1 h2 => (HT.out c h2).2 h1))
  replace KA := hik (KA.out.trans (k2.mono (Q := S) (fun y _ e => MTS.out y e)))
  have O2 := hik o2
  clear o2 k2 OS x1 raz
  generalize hn2 : n1 + o.nt = n2
  have hn2' : 1 ≤ n2 := by omega
  have x5 : _ = some (.slice cQ o.nq pQ : Value) := RA.out.cell (i := 5) (by omega)
  have raz := RA.out.lt
  go_wp2_with fail
  refine (markQueryS_f SQ MQ cQ o.nq pQ o.q n2 _ OQ hnq HQN hn2' (by omega)).mono ?_
  rintro e W3 ⟨rfl, o3, k3⟩
  replace O1 := hik ((mEEf o.nr o.rl q).chg k3 O1.out (fun c h1 h2 => (HQ.out c h2).1 h1))
  replace O2 := hik ((txF o.nt (mvq n1)).chg k3 O2.out (fun c h1 h2 => (HQ.out c h2).2 h1))
  replace KA := hik (KA.out.trans (k3.mono (Q := S) (fun y _ e => MQS.out y e)))
  have O3 := hik o3
  clear o3 k3 OQ x5 raz
  go_wp2
  go_ret
  refine ⟨ret_i (by omega), ⟨SR, MR, ST, MT, SQ, MQ, O1.out, ?_, ?_, HSU.out, HR.out, HT.out, HQ.out⟩, KA.out⟩
  · have q := O2.out
    rw [← hn1] at q
    exact q
  · have q := O3.out
    rw [← hn2, ← hn1] at q
    exact q

end Go.Proofs.YtppiilbcnkphbaaGreat

namespace Go.Proofs.YtppiilbcnkphbaaGreat
open Go.ChangeShapes Go.WideShapes Go.ChangeAt Go.RowKit
set_option linter.unusedVariables false
set_option maxRecDepth 100000
set_option linter.unusedSimpArgs false

/-- A reader of n bytes at byte k. -/
def RdS (W : World) (t : TypeId) (gr n cap k : Nat) (z : Nat → Int) : Prop :=
  ∃ c : Option Addr, W.rowIs gr t 1 (fun _ => .slice c (n - k) (cap - k)) ∧ ∀ i, i < n - k → ∃ xb xo : Nat, c = some ⟨xb, xo, none⟩ ∧ xb < gr ∧ W.cell? ⟨xb, xo + i, none⟩ = some (bw z (k + i))
theorem RdS.chg {P : Nat → Prop} {W W' : World} {t : TypeId} {gr n cap k : Nat} {z : Nat → Int} (h : RdS W t gr n cap k z) (kk : Chg P W W') (h1 : ¬ P gr) (h2 : ∀ b, b < gr → ¬ P b) : RdS W' t gr n cap k z := by
  obtain ⟨c, hr, hc⟩ := h
  refine ⟨c, rowIs_chg hr kk h1, fun i hi => ?_⟩
  obtain ⟨xb, xo, e, l, q⟩ := hc i hi
  exact ⟨xb, xo, e, l, (kk.cell (p := ⟨xb, xo + i, none⟩) (World.block_lt_of_cell? W _ q) (h2 xb l)).trans q⟩
theorem RdS.keep {W W' : World} {t : TypeId} {gr n cap k : Nat} {z : Nat → Int} (h : RdS W t gr n cap k z) (kk : Chg nob W W') : RdS W' t gr n cap k z := h.chg kk (fun x => x) (fun _ _ x => x)
theorem RdS.lt {W : World} {t : TypeId} {gr n cap k : Nat} {z : Nat → Int} (h : RdS W t gr n cap k z) : gr < W.heap.size := by
  obtain ⟨c, hr, _⟩ := h
  exact hr.lt
/-- The reader's own block alone. -/
def RG (gr b : Nat) : Prop := b = gr

set_option maxHeartbeats 1000000 in
theorem rdBytes_any (t : TypeId) (gr n cap k m : Nat) (z : Nat → Int) (w : World) (h : Hid (RdS w t gr n cap k z)) (m1 : 0 < m) (hk : k + m ≤ n) (hc : n ≤ cap) (hc' : (cap : Int) ≤ 9223372036854775807) :
    Calls Tryz.prog 45 #[.pointer (some ⟨gr, 0, none⟩), .int .i64 (m : Int)] w fun e w' => ∃ xb xo C : Nat, e = .returned (.slice (some ⟨xb, xo, none⟩) m C) ∧ m ≤ C ∧ (C : Int) ≤ 9223372036854775807 ∧ xb < gr ∧ (∀ i, i < m → w'.cell? ⟨xb, xo + i, none⟩ = some (bw z (k + i))) ∧ RdS w' t gr n cap (k + m) z ∧ Chg (RG gr) w w' := by
  obtain ⟨c, HR0, hcell⟩ := h.out
  obtain ⟨xb, xo, rfl, hxb, _⟩ := hcell 0 (by omega)
  have HC := hik (show ∀ i, i < n - k → w.cell? ⟨xb, xo + i, none⟩ = some (bw z (k + i)) from fun i hi => by
    obtain ⟨yb, yo, e, _, q⟩ := hcell i hi
    cases e
    exact q)
  obtain ⟨N, hN⟩ : ∃ N, N = n - k := ⟨_, rfl⟩
  obtain ⟨C, hC⟩ : ∃ C, C = cap - k := ⟨_, rfl⟩
  rw [← hN, ← hC] at HR0
  have HR := hik HR0
  have b0 : (0 : Int) ≤ (m : Int) := by omega
  have b1 : (m : Int) ≤ (N : Int) := by omega
  have b2 : (m : Int) ≤ (C : Int) := by omega
  have b3 : (N : Int) ≤ (C : Int) := by omega
  have b4 : (C : Int) ≤ 9223372036854775807 := by omega
  have HN := hik (show n - (k + m) = N - m ∧ cap - (k + m) = C - m ∧ N = n - k by omega)
  have x0 : w.cell? ⟨gr, 0, none⟩ = some (.slice (some ⟨xb, xo, none⟩) N C) := HR.out.cell (i := 0) (by omega)
  have f0 := HR.out.frozen 0
  have l0 := HR.out.lt
  clear hN hC hcell h HR0 hc hc' hk
  have FIN : Hid (∀ c' : Option Addr, (∀ i, i < N - m → ∃ yb yo : Nat, c' = some ⟨yb, yo, none⟩ ∧ yb < gr ∧ w.cell? ⟨yb, yo + i, none⟩ = some (bw z (k + m + i))) → (∀ i, i < m → (w.setCell ⟨gr, 0, none⟩ (.slice c' (N - m) (C - m))).cell? ⟨xb, xo + i, none⟩ = some (bw z (k + i))) ∧ RdS (w.setCell ⟨gr, 0, none⟩ (.slice c' (N - m) (C - m))) t gr n cap (k + m) z ∧ Chg (RG gr) w (w.setCell ⟨gr, 0, none⟩ (.slice c' (N - m) (C - m)))) := hik (fun c' hc' => by
    refine ⟨fun i hi => ?_, ⟨c', ?_, fun i hi => ?_⟩, (Chg.refl (RG gr) w).setCell (p := ⟨gr, 0, none⟩) (fun _ => rfl) _⟩
    · rw [World.cell?_setCell_other _ _ _ _ (by first | (simp; done) | (simp; omega))]
      exact HC.out i (by have := HN.out; omega)
    · rw [HN.out.1, HN.out.2.1]
      exact (HR.out.set 0 (.slice c' (N - m) (C - m))).congr (fun i hi => by rw [if_pos (by omega)])
    · rw [HN.out.1] at hi
      obtain ⟨yb, yo, e, l, q⟩ := hc' i hi
      exact ⟨yb, yo, e, l, by rw [World.cell?_setCell_other _ _ _ _ (by first | (simp; done) | (simp; omega))]; exact q⟩)
  by_cases hmc : m = C
  · obtain rfl : N = C := by omega
    subst hmc
    go_enter Tryz.func45, Tryz.ntmps45
    go_wp2
    go_ret
    have q := FIN.out (some ⟨xb, xo, none⟩) (fun i hi => absurd hi (by omega))
    simp only [Nat.sub_self] at q
    exact ⟨xb, xo, _, rfl, Nat.le_refl _, by omega, hxb, q.1, q.2.1, q.2.2⟩
  · have hmi : ¬ (m : Int) = (C : Int) := by omega
    have HMC := hik hmc
    go_enter Tryz.func45, Tryz.ntmps45
    go_wp2
    go_ret
    have q := FIN.out (some ⟨xb, xo + m, none⟩) (fun i hi => ⟨xb, xo + m, rfl, hxb, by rw [Nat.add_assoc, Nat.add_assoc]; exact HC.out (m + i) (by have := HN.out; omega)⟩)
    exact ⟨xb, xo, C, rfl, by omega, by omega, hxb, q.1, q.2.1, q.2.2⟩

set_option maxHeartbeats 2000000 in
theorem rdExts_any (t : TypeId) (gr n cap k m : Nat) (z : Nat → Int) (w : World) (h : Hid (RdS w t gr n cap k z)) (hz : Hid (∀ j, 0 ≤ z j ∧ z j < 256)) (m1 : m ≤ 4096) (hk : k + 8 * m ≤ n) (hc : n ≤ cap) (hc' : (cap : Int) ≤ 9223372036854775807) :
    Calls Tryz.prog 48 #[.pointer (some ⟨gr, 0, none⟩), .int .i64 (m : Int)] w fun e w' => e = .returned (.slice (some ⟨w.heap.size, 0, none⟩) m m) ∧ w'.rowIs w.heap.size 31 (m * 2) (pf (rf (zk z k)) (rg (zk z k))) ∧ RdS w' t gr n cap (k + 8 * m) z ∧ Chg (RG gr) w w' := by
  obtain ⟨i0, hi, hz0, hz1, hz2⟩ := info_parts infoExt
  have HI := hik hi
  have HZ0 := hik hz0
  have HZ1 := hik hz1
  have hb : i0.bytes * m ≤ 281474976710656 := by rw [hz2]; omega
  clear hi hz0 hz1 hz2
  have hgr := h.out.lt
  have HK := hik (And.intro hk hc)
  have HC' := hik hc'
  clear hk hc hc'
  go_enter Tryz.func48, Tryz.ntmps48
  go_wp2_with (at_make; refine wpList_make_pairs _ rfl (.tmp 7) (.tmp 7) 81 rfl 31 i0 Tryz.underlying81 HI.out HZ0.out HZ1.out .i64 .i64 _ _ m rfl rfl rfl rfl hb (by omega) ?_)
  intro w0 hr hk0
  have HR0 := hik hr
  have HK0 := hik hk0
  have HS0 := hik (h.out.keep hk0)
  clear hb HI HZ0 HZ1 hr hk0
  go_wp2
  go_loopw [11] (fun i W => ∃ k' : Nat, k' ≤ m ∧ i = .int .i64 (k' : Int) ∧ Hid (W.rowIs w.heap.size 31 (m * 2) (cpy (rf (zk z k)) (rg (zk z k)) k')) ∧ Hid (RdS W t gr n cap (k + 8 * k') z) ∧ Hid (Chg (RG gr) w W)) (fun i _ => m - (intOf i).toNat)
  case atStart => exact ⟨0, Nat.zero_le _, rfl, hik (HR0.out.congr (fun i _ => by simp [cpy, pf])), HS0, hik (HK0.out.wide)⟩
  case round =>
    clear HR0 HK0 HS0
    obtain ⟨k', hk, rfl, HR, HS, HG⟩ := hrel
    rename World => wi
    by_cases hlt : k' < m
    · have hk1 : (k' : Int) < (m : Int) := by omega
      have hk0 : (0 : Int) ≤ (k' : Int) := by omega
      go_wp2_with fail
      refine (rdBytes_any t gr n cap (k + 8 * k') 8 z _ HS (by omega) (by have := HK.out.1; omega) HK.out.2 HC'.out).mono ?_
      rintro e W1 ⟨xb, xo, C, rfl, hC1, hC2, hxb, hcell, s1, k1⟩
      have CE := hik hcell
      have HS1 := hik s1
      replace HG := hik (HG.out.trans k1)
      replace HR := hik (rowIs_chg HR.out k1 (fun e => by have e' : w.heap.size = gr := e; omega))
      clear hcell s1 k1 HS
      go_wp2_with fail
      refine (extAt_any xb xo 8 C (k + 8 * k') z _ (hik (fun j hj => CE.out j hj)) hz (by omega) (by omega) (by omega) hC2).mono ?_
      rintro e W2 ⟨he, k2⟩
      rw [show w4 z (k + 8 * k') = rf (zk z k) k' by unfold rf; rw [zk_w4, Nat.mul_comm], show w4 z (k + 8 * k' + 4) = rg (zk z k) k' by unfold rg; rw [zk_w4, Nat.mul_comm, Nat.add_assoc]] at he
      subst he
      have HS2 := hik (show RdS W2 t gr n cap (k + 8 * (k' + 1)) z by have q := HS1.out.keep k2; rw [Nat.add_assoc] at q; exact q)
      replace HG := hik (HG.out.trans (Chg.wide k2))
      have HR1 := hik (rowIs_keep HR.out k2)
      have g0 := HR1.out.cell (i := k' * 2) (by omega)
      have g1 := HR1.out.cell (i := k' * 2 + 1) (by omega)
      have f0 := HR1.out.frozen (k' * 2)
      have f1 := HR1.out.frozen (k' * 2 + 1)
      have KS := hik (((Chg.refl (fun b => b = w.heap.size) W2).setCell (p := ⟨w.heap.size, k' * 2, none⟩) (fun _ => rfl) (.int .i64 (rf (zk z k) k'))).setCell (p := ⟨w.heap.size, k' * 2 + 1, none⟩) (fun _ => rfl) (.int .i64 (rg (zk z k) k')))
      have HS3 := hik (HS2.out.chg KS.out (fun e => by omega) (fun b hb e => by omega))
      have HG3 := hik ((HG.out.setCell (p := ⟨w.heap.size, k' * 2, none⟩) (fun l => absurd l (by simp)) (.int .i64 (rf (zk z k) k'))).setCell (p := ⟨w.heap.size, k' * 2 + 1, none⟩) (fun l => absurd l (by simp)) (.int .i64 (rg (zk z k) k')))
      clear k2 HS1 HR CE HG HS2 KS hC2
      go_wp2
      go_roundw
      case rel => exact ⟨k' + 1, by omega, by go_num, hik (cpy_set HR1.out), HS3, HG3⟩
      case measure => simp [intOf]; omega
    · obtain rfl : k' = m := by omega
      go_wp2
      go_ret
      exact ⟨rfl, HR.out.congr (fun i hi => by simp [cpy, show i < k' * 2 by omega]), HS.out, HG.out⟩

theorem infoTx9 : (Tryz.prog.info? 9).map (fun i => (i.zero, i.size, i.bytes)) = some (some (.string ⟨#[]⟩), 1, 16) := by kernel_rfl
set_option maxHeartbeats 2000000 in
theorem rdHashes_any (t : TypeId) (gr n cap k m : Nat) (z : Nat → Int) (w : World) (h : Hid (RdS w t gr n cap k z)) (m1 : m ≤ 4096) (hk : k + 32 * m ≤ n) (hc : n ≤ cap) (hc' : (cap : Int) ≤ 9223372036854775807) :
    Calls Tryz.prog 75 #[.pointer (some ⟨gr, 0, none⟩), .int .i64 (m : Int)] w fun e w' => e = .returned (.slice (some ⟨w.heap.size, 0, none⟩) m m) ∧ w'.rowIs w.heap.size 9 m (sb (tz9 z k)) ∧ RdS w' t gr n cap (k + 32 * m) z ∧ Chg (RG gr) w w' := by
  obtain ⟨i0, hi, hz0, hz1, hz2⟩ := info_parts infoTx9
  have HI := hik hi
  have HZ0 := hik hz0
  have HZ1 := hik hz1
  have hb : i0.bytes * m ≤ 281474976710656 := by rw [hz2]; omega
  clear hi hz0 hz1 hz2
  have hgr := h.out.lt
  have HK := hik (And.intro hk hc)
  have HC' := hik hc'
  clear hk hc hc'
  go_enter Tryz.func75, Tryz.ntmps75
  go_wp2_with (at_make; refine wpList_make_row _ rfl (.tmp 7) (.tmp 7) 32 rfl 9 i0 (.string ⟨#[]⟩) Tryz.underlying32 HI.out HZ0.out HZ1.out rfl .i64 .i64 m rfl rfl hb (by omega) ?_)
  clear hb HI HZ0 HZ1
  go_wp2
  go_loopw [11] (fun i W => ∃ k' : Nat, k' ≤ m ∧ i = .int .i64 (k' : Int) ∧ Hid (W.rowIs w.heap.size 9 m (fun j => if j < k' then sb (tz9 z k) j else .string ⟨#[]⟩)) ∧ Hid (RdS W t gr n cap (k + 32 * k') z) ∧ Hid (Chg (RG gr) w W)) (fun i _ => m - (intOf i).toNat)
  case atStart => exact ⟨0, Nat.zero_le _, rfl, hik ((World.rowIs_made w (.string ⟨#[]⟩) m 9).congr (fun i _ => by rw [if_neg (by omega)])), hik (h.out.keep ((Chg.refl nob w).alloc _)), hik ((Chg.refl _ _).alloc _)⟩
  case round =>
    obtain ⟨k', hk, rfl, HR, HS, HG⟩ := hrel
    rename World => wi
    by_cases hlt : k' < m
    · have hk1 : (k' : Int) < (m : Int) := by omega
      have hk0 : (0 : Int) ≤ (k' : Int) := by omega
      go_wp2_with fail
      refine (rdBytes_any t gr n cap (k + 32 * k') 32 z _ HS (by omega) (by have := HK.out.1; omega) HK.out.2 HC'.out).mono ?_
      rintro e W1 ⟨xb, xo, C, rfl, hC1, hC2, hxb, hcell, s1, k1⟩
      have hcv : (convert 22 9 (.slice (some ⟨xb, xo, none⟩) 32 C)).run Tryz.prog W1 = .ok (.string (tz9 z k k')) W1 := conv_bytes _ 32 C (zk z (k + 32 * k')) W1 (fun i hi => ⟨xb, xo, rfl, World.block_lt_of_cell? W1 _ (hcell i hi), by rw [hcell i hi]; rfl⟩)
      have HS1 := hik (show RdS W1 t gr n cap (k + 32 * (k' + 1)) z by have q := s1; rw [Nat.add_assoc] at q; exact q)
      replace HG := hik (HG.out.trans k1)
      have HR1 := hik (rowIs_chg HR.out k1 (fun e => by have e' : w.heap.size = gr := e; omega))
      have g0 := HR1.out.cell (i := k') (by omega)
      have f0 := HR1.out.frozen k'
      simp only [Nat.lt_irrefl, if_false] at g0
      have KS := hik ((Chg.refl (fun b => b = w.heap.size) W1).setCell (p := ⟨w.heap.size, k', none⟩) (fun _ => rfl) (.string (tz9 z k k')))
      have HS3 := hik (HS1.out.chg KS.out (fun e => by omega) (fun b hb e => by omega))
      have HG3 := hik (HG.out.setCell (p := ⟨w.heap.size, k', none⟩) (fun l => absurd l (by simp)) (.string (tz9 z k k')))
      have HR3 := hik ((HR1.out.set k' (.string (tz9 z k k'))).congr (g := fun j => if j < k' + 1 then sb (tz9 z k) j else .string ⟨#[]⟩) (fun i _ => by
        by_cases e : i = k'
        · subst e; rw [if_pos rfl, if_pos (by omega)]; rfl
        · rw [if_neg e]
          by_cases e2 : i < k'
          · rw [if_pos e2, if_pos (by omega)]
          · rw [if_neg e2, if_neg (by omega)]))
      clear hcell s1 k1 HS HR HG HS1 KS hC2
      go_wp2
      go_roundw
      case rel => exact ⟨k' + 1, by omega, by go_num, HR3, HS3, HG3⟩
      case measure => simp [intOf]; omega
    · obtain rfl : k' = m := by omega
      go_wp2
      go_ret
      exact ⟨rfl, HR.out.congr (fun i hi => by simp [hi]), HS.out, HG.out⟩

theorem Prt.stepR {W W1 : World} {T : TypeId} {b n k gr : Nat} {len : Nat → Nat} {x : Nat → Dt} {C : Nat → Option Addr} {P lo hi : Nat → Nat} (h : Prt W T b n k len x C P lo hi) (hk : k < n) (c : Option Addr) (cap : Nat) (kk : Chg (RG gr) W W1) (hg : gr < b) (hb : b < W.heap.size) (ho : (x k).Own W1 W.heap.size W1.heap.size (.slice c (len k) cap)) :
    Prt (W1.setCell ⟨b, k, none⟩ (.slice c (len k) cap)) T b n (k + 1) len x (upd C k c) (upd P k cap) (upd lo k W.heap.size) (upd hi k W1.heap.size) := by
  have kS : Chg (fun y => y = b) W1 (W1.setCell ⟨b, k, none⟩ (.slice c (len k) cap)) := (Chg.refl (fun y => y = b) W1).setCell (p := ⟨b, k, none⟩) (fun _ => rfl) _
  refine ⟨((rowIs_chg h.row kk (fun e => by have e' : b = gr := e; omega)).set k (.slice c (len k) cap)).congr (fun i _ => ?_), fun i hi => ?_, fun i j hij hj => ?_⟩
  · by_cases e : i = k
    · subst e
      rw [if_pos rfl, if_pos (by omega), upd_at, upd_at]
    · rw [if_neg e, upd_ne _ _ e, upd_ne _ _ e]
      by_cases e2 : i < k
      · rw [if_pos e2, if_pos (by omega)]
      · rw [if_neg e2, if_neg (by omega)]
  · by_cases e : i = k
    · subst e
      rw [upd_at, upd_at, upd_at, upd_at]
      exact ⟨hb, by simp, ho.chg kS (fun y h1 h2 e => by omega)⟩
    · rw [upd_ne _ _ e, upd_ne _ _ e, upd_ne _ _ e, upd_ne _ _ e]
      obtain ⟨q1, q2, q3⟩ := h.it i (by omega)
      have := kk.size
      exact ⟨q1, by simp; omega, (q3.chg kk (fun y h1 h2 e => by have e' : y = gr := e; omega)).chg kS (fun y h1 h2 e => by omega)⟩
  · have e : i ≠ k := by omega
    rw [upd_ne hi _ e]
    by_cases e2 : j = k
    · subst e2
      rw [upd_at]
      exact (h.it i (by omega)).2.1
    · rw [upd_ne lo _ e2]
      exact h.ord i j hij (by omega)

set_option maxHeartbeats 2000000 in
theorem rdRounds_any (t : TypeId) (gr n cap k m s : Nat) (z : Nat → Int) (w : World) (h : Hid (RdS w t gr n cap k z)) (hz : Hid (∀ j, 0 ≤ z j ∧ z j < 256)) (m1 : m ≤ 8) (s0 : 1 ≤ s) (s1 : s ≤ 8) (hk : k + 8 * s * m ≤ n) (hc : n ≤ cap) (hc' : (cap : Int) ≤ 9223372036854775807) :
    Calls Tryz.prog 46 #[.pointer (some ⟨gr, 0, none⟩), .int .i64 (m : Int), .int .i64 (s : Int)] w fun e w' => e = .returned (.slice (some ⟨w.heap.size, 0, none⟩) m m) ∧ (dEE m (fun _ => s) (fun i => rf (zk z (k + 8 * s * i))) (fun i => rg (zk z (k + 8 * s * i)))).Own w' w.heap.size w'.heap.size (.slice (some ⟨w.heap.size, 0, none⟩) m m) ∧ RdS w' t gr n cap (k + 8 * s * m) z ∧ Chg (RG gr) w w' := by
  obtain ⟨i1, hi, hz0, hz1, hz2⟩ := info_parts infoRow
  have HI := hik hi
  have HZ0 := hik hz0
  have HZ1 := hik hz1
  have hb : i1.bytes * m ≤ 281474976710656 := by rw [hz2]; omega
  clear hi hz0 hz1 hz2
  have hgr := h.out.lt
  have HK := hik (And.intro hk hc)
  have HC' := hik hc'
  have HMU := hik (fun (i j : Nat) (h : i ≤ j) => Nat.mul_le_mul_left (8 * s) h)
  clear hk hc hc'
  go_enter Tryz.func46, Tryz.ntmps46
  go_wp2_with (at_make; refine wpList_make_rows _ rfl (.tmp 9) (.tmp 9) 29 rfl 81 i1 Tryz.underlying29 HI.out HZ0.out HZ1.out .i64 .i64 _ _ m rfl rfl rfl rfl hb (by omega) ?_)
  intro w0 hr hk0
  have HR0 := hik hr
  have HK0 := hik hk0
  have HS0 := hik (h.out.keep hk0)
  clear hb HI HZ0 HZ1 hr hk0
  go_wp2
  go_loopw [13] (fun i W => ∃ (k' : Nat) (C : Nat → Option Addr) (P lo hi : Nat → Nat), k' ≤ m ∧ i = .int .i64 (k' : Int) ∧ Hid (Prt W 81 w.heap.size m k' (fun _ => s) (fun i => .exts s (rf (zk z (k + 8 * s * i))) (rg (zk z (k + 8 * s * i)))) C P lo hi) ∧ Hid (RdS W t gr n cap (k + 8 * s * k') z) ∧ Hid (Chg (RG gr) w W)) (fun i _ => m - (intOf i).toNat)
  case atStart => exact ⟨0, fun _ => none, fun _ => 0, fun _ => 0, fun _ => 0, Nat.zero_le _, rfl, hik ⟨HR0.out.congr (fun i _ => by rw [if_neg (by omega)]), fun i hi => absurd hi (by omega), fun i j _ hj => absurd hj (by omega)⟩, HS0, hik (HK0.out.wide)⟩
  case round =>
    clear HR0 HK0 HS0
    obtain ⟨k', C, P, lo, hi, hk, rfl, HR, HS, HG⟩ := hrel
    rename World => wi
    by_cases hlt : k' < m
    · have hk1 : (k' : Int) < (m : Int) := by omega
      have hk0 : (0 : Int) ≤ (k' : Int) := by omega
      have hwl : w.heap.size < wi.heap.size := HR.out.row.lt
      have E8 := hik (show k + 8 * s * k' + 8 * s = k + 8 * s * (k' + 1) by rw [Nat.mul_succ]; omega)
      go_wp2_with fail
      refine (rdExts_any t gr n cap (k + 8 * s * k') s z _ HS hz (by omega) (by have := HMU.out (k' + 1) m (by omega); have := HK.out.1; have := E8.out; omega) HK.out.2 HC'.out).mono ?_
      rintro e W1 ⟨rfl, r1, s1, k1⟩
      have O1 := hik (show (Dt.exts s (rf (zk z (k + 8 * s * k'))) (rg (zk z (k + 8 * s * k')))).Own W1 wi.heap.size W1.heap.size (.slice (some ⟨wi.heap.size, 0, none⟩) s s) from ⟨_, _, rfl, .inr ⟨OwnE.of_row r1 (Nat.le_refl _), _, rfl, r1.lt⟩⟩)
      have HR1 := hik (rowIs_chg HR.out.row k1 (fun e => by have e' : w.heap.size = gr := e; omega))
      have HS1 := hik (show RdS W1 t gr n cap (k + 8 * s * (k' + 1)) z by rw [← E8.out]; exact s1)
      have K1 := hik k1
      clear k1 r1 s1
      have g0 := HR1.out.cell hlt
      have f0 := HR1.out.frozen k'
      rw [if_neg (by omega)] at g0
      have HR2 := hik (Prt.stepR HR.out hlt (some ⟨wi.heap.size, 0, none⟩) s K1.out hgr hwl O1.out)
      have HG2 := hik ((HG.out.trans K1.out).setCell (p := ⟨w.heap.size, k', none⟩) (fun l => absurd l (by simp)) (.slice (some ⟨wi.heap.size, 0, none⟩) s s))
      have KS := hik ((Chg.refl (fun b => b = w.heap.size) W1).setCell (p := ⟨w.heap.size, k', none⟩) (fun _ => rfl) (.slice (some ⟨wi.heap.size, 0, none⟩) s s))
      have HS3 := hik (HS1.out.chg KS.out (fun e => by omega) (fun b hb e => by omega))
      clear HS HS1 KS K1 E8
      go_wp2
      go_roundw
      case rel => exact ⟨k' + 1, _, _, _, _, by omega, by go_num, HR2, HS3, HG2⟩
      case measure => simp [intOf]; omega
    · obtain rfl : m = k' := by omega
      have hcc : ¬ (m : Int) < (m : Int) := by omega
      go_wp2
      go_ret
      exact ⟨rfl, HR.out.done (Nat.le_refl _) _, HS.out, HG.out⟩

end Go.Proofs.YtppiilbcnkphbaaGreat

namespace Go.Proofs.YtppiilbcnkphbaaGreat
open Go.ChangeShapes Go.WideShapes Go.ChangeAt Go.RowKit
set_option linter.unusedVariables false
set_option maxRecDepth 100000
set_option linter.unusedSimpArgs false

/-- A text that is cut: while all went well (ok), it is what the n bytes of z leave from byte K on; where G holds, all goes well. -/
def CtI (W : World) (gx n K : Nat) (z : Nat → Int) (G : Prop) (ok : Bool) : Prop :=
  ∃ t : ByteArray, W.rowIs gx 79 2 (fun i => if i = 0 then .string t else .bool ok) ∧ t.size ≤ 65536 ∧ (ok = true → K ≤ n ∧ t.size = n - K ∧ ∀ i, i < n - K → sz t i = z (K + i)) ∧ (G → ok = true)
theorem CtI.chg {P : Nat → Prop} {W W' : World} {gx n K : Nat} {z : Nat → Int} {G : Prop} {ok : Bool} (h : CtI W gx n K z G ok) (k : Chg P W W') (hp : ¬ P gx) : CtI W' gx n K z G ok := by
  obtain ⟨t, r, q⟩ := h
  exact ⟨t, rowIs_chg r k hp, q⟩
theorem CtI.keep {W W' : World} {gx n K : Nat} {z : Nat → Int} {G : Prop} {ok : Bool} (h : CtI W gx n K z G ok) (k : Chg nob W W') : CtI W' gx n K z G ok := h.chg k (fun x => x)
theorem CtI.lt {W : World} {gx n K : Nat} {z : Nat → Int} {G : Prop} {ok : Bool} (h : CtI W gx n K z G ok) : gx < W.heap.size := by
  obtain ⟨t, r, q⟩ := h
  exact r.lt
/-- What a cut of m bytes answers. -/
def CtA (w : World) (gx n K m : Nat) (z : Nat → Int) (G : Prop) (ok : Bool) (e : Ending) (w' : World) : Prop :=
  ∃ (s : ByteArray) (ok' : Bool), e = .returned (.string s) ∧ s.size = m ∧ (ok' = true → ok = true ∧ K + m ≤ n ∧ ∀ i, i < m → sz s i = z (K + i)) ∧ CtI w' gx n (K + m) z G ok' ∧ Chg (RG gx) w w'
theorem ext_size (t : ByteArray) (a b : Nat) (h : a ≤ b) (hb : b ≤ t.size) : (t.extract a b).size = b - a := by
  rw [ByteArray.size_extract]
  omega

set_option maxHeartbeats 2000000 in
theorem cutTake_any (gx n K m : Nat) (z : Nat → Int) (G : Prop) (ok : Bool) (w : World) (h : Hid (CtI w gx n K z G ok)) (hm : m ≤ 65536) (hG : Hid (G → K + m ≤ n)) :
    Calls Tryz.prog 35 #[.pointer (some ⟨gx, 0, none⟩), .int .i64 (m : Int)] w fun e w' => CtA w gx n K m z G ok e w' := by
  obtain ⟨t, HR0, ht, hok, hg⟩ := h.out
  have HR := hik HR0
  have HOK := hik hok
  have HG1 := hik hg
  have HT := hik ht
  have x0 : w.cell? ⟨gx, 0, none⟩ = some (.string t) := HR.out.cell (i := 0) (by omega)
  have x1 : w.cell? ⟨gx, 1, none⟩ = some (.bool ok) := HR.out.cell (i := 1) (by omega)
  have f0 := HR.out.frozen 0
  have f1 := HR.out.frozen 1
  have l0 := HR.out.lt
  clear HR0 hok hg h ht
  by_cases hb : t.size < m
  · have hbi : (t.size : Int) < (m : Int) := by omega
    obtain ⟨i0, hi, hz0, hz1, hz2⟩ := info_parts infoU8
    have HI := hik hi
    have HZ0 := hik hz0
    have HZ1 := hik hz1
    have HZ2 := hik hz2
    have hbb : i0.bytes * m ≤ 281474976710656 := by rw [hz2]; omega
    clear hi hz0 hz1 hz2
    have hcv : (convert 22 9 (.slice (some ⟨w.heap.size, 0, none⟩) m m)).run Tryz.prog ((w.setCell ⟨gx, 1, none⟩ (.bool false)).alloc (.cells (madeCells #[.int .u8 0] m) 5)) = .ok (.string (strOfNums ((List.range m).map (fun _ => (0 : Int))))) ((w.setCell ⟨gx, 1, none⟩ (.bool false)).alloc (.cells (madeCells #[.int .u8 0] m) 5)) :=
      conv_bytes _ m m (fun _ => 0) _ (fun i hi => by
        have r := World.rowIs_made (w.setCell ⟨gx, 1, none⟩ (.bool false)) (.int .u8 0) m 5
        rw [show (w.setCell ⟨gx, 1, none⟩ (.bool false)).heap.size = w.heap.size by simp] at r
        exact ⟨w.heap.size, 0, rfl, r.lt, by rw [Nat.zero_add]; exact r.cell hi⟩)
    have HF := hik (show CtI ((w.setCell ⟨gx, 1, none⟩ (.bool false)).alloc (.cells (madeCells #[.int .u8 0] m) 5)) gx n (K + m) z G false ∧ Chg (RG gx) w ((w.setCell ⟨gx, 1, none⟩ (.bool false)).alloc (.cells (madeCells #[.int .u8 0] m) 5)) from
      ⟨⟨t, (rowIs_keep (HR.out.set 1 (.bool false)) ((Chg.refl nob _).alloc _)).congr (fun i hi => by
          by_cases e : i = 1
          · subst e; rfl
          · obtain rfl : i = 0 := by omega
            rfl), HT.out, (fun e => by cases e), fun q => by
          have a := HOK.out (HG1.out q)
          have b := hG.out q
          omega⟩, ((Chg.refl (RG gx) w).setCell (p := ⟨gx, 1, none⟩) (fun _ => rfl) _).alloc _⟩)
    go_enter Tryz.func35, Tryz.ntmps35
    go_wp2_with (at_make; refine wpList_make_row _ rfl (.tmp 16) (.tmp 16) 22 rfl 5 i0 (.int .u8 0) Tryz.underlying22 HI.out HZ0.out HZ1.out rfl .i64 .i64 m rfl rfl hbb (by omega) ?_)
    go_ret
    exact ⟨_, false, rfl, by rw [strOfNums_size]; simp, (fun e => by cases e), HF.out.1, HF.out.2⟩
  · have hbi : ¬ (t.size : Int) < (m : Int) := by omega
    have h1 : (m : Int) ≤ (t.size : Int) := by omega
    have h2 : (0 : Int) ≤ (m : Int) := by omega
    have HB := hik (show m ≤ t.size by omega)
    clear hb
    go_enter Tryz.func35, Tryz.ntmps35
    go_wp2
    go_ret
    refine ⟨t.extract 0 m, ok, rfl, ?_, fun e => ?_, ⟨t.extract m t.size, (HR.out.set 0 (.string (t.extract m t.size))).congr (fun i hi => ?_), ?_, fun e => ?_, HG1.out⟩, (Chg.refl (RG gx) w).setCell (p := ⟨gx, 0, none⟩) (fun _ => rfl) _⟩
    · rw [ext_size t 0 m (by omega) HB.out]
      omega
    · obtain ⟨a1, a2, a3⟩ := HOK.out e
      have := HB.out
      refine ⟨e, by omega, fun i hi => ?_⟩
      rw [sz_extract t 0 m i HB.out (by omega), Nat.zero_add]
      exact a3 i (by omega)
    · by_cases e : i = 0
      · subst e; rfl
      · obtain rfl : i = 1 := by omega
        rfl
    · have := HT.out
      rw [ext_size t m t.size HB.out (Nat.le_refl _)]
      omega
    · obtain ⟨a1, a2, a3⟩ := HOK.out e
      have := HB.out
      refine ⟨by omega, by rw [ext_size t m t.size HB.out (Nat.le_refl _)]; omega, fun i hi => ?_⟩
      rw [sz_extract t m t.size i (Nat.le_refl _) (by omega), a3 (m + i) (by omega), Nat.add_assoc]

/-- What the reading of m elements off a cut answers. -/
def CxA (w : World) (gx n K m : Nat) (z : Nat → Int) (G : Prop) (ok : Bool) (e : Ending) (w' : World) : Prop :=
  ∃ (c : Option Addr) (l cap : Nat) (f g : Nat → Int) (ok' : Bool), e = .returned (.slice c l cap) ∧ (l = 0 ∨ l = m) ∧ OwnE w' w.heap.size c l f g ∧ (ok' = true → ok = true ∧ K + 8 * m ≤ n ∧ l = m ∧ ∀ i, i < m → f i = rf (zk z K) i ∧ g i = rg (zk z K) i) ∧ CtI w' gx n (K + 8 * m) z G ok' ∧ Chg (RG gx) w w'

set_option maxHeartbeats 2000000 in
theorem cutExts_any (gx n K m : Nat) (z : Nat → Int) (G : Prop) (ok : Bool) (w : World) (h : Hid (CtI w gx n K z G ok)) (hm : m ≤ 4096) (hG : Hid (G → K + 8 * m ≤ n ∧ okP (rf (zk z K)) (rg (zk z K)) m = true)) :
    Calls Tryz.prog 36 #[.pointer (some ⟨gx, 0, none⟩), .int .i64 (m : Int)] w fun e w' => CxA w gx n K m z G ok e w' := by
  have hgl := h.out.lt
  go_enter Tryz.func36, Tryz.ntmps36
  go_wp2_with fail
  rw [show (8 : Int) * (m : Int) = ((8 * m : Nat) : Int) by omega]
  refine (cutTake_any gx n K (8 * m) z G ok w h (by omega) (hik (fun q => (hG.out q).1))).mono ?_
  rintro e W1 ⟨s, ok1, rfl, hs, hok1, hc1, k1⟩
  have HS := hik hs
  have HK1 := hik hok1
  have HC1 := hik hc1
  have K1 := hik k1
  clear hs hok1 hc1 k1
  go_wp2_with fail
  refine (l02Read_own s _ (by rw [HS.out]; omega)).mono ?_
  rintro e W2 hrd
  have HW : Hid (ok1 = true → okP (rf (sz s)) (rg (sz s)) m = okP (rf (zk z K)) (rg (zk z K)) m ∧ ∀ i, i < m → rf (sz s) i = rf (zk z K) i ∧ rg (sz s) i = rg (zk z K) i) := hik (fun q => by
    have a := words_eq (sz s) (zk z K) (8 * m) (HK1.out q).2.2
    rw [show 8 * m / 8 = m by omega] at a
    exact ⟨okP_congr _ _ _ _ m a, a⟩)
  unfold SRo at hrd
  rw [HS.out, show 8 * m / 8 = m by omega] at hrd
  rcases hrd with ⟨hno, c0, cap0, rfl, k2⟩ | ⟨⟨h8, hokp⟩, c0, cap0, rfl, hO, k2⟩
  · have HNO := hik (show okP (rf (sz s)) (rg (sz s)) m = false by
      cases hk : okP (rf (sz s)) (rg (sz s)) m
      · rfl
      · exact absurd ⟨by omega, hk⟩ hno)
    obtain ⟨t, hr, ht, hk, hg⟩ := hik (HC1.out.keep k2)
    have HR := hik hr
    have x1 : W2.cell? ⟨gx, 1, none⟩ = some (.bool ok1) := HR.out.cell (i := 1) (by omega)
    have f1 := HR.out.frozen 1
    have l0 := HR.out.lt
    have HF := hik (show CtI (W2.setCell ⟨gx, 1, none⟩ (.bool false)) gx n (K + 8 * m) z G false ∧ Chg (RG gx) w (W2.setCell ⟨gx, 1, none⟩ (.bool false)) from
      ⟨⟨t, (HR.out.set 1 (.bool false)).congr (fun i hi => by
          by_cases e : i = 1
          · subst e; rfl
          · obtain rfl : i = 0 := by omega
            rfl), ht, (fun e => by cases e), fun q => by
          have a := (hG.out q).2
          rw [← (HW.out (hg q)).1, HNO.out] at a
          exact a⟩, (K1.out.trans (k2.mono (fun _ _ x => x.elim))).setCell (p := ⟨gx, 1, none⟩) (fun _ => rfl) _⟩)
    clear hr ht hk hg hno k2
    cases ok1
    all_goals
      go_wp2
      go_ret
      exact ⟨c0, 0, cap0, _, _, false, rfl, .inl rfl, OwnE.zero (f := fun _ => 0) (g := fun _ => 0), (fun e => by cases e), HF.out.1, HF.out.2⟩
  · obtain ⟨t, hr, ht, hk, hg⟩ := hik (HC1.out.keep k2)
    have HR := hik hr
    have HO := hik hO
    have x1 : W2.cell? ⟨gx, 1, none⟩ = some (.bool ok1) := HR.out.cell (i := 1) (by omega)
    have f1 := HR.out.frozen 1
    have l0 := HR.out.lt
    have hsz := K1.out.size
    have HF := hik (show CtI (W2.setCell ⟨gx, 1, none⟩ (.bool ok1)) gx n (K + 8 * m) z G ok1 ∧ OwnE (W2.setCell ⟨gx, 1, none⟩ (.bool ok1)) w.heap.size c0 m (rf (sz s)) (rg (sz s)) ∧ Chg (RG gx) w (W2.setCell ⟨gx, 1, none⟩ (.bool ok1)) from
      ⟨⟨t, (HR.out.set 1 (.bool ok1)).congr (fun i hi => by
          by_cases e : i = 1
          · subst e; rfl
          · obtain rfl : i = 0 := by omega
            rfl), ht, hk, hg⟩, (HO.out.low hsz).chg ((Chg.refl (RG gx) W2).setCell (p := ⟨gx, 1, none⟩) (fun _ => rfl) _) (fun b hb _ q => by have q' : b = gx := q; omega), (K1.out.trans (k2.mono (fun _ _ x => x.elim))).setCell (p := ⟨gx, 1, none⟩) (fun _ => rfl) _⟩)
    clear hr ht hk hg k2 h8 hokp hO hsz
    cases ok1
    all_goals
      go_wp2
      go_ret
      exact ⟨c0, m, cap0, _, _, _, rfl, .inr rfl, HF.out.2.1, (fun e => ⟨(HK1.out (by first | exact e | exact True.intro)).1, (HK1.out (by first | exact e | exact True.intro)).2.1, rfl, (HW.out (by first | exact e | exact True.intro)).2⟩), HF.out.1, HF.out.2.2⟩
/-- What the reading of one element off a cut answers. -/
def CoA (w : World) (gx n K : Nat) (z : Nat → Int) (G : Prop) (ok : Bool) (e : Ending) (w' : World) : Prop :=
  ∃ (a b : Int) (ok' : Bool), e = .returned (.agg #[.int .i64 a, .int .i64 b]) ∧ (ok' = true → ok = true ∧ K + 8 ≤ n ∧ a = w4 z K ∧ b = w4 z (K + 4)) ∧ CtI w' gx n (K + 8) z G ok' ∧ Chg (RG gx) w w'

set_option maxHeartbeats 2000000 in
theorem cutOne_any (gx n K : Nat) (z : Nat → Int) (G : Prop) (ok : Bool) (w : World) (h : Hid (CtI w gx n K z G ok)) (hG : Hid (G → K + 8 ≤ n ∧ okP (rf (zk z K)) (rg (zk z K)) 1 = true)) :
    Calls Tryz.prog 37 #[.pointer (some ⟨gx, 0, none⟩)] w fun e w' => CoA w gx n K z G ok e w' := by
  have hgl := h.out.lt
  have KA := hik ((Chg.refl nob w).alloc (.cells #[.int .i64 0, .int .i64 0] 31))
  have HB := hik (rowN_new w 2 #[.int .i64 0, .int .i64 0] 31 rfl)
  have hzw : w.heap.size + 1 = (w.alloc (.cells #[.int .i64 0, .int .i64 0] 31)).heap.size := by simp
  go_enter Tryz.func37, Tryz.ntmps37
  go_wp2_with fail
  refine (cutExts_any gx n K 1 z G ok _ (hik (h.out.keep KA.out)) (by omega) hG).mono ?_
  rintro e W1 ⟨c, l, cap, f, g, ok', rfl, hl, hO, hok, hc, k⟩
  have HO := hik hO
  have HOK := hik hok
  have HC := hik hc
  have K1 := hik k
  have RB := hik (rowIs_chg HB.out k (fun q => by have q' : w.heap.size = gx := q; omega))
  have ks := k.size
  clear hO hok hc k
  have x0 : W1.cell? ⟨w.heap.size, 0, none⟩ = some (.int .i64 0) := RB.out.cell (i := 0) (by omega)
  have x1 : W1.cell? ⟨w.heap.size, 1, none⟩ = some (.int .i64 0) := RB.out.cell (i := 1) (by omega)
  have f0 := RB.out.frozen 0
  have f1 := RB.out.frozen 1
  have l0 := RB.out.lt
  have HFIN : ∀ a b : Int, Hid (CtI ((W1.setCell ⟨w.heap.size, 0, none⟩ (.int .i64 a)).setCell ⟨w.heap.size, 1, none⟩ (.int .i64 b)) gx n (K + 8) z G ok' ∧ Chg (RG gx) w ((W1.setCell ⟨w.heap.size, 0, none⟩ (.int .i64 a)).setCell ⟨w.heap.size, 1, none⟩ (.int .i64 b))) := fun a b => hik (by
    have kk : Chg (fun y => y = w.heap.size) W1 ((W1.setCell ⟨w.heap.size, 0, none⟩ (.int .i64 a)).setCell ⟨w.heap.size, 1, none⟩ (.int .i64 b)) := ((Chg.refl (fun y => y = w.heap.size) W1).setCell (p := ⟨w.heap.size, 0, none⟩) (fun _ => rfl) _).setCell (p := ⟨w.heap.size, 1, none⟩) (fun _ => rfl) _
    refine ⟨HC.out.chg kk (fun q => by have q' : gx = w.heap.size := q; omega), ((((Chg.refl (RG gx) w).alloc (.cells #[.int .i64 0, .int .i64 0] 31)).trans K1.out).setCell (p := ⟨w.heap.size, 0, none⟩) (fun l => absurd l (by simp)) _).setCell (p := ⟨w.heap.size, 1, none⟩) (fun l => absurd l (by simp)) _⟩)
  rcases hl with rfl | rfl
  · go_wp2
    refine bodyPost_ret (v := .agg #[.int .i64 0, .int .i64 0]) (by simp [results, Tryz.results37, go_sem, *]) rfl ?_
    refine ⟨0, 0, ok', rfl, (fun e => ?_), (HFIN 0 0).out.1, (HFIN 0 0).out.2⟩
    have q := (HOK.out e).2.2.1
    omega
  · obtain ⟨xb, xo, rfl, hxb, y0, y1⟩ := HO.out.pairs 0 (by omega)
    simp only [Nat.zero_mul, Nat.add_zero] at y0 y1
    go_wp2
    refine bodyPost_ret (v := .agg #[.int .i64 (f 0), .int .i64 (g 0)]) (by simp [results, Tryz.results37, go_sem, *]) rfl ?_
    refine ⟨f 0, g 0, ok', rfl, (fun e => ?_), (HFIN _ _).out.1, (HFIN _ _).out.2⟩
    obtain ⟨q1, q2, q3, q4⟩ := HOK.out e
    refine ⟨q1, by omega, ?_, ?_⟩
    · rw [(q4 0 (by omega)).1]
      show w4 (zk z K) (0 * 8) = _
      rw [zk_w4, Nat.zero_mul, Nat.add_zero]
    · rw [(q4 0 (by omega)).2]
      show w4 (zk z K) (0 * 8 + 4) = _
      rw [zk_w4, Nat.zero_mul, Nat.zero_add]

end Go.Proofs.YtppiilbcnkphbaaGreat
