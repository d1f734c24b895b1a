/- Several texts in one: Entries that the library sorts; entries told out of a map, by their order: contracts. · Whether a list of entries is told back by a map, and whether it is a matrix: the program's contracts. -/
import Derived.Test.YtppiilbcnkphbaaGreatBzav
import Derived.Deep.AppendLies
import Derived.Laws.StructEq
namespace Go.Proofs.YtppiilbcnkphbaaGreat
open Go.ChangeShapes Go.WideShapes Go.ChangeAt Go.RowKit
open Go.Shelf Go.Lib Go.Sort
open Go.Maps (Keyed IsMap Tidy has)
set_option linter.unusedVariables false
set_option maxRecDepth 100000
set_option linter.unusedSimpArgs false

theorem infoEn : (Tryz.prog.info? 87).map (fun i => (i.zero, i.size, i.bytes)) = some (some (.agg #[.int .i64 0, .int .i64 0, .int .i64 0]), 3, 24) := by kernel_rfl
/-- One entry more. -/
def upN (X : Nat → En) (n : Nat) (x : En) (i : Nat) : En := if i = n then x else X i
theorem eLs_snoc (n : Nat) (X : Nat → En) (x : En) : eLs (n + 1) (upN X n x) = eLs n X ++ [x] := by
  simp only [eLs, List.range_succ, List.map_append, List.map_cons, List.map_nil]
  congr 1
  · apply List.map_congr_left
    intro i hi
    simp at hi
    simp [upN, show i ≠ n by omega]
  · simp [upN]
theorem tfs_snoc (n : Nat) (X : Nat → En) (x : En) : (List.range ((n + 1) * 3)).map (tf (upN X n x)) = (List.range (n * 3)).map (tf X) ++ ecE x := by
  rw [show (n + 1) * 3 = n * 3 + 1 + 1 + 1 by omega]
  simp only [List.range_succ, List.map_append, List.map_cons, List.map_nil, List.append_assoc]
  congr 1
  · apply List.map_congr_left
    intro i hi
    simp at hi
    simp [tf, upN, show i / 3 ≠ n by omega]
  · simp [tf_0, tf_1, tf_2, upN, ecE]
theorem holdsE {w : World} {g : Nat} {cur : Array Value} {e : TypeId} {n : Nat} {X : Nat → En} (hb : w.heap[g]? = some (.cells cur e (0, 0))) (ht : cur.toList.take (n * 3) = (List.range (n * 3)).map (tf X)) : HoldsK ecE 3 w g 0 (eLs n X).toArray := by
  intro j hj
  rw [size_flatK] at hj
  have hj' : j < n * 3 := by simpa [eLs_len] using hj
  rw [get_flatK _ _ _ _ (by simpa [eLs_len] using hj)]
  refine ⟨?_, by simp [World.frozen?, hb]⟩
  have h1 : (cur.toList.take (n * 3))[j]? = ((List.range (n * 3)).map (tf X))[j]? := by rw [ht]
  rw [List.getElem?_take_of_lt hj', List.getElem?_map, List.getElem?_range hj'] at h1
  simp only [World.cell?, hb, Nat.zero_add]
  simp only [Option.isSome_none, Bool.false_eq_true, if_false]
  rw [← Array.getElem?_toList, h1]
  have e1 : (eLs n X).toArray[j / 3]! = X (j / 3) := by
    rw [getElem!_pos _ _ (by simp [eLs_len]; omega)]
    simp [eLs]
  rw [e1]
  rcases (show j % 3 = 0 ∨ j % 3 = 1 ∨ j % 3 = 2 by omega) with q | q | q <;> simp [tf, ecE, q]

set_option maxHeartbeats 1000000 in
theorem sort_any (g cap : Nat) (n : Nat) (X : Nat → En) (w : World) (hH : Hid (HoldsK ecE 3 w g 0 (eLs n X).toArray)) (hg : Hid (g < w.heap.size)) (hn : n ≤ 1099511627776) :
    Calls Tryz.prog 100 #[.slice (some ⟨g, 0, none⟩) n cap, .func (.func 101) #[] #[]] w fun e w' => e = .returned (.tuple #[]) ∧
      (∃ Y : Nat → En, (eLs n Y).Perm (eLs n X) ∧ (eLs n Y).Pairwise (fun a b => enlt b a = false) ∧ EntV w' (some ⟨g, 0, none⟩) n Y) ∧ Chg (fun k => k = g) w w' := by
  have eg : ∀ args w, (callFunc 101 args).run Tryz.prog w = .ok (.enter 101 args) w := enters_of Tryz.func101 (by kernel_rfl) rfl
  have hcon := AnyQ.slices_SortFunc sortE 3 Tryz.isAgg87 Tryz.sizeOf87 ecE (fun _ => rfl) (fun x v hv => by simp [ecE] at hv; rcases hv with rfl | rfl | rfl <;> rfl) cfE swoE 101 #[] g 0 cap (eLs n X).toArray w eg (cmpLaysE g 0 _ w) hH.out hg.out (by simp [eLs_len]; omega)
  change Calls Tryz.prog 100 _ _ _ at hcon
  have hsz : (eLs n X).toArray.size = n := by simp [eLs_len]
  rw [hsz] at hcon
  refine hcon.mono ?_
  rintro e w' ⟨rfl, d, m, os, hp, hs, rfl⟩
  obtain ⟨hds, _, hpm⟩ := hp
  rw [hsz] at hds
  have hdl : d.toList = eLs n (fun i => d[i]!) := by
    apply List.ext_getElem
    · simp [eLs_len, hds]
    · intro i h1 h2
      rw [eLs_get, getElem!_pos d i (by simpa using h1)]
      simp
  refine ⟨rfl, ⟨fun i => d[i]!, ?_, ?_, ?_⟩, ?_⟩
  · rw [← hdl]
    have e1 : (d.extract 0 n).toList = d.toList := by rw [← hds]; simp
    have e2 : ((eLs n X).toArray.extract 0 n).toList = eLs n X := by simp [List.take_of_length_le, eLs_len]
    rwa [e1, e2] at hpm
  · rw [← hdl, List.pairwise_iff_getElem]
    intro i j hi hj hij
    have := hs i j (Nat.zero_le _) hij (by rw [← hds]; simpa using hj)
    rw [ltE, getElem!_pos d i (by simpa using hi), getElem!_pos d j (by simpa using hj)] at this
    simpa using this
  · have hk : HoldsK ecE 3 (sortWorldK ecE 3 w g 0 m d os) g 0 d := by
      unfold sortWorldK
      refine holdsK_grow ecE 3 _ _ _ _ _ ?_ (holdsK_putRowK ecE 3 _ _ _ (eLs n X).toArray d (holdsK_ahead ecE 3 _ _ _ _ _ hH.out) (by rw [hds, hsz]))
      simpa [putRowK, putRow, mapBlock, Sort.ahead] using hg.out
    intro i hi
    refine ⟨g, 0, rfl, ?_, ?_, ?_, ?_⟩
    · have := hg.out
      simp [sortWorldK, grow, putRowK, putRow, mapBlock, Sort.ahead]
      omega
    · exact (hk.cell (i := i) (c := 0) (by omega) (by omega)).1
    · exact (hk.cell (i := i) (c := 1) (by omega) (by omega)).1
    · exact (hk.cell (i := i) (c := 2) (by omega) (by omega)).1
  · refine ⟨rfl, rfl, rfl, by simp [sortWorldK, grow, putRowK, putRow, mapBlock, Sort.ahead], fun k hk hne => ?_⟩
    unfold sortWorldK
    rw [heap_grow_old _ _ (by simpa [putRowK, putRow, mapBlock, Sort.ahead] using hk)]
    simp [putRowK, putRow, mapBlock, Sort.ahead, Array.getElem?_modify, show g ≠ k from fun e => hne e.symm]

/-- The places that have come up so far. -/
structure Cld (D : DataW Unit) (m : Int → Int → Option Int) (left : Lit → Bool) (acc : List En) : Prop where
  is : ∀ e ∈ acc, m e.1 e.2.1 = some e.2.2 ∧ left (kyE e.1 e.2.1) = false ∧ (Lit.int .i64 e.1).wf = true ∧ (Lit.int .i64 e.2.1).wf = true
  all : ∀ r c v, (Lit.int .i64 r).wf = true → (Lit.int .i64 c).wf = true → m r c = some v → left (kyE r c) = false → (r, c, v) ∈ acc
  ne : acc.Pairwise (fun a b => ¬ (a.1 = b.1 ∧ a.2.1 = b.2.1))
theorem Cld.start {D : DataW Unit} {m : Int → Int → Option Int} (h : Fmd D m) : Cld D m (has D) [] :=
  ⟨fun e he => (by cases he), fun r c v wr wc hm hl => (by
    have := Maps.has_true_of_atKey (h.som r c v wr wc hm)
    rw [hl] at this; cases this), List.Pairwise.nil⟩
theorem Cld.step {D : DataW Unit} {m : Int → Int → Option Int} {left : Lit → Bool} {acc : List En} (h : Cld D m left acc) (hf : Fmd D m) {r c v : Int} (wr : (Lit.int .i64 r).wf = true) (wc : (Lit.int .i64 c).wf = true) (hl : left (kyE r c) = true) (hat : ∀ z, D.atKey (kyE r c) z = .lit (.int .i64 v)) :
    Cld D m (fun z => left z && !z.sameKey (kyE r c)) (acc ++ [(r, c, v)]) := by
  have hm : m r c = some v := by
    cases e : m r c with
    | none =>
      have := Maps.has_true_of_atKey hat
      rw [hf.non r c wr wc e] at this; cases this
    | some u =>
      have h1 := hf.som r c u wr wc e (.lit (.int .i64 0))
      rw [hat] at h1
      simp at h1
      rw [h1]
  constructor
  · intro e he
    rcases List.mem_append.1 he with he | he
    · obtain ⟨h1, h2, h3⟩ := h.is e he
      exact ⟨h1, by simp [h2], h3⟩
    · simp at he
      subst he
      exact ⟨hm, by simp [WideAt.sameKey_self (kyE_key r c)], wr, wc⟩
  · intro r' c' v' wr' wc' hm' hl'
    simp only [Bool.and_eq_false_iff, Bool.not_eq_false'] at hl'
    rcases hl' with h1 | h1
    · exact List.mem_append_left _ (h.all r' c' v' wr' wc' hm' h1)
    · obtain ⟨rfl, rfl⟩ := kyE_inj wr' wc' wr wc (WideAt.sameKey_eq h1)
      rw [hm] at hm'
      cases hm'
      simp
  · rw [List.pairwise_append]
    refine ⟨h.ne, by simp, ?_⟩
    intro a ha b hb
    simp at hb
    subst hb
    rintro ⟨e1, e2⟩
    have := (h.is a ha).2.1
    rw [e1, e2, hl] at this
    cases this
theorem Cld.told {D : DataW Unit} {X : Nat → En} {n : Nat} {left : Lit → Bool} {acc S : List En} (h : Cld D (fmE X n) left acc) (hl : ∀ k, left k = false) (hw : ∀ i, i < n → (Lit.int .i64 (X i).1).wf = true ∧ (Lit.int .i64 (X i).2.1).wf = true) (hp : S.Perm acc) (hs : S.Pairwise (fun a b => enlt b a = false)) : Told (fmE X n) S := by
  constructor
  · intro e he
    exact (h.is e (hp.mem_iff.1 he)).1
  · intro r c v hm
    obtain ⟨i, hi, e⟩ := fmE_some hm
    obtain ⟨w1, w2⟩ := hw i hi
    rw [e] at w1 w2
    exact hp.mem_iff.2 (h.all r c v w1 w2 hm (hl _))
  · exact pw_of hs (((hp.pairwise_iff (fun {a b} q k => q ⟨k.1.symm, k.2.symm⟩)).2 h.ne))

theorem rowE_at {w : World} {B g m cap : Nat} {xs : List Value} (h : w.ownsRow B 87 3 (.slice (some ⟨g, 0, none⟩) m cap) m xs) : B ≤ g ∧ ∃ cur, w.heap[g]? = some (.cells cur 87 (0, 0)) ∧ cur.toList.take (m * 3) = xs := by
  rcases h.2 with ⟨e, _⟩ | ⟨b, cp, cur, ev, hb, hcur, hl, _, hsz, ht⟩
  · cases e
  · cases ev
    exact ⟨hb, cur, hcur, ht⟩
theorem iter_ne {P : Program} {k : TypeId} {R : Value → Option (DataW Unit × List MemPlace)} {w : World} {b r n g : Nat} {D : DataW Unit} {left : Lit → Bool} {cnt : Nat} (h : w.ranges P k R b r n D left cnt) {cur : Array Value} {e : TypeId} {fr : Nat × Nat} (hg : w.heap[g]? = some (.cells cur e fr)) : r ≠ g := by
  obtain ⟨_, _, _, _, _, _, _, _, _, hr, _⟩ := h
  intro q
  rw [q, hg] at hr
  cases hr
theorem news3 (w : World) (a b c : Int) (t : TypeId) (H : Nat) (hH : w.heap.size = H) : ∀ j u, (ecE (a, b, c))[j]? = some u → (w.alloc (.cells #[.int .i64 a, .int .i64 b, .int .i64 c] t)).cell? (Addr.add ⟨H, 0, none⟩ j) = some u := by
  intro j u h
  subst hH
  match j, h with
  | 0, h => simp [ecE] at h; subst h; rw [Go.WideShapes.add_plain]; go_simp
  | 1, h => simp [ecE] at h; subst h; rw [Go.WideShapes.add_plain]; go_simp
  | 2, h => simp [ecE] at h; subst h; rw [Go.WideShapes.add_plain]; go_simp
  | j + 3, h => simp [ecE] at h
theorem ecE_one (x : En) : ∀ u ∈ ecE x, u.oneCell' = true := by
  intro u hu
  simp [ecE] at hu
  rcases hu with rfl | rfl | rfl <;> rfl

set_option maxHeartbeats 4000000 in
theorem entries_any (b N : Nat) (D : DataW Unit) (X : Nat → En) (n : Nat) (w : World) (hg : Hid (Grd w b N D)) (hf : Hid (Fmd D (fmE X n))) (hN : N ≤ 200) (hw : Hid (∀ i, i < n → (Lit.int .i64 (X i).1).wf = true ∧ (Lit.int .i64 (X i).2.1).wf = true)) :
    Calls Tryz.prog 97 #[.map (some b)] w fun e w' => ∃ (g m cap : Nat) (Y : Nat → En), e = .returned (.slice (some ⟨g, 0, none⟩) m cap) ∧ m ≤ 200 ∧ w.heap.size ≤ g ∧ EntV w' (some ⟨g, 0, none⟩) m Y ∧ Told (fmE X n) (eLs m Y) ∧ Chg nob w w' := by
  obtain ⟨i0, hi, hz0, hz1, hz2⟩ := info_parts infoEn
  have HI := hik hi
  have HZ0 := hik hz0
  have HZ1 := hik hz1
  have HZ2 := hik hz2
  have hsz : Maps.size D ≤ 200 := by
    obtain ⟨es, ck, hb, F, hs, hD⟩ := hg.out
    rw [hD, Maps.size_eq, length_sorted]
    simp; omega
  have hb0 : i0.bytes * Maps.size D ≤ 281474976710656 := by rw [hz2]; omega
  clear hi hz0 hz1 hz2
  have HB := hik hg.out.lt
  go_enter Tryz.func97, Tryz.ntmps97
  go_wp2_with (first
    | (at_len; refine wpList_len_own _ rfl _ 115 rfl 142 3 Tryz.underlying115 _ b N D rfl hg.out ?_)
    | (at_make; refine wpList_make_own _ rfl _ _ 41 rfl w.heap.size 87 i0 (.agg #[.int .i64 0, .int .i64 0, .int .i64 0]) 3 Tryz.underlying41 HI.out HZ0.out HZ1.out .i64 .i64 _ (Maps.size D) rfl rfl rfl hb0 (by unfold maxLen; omega) (Nat.le_refl _) ?_; intro w1 hrow1 hg1)
    | (at_range; refine wpList_range_own _ rfl _ 115 rfl 142 3 lawC Tryz.underlying115 _ b N _ rfl (World.ownsMap.kept hg.out hg1 (by simp)) ?_; intro w0 hrg0 hg0 hs0)
    | go_in)
  go_frame
  clear hb0
  have K1 := hik ((Chg.refl nob w).grown hg1 (fun k e => by cases e))
  have K0 := hik (K1.out.grown hg0 (fun k e => by cases e))
  have R0 := hik hrg0
  have S0 := hik (hrow1.kept hg0 (.inr (by simp [Value.ownBlock])))
  have L1 := hik hg1.size
  clear hrow1 hg1 hrg0 hg0 hs0
  go_loopw [3] (fun s3 wr => ∃ (left : Lit → Bool) (cnt g m cap : Nat) (Y : Nat → En), s3 = .slice (some ⟨g, 0, none⟩) m cap ∧ m + cnt ≤ Maps.size D ∧ Hid (wr.ranges Tryz.prog 142 (plainElem Tryz.prog 3) b w1.heap.size N D left cnt) ∧ Hid (wr.ownsRow w.heap.size 87 3 (.slice (some ⟨g, 0, none⟩) m cap) m ((List.range (m * 3)).map (tf Y))) ∧ Hid (Cld D (fmE X n) left (eLs m Y)) ∧ Hid (Chg nob w wr)) (fun _ wr => wr.rangeLeft b w1.heap.size)
  case atStart => exact ⟨_, _, _, 0, _, fun _ => (0, 0, 0), rfl, by omega, R0, S0, hik (Cld.start hf.out), K0⟩
  case round =>
    obtain ⟨left, cnt, g, m, cap, Y, rfl, hmc, RG, RW, CL, KW⟩ := hrel
    go_wp2_with (first
      | (at_next; refine wpList_next_ranges _ rfl _ rfl 142 lawC (plainElem Tryz.prog 3) (fun x : Int × Int => .agg #[.int .i64 x.1, .int .i64 x.2]) (Value.int .i64) (fun key kl hk => by obtain ⟨x, hx, _⟩ := keyC_inv hk; exact ⟨x, hx⟩) (fun v y hv => by obtain ⟨c, rfl, _⟩ := plainElem_int_inv Tryz.underlying3 hv; exact ⟨c, rfl⟩) b w1.heap.size N _ _ _ rfl RG.out ?_ ?_)
      | go_in)
    · intro hc0 hl0
      have HL := hik hl0
      clear hl0 hc0
      obtain ⟨hbg, cur, hcur, htk⟩ := rowE_at RW.out
      have HH := hik (holdsE hcur htk)
      have HG := hik (show g < wr.heap.size from (Array.getElem?_eq_some_iff.1 hcur).1)
      have HBG := hik hbg
      clear hcur htk hbg
      go_wp2_with fail
      refine (sort_any g cap m Y _ HH HG (by omega)).mono ?_
      rintro e w3 ⟨rfl, ⟨Z, hp, hs, hv⟩, k3⟩
      have A1 := hik hp
      have A2 := hik hs
      have A3 := hik hv
      have A4 := hik (KW.out.near k3 (fun i e => by rw [e]; exact HBG.out))
      clear hp hs hv k3
      go_wp2
      go_ret
      exact ⟨g, m, cap, Z, rfl, by omega, HBG.out, A3.out, CL.out.told HL.out hw.out A1.out A2.out, A4.out⟩
    · intro x1 x2 c kl yd yp w2 cnt2 hkey hlk hv hat hrg2 hlt hg2 hs2 hen
      obtain ⟨x', ex, wx, wy⟩ := keyC_inv hkey
      simp at ex
      obtain ⟨e1, e2⟩ := ex
      rw [← e1] at wx
      rw [← e2] at wy
      clear e1 e2
      rw [keyC wx wy] at hkey
      cases hkey
      obtain ⟨c', ec, ey, wc⟩ := plainElem_int_inv Tryz.underlying3 hv
      cases ec
      cases ey
      have C2 := hik (CL.out.step hf.out wx wy hlk hat)
      obtain ⟨hbg, cur, hcur, htk⟩ := rowE_at RW.out
      have hrg := iter_ne RG.out hcur
      have RW2 := hik (RW.out.kept hg2 (.inr (by simp [Value.ownBlock]; exact fun e => hrg e.symm)))
      have RG2 := hik hrg2
      have KW2 := hik (KW.out.grown hg2 (fun k e _ => by cases e; have := L1.out; omega))
      have HBG := hik hbg
      have HLT := hik hlt
      have HMC := hik hmc
      have L2 := hik KW2.out.size
      clear hlk hv hat hrg2 hs2 hcur htk hbg wc wx wy hlt hg2
      go_wp2_with (first
        | (at_builtin; refine wpList_append_lies _ rfl _ _ 41 rfl w.heap.size 87 i0 (.agg #[.int .i64 0, .int .i64 0, .int .i64 0]) 3 24 Tryz.underlying41 HI.out HZ0.out HZ1.out HZ2.out rfl (by decide) (.slice (some ⟨g, 0, none⟩) m cap) m _ rfl ((RW2.out.alloc _).alloc _) ⟨_, 0, none⟩ 1 1 (ecE (x1, x2, c)) rfl rfl (news3 _ x1 x2 c _ _ (by simp)) (ecE_one _) (by decide) (by unfold maxLen; omega) (by omega) (by have := L2.out; simp; omega) _ rfl ?_; intro g' cap' w3 hown3 hg3 hli3 hl3; go_frame)
        | go_in)
      have hrg3 := ((RG2.out.alloc (.cells #[.int .i64 x1, .int .i64 x2] 142)).alloc (.cells #[.int .i64 x1, .int .i64 x2, .int .i64 c] 87)).kept hg3 (by simp [Value.ownBlock]; have := HB.out; have := HBG.out; omega) (by simp [Value.ownBlock]; exact hrg)
      go_roundw
      case rel =>
        refine ⟨_, cnt2, g', m + 1, cap', upN Y m (x1, x2, c), rfl, by have := HLT.out; have := HMC.out; omega, hik hrg3, ?_, ?_, ?_⟩
        · rw [tfs_snoc]; exact hik hown3
        · rw [eLs_snoc]; exact C2
        · exact hik (((KW2.out.alloc _).alloc _).grown hg3 (fun k e _ => by simp [Value.ownBlock] at e; have := HBG.out; omega))
      case measure => rw [hrg3.left_eq, RG.out.left_eq]; exact HLT.out

end Go.Proofs.YtppiilbcnkphbaaGreat

namespace Go.Proofs.YtppiilbcnkphbaaGreat
open Go.ChangeShapes Go.WideShapes Go.ChangeAt Go.RowKit
open Go.Shelf Go.Lib Go.Sort
open Go.Maps (Keyed IsMap Tidy has)
set_option linter.unusedVariables false
set_option maxRecDepth 100000
set_option linter.unusedSimpArgs false

theorem neE : NeqAt Tryz.prog 87 (fun x : En => .agg (ecE x).toArray) (fun x y => decide (x = y)) := by
  refine ⟨fun x y w => ?_, GuardAt.agg _ (by kernel_rfl)⟩
  have u3 := Tryz.underlying3
  have a3 := Tryz.isAgg3
  have z3 := Tryz.sizeOf3
  have hS : Tryz.prog.underlying 87 = some (.struct (Tryz.prog.fieldsOf 87)) := by kernel_rfl
  have hp : Tryz.prog.stoodInHeld 87 = false := by kernel_rfl
  obtain ⟨x1, x2, x3⟩ := x
  obtain ⟨y1, y2, y3⟩ := y
  simp only [ecE]
  rw [run_neq_struct, show (10000 : Nat) = 9999 + 1 from rfl, run_equalIn_agg w 9999 87 _ _ hS hp]
  simp only [Program.fieldsOf, Tryz.underlying87]
  go_simp
  by_cases h1 : x1 = y1 <;> by_cases h2 : x2 = y2 <;> by_cases h3 : x3 = y3 <;> simp [h1, h2, h3]
theorem allEq_iff : ∀ (l l' : List En), Lib.allEq (fun x y : En => decide (x = y)) l l' = decide (l = l')
  | [], [] => by simp [Lib.allEq]
  | [], _ :: _ => by simp [Lib.allEq]
  | _ :: _, [] => by simp [Lib.allEq]
  | x :: l, y :: l' => by
    rw [Lib.allEq, allEq_iff l l']
    by_cases h : x = y <;> simp [h]
theorem eLs_bang {n : Nat} {X : Nat → En} {j : Nat} (h : j < n) : (eLs n X)[j]! = X j := by
  rw [getElem!_pos _ _ (by rw [eLs_len]; exact h), eLs_get]

set_option maxHeartbeats 2000000 in
theorem equalE_any (g m cap : Nat) (c : Option Addr) (n cap' : Nat) (Y X : Nat → En) (w : World) (h1 : Hid (EntV w (some ⟨g, 0, none⟩) m Y)) (h2 : Hid (EntV w c n X)) (hm : m ≤ 200) (hn : n ≤ 200) :
    Calls Tryz.prog 96 #[.slice (some ⟨g, 0, none⟩) m cap, .slice c n cap'] w fun e w' => e = .returned (.bool (decide (eLs m Y = eLs n X))) ∧ Chg nob w w' := by
  have cells : ∀ {c : Option Addr} {b o n : Nat} {X : Nat → En}, EntV w c n X → c = some ⟨b, o, none⟩ → ∀ j, j < (eLs n X).length → ∀ i v, (ecE (eLs n X)[j]!)[i]? = some v → w.cell? ⟨b, o + j * 3 + i, none⟩ = some v := by
    intro c b o n X h ec j hj i v hv
    rw [eLs_len] at hj
    rw [eLs_bang hj] at hv
    obtain ⟨xb, xo, e, _, c0, c1, c2⟩ := h j hj
    rw [ec] at e
    simp at e
    obtain ⟨rfl, rfl⟩ := e
    match i, hv with
    | 0, hv => simp [ecE] at hv; subst hv; exact c0
    | 1, hv => simp [ecE] at hv; subst hv; exact c1
    | 2, hv => simp [ecE] at hv; subst hv; exact c2
    | i + 3, hv => simp [ecE] at hv
  by_cases h0 : n = 0
  · subst h0
    clear cells h1 h2
    by_cases hm0 : m = 0
    · subst hm0
      go_enter Tryz.func96, Tryz.ntmps96
      go_wp2
      go_rounds 1
      go_ret
      exact ⟨rfl, Chg.refl _ _⟩
    · have hm1 : ¬ (m : Int) = 0 := by omega
      have hz : decide (eLs m Y = eLs 0 X) = false := by
        rw [decide_eq_false_iff_not]
        intro e
        have := congrArg List.length e
        rw [eLs_len, eLs_len] at this
        omega
      rw [hz]
      go_enter Tryz.func96, Tryz.ntmps96
      go_wp2
      go_ret
      exact ⟨rfl, Chg.refl _ _⟩
  · obtain ⟨b2, o2, ec, _⟩ := h2.out 0 (by omega)
    have hcon := AnyQ.slices_Equal equE 3 Tryz.isAgg87 Tryz.sizeOf87 ecE (fun _ => rfl) (fun x y => decide (x = y)) neE g 0 m cap b2 o2 n cap' (eLs m Y) (eLs n X) w (by rw [eLs_len]; exact Nat.le_refl _) (by rw [eLs_len]; exact Nat.le_refl _) (by omega) (by omega) (cells h1.out rfl) (cells h2.out ec)
    change Calls Tryz.prog 96 _ _ _ at hcon
    rw [← ec] at hcon
    refine hcon.mono ?_
    rintro e w' ⟨rfl, q, rfl⟩
    rw [List.take_of_length_le (by rw [eLs_len]; exact Nat.le_refl _), List.take_of_length_le (by rw [eLs_len]; exact Nat.le_refl _), allEq_iff]
    exact ⟨rfl, (Chg.refl _ _).drewN _⟩

set_option maxHeartbeats 2000000 in
theorem tells_any (b n0 : Nat) (D0 : DataW Unit) (c : Option Addr) (n cap : Nat) (X : Nat → En) (w : World) (hg : Hid (Grd w b n0 D0)) (hv : Hid (EntV w c n X)) (hn : n ≤ 200) (hw : Hid (∀ i, i < n → (Lit.int .i64 (X i).1).wf = true ∧ (Lit.int .i64 (X i).2.1).wf = true ∧ (Lit.int .i64 (X i).2.2).wf = true)) :
    Calls Tryz.prog 88 #[.map (some b), .slice c n cap] w fun e w' => e = .returned (.bool (rsg n X)) ∧ (∃ D, Grd w' b n D) ∧ Chg (fun k => k = b) w w' := by
  have HB := hik (show ∀ xb xo, c = some ⟨xb, xo, none⟩ → 0 < n → xb ≠ b from by obtain ⟨es, ck, hb⟩ := hg.out.mapAt; exact hv.out.noMap hb)
  go_enter Tryz.func88, Tryz.ntmps88
  go_wp2_with fail
  refine (take_any b n0 D0 c n cap X _ hg hv hn hw).mono ?_
  rintro e w1 ⟨rfl, ⟨D, g1, f1⟩, k1⟩
  have G1 := hik g1
  have F1 := hik f1
  have K1 := hik k1
  have V1 := hik (hv.out.chg k1 (fun xb xo e hp _ => HB.out xb xo e hp))
  clear g1 f1 k1
  go_wp2_with fail
  refine (entries_any b n D X n _ G1 F1 hn (hik (fun i hi => ⟨(hw.out i hi).1, (hw.out i hi).2.1⟩))).mono ?_
  rintro e w2 ⟨g, m, cp, Y, rfl, hm, hgl, v2, t2, k2⟩
  have V2 := hik v2
  have T2 := hik t2
  have G2 := hik (G1.out.keep k2)
  have K2 := hik (K1.out.trans k2.wide)
  have W2 := hik (V1.out.keep k2)
  clear v2 t2 k2
  go_wp2_with fail
  refine (equalE_any g m cp c n cap Y X _ V2 W2 hm hn).mono ?_
  rintro e w3 ⟨rfl, k3⟩
  have G3 := hik (G2.out.keep k3)
  have K3 := hik (K2.out.trans k3.wide)
  clear k3
  have hbb : decide (eLs m Y = eLs n X) = rsg n X := by
    have := told_back T2.out
    cases h : rsg n X
    · rw [h] at this
      simp [this]
    · rw [h] at this
      simp [this]
  rw [hbb]
  go_wp2
  go_ret
  exact ⟨rfl, ⟨D, G3.out⟩, K3.out⟩

set_option maxHeartbeats 4000000 in
theorem isMatrix_any (b n0 : Nat) (D0 : DataW Unit) (c : Option Addr) (n cap : Nat) (X : Nat → En) (R C : Int) (w : World) (hg : Hid (Grd w b n0 D0)) (hv : Hid (EntV w c n X)) (hn : n ≤ 1099511627776) (hR : R ≤ 1048576) (hC : C ≤ 1048576) :
    Calls Tryz.prog 68 #[.map (some b), .slice c n cap, .int .i64 R, .int .i64 C] w fun e w' => e = .returned (.bool (elm R C n X)) ∧ (∃ n1 D, Grd w' b n1 D) ∧ Chg (fun k => k = b) w w' := by
  by_cases h2 : 200 < n
  · have hz : elm R C n X = false := by simp [elm, show ¬ n ≤ 200 by omega]
    have h3 : (200 : Int) < n := by omega
    rw [hz]
    go_enter Tryz.func68, Tryz.ntmps68
    go_wp2
    go_ret
    exact ⟨rfl, ⟨n0, D0, hg.out⟩, Chg.refl _ _⟩
  have h3 : ¬ (200 : Int) < n := by omega
  go_enter Tryz.func68, Tryz.ntmps68
  go_wp2
  go_loopw [16] (fun s wr => ∃ k : Nat, k ≤ n ∧ s = .int .i64 k ∧ Hid (∀ i, i < k → win R C (X i) = true) ∧ Hid (Chg nob w wr)) (fun s _ => n - (intOf s).toNat)
  case atStart => exact ⟨0, Nat.zero_le _, rfl, hik (fun i hi => by omega), hik (Chg.refl _ _)⟩
  case round =>
    obtain ⟨k, hk, rfl, HW, KW⟩ := hrel
    by_cases hlt : k < n
    · obtain ⟨xb, xo, rfl, hxb, c0, c1, c2⟩ := (hv.out.keep KW.out) k hlt
      have hkn : ((k : Nat) : Int) < n := by omega
      have HXb := hik hxb
      generalize hxx : X k = x at c0 c1 c2
      have HE := hik hxx
      clear hxx
      cases hwi : win R C x with
      | true =>
        have HT := hik hwi
        have hcon := within_any x R C
        rw [hwi] at hcon
        clear hwi
        go_wp2_with fail
        refine (hcon _).mono ?_
        rintro e w1 ⟨rfl, k1⟩
        have K1 := hik ((KW.out.alloc _).trans k1)
        clear k1 hcon
        go_wp2
        go_roundw
        case rel =>
          refine ⟨k + 1, by omega, by go_num, hik (fun i hi => ?_), K1⟩
          by_cases e : i = k
          · subst e; rw [HE.out]; exact HT.out
          · exact HW.out i (by omega)
        case measure => simp [intOf]; omega
      | false =>
        have HF := hik hwi
        have hcon := within_any x R C
        rw [hwi] at hcon
        clear hwi
        go_wp2_with fail
        refine (hcon _).mono ?_
        rintro e w1 ⟨rfl, k1⟩
        have K1 := hik ((KW.out.alloc _).trans k1)
        clear k1 hcon
        go_wp2
        go_ret
        have hz : elm R C n X = false := by
          have : ((List.range n).all fun i => win R C (X i)) = false := by
            rw [List.all_eq_false]
            exact ⟨k, by simpa using hlt, by rw [HE.out, HF.out]; simp⟩
          simp [elm, this]
        rw [hz]
        exact ⟨rfl, ⟨n0, D0, hg.out.keep K1.out⟩, K1.out.wide⟩
    · obtain rfl : k = n := by omega
      have hwf : ∀ i, i < k → (Lit.int .i64 (X i).1).wf = true ∧ (Lit.int .i64 (X i).2.1).wf = true ∧ (Lit.int .i64 (X i).2.2).wf = true := by
        intro i hi
        have := HW.out i hi
        simp [win] at this
        exact ⟨wf64 (by omega) (by omega), wf64 (by omega) (by omega), wf64 (by omega) (by omega)⟩
      have HWF := hik hwf
      have hz : elm R C k X = rsg k X := by
        have : ((List.range k).all fun i => win R C (X i)) = true := by
          rw [List.all_eq_true]
          intro i hi
          exact HW.out i (by simpa using hi)
        simp [elm, this, show k ≤ 200 by omega]
      have HZ := hik hz
      clear hwf hz
      go_wp2_with fail
      refine (tells_any b n0 D0 c k cap X _ (hik (hg.out.keep KW.out)) (hik (hv.out.keep KW.out)) (by omega) HWF).mono ?_
      rintro e w1 ⟨rfl, ⟨D, g1⟩, k1⟩
      have G1 := hik g1
      have K1 := hik (KW.out.wide.trans k1)
      clear g1 k1
      go_wp2
      go_ret
      refine ⟨?_, ⟨k, D, G1.out⟩, K1.out⟩
      rw [HZ.out]
      rfl

end Go.Proofs.YtppiilbcnkphbaaGreat
