/- Several texts in one: Entries that the library sorts; entries told out of a map, by their order: contracts. · Entries in memory, told by lists; lists that grow by append: words and laws. No condition but those that each theorem states. -/
import Derived.Test.YtkpohajmcngjcaaDoorBzai
import Derived.Deep.AppendLies
import Derived.Test.YtkpohajmcngjcaaDoorBzah
import Derived.Laws.AppendOwn
namespace Go.Proofs.YtkpohajmcngjcaaDoor
open Go.ChangeShapes Go.WideShapes Go.ChangeAt Go.RowKit
open Go.Shelf Go.Lib Go.Sort
open Go.Maps (Keyed IsMap Tidy has)
set_option linter.unusedVariables false
set_option maxRecDepth 100000
set_option linter.unusedSimpArgs false

theorem infoEn : (Tryd.prog.info? 44).map (fun i => (i.zero, i.size, i.bytes)) = some (some (.agg #[.int .i64 0, .int .i64 0, .int .i64 0]), 3, 24) := by kernel_rfl
/-- One entry more. -/
def upN (X : Nat → En) (n : Nat) (x : En) (i : Nat) : En := if i = n then x else X i
theorem eLs_snoc (n : Nat) (X : Nat → En) (x : En) : eLs (n + 1) (upN X n x) = eLs n X ++ [x] := by
  simp only [eLs, List.range_succ, List.map_append, List.map_cons, List.map_nil]
  congr 1
  · apply List.map_congr_left
    intro i hi
    simp at hi
    simp [upN, show i ≠ n by omega]
  · simp [upN]
theorem tfs_snoc (n : Nat) (X : Nat → En) (x : En) : (List.range ((n + 1) * 3)).map (tf (upN X n x)) = (List.range (n * 3)).map (tf X) ++ ecE x := by
  rw [show (n + 1) * 3 = n * 3 + 1 + 1 + 1 by omega]
  simp only [List.range_succ, List.map_append, List.map_cons, List.map_nil, List.append_assoc]
  congr 1
  · apply List.map_congr_left
    intro i hi
    simp at hi
    simp [tf, upN, show i / 3 ≠ n by omega]
  · simp [tf_0, tf_1, tf_2, upN, ecE]
theorem holdsE {w : World} {g : Nat} {cur : Array Value} {e : TypeId} {n : Nat} {X : Nat → En} (hb : w.heap[g]? = some (.cells cur e (0, 0))) (ht : cur.toList.take (n * 3) = (List.range (n * 3)).map (tf X)) : HoldsK ecE 3 w g 0 (eLs n X).toArray := by
  intro j hj
  rw [size_flatK] at hj
  have hj' : j < n * 3 := by simpa [eLs_len] using hj
  rw [get_flatK _ _ _ _ (by simpa [eLs_len] using hj)]
  refine ⟨?_, by simp [World.frozen?, hb]⟩
  have h1 : (cur.toList.take (n * 3))[j]? = ((List.range (n * 3)).map (tf X))[j]? := by rw [ht]
  rw [List.getElem?_take_of_lt hj', List.getElem?_map, List.getElem?_range hj'] at h1
  simp only [World.cell?, hb, Nat.zero_add]
  simp only [Option.isSome_none, Bool.false_eq_true, if_false]
  rw [← Array.getElem?_toList, h1]
  have e1 : (eLs n X).toArray[j / 3]! = X (j / 3) := by
    rw [getElem!_pos _ _ (by simp [eLs_len]; omega)]
    simp [eLs]
  rw [e1]
  rcases (show j % 3 = 0 ∨ j % 3 = 1 ∨ j % 3 = 2 by omega) with q | q | q <;> simp [tf, ecE, q]

set_option maxHeartbeats 1000000 in
theorem sort_any (g cap : Nat) (n : Nat) (X : Nat → En) (w : World) (hH : Hid (HoldsK ecE 3 w g 0 (eLs n X).toArray)) (hg : Hid (g < w.heap.size)) (hn : n ≤ 1099511627776) :
    Calls Tryd.prog 83 #[.slice (some ⟨g, 0, none⟩) n cap, .func (.func 84) #[] #[]] w fun e w' => e = .returned (.tuple #[]) ∧
      (∃ Y : Nat → En, (eLs n Y).Perm (eLs n X) ∧ (eLs n Y).Pairwise (fun a b => enlt b a = false) ∧ EntV w' (some ⟨g, 0, none⟩) n Y) ∧ Chg (fun k => k = g) w w' := by
  have eg : ∀ args w, (callFunc 84 args).run Tryd.prog w = .ok (.enter 84 args) w := enters_of Tryd.func84 (by kernel_rfl) rfl
  have hcon := AnyQ.slices_SortFunc sortE 3 Tryd.isAgg44 Tryd.sizeOf44 ecE (fun _ => rfl) (fun x v hv => by simp [ecE] at hv; rcases hv with rfl | rfl | rfl <;> rfl) cfE swoE 84 #[] g 0 cap (eLs n X).toArray w eg (cmpLaysE g 0 _ w) hH.out hg.out (by simp [eLs_len]; omega)
  change Calls Tryd.prog 83 _ _ _ at hcon
  have hsz : (eLs n X).toArray.size = n := by simp [eLs_len]
  rw [hsz] at hcon
  refine hcon.mono ?_
  rintro e w' ⟨rfl, d, m, os, hp, hs, rfl⟩
  obtain ⟨hds, _, hpm⟩ := hp
  rw [hsz] at hds
  have hdl : d.toList = eLs n (fun i => d[i]!) := by
    apply List.ext_getElem
    · simp [eLs_len, hds]
    · intro i h1 h2
      rw [eLs_get, getElem!_pos d i (by simpa using h1)]
      simp
  refine ⟨rfl, ⟨fun i => d[i]!, ?_, ?_, ?_⟩, ?_⟩
  · rw [← hdl]
    have e1 : (d.extract 0 n).toList = d.toList := by rw [← hds]; simp
    have e2 : ((eLs n X).toArray.extract 0 n).toList = eLs n X := by simp [List.take_of_length_le, eLs_len]
    rwa [e1, e2] at hpm
  · rw [← hdl, List.pairwise_iff_getElem]
    intro i j hi hj hij
    have := hs i j (Nat.zero_le _) hij (by rw [← hds]; simpa using hj)
    rw [ltE, getElem!_pos d i (by simpa using hi), getElem!_pos d j (by simpa using hj)] at this
    simpa using this
  · have hk : HoldsK ecE 3 (sortWorldK ecE 3 w g 0 m d os) g 0 d := by
      unfold sortWorldK
      refine holdsK_grow ecE 3 _ _ _ _ _ ?_ (holdsK_putRowK ecE 3 _ _ _ (eLs n X).toArray d (holdsK_ahead ecE 3 _ _ _ _ _ hH.out) (by rw [hds, hsz]))
      simpa [putRowK, putRow, mapBlock, Sort.ahead] using hg.out
    intro i hi
    refine ⟨g, 0, rfl, ?_, ?_, ?_, ?_⟩
    · have := hg.out
      simp [sortWorldK, grow, putRowK, putRow, mapBlock, Sort.ahead]
      omega
    · exact (hk.cell (i := i) (c := 0) (by omega) (by omega)).1
    · exact (hk.cell (i := i) (c := 1) (by omega) (by omega)).1
    · exact (hk.cell (i := i) (c := 2) (by omega) (by omega)).1
  · refine ⟨rfl, rfl, rfl, by simp [sortWorldK, grow, putRowK, putRow, mapBlock, Sort.ahead], fun k hk hne => ?_⟩
    unfold sortWorldK
    rw [heap_grow_old _ _ (by simpa [putRowK, putRow, mapBlock, Sort.ahead] using hk)]
    simp [putRowK, putRow, mapBlock, Sort.ahead, Array.getElem?_modify, show g ≠ k from fun e => hne e.symm]

/-- The places that have come up so far. -/
structure Cld (D : DataW Unit) (m : Int → Int → Option Int) (left : Lit → Bool) (acc : List En) : Prop where
  is : ∀ e ∈ acc, m e.1 e.2.1 = some e.2.2 ∧ left (kyE e.1 e.2.1) = false ∧ (Lit.int .i64 e.1).wf = true ∧ (Lit.int .i64 e.2.1).wf = true
  all : ∀ r c v, (Lit.int .i64 r).wf = true → (Lit.int .i64 c).wf = true → m r c = some v → left (kyE r c) = false → (r, c, v) ∈ acc
  ne : acc.Pairwise (fun a b => ¬ (a.1 = b.1 ∧ a.2.1 = b.2.1))
theorem Cld.start {D : DataW Unit} {m : Int → Int → Option Int} (h : Fmd D m) : Cld D m (has D) [] :=
  ⟨fun e he => (by cases he), fun r c v wr wc hm hl => (by
    have := Maps.has_true_of_atKey (h.som r c v wr wc hm)
    rw [hl] at this; cases this), List.Pairwise.nil⟩
theorem Cld.step {D : DataW Unit} {m : Int → Int → Option Int} {left : Lit → Bool} {acc : List En} (h : Cld D m left acc) (hf : Fmd D m) {r c v : Int} (wr : (Lit.int .i64 r).wf = true) (wc : (Lit.int .i64 c).wf = true) (hl : left (kyE r c) = true) (hat : ∀ z, D.atKey (kyE r c) z = .lit (.int .i64 v)) :
    Cld D m (fun z => left z && !z.sameKey (kyE r c)) (acc ++ [(r, c, v)]) := by
  have hm : m r c = some v := by
    cases e : m r c with
    | none =>
      have := Maps.has_true_of_atKey hat
      rw [hf.non r c wr wc e] at this; cases this
    | some u =>
      have h1 := hf.som r c u wr wc e (.lit (.int .i64 0))
      rw [hat] at h1
      simp at h1
      rw [h1]
  constructor
  · intro e he
    rcases List.mem_append.1 he with he | he
    · obtain ⟨h1, h2, h3⟩ := h.is e he
      exact ⟨h1, by simp [h2], h3⟩
    · simp at he
      subst he
      exact ⟨hm, by simp [WideAt.sameKey_self (kyE_key r c)], wr, wc⟩
  · intro r' c' v' wr' wc' hm' hl'
    simp only [Bool.and_eq_false_iff, Bool.not_eq_false'] at hl'
    rcases hl' with h1 | h1
    · exact List.mem_append_left _ (h.all r' c' v' wr' wc' hm' h1)
    · obtain ⟨rfl, rfl⟩ := kyE_inj wr' wc' wr wc (WideAt.sameKey_eq h1)
      rw [hm] at hm'
      cases hm'
      simp
  · rw [List.pairwise_append]
    refine ⟨h.ne, by simp, ?_⟩
    intro a ha b hb
    simp at hb
    subst hb
    rintro ⟨e1, e2⟩
    have := (h.is a ha).2.1
    rw [e1, e2, hl] at this
    cases this
theorem Cld.told {D : DataW Unit} {X : Nat → En} {n : Nat} {left : Lit → Bool} {acc S : List En} (h : Cld D (fmE X n) left acc) (hl : ∀ k, left k = false) (hw : ∀ i, i < n → (Lit.int .i64 (X i).1).wf = true ∧ (Lit.int .i64 (X i).2.1).wf = true) (hp : S.Perm acc) (hs : S.Pairwise (fun a b => enlt b a = false)) : Told (fmE X n) S := by
  constructor
  · intro e he
    exact (h.is e (hp.mem_iff.1 he)).1
  · intro r c v hm
    obtain ⟨i, hi, e⟩ := fmE_some hm
    obtain ⟨w1, w2⟩ := hw i hi
    rw [e] at w1 w2
    exact hp.mem_iff.2 (h.all r c v w1 w2 hm (hl _))
  · exact pw_of hs (((hp.pairwise_iff (fun {a b} q k => q ⟨k.1.symm, k.2.symm⟩)).2 h.ne))

theorem rowE_at {w : World} {B g m cap : Nat} {xs : List Value} (h : w.ownsRow B 44 3 (.slice (some ⟨g, 0, none⟩) m cap) m xs) : B ≤ g ∧ ∃ cur, w.heap[g]? = some (.cells cur 44 (0, 0)) ∧ cur.toList.take (m * 3) = xs := by
  rcases h.2 with ⟨e, _⟩ | ⟨b, cp, cur, ev, hb, hcur, hl, _, hsz, ht⟩
  · cases e
  · cases ev
    exact ⟨hb, cur, hcur, ht⟩
theorem iter_ne {P : Program} {k : TypeId} {R : Value → Option (DataW Unit × List MemPlace)} {w : World} {b r n g : Nat} {D : DataW Unit} {left : Lit → Bool} {cnt : Nat} (h : w.ranges P k R b r n D left cnt) {cur : Array Value} {e : TypeId} {fr : Nat × Nat} (hg : w.heap[g]? = some (.cells cur e fr)) : r ≠ g := by
  obtain ⟨_, _, _, _, _, _, _, _, _, hr, _⟩ := h
  intro q
  rw [q, hg] at hr
  cases hr
theorem news3 (w : World) (a b c : Int) (t : TypeId) (H : Nat) (hH : w.heap.size = H) : ∀ j u, (ecE (a, b, c))[j]? = some u → (w.alloc (.cells #[.int .i64 a, .int .i64 b, .int .i64 c] t)).cell? (Addr.add ⟨H, 0, none⟩ j) = some u := by
  intro j u h
  subst hH
  match j, h with
  | 0, h => simp [ecE] at h; subst h; rw [Go.WideShapes.add_plain]; go_simp
  | 1, h => simp [ecE] at h; subst h; rw [Go.WideShapes.add_plain]; go_simp
  | 2, h => simp [ecE] at h; subst h; rw [Go.WideShapes.add_plain]; go_simp
  | j + 3, h => simp [ecE] at h
theorem ecE_one (x : En) : ∀ u ∈ ecE x, u.oneCell' = true := by
  intro u hu
  simp [ecE] at hu
  rcases hu with rfl | rfl | rfl <;> rfl

set_option maxHeartbeats 4000000 in
theorem entries_any (b N : Nat) (D : DataW Unit) (X : Nat → En) (n : Nat) (w : World) (hg : Hid (Grd w b N D)) (hf : Hid (Fmd D (fmE X n))) (hN : N ≤ 200) (hw : Hid (∀ i, i < n → (Lit.int .i64 (X i).1).wf = true ∧ (Lit.int .i64 (X i).2.1).wf = true)) :
    Calls Tryd.prog 70 #[.map (some b)] w fun e w' => ∃ (g m cap : Nat) (Y : Nat → En), e = .returned (.slice (some ⟨g, 0, none⟩) m cap) ∧ m ≤ 200 ∧ w.heap.size ≤ g ∧ EntV w' (some ⟨g, 0, none⟩) m Y ∧ Told (fmE X n) (eLs m Y) ∧ Chg nob w w' := by
  obtain ⟨i0, hi, hz0, hz1, hz2⟩ := info_parts infoEn
  have HI := hik hi
  have HZ0 := hik hz0
  have HZ1 := hik hz1
  have HZ2 := hik hz2
  have hsz : Maps.size D ≤ 200 := by
    obtain ⟨es, ck, hb, F, hs, hD⟩ := hg.out
    rw [hD, Maps.size_eq, length_sorted]
    simp; omega
  have hb0 : i0.bytes * Maps.size D ≤ 281474976710656 := by rw [hz2]; omega
  clear hi hz0 hz1 hz2
  have HB := hik hg.out.lt
  go_enter Tryd.func70, Tryd.ntmps70
  go_wp2_with (first
    | (at_len; refine wpList_len_own _ rfl _ 59 rfl 111 3 Tryd.underlying59 _ b N D rfl hg.out ?_)
    | (at_make; refine wpList_make_own _ rfl _ _ 28 rfl w.heap.size 44 i0 (.agg #[.int .i64 0, .int .i64 0, .int .i64 0]) 3 Tryd.underlying28 HI.out HZ0.out HZ1.out .i64 .i64 _ (Maps.size D) rfl rfl rfl hb0 (by unfold maxLen; omega) (Nat.le_refl _) ?_; intro w1 hrow1 hg1)
    | (at_range; refine wpList_range_own _ rfl _ 59 rfl 111 3 lawC Tryd.underlying59 _ b N _ rfl (World.ownsMap.kept hg.out hg1 (by simp)) ?_; intro w0 hrg0 hg0 hs0)
    | go_in)
  go_frame
  clear hb0
  have K1 := hik ((Chg.refl nob w).grown hg1 (fun k e => by cases e))
  have K0 := hik (K1.out.grown hg0 (fun k e => by cases e))
  have R0 := hik hrg0
  have S0 := hik (hrow1.kept hg0 (.inr (by simp [Value.ownBlock])))
  have L1 := hik hg1.size
  clear hrow1 hg1 hrg0 hg0 hs0
  go_loopw [3] (fun s3 wr => ∃ (left : Lit → Bool) (cnt g m cap : Nat) (Y : Nat → En), s3 = .slice (some ⟨g, 0, none⟩) m cap ∧ m + cnt ≤ Maps.size D ∧ Hid (wr.ranges Tryd.prog 111 (plainElem Tryd.prog 3) b w1.heap.size N D left cnt) ∧ Hid (wr.ownsRow w.heap.size 44 3 (.slice (some ⟨g, 0, none⟩) m cap) m ((List.range (m * 3)).map (tf Y))) ∧ Hid (Cld D (fmE X n) left (eLs m Y)) ∧ Hid (Chg nob w wr)) (fun _ wr => wr.rangeLeft b w1.heap.size)
  case atStart => exact ⟨_, _, _, 0, _, fun _ => (0, 0, 0), rfl, by omega, R0, S0, hik (Cld.start hf.out), K0⟩
  case round =>
    obtain ⟨left, cnt, g, m, cap, Y, rfl, hmc, RG, RW, CL, KW⟩ := hrel
    go_wp2_with (first
      | (at_next; refine wpList_next_ranges _ rfl _ rfl 111 lawC (plainElem Tryd.prog 3) (fun x : Int × Int => .agg #[.int .i64 x.1, .int .i64 x.2]) (Value.int .i64) (fun key kl hk => by obtain ⟨x, hx, _⟩ := keyC_inv hk; exact ⟨x, hx⟩) (fun v y hv => by obtain ⟨c, rfl, _⟩ := plainElem_int_inv Tryd.underlying3 hv; exact ⟨c, rfl⟩) b w1.heap.size N _ _ _ rfl RG.out ?_ ?_)
      | go_in)
    · intro hc0 hl0
      have HL := hik hl0
      clear hl0 hc0
      obtain ⟨hbg, cur, hcur, htk⟩ := rowE_at RW.out
      have HH := hik (holdsE hcur htk)
      have HG := hik (show g < wr.heap.size from (Array.getElem?_eq_some_iff.1 hcur).1)
      have HBG := hik hbg
      clear hcur htk hbg
      go_wp2_with fail
      refine (sort_any g cap m Y _ HH HG (by omega)).mono ?_
      rintro e w3 ⟨rfl, ⟨Z, hp, hs, hv⟩, k3⟩
      have A1 := hik hp
      have A2 := hik hs
      have A3 := hik hv
      have A4 := hik (KW.out.near k3 (fun i e => by rw [e]; exact HBG.out))
      clear hp hs hv k3
      go_wp2
      go_ret
      exact ⟨g, m, cap, Z, rfl, by omega, HBG.out, A3.out, CL.out.told HL.out hw.out A1.out A2.out, A4.out⟩
    · intro x1 x2 c kl yd yp w2 cnt2 hkey hlk hv hat hrg2 hlt hg2 hs2 hen
      obtain ⟨x', ex, wx, wy⟩ := keyC_inv hkey
      simp at ex
      obtain ⟨e1, e2⟩ := ex
      rw [← e1] at wx
      rw [← e2] at wy
      clear e1 e2
      rw [keyC wx wy] at hkey
      cases hkey
      obtain ⟨c', ec, ey, wc⟩ := plainElem_int_inv Tryd.underlying3 hv
      cases ec
      cases ey
      have C2 := hik (CL.out.step hf.out wx wy hlk hat)
      obtain ⟨hbg, cur, hcur, htk⟩ := rowE_at RW.out
      have hrg := iter_ne RG.out hcur
      have RW2 := hik (RW.out.kept hg2 (.inr (by simp [Value.ownBlock]; exact fun e => hrg e.symm)))
      have RG2 := hik hrg2
      have KW2 := hik (KW.out.grown hg2 (fun k e _ => by cases e; have := L1.out; omega))
      have HBG := hik hbg
      have HLT := hik hlt
      have HMC := hik hmc
      have L2 := hik KW2.out.size
      clear hlk hv hat hrg2 hs2 hcur htk hbg wc wx wy hlt hg2
      go_wp2_with (first
        | (at_builtin; refine wpList_append_lies _ rfl _ _ 28 rfl w.heap.size 44 i0 (.agg #[.int .i64 0, .int .i64 0, .int .i64 0]) 3 24 Tryd.underlying28 HI.out HZ0.out HZ1.out HZ2.out rfl (by decide) (.slice (some ⟨g, 0, none⟩) m cap) m _ rfl ((RW2.out.alloc _).alloc _) ⟨_, 0, none⟩ 1 1 (ecE (x1, x2, c)) rfl rfl (news3 _ x1 x2 c _ _ (by simp)) (ecE_one _) (by decide) (by unfold maxLen; omega) (by omega) (by have := L2.out; simp; omega) _ rfl ?_; intro g' cap' w3 hown3 hg3 hli3 hl3; go_frame)
        | go_in)
      have hrg3 := ((RG2.out.alloc (.cells #[.int .i64 x1, .int .i64 x2] 111)).alloc (.cells #[.int .i64 x1, .int .i64 x2, .int .i64 c] 44)).kept hg3 (by simp [Value.ownBlock]; have := HB.out; have := HBG.out; omega) (by simp [Value.ownBlock]; exact hrg)
      go_roundw
      case rel =>
        refine ⟨_, cnt2, g', m + 1, cap', upN Y m (x1, x2, c), rfl, by have := HLT.out; have := HMC.out; omega, hik hrg3, ?_, ?_, ?_⟩
        · rw [tfs_snoc]; exact hik hown3
        · rw [eLs_snoc]; exact C2
        · exact hik (((KW2.out.alloc _).alloc _).grown hg3 (fun k e _ => by simp [Value.ownBlock] at e; have := HBG.out; omega))
      case measure => rw [hrg3.left_eq, RG.out.left_eq]; exact HLT.out

end Go.Proofs.YtkpohajmcngjcaaDoor

namespace Go.Proofs.YtkpohajmcngjcaaDoor
open Go.ChangeShapes Go.WideShapes Go.ChangeAt Go.RowKit
set_option linter.unusedVariables false
set_option maxRecDepth 100000
set_option linter.unusedSimpArgs false

/-- A list's cells. -/
def efl (l : List En) : List Value := l.flatMap ecE
theorem efl_len : ∀ (l : List En), (efl l).length = l.length * 3
  | [] => rfl
  | x :: l => by
    have := efl_len l
    unfold efl at this ⊢
    rw [List.flatMap_cons, List.length_append, this]
    show 3 + _ = _
    simp
    omega
theorem efl_app (a b : List En) : efl (a ++ b) = efl a ++ efl b := by unfold efl; rw [List.flatMap_append]
theorem efl_one (l : List En) : ∀ u ∈ efl l, u.oneCell' = true := by
  intro u hu
  obtain ⟨x, _, hx⟩ := List.mem_flatMap.1 hu
  exact ecE_one x u hx
theorem efl_get : ∀ (l : List En) (i : Nat), i < l.length → (efl l)[i * 3]? = some (.int .i64 (lfn l i).1) ∧ (efl l)[i * 3 + 1]? = some (.int .i64 (lfn l i).2.1) ∧ (efl l)[i * 3 + 2]? = some (.int .i64 (lfn l i).2.2)
  | [], i, h => by simp at h
  | x :: l, 0, _ => ⟨rfl, rfl, rfl⟩
  | x :: l, i + 1, h => by
    have ih := efl_get l i (by simpa using h)
    have e : ∀ j, (efl (x :: l))[j + 3]? = (efl l)[j]? := fun j => rfl
    rw [show (i + 1) * 3 = i * 3 + 3 by omega, show i * 3 + 3 + 1 = i * 3 + 1 + 3 by omega, show i * 3 + 3 + 2 = i * 3 + 2 + 3 by omega, e, e, e]
    exact ih
/-- A list of entries in block g. -/
def EnL (W : World) (g : Nat) (l : List En) : Prop := g < W.heap.size ∧ ∀ j u, (efl l)[j]? = some u → W.cell? ⟨g, j, none⟩ = some u
theorem EnL.chg {P : Nat → Prop} {W W' : World} {g : Nat} {l : List En} (h : EnL W g l) (k : Chg P W W') (hp : ¬ P g) : EnL W' g l :=
  ⟨Nat.lt_of_lt_of_le h.1 k.size, fun j u hj => by rw [k.cell (p := ⟨g, j, none⟩) h.1 hp]; exact h.2 j u hj⟩
theorem EnL.keep {W W' : World} {g : Nat} {l : List En} (h : EnL W g l) (k : Chg nob W W') : EnL W' g l := h.chg k (fun x => x)
theorem EnL.ent {W : World} {g : Nat} {l : List En} (h : EnL W g l) : EntV W (some ⟨g, 0, none⟩) l.length (lfn l) := by
  intro i hi
  obtain ⟨a, b, c⟩ := efl_get l i hi
  refine ⟨g, 0, rfl, h.1, ?_, ?_, ?_⟩
  · rw [Nat.zero_add]; exact h.2 _ _ a
  · rw [Nat.zero_add]; exact h.2 _ _ b
  · rw [Nat.zero_add]; exact h.2 _ _ c
theorem EnL.take {W : World} {g : Nat} {l : List En} (h : EnL W g l) (k : Nat) : ∀ j u, (efl (l.take k))[j]? = some u → W.cell? ((⟨g, 0, none⟩ : Addr).add j) = some u := by
  intro j u hj
  rw [Go.WideShapes.add_plain, Nat.zero_add]
  refine h.2 j u ?_
  have e : efl l = efl (l.take k) ++ efl (l.drop k) := by rw [← efl_app, List.take_append_drop]
  rw [e, List.getElem?_append_left]
  · exact hj
  · exact (List.getElem?_eq_some_iff.1 hj).1
theorem EnL.drop {W : World} {g : Nat} {l : List En} (h : EnL W g l) {k : Nat} (hk : k ≤ l.length) : ∀ j u, (efl (l.drop k))[j]? = some u → W.cell? ((⟨g, k * 3, none⟩ : Addr).add j) = some u := by
  intro j u hj
  rw [Go.WideShapes.add_plain]
  refine h.2 _ u ?_
  have e : efl l = efl (l.take k) ++ efl (l.drop k) := by rw [← efl_app, List.take_append_drop]
  have hl : (efl (l.take k)).length = k * 3 := by rw [efl_len, List.length_take, Nat.min_eq_left hk]
  rw [e, List.getElem?_append_right (by omega), hl, Nat.add_sub_cancel_left]
  exact hj
/-- A list that a call made, and that may grow. -/
def EGr (W : World) (B : Nat) (v : Value) (l : List En) : Prop := W.ownsRow B 44 3 v l.length (efl l) ∧ v ≠ .slice none 0 0
theorem EGr.keep {W W' : World} {B : Nat} {v : Value} {l : List En} (h : EGr W B v l) (c : Chg nob W W') : EGr W' B v l := by
  refine ⟨?_, h.2⟩
  obtain ⟨h1, h2⟩ := h.1
  refine ⟨h1, ?_⟩
  rcases h2 with q | ⟨g, cap, cur, e, hb, hcur, r⟩
  · exact .inl q
  · exact .inr ⟨g, cap, cur, e, hb, (c.block g (Array.getElem?_eq_some_iff.1 hcur).1 (fun x => x)).trans hcur, r⟩
theorem EGr.chg9 {P : Nat → Prop} {W W' : World} {B : Nat} {v : Value} {l : List En} (h : EGr W B v l) (c : Chg P W W') (hp : ∀ i, B ≤ i → ¬ P i) : EGr W' B v l := by
  refine ⟨?_, h.2⟩
  obtain ⟨h1, h2⟩ := h.1
  refine ⟨h1, ?_⟩
  rcases h2 with q | ⟨g, cap, cur, e, hb, hcur, r⟩
  · exact .inl q
  · exact .inr ⟨g, cap, cur, e, hb, (c.block g (Array.getElem?_eq_some_iff.1 hcur).1 (hp g hb)).trans hcur, r⟩
theorem EGr.fresh (W : World) (B : Nat) (hB : B ≤ W.heap.size) : EGr (W.alloc (.cells #[] 44)) B (.slice (some ⟨W.heap.size, 0, none⟩) 0 0) [] :=
  ⟨⟨by simp [efl], .inr ⟨W.heap.size, 0, #[], rfl, hB, Array.getElem?_push_size, Nat.le_refl _, Nat.zero_le _, by simp, by simp [efl]⟩⟩, by simp⟩
theorem EGr.shape {W : World} {B : Nat} {v : Value} {l : List En} (h : EGr W B v l) : ∃ g cap, v = .slice (some ⟨g, 0, none⟩) l.length cap ∧ l.length ≤ cap ∧ cap ≤ maxLen ∧ B ≤ g ∧ EnL W g l := by
  have hc := h.1
  rcases h.1.2 with ⟨e, _⟩ | ⟨g, cap, cur, rfl, hb, hcur, h1, h2, _⟩
  · exact absurd e h.2
  · refine ⟨g, cap, rfl, h1, h2, hb, (Array.getElem?_eq_some_iff.1 hcur).1, fun j u hj => ?_⟩
    have := hc.cells rfl j u hj
    rw [Go.WideShapes.add_plain, Nat.zero_add] at this
    exact this
theorem EGr.len {W : World} {B : Nat} {v : Value} {l : List En} (h : EGr W B v l) {b : Nat} (e : v.ownBlock = some b) : B ≤ b := (h.1.lt b e).1
section
variable {w : World} {ops : Array Oper} {rest : List Oper} {o : Oper} {a : Act} {Q : Exit → Act → World → Prop}
/-- append(x, y...) of entries. -/
theorem wpList_appE (hgd : o.guard = none) (x y : Operand) (hop : o.op = .call { callee := .builtin .append, args := #[x, y], argTypes := #[28, 28] }) (B : Nat) (v : Value) (l : List En) (hx : a.eval x = v) (hown : EGr w B v l)
    (ad : Addr) (m c : Nat) (l' : List En) (hy : a.eval y = .slice (some ad) m c) (hm : m = l'.length) (hc : ∀ j u, (efl l')[j]? = some u → w.cell? (ad.add j) = some u) (hn : l.length + m ≤ 100000) (hB : B ≤ w.heap.size)
    (h : ∀ v' w', EGr w' B v' (l ++ l') → Chg (fun i => B ≤ i) w w' → wpList Tryd.prog ops Q rest (a.put o.dst v') w') : wpList Tryd.prog ops Q (o :: rest) a w := by
  obtain ⟨i0, hi, hz0, hz1, hz2⟩ := info_parts infoEn
  subst hm
  refine wpList_append_own w hgd x y 28 hop B 44 i0 (.agg #[.int .i64 0, .int .i64 0, .int .i64 0]) 3 24 Tryd.underlying28 hi hz0 hz1 hz2 rfl (by decide) v l.length (efl l) hx hown.1 ad l'.length c (efl l') hy (efl_len l') hc (efl_one l') (by unfold maxLen; omega) (by omega) hB ?_
  intro v' w' ho hg hnil
  refine h v' w' ⟨by rw [List.length_append, efl_app]; exact ho, fun e => hown.2 (hnil.1 e).1⟩ ((Chg.refl _ w).grown hg (fun b e _ => hown.len e))
end

end Go.Proofs.YtkpohajmcngjcaaDoor
