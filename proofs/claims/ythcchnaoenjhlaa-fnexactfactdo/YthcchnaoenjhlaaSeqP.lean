/- The contracts of slices.AppendSeq, slices.Collect and slices.SortedFunc over the keys of a set of blocks, and of the set's own 'sorted': the blocks of the set in a new list, sorted. -/
import Derived.Test.YthcchnaoenjhlaaKeysP
import Derived.Test.YthcchnaoenjhlaaSortP
import Derived.Test.YthcchnaoenjhlaaAppP
import Derived.RangeFuncNested
import Derived.RangeFuncBox
import Derived.RangeFuncBound
import Derived.RangeFuncLeaves
import Derived.RangeFuncCalls
import Derived.Carry
namespace Go.Proofs.Ythcchnaoenjhlaa
open Go.RowKit Go.Maps Go.Sort Go.Shelf

attribute [local go_sem] Oper.semAt_some

theorem blkAt_own (B : Nat) (b : Nat) (x y : Int) : OwnFrom B (fun (_ : Unit) W => BlkAt W b x y) := fun _ X Y row hs hg hrow => hs.far hg (fun e => by
  obtain ⟨_, o, ho, hc⟩ := hrow b e.symm
  rw [show X.heap[b]? = _ from hs] at ho
  cases ho
  cases hc)

set_option maxRecDepth 100000 in
set_option maxHeartbeats 2000000 in
theorem appendSeq_in (F : Fence) (n : Nat) (h11 : F.fn 107) (h10 : F.fn 105) (hro : F.round = none) (hn : 3 ≤ n) (Bm b nn : Nat) (D0 : DataW Unit) (w : World) (hBm : Bm < w.heap.size)
    (hm : w.cell? ⟨Bm, 0, none⟩ = some (.map (some b))) (hown : w.ownsMap Try.prog 71 (plainElem Try.prog 4) b nn D0) (hN : Maps.size D0 ≤ 1000) :
    CallsIn F n Try.prog 107 #[.slice none 0 0, .func (.func 105) #[] #[.pointer (some ⟨Bm, 0, none⟩)]] w fun e w' => ∃ (A : Option Addr) (c : Nat) (ss : List (Int × Int)), e = .returned (.slice A ss.length c) ∧ (ss.Nodup ∧ ∀ p, p ∈ ss ↔ Wf2 p ∧ has D0 (keyP p) = true) ∧ OwnP w' w.heap.size A ss.length c ss ∧ Below w.heap.size w w' := by
  have h1 : 1 ≤ n := by omega
  obtain ⟨i0, hi, hz0, hz1, hz2⟩ := info_parts info_blk
  refine callsIn_of_wp_marks Try.func107 rfl h11 ?_ hro
  simp only [Try.ntmps107, List.size_toArray, List.length_cons, List.length_nil, Nat.reduceAdd, Nat.reduceSub, Array.replicate_succ, Array.replicate_zero, List.push_toArray, List.append_toArray, List.nil_append, List.cons_append]
  gi_wp2
  have bO := Boxed.new w 30 (.slice none 0 0)
  have hB0 : Below w.heap.size w (w.alloc (.cells #[.slice none 0 0] 30)) := (Below.refl _ w).alloc (Nat.le_refl _) _
  refine wpIn_rangeFunc_ownH hro h1 (gf := 105) (lb := #[.pointer (some ⟨Bm, 0, none⟩)]) rfl h10 (enters_of Try.func105 (by kernel_rfl) rfl)
    (keys_stops F (n - 1) h10 hro (by omega) Bm b nn D0 w hBm hm hown) walksK_t walksK_b hB0 (fun _ => rfl)
    (fun pre W => (∃ v, Boxed W w.heap.size 30 v ∧ W.ownsRow w.heap.size 71 2 v pre.length (flatP pre) ∧ True) ∧ Below w.heap.size w W)
    (fun _ _ _ => False)
    (OwnFrom.and (Go.Own.from (holdsRow_own w.heap.size w.heap.size 30 71 2 (fun pre => pre.length) (fun pre => flatP pre) (fun _ _ => True)) _) (ownFrom_below (Nat.le_refl _) (by simp)))
    (fun _ _ _ _ _ hs _ _ => hs)
    ⟨⟨_, bO, World.ownsRow_nil _ _ _ _, trivial⟩, hB0⟩
    (fun x a' W => ∃ bx, a' = { tmps := #[.slice none 0 0, .func (.func 105) #[] #[.pointer (some ⟨Bm, 0, none⟩)], .pointer (some ⟨w.heap.size, 0, none⟩), undef, .slice none 0 0, .pointer (some ⟨bx, 0, none⟩), .func (.func 105) #[] #[.pointer (some ⟨Bm, 0, none⟩)], valP x, undef, undef, undef, undef, undef], defers := [] } ∧ BlkAt W bx x.1 x.2)
    ?ax ?assign ?body ?done ?stop
  case ax =>
    rintro x a' s X Y row ⟨bx, e, hs⟩ hg hrow
    exact ⟨bx, e, blkAt_own _ bx x.1 x.2 s X Y row hs hg hrow⟩
  case assign =>
    rintro l pre ⟨x1, x2⟩ W K hI hK
    obtain ⟨⟨v, hv, hrow, _⟩, hB⟩ := hI
    simp only [valP]
    gi_wp2
    refine hK _ _ ((KeepsOthers.alloc W _).from _) (KeepsWalks.alloc W _) ⟨⟨v, hv.alloc _, hrow.alloc _, trivial⟩, hB.alloc hB.size _⟩ ⟨W.heap.size, rfl, BlkAt.new W x1 x2⟩
  case body =>
    rintro l pre ⟨x1, x2⟩ a' W hl hloop ⟨⟨v, hv, hrow, _⟩, hB⟩ ⟨bx, rfl, hx⟩ hlt
    have hc := hv.cell
    have x0 := hx.cell0
    have x1' := hx.cell1
    simp only [valP]
    gi_wp2_with (gi_at_builtin; refine wpListIn_append_own _ rfl _ _ 30 rfl w.heap.size 71 i0 (.agg #[.int .i64 0, .int .i64 0]) 2 16 Try.underlying30 hi hz0 hz1 hz2 rfl (by decide) _ _ _ rfl (hrow.alloc _) ⟨W.heap.size, 0, none⟩ 1 1 [.int .i64 x1, .int .i64 x2] rfl rfl (fun j u hj => by match j, hj with | 0, hj => simp at hj; subst hj; simp [Addr.add] | 1, hj => simp at hj; subst hj; simp [Addr.add]) (by simp [Value.oneCell']) (by unfold maxLen; omega) (by omega) (by have := hB.size; simp; omega) ?_; intro v' w1 hown' hgrow _; obtain ⟨g', cap', rfl⟩ := ownsRow_succ hown'; obtain ⟨hv1, hv2, hr2, hk2, hb2⟩ := hv.appended (by decide) hrow hB.size (Nat.le_refl _) hown' hgrow; have hc1 := hv1.cell; have hf1 := hv1.frozen)
    refine ⟨hk2.from _, hk2.walks, ⟨_, hv2, ?_⟩, hB.trans hb2⟩
    rw [flatP_app, List.length_append]
    exact hr2
  case done =>
    rintro D ys W hD hS ⟨⟨v, hv, hrow, _⟩, hB⟩ hK
    have hc := hv.cell
    obtain ⟨A, c, rfl, ho⟩ := OwnP.shape hrow
    gi_wp2
    refine ⟨by simp, .inl ⟨_, _, rfl, run_takeDeferred hK, ?_⟩⟩
    exact ⟨_, results_tmp rfl _ _ _, A, c, ys, rfl, hS, ownsRow_putObj ho _ hK rfl, hB.trans (belowK_b (w := w) (Nat.le_refl _) W D _ _ (by simp at hD; omega) hK rfl rfl)⟩
  case stop =>
    rintro D c pre W _ _ h _
    exact h.elim

theorem appendSeq_any (Bm b nn : Nat) (D0 : DataW Unit) (w : World) (hBm : Bm < w.heap.size)
    (hm : w.cell? ⟨Bm, 0, none⟩ = some (.map (some b))) (hown : w.ownsMap Try.prog 71 (plainElem Try.prog 4) b nn D0) (hN : Maps.size D0 ≤ 1000) :
    Calls Try.prog 107 #[.slice none 0 0, .func (.func 105) #[] #[.pointer (some ⟨Bm, 0, none⟩)]] w fun e w' => ∃ (A : Option Addr) (c : Nat) (ss : List (Int × Int)), e = .returned (.slice A ss.length c) ∧ (ss.Nodup ∧ ∀ p, p ∈ ss ↔ Wf2 p ∧ has D0 (keyP p) = true) ∧ OwnP w' w.heap.size A ss.length c ss ∧ Below w.heap.size w w' :=
  callsIn_wide.1 (appendSeq_in Fence.wide 3 trivial trivial rfl (Nat.le_refl _) Bm b nn D0 w hBm hm hown hN)

set_option maxHeartbeats 1000000 in
theorem collect_any (Bm b nn : Nat) (D0 : DataW Unit) (w : World) (hBm : Bm < w.heap.size)
    (hm : w.cell? ⟨Bm, 0, none⟩ = some (.map (some b))) (hown : w.ownsMap Try.prog 71 (plainElem Try.prog 4) b nn D0) (hN : Maps.size D0 ≤ 1000) :
    Calls Try.prog 103 #[.func (.func 105) #[] #[.pointer (some ⟨Bm, 0, none⟩)]] w fun e w' => ∃ (A : Option Addr) (c : Nat) (ss : List (Int × Int)), e = .returned (.slice A ss.length c) ∧ (ss.Nodup ∧ ∀ p, p ∈ ss ↔ Wf2 p ∧ has D0 (keyP p) = true) ∧ OwnP w' w.heap.size A ss.length c ss ∧ Below w.heap.size w w' := by
  have HC := Lib.hid (appendSeq_any Bm b nn D0 w hBm hm hown hN)
  clear hm hown
  go_enter Try.func103, Try.ntmps103
  go_wp2_with (go_at_call 107; refine HC.out.mono ?_; rintro e w' ⟨A, c, ss, rfl, hS, ho, hb⟩)
  go_ret
  exact ⟨A, c, ss, rfl, hS, ho, hb⟩

set_option maxHeartbeats 1000000 in
theorem sortedFunc_any (Bm b nn : Nat) (D0 : DataW Unit) (w : World) (hBm : Bm < w.heap.size)
    (hm : w.cell? ⟨Bm, 0, none⟩ = some (.map (some b))) (hown : w.ownsMap Try.prog 71 (plainElem Try.prog 4) b nn D0) (hN : Maps.size D0 ≤ 1000) (hlen : ∀ ss : List (Int × Int), (ss.Nodup ∧ ∀ p, p ∈ ss ↔ Wf2 p ∧ has D0 (keyP p) = true) → ss.length ≤ 1000) :
    Calls Try.prog 98 #[.func (.func 105) #[] #[.pointer (some ⟨Bm, 0, none⟩)], .func (.func 100) #[] #[]] w fun e w' => ∃ (A : Option Addr) (c : Nat) (ss : List (Int × Int)), e = .returned (.slice A ss.length c) ∧ (ss.Nodup ∧ ∀ p, p ∈ ss ↔ Wf2 p ∧ has D0 (keyP p) = true) ∧ OwnP w' w.heap.size A ss.length c (sortV ss) ∧ Below w.heap.size w w' := by
  have HC := Lib.hid (collect_any Bm b nn D0 w hBm hm hown hN)
  clear hm hown
  go_enter Try.func98, Try.ntmps98
  go_wp2_with fail
  refine HC.out.mono ?_
  rintro e w1 ⟨A, c, ss, rfl, hS, ho, hb⟩
  have HS := Lib.hid hS
  have HB := Lib.hid hb
  have HT := Lib.hid (sortFunc_any A ss.length c w.heap.size ss w1 ho (by have := hlen ss hS; omega))
  clear hS ho hb HC hlen
  go_wp2_with fail
  refine HT.out.mono ?_
  rintro e w2 ⟨rfl, ho2, hb2⟩
  go_wp2
  go_ret
  exact ⟨A, c, ss, rfl, HS.out, ho2, HB.out.trans hb2⟩

set_option maxHeartbeats 1000000 in
/-- The set's own 'sorted': ts is the list of its blocks that rises. -/
theorem sorted_any (b nn : Nat) (f : Int × Int → Bool) (ts : List (Int × Int)) (w : World) (h : SetG w b nn f) (hnn : nn ≤ 1000) (hs : ts.Pairwise fun x y => ltP x y = true) (hmem : ∀ p, p ∈ ts ↔ Wf2 p ∧ f p = true) (hl : ts.length ≤ 1000) :
    Calls Try.prog 97 #[.map (some b)] w fun e w' => ∃ (A : Option Addr) (c : Nat), e = .returned (.slice A ts.length c) ∧ OwnP w' w.heap.size A ts.length c ts ∧ Below w.heap.size w w' := by
  obtain ⟨D, ho, ha⟩ := h
  have hnd : ts.Nodup := hs.imp fun {a c} h e => by subst e; simp [ltP] at h
  have hperm : ∀ ss : List (Int × Int), (ss.Nodup ∧ ∀ p, p ∈ ss ↔ Wf2 p ∧ has D (keyP p) = true) → ts.Perm ss := fun ss hss => (List.perm_ext_iff_of_nodup hnd hss.1).2 fun p => by
    rw [hmem p, hss.2 p]
    constructor
    · rintro ⟨h1, h2⟩; exact ⟨h1, (ha p h1).1.trans h2⟩
    · rintro ⟨h1, h2⟩; exact ⟨h1, (ha p h1).1.symm.trans h2⟩
  have HP := Lib.hid (fun ss hss => sortV_eq (hperm ss hss) hs)
  have HL := Lib.hid (fun ss hss => (hperm ss hss).length_eq)
  have HK := Lib.hid (fun W => callsIn_wide.1 (keys_in Fence.wide 3 trivial rfl (some b) W))
  have HF := Lib.hid (sortedFunc_any w.heap.size b nn D (w.alloc (.cells #[.map (some b)] 123)) (by simp) (by simp) (ho.alloc _) (Nat.le_trans ho.size_le hnn) (fun ss hss => by have := (hperm ss hss).length_eq; omega))
  clear ho ha hperm hmem hs hnd
  go_enter Try.func97, Try.ntmps97
  go_wp2_with fail
  refine (HK.out _).mono ?_
  rintro e w1 ⟨rfl, rfl⟩
  go_wp2_with fail
  refine HF.out.mono ?_
  rintro e w2 ⟨A, c, ss, rfl, hS, ho2, hb2⟩
  have e1 := HP.out ss hS
  have e2 := HL.out ss hS
  rw [e1, ← e2] at ho2
  rw [← e2]
  obtain ⟨_, hb3, hz⟩ := one_new hb2
  have HO := Lib.hid ho2
  have HB := Lib.hid hb3
  clear hS e1 e2 ho2 hb2 hb3 HF HK HP HL
  go_wp2
  go_ret
  exact ⟨A, c, rfl, HO.out.from_ (by simp), HB.out⟩

end Go.Proofs.Ythcchnaoenjhlaa
