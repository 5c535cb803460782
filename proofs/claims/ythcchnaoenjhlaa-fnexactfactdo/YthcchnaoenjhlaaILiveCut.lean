/- The contract of the program's LiveCut: the list without the block, in memory of the call's own. -/
import Derived.Test.YthcchnaoenjhlaaILiveFind
import Derived.Test.YthcchnaoenjhlaaLiveC
import Derived.Test.YthcchnaoenjhlaaISet
import Derived.Test.YthcchnaoenjhlaaSeqP
import Derived.Deep.RegionHeld3
namespace Go.Proofs.Ythcchnaoenjhlaa
open Go.RowKit Go.Maps

/-- 'delete(set, b)'. -/
theorem wpList_cut_p {w : World} {ops : Array Oper} {rest : List Oper} {o : Oper} {a : Act} {Q : Exit → Act → World → Prop} (hgd : o.guard = none) (m x : Operand)
    (ho : o.op = .call { callee := .builtin .delete, args := #[m, x], argTypes := #[123, 71] }) (b n : Nat) (f : Int × Int → Bool) (p : Int × Int) (hm : a.eval m = .map (some b)) (hx : a.eval x = valP p) (hS : SetG w b n f) (hp : Wf2 p)
    (h : ∀ w', Hid (SetG w' b n (fun q => !decide (q = p) && f q)) → Hid (w.grownBy w' (some b)) → wpList Try.prog ops Q rest (a.put o.dst (.tuple #[])) w') :
    wpList Try.prog ops Q (o :: rest) a w := by
  refine wpList_plain hgd fun K hK => ?_
  obtain ⟨w', hr, h2, h3⟩ := hS.cut o.type hp
  unfold Oper.wp execOp
  simp only [ho, resolve, invoke, builtin, Sem.run_bind, Sem.run_pure, Result.andThen_ok, List.map_toArray, List.map_cons, List.map_nil, hm, hx, hr]
  exact hK _ _ (h w' h2 h3)

set_option maxRecDepth 100000 in
set_option maxHeartbeats 4000000 in
theorem liveCut_any (A : Option Addr) (n c B : Nat) (ps : List (Int × Int)) (z a : Int) (w : World) (h : RdP w B A n ps) (hB : B ≤ w.heap.size) (hm : n ≤ maxLen) (hW : WfP ps) :
    Calls Try.prog 128 #[.slice A n c, .int .i64 z, .int .i64 a] w fun e w' => ∃ A' c', e = .returned (.tuple #[.slice A' (cutR ps z a).length c', .int .i64 (cutS ps z a), .bool (cutV ps z a).isSome]) ∧ OwnP w' w.heap.size A' (cutR ps z a).length c' (cutR ps z a) ∧ Below w.heap.size w w' := by
  have HC := Lib.hid (liveFind_any A n c B ps z a w h hB hm hW)
  have hno : cutV ps z a = none → cutR ps z a = [] ∧ cutS ps z a = 0 ∧ (cutV ps z a).isSome = false := fun e => by unfold cutR cutS; rw [e]; exact ⟨rfl, rfl, rfl⟩
  cases hf : findV ps z a with
  | none =>
    rw [hf] at HC
    obtain ⟨r1, r2, r3⟩ := hno (by rw [cut_of_find, hf]; rfl)
    rw [r1, r2, r3]
    simp only [foundV, Option.getD_none, Option.isSome_none] at HC
    clear h hW hf hno r1 r2 r3
    go_enter Try.func128, Try.ntmps128
    go_wp2_with fail
    refine HC.out.mono ?_
    rintro e w1 ⟨rfl, hb1⟩
    have HB := Lib.hid (hb1.alloc hb1.size (.cells #[.int .i64 0, .int .i64 0] 71))
    clear hb1 HC
    go_wp2
    refine bodyPost_ret (results_tmp3 rfl _ _ _) rfl ?_
    exact ⟨none, 0, rfl, OwnP.zero, HB.out⟩
  | some q =>
    obtain ⟨x, y⟩ := q
    rw [hf] at HC
    simp only [foundV, Option.getD_some, Option.isSome_some] at HC
    by_cases ha : x = a
    · obtain rfl : a = x := ha.symm
      have hcv : cutV ps z a = some (a, y) := by rw [cut_of_find, hf]; simp
      obtain ⟨hl, hp, _⟩ := cutV_mem hcv
      have hn : n ≤ 300 := by rw [← h.1]; exact (liveOkV_z hl).1.2.2
      have HR := Lib.hid (show cutR ps z a = cutL ps a ∧ cutS ps z a = y ∧ (cutV ps z a).isSome = true by unfold cutR cutS; rw [hcv]; exact ⟨rfl, rfl, rfl⟩)
      have HM := Lib.hid (cutL_mem hcv)
      have HP := Lib.hid (cutL_pw (a := a) hl)
      have HLn := Lib.hid (show (cutL ps a).length ≤ 1000 by have : (cutL ps a).length ≤ ps.length := List.length_filter_le _ _; rw [h.1] at this; omega)
      have HWb := Lib.hid (hW.wf2 hp)
      have H := Lib.hid h
      have HW := Lib.hid hW
      clear h hW hf hno hcv hl hp hm ha
      go_enter Try.func128, Try.ntmps128
      go_wp2_with fail
      refine HC.out.mono ?_
      rintro e w1 ⟨rfl, hb1⟩
      have HB1 := Lib.hid hb1
      have hz1 := hb1.size
      have HN1 := Lib.hid (BlkAt.new w1 a y)
      have HB2 := Lib.hid (hb1.alloc hb1.size (.cells #[.int .i64 a, .int .i64 y] 71))
      clear hb1 HC
      have hz2 : (w1.alloc (.cells #[.int .i64 a, .int .i64 y] 71)).heap.size = w1.heap.size + 1 := World.size_alloc _ _
      go_wp2_with fail
      refine (blockSetOf_any A n c B ps (w1.alloc (.cells #[.int .i64 a, .int .i64 y] 71)) (H.out.below (HB2.out.mono hB)) (by omega) (by omega) HW.out).mono ?_
      rintro e w2 ⟨rfl, hs2, hb2⟩
      rw [hz2] at hs2
      have HN2 := Lib.hid (HN1.out.below hb2)
      have HB3 := Lib.hid (HB2.out.trans (hb2.mono HB2.out.size))
      have HS2 := Lib.hid hs2
      clear hs2 hb2 HN1 HB2 HB1
      have c0 := HN2.out.cell0
      have c1 := HN2.out.cell1
      go_wp2_with (first
        | (at_delete; refine wpList_cut_p rfl _ _ rfl (w1.heap.size + 1) n _ (a, y) (by first | rfl | simp) rfl HS2.out HWb.out ?_
           intro w3 HS3 HG3
           have HN3 := Lib.hid (HN2.out.far HG3.out (fun e => by injection e with e; omega))
           have HB4 := Lib.hid (HB3.out.grown HG3.out HB3.out.size (fun j hj => by injection hj with hj; omega))
           clear HS2 HG3 HN2 HB3 c0 c1)
        | fail)
      have x0 := HN3.out.cell1
      have x0' : w3.drew.cell? ⟨w1.heap.size, 1, none⟩ = some (.int .i64 y) := x0
      have hlt3 := HN3.out.lt
      have HSd : Hid (SetG w3.drew (w1.heap.size + 1) n (fun q => !decide (q = (a, y)) && decide (q ∈ ps))) := HS3.out
      have HSo := Lib.hid ((sorted_any (w1.heap.size + 1) n _ (cutL ps a) w3.drew HSd.out (by omega) HP.out (fun p => by rw [HM.out p]; constructor; (intro h; exact ⟨HW.out.wf2 (by simp at h; exact h.2), h⟩); exact fun h => h.2) HLn.out).mono (R' := fun e w' => ∃ (A' : Option Addr) (c' : Nat), e = .returned (.slice A' (cutL ps a).length c') ∧ Hid (OwnP w' w3.heap.size A' (cutL ps a).length c' (cutL ps a)) ∧ Hid (Below w3.heap.size w3 w') ∧ w'.cell? ⟨w1.heap.size, 1, none⟩ = some (.int .i64 y)) (fun e w' ⟨A', c', he, ho, hb⟩ => ⟨A', c', he, ho, ⟨hb.os, hb.tape, hb.output, hb.size, hb.block⟩, (hb.cell (p := ⟨w1.heap.size, 1, none⟩) hlt3).trans x0'⟩))
      have hz3 := HB4.out.size
      clear HSd HS3
      go_wp2
      go_region_held3 (fun w' => w'.cell? ⟨w1.heap.size, 1, none⟩ = some (.int .i64 y)) (first | exact x0 | exact x0' | exact x5) (first | (go_at_call 97; refine HSo.out.mono ?_; rintro e w5 ⟨A5, c5, rfl, HO5, HB5, x5⟩))
      all_goals
        go_wp2
        refine bodyPost_ret (results_tmp3 rfl _ _ _) rfl ?_
        obtain ⟨r1, r2, r3⟩ := HR.out
        rw [r1, r2, r3]
        exact ⟨A5, c5, rfl, HO5.out.from_ hz3, HB4.out.trans (HB5.out.mono hz3)⟩
    · obtain ⟨r1, r2, r3⟩ := hno (by rw [cut_of_find, hf]; simp [ha])
      rw [r1, r2, r3]
      have hd : (x != a) = true := by simp [ha]
      clear h hW hf hno r1 r2 r3 ha
      go_enter Try.func128, Try.ntmps128
      go_wp2_with fail
      refine HC.out.mono ?_
      rintro e w1 ⟨rfl, hb1⟩
      have HB := Lib.hid (hb1.alloc hb1.size (.cells #[.int .i64 x, .int .i64 y] 71))
      clear hb1 HC
      go_wp2
      refine bodyPost_ret (results_tmp3 rfl _ _ _) rfl ?_
      exact ⟨none, 0, rfl, OwnP.zero, HB.out⟩

end Go.Proofs.Ythcchnaoenjhlaa
