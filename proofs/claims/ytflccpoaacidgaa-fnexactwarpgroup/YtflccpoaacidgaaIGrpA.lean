/- The program's iterator over the set bits of a word once more: what a round is handed is known to be a set bit. -/
/- A row of eight ints as the program keeps it: an array in a block of its own; the contract of rowOf. -/
/- A row of ints in a block of its own (a variable that is an array), and how that is carried on; 'append' as one step of a region that draws its order. -/
/- The contract of the program's filled: the row with one value in the lanes of the mask. -/
/- A map from ints to words that the call makes: what it holds at every key, told by a function. -/
/- A region that draws its order, within a round of a range over a function: it is walked as everywhere where it holds no defer statement. -/
/- The contract of the program's groups: a map that holds, at every value, the word of the lanes of the mask with this value. -/
/- Two rows compared as arrays. -/
/- The contracts of the program's Groups and GroupOf: the groups of the lanes of a mask, in memory of its own. -/
/- The contract of the program's Groups where the lanes have several values. -/
/- The contract of the program's BitList: the numbers of the set bits in ascending order, in memory of its own. -/
/- The contract of the program's Gather: the values of the lanes of a mask, in memory of its own. -/
/- The contracts of the model's l03Row and Gather. -/
/- The contract of the model's l03Alike: the lanes of a list that have the number of its first. -/
/- The contracts of the model's GroupOf and Groups. -/
/- The contracts of the program's Groups and GroupOf at every argument. -/
import Derived.Test.YtflccpoaacidgaaILane
import Derived.Deep.WholeRow
import Derived.Laws.Cover3
import Derived.Maps.AppendAt
import Derived.Maps.OwnIn
import Derived.Test.YtflccpoaacidgaaGroupMath
import Derived.Maps.Views
import Derived.Test.YtflccpoaacidgaaBase
import Derived.RangeFuncCalls
import Derived.OrdersIn
import Derived.OwnWalkIn
import Derived.Test.YtflccpoaacidgaaILow
import Derived.Carry
import Derived.ChangeKeysEq
import Derived.Laws.StructEq
import Derived.Test.YtflccpoaacidgaaTake
import Derived.Test.YtflccpoaacidgaaSLane
import Derived.Test.YtflccpoaacidgaaSOf
namespace Go.Proofs.Ytflccpoaacidgaa
open Go.RowKit Go.Shelf

attribute [local go_sem] Oper.semAt_some

/-- A set bit of X. -/
abbrev BitOf (X : Nat) := { k : Nat // X.testBit k = true }

set_option maxRecDepth 100000 in
set_option maxHeartbeats 1000000 in
theorem iterX_in (F : Fence) (n : Nat) (hf : F.fn 110) (hro : F.round = none) (hn : 1 ≤ n) (l B X : Nat) (hX : X < 4294967296) (J Jx : List (BitOf X) → World → Prop)
    (hY : ∀ pre x W, J pre W → pre.length < 32 → YieldAt F (n - 1) Try.prog l #[.int .i64 ((x : BitOf X).val : Int)] W fun e W' =>
      (e = .returned (.bool true) ∧ J (pre ++ [x]) W' ∧ KeepsBox B W W') ∨ (e = .returned (.bool false) ∧ Jx (pre ++ [x]) W'))
    (W : World) (hB : W.cell? ⟨B, 0, none⟩ = some (.int .u32 (X : Int))) (h0 : J [] W) :
    CallsIn F n Try.prog 110 #[.func (.yield l) #[] #[], .pointer (some ⟨B, 0, none⟩)] W fun e W' => (∃ v, e = .returned v) ∧
      ((∃ ys : List (BitOf X), ys.map (fun k => k.val) = onesTo X 32 ∧ J ys W') ∨ (∃ pre : List (BitOf X), pre.map (fun k => k.val) <+: onesTo X 32 ∧ Jx pre W')) := by
  refine callsIn_of_wp Try.func110 rfl hf ?_ hro
  simp only [Try.ntmps110, List.size_toArray, List.length_cons, List.length_nil, Nat.reduceAdd, Nat.reduceSub, Array.replicate_succ, Array.replicate_zero, List.push_toArray, List.append_toArray, List.nil_append, List.cons_append]
  gi_wp2
  gi_loopw [3] (fun i wr => ∃ (k : Nat) (pre : List (BitOf X)), k ≤ 32 ∧ i = .int .i64 k ∧ wr.cell? ⟨B, 0, none⟩ = some (.int .u32 (X : Int)) ∧ pre.map (fun k => k.val) = onesTo X k ∧ J pre wr)
    (fun i _ => 33 - (intOf i).toNat)
  case atStart => exact ⟨0, [], by omega, rfl, hB, rfl, h0⟩
  case round =>
    obtain ⟨k, pre, hk, rfl, hc, hp, hJ⟩ := hrel
    have HK := Lib.hid hk
    have HP := Lib.hid hp
    have HX := Lib.hid hX
    clear hp hX hB h0
    by_cases hz : X / 2 ^ k = 0
    · have hb : (((X : Int) / 2 ^ k) != 0) = false := by simpa using hz0 hz
      have HZ := Lib.hid hz
      clear hz hY
      gi_wp2
      go_end0
      exact ⟨⟨_, rfl⟩, .inl ⟨pre, by rw [HP.out, onesTo_stop HZ.out 32 HK.out], hJ⟩⟩
    · have hk32 : k < 32 := lt_of_more HX.out hz
      clear hk
      have hk : k ≤ 32 := by omega
      have hb : (((X : Int) / 2 ^ k) != 0) = true := by simpa using fun e => hz (zero_of e)
      clear hz
      by_cases h1 : X / 2 ^ k % 2 = 1
      · have hk8 : X.testBit k = true := (bit_mod _ _).2 h1
        have ha : bits .and .u32 ((X : Int) / 2 ^ k) 1 = 1 := by rw [and_one HX.out, h1]; rfl
        have HN := Lib.hid (onesTo_hit h1)
        clear h1
        obtain ⟨fn, tmps, assign, body, hy, hR⟩ := hY pre ⟨k, hk8⟩ wr hJ (by
          have := congrArg List.length HP.out
          rw [List.length_map] at this
          have := onesTo_len X k
          omega)
        dsimp only at hy
        clear hY
        gi_wp2
        refine hR.mono ?_
        rintro e W3 (⟨rfl, hJ3, hk3⟩ | ⟨rfl, hJx3⟩)
        · have hc3 : W3.cell? ⟨B, 0, none⟩ = some (.int .u32 (X : Int)) := hk3.trans hc
          gi_wp2
          go_roundw
          case rel => exact ⟨k + 1, pre ++ [⟨k, hk8⟩], by omega, by go_num, hc3, by rw [HN.out, List.map_append, HP.out]; rfl, hJ3⟩
          case measure => simp [intOf]; omega
        · gi_wp2
          refine bodyPost_ret (results_none rfl _ _ _) rfl ?_
          refine ⟨⟨_, rfl⟩, .inr ⟨pre ++ [⟨k, hk8⟩], ?_, hJx3⟩⟩
          rw [List.map_append, HP.out]
          have h5 := onesTo_pre (X := X) (k := k + 1) (m := 32) (by omega)
          rw [HN.out] at h5
          exact h5
      · have ha : bits .and .u32 ((X : Int) / 2 ^ k) 1 = 0 := by
          rw [and_one HX.out, show X / 2 ^ k % 2 = 0 from by omega]; rfl
        have HN := Lib.hid (onesTo_miss h1)
        clear h1 hY
        gi_wp2
        refine ⟨fun _ h => (by cases h), ?_⟩
        gi_wp2
        go_roundw
        case rel => exact ⟨k + 1, pre, by omega, by go_num, hc, by rw [HN.out, HP.out], hJ⟩
        case measure => simp [intOf]; omega

/-- The iterator stops: all set bits in ascending order, or a first part of them. -/
theorem iterX_stops (F : Fence) (n : Nat) (hf : F.fn 110) (hro : F.round = none) (hn : 1 ≤ n) (B X : Nat) (hX : X < 4294967296) (w : World) (hB : B < w.heap.size) (hc : w.cell? ⟨B, 0, none⟩ = some (.int .u32 (X : Int))) :
    SeqStopsK F n Try.prog 110 #[.pointer (some ⟨B, 0, none⟩)] (fun x : BitOf X => #[Value.int .i64 (x.val : Int)]) (KeepsBox B) (fun ys => ys.map (fun k => k.val) = onesTo X 32) (fun pre => pre.map (fun k => k.val) <+: onesTo X 32) 32 w := fun l J Jx W hW _ _ hY h0 =>
  iterX_in F n hf hro hn l B X hX J Jx hY W ((hW.cell (p := ⟨B, 0, none⟩) hB).trans hc) h0

def valsX {X : Nat} (l : List (BitOf X)) : List Nat := l.map (fun k => k.val)
theorem valsX_snoc {X : Nat} (l : List (BitOf X)) (x : BitOf X) : valsX (l ++ [x]) = valsX l ++ [x.val] := by simp [valsX]
theorem valsX_len {X : Nat} (l : List (BitOf X)) : (valsX l).length = l.length := by simp [valsX]

end Go.Proofs.Ytflccpoaacidgaa

namespace Go.Proofs.Ytflccpoaacidgaa
open Go.RowKit Go.Shelf

attribute [local go_sem] Oper.semAt_some

theorem eight {zs : List Int} (h : zs.length = 8) : ∃ v0 v1 v2 v3 v4 v5 v6 v7, zs = [v0, v1, v2, v3, v4, v5, v6, v7] := by
  match zs, h with
  | [v0, v1, v2, v3, v4, v5, v6, v7], _ => exact ⟨v0, v1, v2, v3, v4, v5, v6, v7, rfl⟩

set_option maxRecDepth 100000 in
set_option maxHeartbeats 800000 in
theorem rowOf_in (F : Fence) (n : Nat) (hf : F.fn 100) (hro : F.round = none) (A : Option Addr) (c B : Nat) (v0 v1 v2 v3 v4 v5 v6 v7 : Int) (w : World) (h : RdK .i64 w B A 8 [v0, v1, v2, v3, v4, v5, v6, v7]) (hB : B ≤ w.heap.size) :
    CallsIn F n Try.prog 100 #[.slice A 8 c] w fun e w' => e = .returned (.tuple #[.agg #[.int .i64 v0, .int .i64 v1, .int .i64 v2, .int .i64 v3, .int .i64 v4, .int .i64 v5, .int .i64 v6, .int .i64 v7], .bool true]) ∧ w' = w.alloc (.cells #[.int .i64 v0, .int .i64 v1, .int .i64 v2, .int .i64 v3, .int .i64 v4, .int .i64 v5, .int .i64 v6, .int .i64 v7] 78) := by
  obtain ⟨g, o, rfl, hg, hc⟩ := h.2 (by omega)
  have c0 := hc 0 (by omega)
  have c1 := hc 1 (by omega)
  have c2 := hc 2 (by omega)
  have c3 := hc 3 (by omega)
  have c4 := hc 4 (by omega)
  have c5 := hc 5 (by omega)
  have c6 := hc 6 (by omega)
  have c7 := hc 7 (by omega)
  simp only [Nat.add_zero, List.getElem?_cons_zero, List.getElem?_cons_succ, Option.getD_some] at c0 c1 c2 c3 c4 c5 c6 c7
  have hg' : g < w.heap.size := by omega
  clear hc h
  have hat : ∀ w, (Instr.arrayAt 78 (.slice (some ⟨g, o, none⟩) 8 c)).run Try.prog w = .ok (.pointer (some ⟨g, o, none⟩)) w := fun w => run_arrayAt w 78 _ 8 _ 8 c Try.underlying78 (by omega)
  refine callsIn_of_wp Try.func100 rfl hf ?_ hro
  simp only [Try.ntmps100, List.size_toArray, List.length_cons, List.length_nil, Nat.reduceAdd, Nat.reduceSub, Array.replicate_succ, Array.replicate_zero, List.push_toArray, List.append_toArray, List.nil_append, List.cons_append]
  gi_wp2_with (simp only [hat])
  refine bodyPost_ret (v := .tuple #[.agg #[.int .i64 v0, .int .i64 v1, .int .i64 v2, .int .i64 v3, .int .i64 v4, .int .i64 v5, .int .i64 v6, .int .i64 v7], .bool true]) ?_ rfl ⟨rfl, rfl⟩
  have hres : Try.f100.results = #[.cell 2 78, .tmp 3] := by kernel_rfl
  rw [results_cell_tmp hres]
  go_simp

set_option maxRecDepth 100000 in
set_option maxHeartbeats 800000 in
theorem rowOf_no (F : Fence) (n : Nat) (hf : F.fn 100) (hro : F.round = none) (A : Option Addr) (m c : Nat) (w : World) (hm : ¬ m = 8) :
    CallsIn F n Try.prog 100 #[.slice A m c] w fun e w' => e = .returned (.tuple #[.agg #[.int .i64 0, .int .i64 0, .int .i64 0, .int .i64 0, .int .i64 0, .int .i64 0, .int .i64 0, .int .i64 0], .bool false]) ∧ w' = w.alloc (.cells #[.int .i64 0, .int .i64 0, .int .i64 0, .int .i64 0, .int .i64 0, .int .i64 0, .int .i64 0, .int .i64 0] 78) := by
  have hm' : ¬ (m : Int) = 8 := by omega
  clear hm
  refine callsIn_of_wp Try.func100 rfl hf ?_ hro
  simp only [Try.ntmps100, List.size_toArray, List.length_cons, List.length_nil, Nat.reduceAdd, Nat.reduceSub, Array.replicate_succ, Array.replicate_zero, List.push_toArray, List.append_toArray, List.nil_append, List.cons_append]
  gi_wp2
  refine bodyPost_ret (v := .tuple #[.agg #[.int .i64 0, .int .i64 0, .int .i64 0, .int .i64 0, .int .i64 0, .int .i64 0, .int .i64 0, .int .i64 0], .bool false]) ?_ rfl ⟨rfl, rfl⟩
  have hres : Try.f100.results = #[.cell 2 78, .tmp 3] := by kernel_rfl
  rw [results_cell_tmp hres]
  go_simp

end Go.Proofs.Ytflccpoaacidgaa

namespace Go.Proofs.Ytflccpoaacidgaa
open Go.RowKit Go.Shelf

/-- The cells of a row. -/
def rowC (zs : List Int) : Array Value := (zs.map (Value.int .i64)).toArray
/-- Block B is a variable that is a row: it holds zs. -/
def RowBox (W : World) (B : Nat) (zs : List Int) : Prop := W.heap[B]? = some (.cells (rowC zs) 78 (0, 0))

section
variable {W W' : World} {B n : Nat} {zs : List Int}
theorem RowBox.lt (h : RowBox W B zs) : B < W.heap.size := (Array.getElem?_eq_some_iff.1 h).1
theorem RowBox.cell (h : RowBox W B zs) {i : Nat} (hi : i < zs.length) : W.cell? ⟨B, i, none⟩ = some (.int .i64 (zs[i]?.getD 0)) := by
  rw [cell_of_row W B i _ _ (0, 0) h]
  simp [rowC, hi]
theorem RowBox.frozen (h : RowBox W B zs) (i : Nat) : W.frozen? ⟨B, i, none⟩ = false := frozen_of_row W B i _ _ h
theorem RowBox.kept {row : Option Nat} (h : RowBox W B zs) (hg : W.grownBy W' row) (hne : some B ≠ row) : RowBox W' B zs := (hg.block B h.lt hne).trans h
theorem RowBox.alloc (h : RowBox W B zs) (o : Obj) : RowBox (W.alloc o) B zs := h.kept (World.grownBy_alloc W o none) (by simp)
theorem RowBox.low (h : RowBox W B zs) (hb : Below W.heap.size W W') : RowBox W' B zs := (hb.block B h.lt).trans h
theorem RowBox.below (h : RowBox W B zs) (hb : Below n W W') (hn : B < n) : RowBox W' B zs := (hb.block B hn).trans h
theorem RowBox.other (h : RowBox W B zs) {p : Addr} (hne : B ≠ p.block) (u : Value) : RowBox (W.setCell p u) B zs := (heap_setCell_other W p B u hne).trans h
theorem RowBox.store (h : RowBox W B zs) (i : Nat) (x : Int) : RowBox (W.setCell ⟨B, i, none⟩ (.int .i64 x)) B (zs.set i x) := by
  have := heap_setCell_same W B i _ _ (.int .i64 x) h
  rw [RowBox, this]
  congr 2
  simp [rowC, List.map_set]
theorem rowBox_own {β : Type} (B : Nat) (f : β → List Int) : Go.Own (fun s W => RowBox W B (f s)) := fun s X Y row hs hg hrow =>
  hs.kept hg (fun e' => by obtain ⟨o, ho, hc⟩ := hrow B e'.symm; rw [show X.heap[B]? = _ from hs] at ho; cases ho; cases hc)
theorem RowBox.not_row (h : RowBox W B zs) {base size k : Nat} {v : Value} {xs : List Value} (hr : W.ownsRow base 3 size v k xs) : some B ≠ v.ownBlock := by
  rcases hr.2 with ⟨rfl, _⟩ | ⟨g, cap, cur, rfl, _, hgb, _⟩
  · simp [Value.ownBlock]
  · intro e'
    obtain rfl : B = g := by simpa [Value.ownBlock] using e'
    have := (show W.heap[B]? = _ from h).symm.trans hgb
    simp at this
theorem RowBox.new (W : World) (zs : List Int) : RowBox (W.alloc (.cells (rowC zs) 78)) W.heap.size zs := World.alloc_heap_new W _
end

theorem grownBy_setAt (W : World) (b i : Nat) (v : Value) : W.grownBy (W.setCell ⟨b, i, none⟩ v) (some b) :=
  ⟨rfl, rfl, rfl, (KeepsWalks.setCell W _ v).size, fun k _ hk => Below.heap_setCell _ _ _ k (fun e => hk (by rw [e]))⟩

/-- 'append' onto a slice that the call owns, as one step of a region that draws its order. -/
theorem stepIn_append {F : Fence} {nF : Nat} {P : Program} {w : World} {ops : Array Oper} {o : Oper} {a : Act} {K : Act → World → Prop} {Q : Exit → Act → World → Prop} {E : Prop} (hgd : o.guard = none) (s x : Operand) (t : TypeId)
    (ho : o.op = .call { callee := .builtin .append, args := #[s, x], argTypes := #[t, t] })
    (base : Nat) (e : TypeId) (i : TypeInfo) (z : Value) (size bytes : Nat) (ht : P.underlying t = some (.slice e)) (hi : P.info? e = some i) (hz : i.zero = some z)
    (hsize : i.size = size) (hby : i.bytes = bytes) (hzs : z.cells.size = size) (hsz : 0 < size)
    (v : Value) (n : Nat) (xs : List Value) (hs : a.eval s = v) (hown : w.ownsRow base e size v n xs)
    (ad : Addr) (m c : Nat) (news : List Value) (hx : a.eval x = .slice (some ad) m c) (hl : news.length = m * size) (hnews : ∀ j u, news[j]? = some u → w.cell? (ad.add j) = some u) (h1 : ∀ u ∈ news, u.oneCell' = true)
    (h63 : n + m ≤ maxLen) (hbytes : (n + m) * bytes ≤ 140737488355328) (hbase : base ≤ w.heap.size)
    (h : ∀ v' w', w'.ownsRow base e size v' (n + m) (xs ++ news) → w.grownBy w' v.ownBlock → K (a.put o.dst v') w') :
    if Region.wanted o (yielded ops a.tmps) = true then Oper.wpIn F nF P o a w K Q else E := by
  have hw : Region.wanted o (yielded ops a.tmps) = true := by simp [Region.wanted, hgd]
  rw [if_pos hw]
  obtain ⟨v', w', hr, h2, h3, _, _⟩ := run_append_own_at (P := P) w base t o.type e i z size bytes ht hi hz hsize hby hzs hsz v n xs hown ad m c news hl hnews h1 h63 hbytes hbase
  unfold Oper.wpIn
  refine ⟨by simp [Oper.about, ho, resolve, Target.leads, Sem.run_pure], ?_⟩
  rw [Oper.semAt_plain F _ _ (by rw [ho]; intro c hc'; cases hc')]
  simp [execOp, ho, resolve, invoke, builtin, hs, hx, hr, Result.andThen]
  exact h v' w' h2 h3

end Go.Proofs.Ytflccpoaacidgaa

namespace Go.Proofs.Ytflccpoaacidgaa
open Go.RowKit Go.Shelf

attribute [local go_sem] Oper.semAt_some

theorem wpListIn_load_row {F : Fence} {n : Nat} {P : Program} {ops : Array Oper} {rest : List Oper} {o : Oper} {a : Act} {w : World} {Q : Exit → Act → World → Prop} (hgd : o.guard = none) (ty : TypeId) (x : Operand) (ho : o.op = .load ty x)
    (g : Nat) (hx : a.eval x = .pointer (some ⟨g, 0, none⟩)) (t : TypeId) (cs : Array Value) (fr : Nat × Nat) (d : TypeDesc) (hg : w.heap[g]? = some (.cells cs t fr))
    (hu : P.underlying ty = some d) (hd : (match d with | .struct _ | .array _ _ => true | _ => false) = true) (hi : (P.info? ty).map (·.size) = some cs.size)
    (h : wpListIn F n P ops Q rest (a.put o.dst (.agg cs)) w) : wpListIn F n P ops Q (o :: rest) a w := by
  refine wpListIn_plain hgd fun K hK => ?_
  unfold Oper.wpIn
  refine ⟨by simp [Oper.about, ho], ?_⟩
  rw [Oper.semAt_plain F _ _ (by rw [ho]; intro c hc'; cases hc')]
  simp only [execOp, ho, hx, Instr.loadAt, Instr.sureAddr, Sem.run_bind, Sem.run_pure, Result.andThen_ok, run_loadVar_row w g t ty cs fr d hg hu hd hi]
  exact hK _ _ h
theorem wpListIn_store_row {F : Fence} {n : Nat} {P : Program} {ops : Array Oper} {rest : List Oper} {o : Oper} {a : Act} {w : World} {Q : Exit → Act → World → Prop} (hgd : o.guard = none) (ty : TypeId) (x y : Operand) (ho : o.op = .store ty x y)
    (g : Nat) (cells : Array Value) (hx : a.eval x = .pointer (some ⟨g, 0, none⟩)) (hy : a.eval y = .agg cells)
    (t : TypeId) (old : Array Value) (hg : w.heap[g]? = some (.cells old t (0, 0))) (hi : (P.info? ty).map (·.size) = some cells.size)
    (hold : old.size = cells.size) (h1 : cells.all (·.oneCell') = true)
    (h : wpListIn F n P ops Q rest (a.put o.dst undef) (w.setRow g cells)) : wpListIn F n P ops Q (o :: rest) a w := by
  refine wpListIn_plain hgd fun K hK => ?_
  unfold Oper.wpIn
  refine ⟨by simp [Oper.about, ho], ?_⟩
  rw [Oper.semAt_plain F _ _ (by rw [ho]; intro c hc'; cases hc')]
  simp only [execOp, ho, hx, hy, Instr.storeAt, Instr.sureAddr, Sem.run_bind, Sem.run_pure, Result.andThen_ok, run_storeVar_row w g t ty old cells hg hi hold h1]
  exact hK _ _ h
theorem row_size : (Try.prog.info? 78).map (·.size) = some 8 := by kernel_rfl
theorem row_info {zs : List Int} (h : zs.length = 8) : (Try.prog.info? 78).map (·.size) = some (rowC zs).size := by
  have : (rowC zs).size = 8 := by simp [rowC, h]
  rw [this]; exact row_size
theorem row_one (zs : List Int) : (rowC zs).all (·.oneCell') = true := by
  simp [rowC, Value.oneCell']

set_option maxRecDepth 100000 in
set_option maxHeartbeats 4000000 in
theorem filled_in (F : Fence) (n X : Nat) (v0 v1 v2 v3 v4 v5 v6 v7 v : Int) (w : World) (hX : X < 256) (h0 : F.fn 101) (h5 : F.fn 103) (h6 : F.fn 110) (hro : F.round = none) (hn : 3 ≤ n) :
    CallsIn F n Try.prog 101 #[.agg #[.int .i64 v0, .int .i64 v1, .int .i64 v2, .int .i64 v3, .int .i64 v4, .int .i64 v5, .int .i64 v6, .int .i64 v7], .int .u32 (X : Int), .int .i64 v] w fun e w' => e = .returned (.agg (rowC (fillL v [v0, v1, v2, v3, v4, v5, v6, v7] (onesTo X 32)))) ∧ Below w.heap.size w w' := by
  have hX32 : X < 4294967296 := by omega
  have h1 : 1 ≤ n := by omega
  have HX := Lib.hid hX32
  have HX8 := Lib.hid hX
  clear hX hX32
  refine callsIn_of_wp_marks Try.func101 rfl h0 ?_ hro
  simp only [Try.ntmps101, List.size_toArray, List.length_cons, List.length_nil, Nat.reduceAdd, Nat.reduceSub, Array.replicate_succ, Array.replicate_zero, List.push_toArray, List.append_toArray, List.nil_append, List.cons_append]
  gi_wp2_with (gi_at_call 103; refine (oneBits_in F (n - 1) h5 hro _ _).mono ?_; rintro e w' ⟨rfl, rfl⟩)
  have hB0 : Below w.heap.size w ((((w.alloc (.cells #[.int .i64 v0, .int .i64 v1, .int .i64 v2, .int .i64 v3, .int .i64 v4, .int .i64 v5, .int .i64 v6, .int .i64 v7] 78)).alloc (.cells #[.int .i64 v] 3)).alloc (.cells #[.int .i64 0, .int .i64 0, .int .i64 0, .int .i64 0, .int .i64 0, .int .i64 0, .int .i64 0, .int .i64 0] 78)).alloc (.cells #[.int .u32 (X : Int)] 36)) := ((((Below.refl _ w).alloc (Nat.le_refl _) _).alloc (by simp) _).alloc (by simp; omega) _).alloc (by simp; omega) _
  have rB : RowBox ((((w.alloc (.cells #[.int .i64 v0, .int .i64 v1, .int .i64 v2, .int .i64 v3, .int .i64 v4, .int .i64 v5, .int .i64 v6, .int .i64 v7] 78)).alloc (.cells #[.int .i64 v] 3)).alloc (.cells #[.int .i64 0, .int .i64 0, .int .i64 0, .int .i64 0, .int .i64 0, .int .i64 0, .int .i64 0, .int .i64 0] 78)).alloc (.cells #[.int .u32 (X : Int)] 36)) w.heap.size [v0, v1, v2, v3, v4, v5, v6, v7] := (((RowBox.new w [v0, v1, v2, v3, v4, v5, v6, v7]).alloc _).alloc _).alloc _
  have bV : Boxed ((((w.alloc (.cells #[.int .i64 v0, .int .i64 v1, .int .i64 v2, .int .i64 v3, .int .i64 v4, .int .i64 v5, .int .i64 v6, .int .i64 v7] 78)).alloc (.cells #[.int .i64 v] 3)).alloc (.cells #[.int .i64 0, .int .i64 0, .int .i64 0, .int .i64 0, .int .i64 0, .int .i64 0, .int .i64 0, .int .i64 0] 78)).alloc (.cells #[.int .u32 (X : Int)] 36)) (w.heap.size + 1) 3 (.int .i64 v) := by
    have := Boxed.new (w.alloc (.cells #[.int .i64 v0, .int .i64 v1, .int .i64 v2, .int .i64 v3, .int .i64 v4, .int .i64 v5, .int .i64 v6, .int .i64 v7] 78)) 3 (.int .i64 v)
    simp only [World.size_alloc] at this
    exact (this.alloc _).alloc _
  have rZ : RowBox ((((w.alloc (.cells #[.int .i64 v0, .int .i64 v1, .int .i64 v2, .int .i64 v3, .int .i64 v4, .int .i64 v5, .int .i64 v6, .int .i64 v7] 78)).alloc (.cells #[.int .i64 v] 3)).alloc (.cells #[.int .i64 0, .int .i64 0, .int .i64 0, .int .i64 0, .int .i64 0, .int .i64 0, .int .i64 0, .int .i64 0] 78)).alloc (.cells #[.int .u32 (X : Int)] 36)) (w.heap.size + 1 + 1) [0, 0, 0, 0, 0, 0, 0, 0] := by
    have := RowBox.new ((w.alloc (.cells #[.int .i64 v0, .int .i64 v1, .int .i64 v2, .int .i64 v3, .int .i64 v4, .int .i64 v5, .int .i64 v6, .int .i64 v7] 78)).alloc (.cells #[.int .i64 v] 3)) [0, 0, 0, 0, 0, 0, 0, 0]
    simp only [World.size_alloc] at this
    exact this.alloc _
  have bN : Boxed ((((w.alloc (.cells #[.int .i64 v0, .int .i64 v1, .int .i64 v2, .int .i64 v3, .int .i64 v4, .int .i64 v5, .int .i64 v6, .int .i64 v7] 78)).alloc (.cells #[.int .i64 v] 3)).alloc (.cells #[.int .i64 0, .int .i64 0, .int .i64 0, .int .i64 0, .int .i64 0, .int .i64 0, .int .i64 0, .int .i64 0] 78)).alloc (.cells #[.int .u32 (X : Int)] 36)) (w.heap.size + 1 + 1 + 1) 36 (.int .u32 (X : Int)) := by
    have := Boxed.new (((w.alloc (.cells #[.int .i64 v0, .int .i64 v1, .int .i64 v2, .int .i64 v3, .int .i64 v4, .int .i64 v5, .int .i64 v6, .int .i64 v7] 78)).alloc (.cells #[.int .i64 v] 3)).alloc (.cells #[.int .i64 0, .int .i64 0, .int .i64 0, .int .i64 0, .int .i64 0, .int .i64 0, .int .i64 0, .int .i64 0] 78)) 36 (.int .u32 (X : Int))
    simp only [World.size_alloc] at this
    exact this
  have hsz : ((((w.alloc (.cells #[.int .i64 v0, .int .i64 v1, .int .i64 v2, .int .i64 v3, .int .i64 v4, .int .i64 v5, .int .i64 v6, .int .i64 v7] 78)).alloc (.cells #[.int .i64 v] 3)).alloc (.cells #[.int .i64 0, .int .i64 0, .int .i64 0, .int .i64 0, .int .i64 0, .int .i64 0, .int .i64 0, .int .i64 0] 78)).alloc (.cells #[.int .u32 (X : Int)] 36)).heap.size = w.heap.size + 4 := by simp
  obtain ⟨W0, hW0⟩ : ∃ W0, ((((w.alloc (.cells #[.int .i64 v0, .int .i64 v1, .int .i64 v2, .int .i64 v3, .int .i64 v4, .int .i64 v5, .int .i64 v6, .int .i64 v7] 78)).alloc (.cells #[.int .i64 v] 3)).alloc (.cells #[.int .i64 0, .int .i64 0, .int .i64 0, .int .i64 0, .int .i64 0, .int .i64 0, .int .i64 0, .int .i64 0] 78)).alloc (.cells #[.int .u32 (X : Int)] 36)) = W0 := ⟨_, rfl⟩
  rw [hW0] at hB0 rB bV rZ bN hsz ⊢
  clear hW0
  have hlen : ([v0, v1, v2, v3, v4, v5, v6, v7] : List Int).length = 8 := rfl
  obtain ⟨zs, hzs⟩ : ∃ zs, ([v0, v1, v2, v3, v4, v5, v6, v7] : List Int) = zs := ⟨_, rfl⟩
  rw [hzs] at rB hlen
  refine wpIn_rangeFunc_ownF hro h1 (gf := 110) (lb := #[.pointer (some ⟨w.heap.size + 1 + 1 + 1, 0, none⟩)]) rfl h6 (enters_of Try.func110 (by kernel_rfl) rfl)
    (iterX_stops F (n - 1) h6 hro (by omega) (w.heap.size + 1 + 1 + 1) X HX.out W0 (by omega) bN.cell) keepsBox_t (keepsBox_b (by omega)) (Below.refl _ _) (fun _ => rfl)
    (fun pre W => (RowBox W w.heap.size (fillL v zs (valsX pre)) ∧ (Boxed W (w.heap.size + 1) 3 (.int .i64 v) ∧ RowBox W (w.heap.size + 1 + 1) [0, 0, 0, 0, 0, 0, 0, 0])) ∧ Below w.heap.size w W)
    (fun _ _ _ => False)
    (OwnFrom.and (OwnFrom.and (Go.Own.from (rowBox_own _ _) _) (OwnFrom.and (Go.Own.from (boxed_own _ _ _) _) (Go.Own.from (rowBox_own _ _) _))) (ownFrom_below (Nat.le_refl _) (by omega)))
    (fun _ _ _ _ _ hs _ _ => hs)
    ⟨⟨rB, bV, rZ⟩, hB0⟩
    ?a1 ?assign ?body ?done ?stop
  case assign =>
    intro l x W K hK
    gi_wp2
    exact hK
  case body =>
    rintro l pre x W ⟨⟨r1, b1, r2⟩, hB⟩ hlt
    have hx8 : x.val < 8 := bit_lt_8 HX8.out x.2
    have hx8' : (x.val : Int) < 8 := by omega
    have hln : (fillL v zs (valsX pre)).length = 8 := by rw [fillL_len, hlen]
    have HST : Hid (fillL v zs (valsX (pre ++ [x])) = (fillL v zs (valsX pre)).set x.val v) := by
      show _ = _
      rw [valsX_snoc, fillL_snoc]
    have cb := b1.cell
    have cr := r1.cell (i := x.val) (by omega)
    have fr := r1.frozen x.val
    have R1 := Lib.hid r1
    have R2 := Lib.hid r2
    have B1 := Lib.hid b1
    generalize fillL v zs (valsX pre) = rr at *
    clear r1 r2 b1
    gi_wp2
    refine ⟨KeepsOthers.setCell _ _ _, keepsBox_set _ (by omega) _ _, ⟨?_, B1.out.kept (grownBy_setAt _ _ _ _) (by intro e; injection e with e; omega), R2.out.kept (grownBy_setAt _ _ _ _) (by intro e; injection e with e; omega)⟩, hB.setCell (p := ⟨w.heap.size, x.val, none⟩) (Nat.le_refl _) _⟩
    rw [HST.out]
    exact R1.out.store _ _
  case done =>
    subst hzs
    rintro D ys W hD hS ⟨⟨r1, _, r2⟩, hB⟩ hK
    have hS' : valsX ys = onesTo X 32 := hS
    rw [hS'] at r1
    have hln : (fillL v [v0, v1, v2, v3, v4, v5, v6, v7] (onesTo X 32)).length = 8 := by rw [fillL_len]; rfl
    obtain ⟨rr, hrr⟩ : ∃ rr, fillL v [v0, v1, v2, v3, v4, v5, v6, v7] (onesTo X 32) = rr := ⟨_, rfl⟩
    rw [hrr] at r1 hln
    have hs8 : (rowC [0, 0, 0, 0, 0, 0, 0, 0]).size = (rowC rr).size := by simp [rowC, hln]
    have HI := row_info hln
    gi_wp2_with (first | (refine wpListIn_load_row rfl 78 _ rfl w.heap.size rfl 78 (rowC rr) (0, 0) _ r1 Try.underlying78 rfl HI ?_) | (refine wpListIn_store_row rfl 78 _ _ rfl (w.heap.size + 1 + 1) (rowC rr) rfl rfl 78 (rowC [0, 0, 0, 0, 0, 0, 0, 0]) r2 HI hs8 (row_one rr) ?_))
    have hK' : (W.setRow (w.heap.size + 1 + 1) (rowC rr)).heap[D]? = some (.deferred (some [])) := (setRow_other W (w.heap.size + 1 + 1) D _ (by omega)).trans hK
    have hB' : Below w.heap.size w (W.setRow (w.heap.size + 1 + 1) (rowC rr)) := ⟨hB.os, hB.tape, hB.output, by simpa using hB.size, fun k hk => (setRow_other W _ k _ (by omega)).trans (hB.block k hk)⟩
    have hres : Try.f101.results = #[.cell 6 78] := by kernel_rfl
    refine ⟨by simp, .inl ⟨_, _, rfl, run_takeDeferred hK', ?_⟩⟩
    exact ⟨.agg (rowC rr), results_cell_row hres _ _ (w.heap.size + 1 + 1) 78 (rowC rr) (0, 0) _ rfl ((World.putObj_heap_other (by omega)).trans (setRow_heap W (w.heap.size + 1 + 1) _ (rowC rr) 78 (0, 0) r2)) Try.underlying78 rfl HI, by rw [hrr], hB'.trans (belowK_b (w := w) (Nat.le_refl _) _ D _ _ (by omega) hK' rfl rfl)⟩
  case stop =>
    rintro D c pre W _ _ h _
    exact h.elim

end Go.Proofs.Ytflccpoaacidgaa

namespace Go.Proofs.Ytflccpoaacidgaa
open Go.RowKit Go.Shelf Go.Maps

/-- Block b is a map of at most n entries; at the key z (an int64) it holds the word f z, 0 where there is none. -/
def MapG (W : World) (b n : Nat) (f : Int → Nat) : Prop :=
  ∃ D : DataW Unit, W.ownsMap Try.prog 3 (plainElem Try.prog 36) b n D ∧ IsMap D ∧ ∀ z : Int, (Lit.int .i64 z).wf = true → D.atKey (.int .i64 z) (.lit (.int .u32 0)) = .lit (.int .u32 (f z : Int))

theorem MapG.made (W : World) : MapG (W.alloc (.map #[] 0)) W.heap.size 0 (fun _ => 0) := ⟨.map [], World.ownsMap_made _ _ _ _, ⟨[], rfl⟩, fun _ _ => rfl⟩
theorem MapG.lt {W : World} {b n : Nat} {f : Int → Nat} (h : MapG W b n f) : b < W.heap.size := by obtain ⟨D, ho, _⟩ := h; exact ho.lt
theorem MapG.kept {W W' : World} {row : Option Nat} {b n : Nat} {f : Int → Nat} (h : MapG W b n f) (hg : W.grownBy W' row) (hne : some b ≠ row) : MapG W' b n f := by
  obtain ⟨D, ho, hm, ha⟩ := h
  exact ⟨D, ho.kept hg hne, hm, ha⟩
theorem MapG.low {W W' : World} {b n : Nat} {f : Int → Nat} (h : MapG W b n f) (hb : Below W.heap.size W W') : MapG W' b n f :=
  h.kept (row := none) ⟨hb.os, hb.tape, hb.output, hb.size, fun k hk _ => hb.block k hk⟩ (by simp)
theorem MapG.drew {W : World} {b n : Nat} {f : Int → Nat} (h : MapG W b n f) : MapG W.drew b n f := by
  obtain ⟨D, ho, hm, ha⟩ := h
  exact ⟨D, ho.drew, hm, ha⟩
set_option maxRecDepth 100000 in
/-- The look-up. -/
theorem MapG.look {W : World} {b n : Nat} {f : Int → Nat} (h : MapG W b n f) {z : Int} (hz : (Lit.int .i64 z).wf = true) :
    (Instr.lookup 111 (.map (some b)) (.int .i64 z) false).run Try.prog W = .ok (.int .u32 (f z : Int)) W := by
  obtain ⟨D, ho, _, ha⟩ := h
  obtain ⟨c, hr, hc, _⟩ := ho.lookup_int (int_keyed Try.underlying3) Try.underlying111 Try.underlying36 (Try.zeroValue36 W) (keyOf_int_mk Try.underlying3 hz)
  rw [ha z hz] at hc
  injection hc with hc
  injection hc with _ hc
  rw [hr, hc]
set_option maxRecDepth 100000 in
/-- The store. -/
theorem MapG.store {W : World} {b n : Nat} {f : Int → Nat} (h : MapG W b n f) (hn : n < maxLen) {z : Int} (hz : (Lit.int .i64 z).wf = true) {y : Nat} (hy : y < 4294967296) :
    ∃ W', (Instr.mapUpdate 111 (.map (some b)) (.int .i64 z) (.int .u32 (y : Int))).run Try.prog W = .ok () W' ∧ MapG W' b (n + 1) (fun x => if x = z then y else f x) ∧ W.grownBy W' (some b) := by
  obtain ⟨D, ho, hm, ha⟩ := h
  have hwy : (Lit.int .u32 (y : Int)).wf = true := by simp [Lit.wf, IntKind.min, IntKind.max, IntKind.signed, IntKind.bits]; omega
  obtain ⟨W', hr, ho', hg⟩ := ho.update (int_keyed Try.underlying3) Try.underlying111 hn (keyOf_int_mk Try.underlying3 hz) (plainElem_int Try.underlying36 hwy)
  refine ⟨W', hr, ⟨_, ho', hm.put _ _, fun x hx => ?_⟩, hg⟩
  by_cases e : x = z
  · subst e
    rw [atKey_put_same hm (by simp [WideAt.IsKeyLit])]
    dsimp only
    rw [if_pos rfl]
  · dsimp only
    rw [if_neg e, atKey_put_other (by intro h2; injection h2 with _ h2; exact e h2), ha x hx]

end Go.Proofs.Ytflccpoaacidgaa

namespace Go.Proofs.Ytflccpoaacidgaa
open Go.RowKit

/-- No operation is a defer statement. -/
def noDefer (ops : Array Oper) : Bool := ops.all fun o => match o.op with | .defer _ => false | _ => true
theorem noDefer_at {ops : Array Oper} (h : noDefer ops = true) {i : Nat} {o : Oper} (ho : ops[i]? = some o) : ∀ c, o.op ≠ .defer c := by
  intro c hc
  have h1 := Array.all_eq_true_iff_forall_mem.1 h o (Array.mem_of_getElem? ho)
  rw [hc] at h1
  cases h1
theorem oper_inRound {F : Fence} {l n : Nat} {P : Program} {o : Oper} {a : Act} {w : World} {K : Act → World → Prop} {Q : Exit → Act → World → Prop} (hd : ∀ c, o.op ≠ .defer c) (h : o.wpIn F n P a w K Q) : o.wpIn (F.inRound l) n P a w K Q := by
  unfold Oper.wpIn at *
  refine ⟨h.1, ?_⟩
  have h2 := h.2
  rw [Oper.semAt_plain _ _ _ hd] at h2 ⊢
  generalize (execOp a.eval o).run P w = r at *
  cases r with
  | ok x w' => cases x <;> exact h2
  | halt x w' => cases x <;> exact h2
theorem wpOp_inRound {F : Fence} {l n : Nat} {P : Program} {ops : Array Oper} {i : Nat} {a : Act} {w : World} {K : Act → World → Prop} {Q : Exit → Act → World → Prop} (hd : noDefer ops = true) (h : wpOpIn F n P ops Q i K a w) : wpOpIn (F.inRound l) n P ops Q i K a w := by
  unfold wpOpIn at *
  cases ho : ops[i]? with
  | none => rw [ho] at h; exact h
  | some o =>
    rw [ho] at h
    dsimp only at *
    split
    · rename_i hw
      rw [if_pos hw] at h
      exact oper_inRound (noDefer_at hd ho) h
    · rename_i hw
      rw [if_neg hw] at h
      exact h
/-- In a round, as outside of it. -/
theorem wpAny_inRound {F : Fence} {l n : Nat} {P : Program} {md : Region.Mode} {ops : Array Oper} {Q : Exit → Act → World → Prop} (hd : noDefer ops = true) :
    ∀ (fuel : Nat) (listed : Array Bool) (a : Act) (w : World), wpAnyIn F n P md ops Q fuel listed a w → wpAnyIn (F.inRound l) n P md ops Q fuel listed a w := by
  intro fuel
  induction fuel with
  | zero => intro listed a w h; exact h
  | succ fuel ih =>
    intro listed a w h
    exact ⟨h.1, fun i hi => wpOp_inRound hd (wpOpIn_mono (fun a w => ih _ a w) (h.2 i hi))⟩

end Go.Proofs.Ytflccpoaacidgaa

namespace Go.Proofs.Ytflccpoaacidgaa
open Go.RowKit Go.Shelf

attribute [local go_sem] Oper.semAt_some

theorem mapG_own {β : Type} (B b : Nat) (hb : b < B) (n : β → Nat) (f : β → Int → Nat) : OwnFrom B (fun s W => MapG W b (n s) (f s)) := fun s X Y row hs hg hrow =>
  hs.kept hg (fun e' => by have := (hrow b e'.symm).1; omega)

/-- A look-up and a store as one step of a region that draws its order. -/
theorem stepIn_lookup {F : Fence} {nF : Nat} {P : Program} {w w' : World} {ops : Array Oper} {o : Oper} {a : Act} {K : Act → World → Prop} {Q : Exit → Act → World → Prop} {E : Prop} (hgd : o.guard = none) (m x : Operand) (t : TypeId)
    (ho : o.op = .lookup t m x false) (v : Value) (hr : (Instr.lookup t (a.eval m) (a.eval x) false).run P w = .ok v w') (h : K (a.put o.dst v) w') :
    if Region.wanted o (yielded ops a.tmps) = true then Oper.wpIn F nF P o a w K Q else E := by
  have hw : Region.wanted o (yielded ops a.tmps) = true := by simp [Region.wanted, hgd]
  rw [if_pos hw]
  unfold Oper.wpIn
  refine ⟨by simp [Oper.about, ho], ?_⟩
  rw [Oper.semAt_plain F _ _ (by rw [ho]; intro c hc'; cases hc')]
  simp [execOp, ho, hr, Result.andThen]
  exact h
theorem stepIn_update {F : Fence} {nF : Nat} {P : Program} {w w' : World} {ops : Array Oper} {o : Oper} {a : Act} {K : Act → World → Prop} {Q : Exit → Act → World → Prop} {E : Prop} (hgd : o.guard = none) (m x y : Operand) (t : TypeId)
    (ho : o.op = .mapUpdate t m x y) (hr : (Instr.mapUpdate t (a.eval m) (a.eval x) (a.eval y)).run P w = .ok () w') (h : K (a.put o.dst undef) w') :
    if Region.wanted o (yielded ops a.tmps) = true then Oper.wpIn F nF P o a w K Q else E := by
  have hw : Region.wanted o (yielded ops a.tmps) = true := by simp [Region.wanted, hgd]
  rw [if_pos hw]
  unfold Oper.wpIn
  refine ⟨by simp [Oper.about, ho], ?_⟩
  rw [Oper.semAt_plain F _ _ (by rw [ho]; intro c hc'; cases hc')]
  simp [execOp, ho, hr, Result.andThen]
  exact h
theorem wf_of_range {z : Int} (h : -9223372036854775808 ≤ z ∧ z < 9223372036854775808) : (Lit.int .i64 z).wf = true := by
  simp [Lit.wf, IntKind.min, IntKind.max, IntKind.signed, IntKind.bits]; omega
theorem at0_range {zs : List Int} (hv : ∀ z ∈ zs, -9223372036854775808 ≤ z ∧ z < 9223372036854775808) (k : Nat) : -9223372036854775808 ≤ at0 zs k ∧ at0 zs k < 9223372036854775808 := by
  unfold at0
  by_cases h : k < zs.length
  · rw [List.getElem?_eq_getElem h, Option.getD_some]; exact hv _ (List.getElem_mem h)
  · rw [List.getElem?_eq_none (by omega)]; simp
theorem keepsBox_grown {B : Nat} {W W' : World} {b : Nat} (hg : W.grownBy W' (some b)) (hB : B < W.heap.size) (hne : B ≠ b) : KeepsBox B W W' :=
  World.cell?_of_block (hg.block B hB (by simp [hne]))

set_option maxRecDepth 100000 in
set_option maxHeartbeats 4000000 in
theorem groups_in (F : Fence) (n X : Nat) (v0 v1 v2 v3 v4 v5 v6 v7 : Int) (w : World) (hX : X < 256) (hv : ∀ z ∈ [v0, v1, v2, v3, v4, v5, v6, v7], -9223372036854775808 ≤ z ∧ z < 9223372036854775808) (h0 : F.fn 102) (h5 : F.fn 103) (h6 : F.fn 110) (hro : F.round = none) (hn : 3 ≤ n) :
    CallsIn F n Try.prog 102 #[.agg #[.int .i64 v0, .int .i64 v1, .int .i64 v2, .int .i64 v3, .int .i64 v4, .int .i64 v5, .int .i64 v6, .int .i64 v7], .int .u32 (X : Int)] w fun e w' => ∃ b k, e = .returned (.map (some b)) ∧ w.heap.size ≤ b ∧ k ≤ 32 ∧ MapG w' b k (grp [v0, v1, v2, v3, v4, v5, v6, v7] (onesTo X 32)) ∧ Below w.heap.size w w' := by
  have hX32 : X < 4294967296 := by omega
  have h1 : 1 ≤ n := by omega
  have HX := Lib.hid hX32
  have HX8 := Lib.hid hX
  have HV := Lib.hid hv
  clear hX hX32 hv
  have hmk := fun W : World => run_makeMap (P := Try.prog) 111 W
  refine callsIn_of_wp_marks Try.func102 rfl h0 ?_ hro
  simp only [Try.ntmps102, List.size_toArray, List.length_cons, List.length_nil, Nat.reduceAdd, Nat.reduceSub, Array.replicate_succ, Array.replicate_zero, List.push_toArray, List.append_toArray, List.nil_append, List.cons_append]
  gi_wp2_with (gi_at_call 103; refine (oneBits_in F (n - 1) h5 hro _ _).mono ?_; rintro e w' ⟨rfl, rfl⟩)
  have hB0 : Below w.heap.size w ((((w.alloc (.cells #[.int .i64 v0, .int .i64 v1, .int .i64 v2, .int .i64 v3, .int .i64 v4, .int .i64 v5, .int .i64 v6, .int .i64 v7] 78)).alloc (.map #[] 0)).alloc (.cells #[.map (some (w.heap.size + 1))] 111)).alloc (.cells #[.int .u32 (X : Int)] 36)) := ((((Below.refl _ w).alloc (Nat.le_refl _) _).alloc (by simp) _).alloc (by simp; omega) _).alloc (by simp; omega) _
  have rB : RowBox ((((w.alloc (.cells #[.int .i64 v0, .int .i64 v1, .int .i64 v2, .int .i64 v3, .int .i64 v4, .int .i64 v5, .int .i64 v6, .int .i64 v7] 78)).alloc (.map #[] 0)).alloc (.cells #[.map (some (w.heap.size + 1))] 111)).alloc (.cells #[.int .u32 (X : Int)] 36)) w.heap.size [v0, v1, v2, v3, v4, v5, v6, v7] := (((RowBox.new w [v0, v1, v2, v3, v4, v5, v6, v7]).alloc _).alloc _).alloc _
  have mB : MapG ((((w.alloc (.cells #[.int .i64 v0, .int .i64 v1, .int .i64 v2, .int .i64 v3, .int .i64 v4, .int .i64 v5, .int .i64 v6, .int .i64 v7] 78)).alloc (.map #[] 0)).alloc (.cells #[.map (some (w.heap.size + 1))] 111)).alloc (.cells #[.int .u32 (X : Int)] 36)) (w.heap.size + 1) 0 (fun _ => 0) := by
    have := MapG.made (w.alloc (.cells #[.int .i64 v0, .int .i64 v1, .int .i64 v2, .int .i64 v3, .int .i64 v4, .int .i64 v5, .int .i64 v6, .int .i64 v7] 78))
    rw [World.size_alloc] at this
    exact (this.kept (row := none) (World.grownBy_alloc _ _ none) (by simp)).kept (row := none) (World.grownBy_alloc _ _ none) (by simp)
  have bM : Boxed ((((w.alloc (.cells #[.int .i64 v0, .int .i64 v1, .int .i64 v2, .int .i64 v3, .int .i64 v4, .int .i64 v5, .int .i64 v6, .int .i64 v7] 78)).alloc (.map #[] 0)).alloc (.cells #[.map (some (w.heap.size + 1))] 111)).alloc (.cells #[.int .u32 (X : Int)] 36)) (w.heap.size + 1 + 1) 111 (.map (some (w.heap.size + 1))) := by
    have := Boxed.new ((w.alloc (.cells #[.int .i64 v0, .int .i64 v1, .int .i64 v2, .int .i64 v3, .int .i64 v4, .int .i64 v5, .int .i64 v6, .int .i64 v7] 78)).alloc (.map #[] 0)) 111 (.map (some (w.heap.size + 1)))
    simp only [World.size_alloc] at this
    exact this.alloc _
  have bN : Boxed ((((w.alloc (.cells #[.int .i64 v0, .int .i64 v1, .int .i64 v2, .int .i64 v3, .int .i64 v4, .int .i64 v5, .int .i64 v6, .int .i64 v7] 78)).alloc (.map #[] 0)).alloc (.cells #[.map (some (w.heap.size + 1))] 111)).alloc (.cells #[.int .u32 (X : Int)] 36)) (w.heap.size + 1 + 1 + 1) 36 (.int .u32 (X : Int)) := by
    have := Boxed.new (((w.alloc (.cells #[.int .i64 v0, .int .i64 v1, .int .i64 v2, .int .i64 v3, .int .i64 v4, .int .i64 v5, .int .i64 v6, .int .i64 v7] 78)).alloc (.map #[] 0)).alloc (.cells #[.map (some (w.heap.size + 1))] 111)) 36 (.int .u32 (X : Int))
    simp only [World.size_alloc] at this
    exact this
  have hsz : ((((w.alloc (.cells #[.int .i64 v0, .int .i64 v1, .int .i64 v2, .int .i64 v3, .int .i64 v4, .int .i64 v5, .int .i64 v6, .int .i64 v7] 78)).alloc (.map #[] 0)).alloc (.cells #[.map (some (w.heap.size + 1))] 111)).alloc (.cells #[.int .u32 (X : Int)] 36)).heap.size = w.heap.size + 4 := by simp
  obtain ⟨W0, hW0⟩ : ∃ W0, ((((w.alloc (.cells #[.int .i64 v0, .int .i64 v1, .int .i64 v2, .int .i64 v3, .int .i64 v4, .int .i64 v5, .int .i64 v6, .int .i64 v7] 78)).alloc (.map #[] 0)).alloc (.cells #[.map (some (w.heap.size + 1))] 111)).alloc (.cells #[.int .u32 (X : Int)] 36)) = W0 := ⟨_, rfl⟩
  rw [hW0] at hB0 rB mB bM bN hsz ⊢
  clear hW0
  have hlen : ([v0, v1, v2, v3, v4, v5, v6, v7] : List Int).length = 8 := rfl
  obtain ⟨zs, hzs⟩ : ∃ zs, ([v0, v1, v2, v3, v4, v5, v6, v7] : List Int) = zs := ⟨_, rfl⟩
  rw [hzs] at rB hlen HV
  refine wpIn_rangeFunc_ownG hro h1 (gf := 110) (lb := #[.pointer (some ⟨w.heap.size + 1 + 1 + 1, 0, none⟩)]) rfl h6 (enters_of Try.func110 (by kernel_rfl) rfl)
    (iterX_stops F (n - 1) h6 hro (by omega) (w.heap.size + 1 + 1 + 1) X HX.out W0 (by omega) bN.cell) keepsBox_t (keepsBox_b (by omega)) (Below.refl _ _) (fun _ => rfl)
    (fun pre W => (MapG W (w.heap.size + 1) (valsX pre).length (grp zs (valsX pre)) ∧ (RowBox W w.heap.size zs ∧ (Boxed W (w.heap.size + 1 + 1) 111 (.map (some (w.heap.size + 1))) ∧ Boxed W (w.heap.size + 1 + 1 + 1) 36 (.int .u32 (X : Int))))) ∧ Below w.heap.size w W)
    (fun _ _ _ => False)
    (OwnFrom.and (OwnFrom.and (mapG_own _ _ (by omega) (fun pre => (valsX pre).length) (fun pre => grp zs (valsX pre))) (OwnFrom.and (Go.Own.from (rowBox_own _ _) _) (OwnFrom.and (Go.Own.from (boxed_own _ _ _) _) (Go.Own.from (boxed_own _ _ _) _)))) (ownFrom_below (Nat.le_refl _) (by omega)))
    (fun _ _ _ _ _ hs _ _ => hs)
    ⟨⟨mB, rB, bM, bN⟩, hB0⟩
    ?a1 ?assign ?body ?done ?stop
  case assign =>
    intro l x W K hK
    gi_wp2
    exact hK
  case body =>
    rintro l pre x W ⟨⟨m1, r1, b1, b2⟩, hB⟩ hlt
    have hmx := mixed
    have hx8 : x.val < 8 := bit_lt_8 HX8.out x.2
    have hx8' : (x.val : Int) < 8 := by omega
    have hpl : (valsX pre).length < 32 := by rw [valsX_len]; exact hlt
    have hp8 : ∀ k ∈ valsX pre, k < 8 := by
      intro k hk
      obtain ⟨y, _, rfl⟩ := List.mem_map.1 hk
      exact bit_lt_8 HX8.out y.2
    have cm := b1.cell
    have cr : W.cell? ⟨w.heap.size, x.val, none⟩ = some (.int .i64 (at0 zs x.val)) := r1.cell (i := x.val) (by omega)
    have hz := wf_of_range (at0_range HV.out x.val)
    have hG : grp zs (valsX pre) (at0 zs x.val) < 4294967296 := grp_lt fun k hk => by have := hp8 k hk; omega
    have h2 : 2 ^ x.val < 4294967296 := Nat.pow_lt_pow_right (by omega) (show x.val < 32 by omega)
    have HL := Lib.hid ((m1.drew).look hz)
    have HN : Hid (MapG W.drew (w.heap.size + 1) (valsX pre).length (grp zs (valsX pre))) := m1.drew
    have HR := Lib.hid r1
    have HC := Lib.hid b1
    have HD := Lib.hid b2
    have HH : Hid (grp zs (valsX (pre ++ [x])) (at0 zs x.val) = grp zs (valsX pre) (at0 zs x.val) ||| 2 ^ x.val) := by
      show _ = _
      rw [valsX_snoc, grp_hit]
    have HO : Hid (∀ z, at0 zs x.val ≠ z → grp zs (valsX (pre ++ [x])) z = grp zs (valsX pre) z) := fun z hz => by rw [valsX_snoc, grp_miss hz]
    have hor := or_bit hG (show x.val < 32 by omega)
    rw [← IntKind.wrap_u32] at hor
    have HY : Hid (grp zs (valsX pre) (at0 zs x.val) ||| 2 ^ x.val < 4294967296) := Nat.or_lt_two_pow (n := 32) hG h2
    clear m1 r1 b1 b2
    generalize grp zs (valsX pre) (at0 zs x.val) = ga at *
    generalize at0 zs x.val = z at *
    gi_wp2
    refine wpIn_region_any (by assumption) ?_
    refine wpAny_inRound (by kernel_rfl) _ _ _ _ ?_
    change wpAnyIn _ _ _ _ _ _ _ _ _ (World.drew _)
    refine wpAnyIn_take (i := 1) (v := ?v1) hro rfl (by kernel_rfl) (by kernel_rfl) (by kernel_rfl) (fun _ _ _ h => h) ⟨Or.inl ⟨by rfl, ?y1⟩, fun _ => rfl⟩ ?r1
    case y1 => intro w; go_simp; try with_reducible rfl
    case r1 =>
      refine wpAnyIn_take (i := 2) (v := ?v2) hro rfl (by kernel_rfl) (by kernel_rfl) (by kernel_rfl) (fun _ _ _ h => h) ⟨Or.inl ⟨by rfl, ?y2⟩, fun _ => rfl⟩ ?r2
      case y2 => intro w; go_simp; try with_reducible rfl
      case r2 =>
        refine wpAnyIn_take (i := 5) (v := ?v3) hro rfl (by kernel_rfl) (by kernel_rfl) (by kernel_rfl) (fun _ _ _ h => h) ⟨Or.inl ⟨by rfl, ?y3⟩, fun _ => rfl⟩ ?r3
        case y3 => intro w; go_simp; try with_reducible rfl
        case r3 =>
          refine wpAnyIn_take (i := 6) (v := ?v4) hro rfl (by kernel_rfl) (by kernel_rfl) (by kernel_rfl) (fun _ _ _ h => h) ⟨Or.inl ⟨by rfl, ?y4⟩, fun _ => rfl⟩ ?r4
          case y4 => intro w; go_simp; try with_reducible rfl
          case r4 =>
            refine wpAnyIn_ready (rs := [0, 3]) (by kernel_rfl) (by simp) (AllReadyIn.cons rfl (fun K hK => ?_) (AllReadyIn.cons rfl (fun K hK => ?_) AllReadyIn.nil))
            · skip
              go_simp
              refine hK _ _ ?_
              clear hK K
              refine wpAnyIn_ready (rs := [3]) (by kernel_rfl) (by simp) (AllReadyIn.cons rfl (fun K hK => ?_) AllReadyIn.nil)
              go_simp
              refine hK _ _ ?_
              clear hK K
              refine wpAnyIn_ready (rs := [4]) (by kernel_rfl) (by simp) (AllReadyIn.cons rfl (fun K hK => ?_) AllReadyIn.nil)
              refine stepIn_lookup rfl _ _ 111 rfl _ HL.out ?_
              refine hK _ _ ?_
              clear hK K
              refine wpAnyIn_take (i := 7) (v := ?v5) hro rfl (by kernel_rfl) (by kernel_rfl) (by kernel_rfl) (fun _ _ _ h => h) ⟨Or.inl ⟨by rfl, ?y5⟩, fun _ => rfl⟩ ?r5
              case y5 => intro w; go_simp; try with_reducible rfl
              case r5 =>
                refine wpAnyIn_ready (rs := [8]) (by kernel_rfl) (by simp) (AllReadyIn.cons rfl (fun K hK => ?_) AllReadyIn.nil)
                obtain ⟨W2, hr2, m2, g2⟩ := HN.out.store (by unfold maxLen; omega) hz HY.out
                refine stepIn_update rfl _ _ _ 111 rfl hr2 ?_
                refine hK _ _ ?_
                clear hK K
                refine wpAnyIn_done (by kernel_rfl) ?_ _
                gi_wp2
                have g3 : W.grownBy W2 (some (w.heap.size + 1)) := ⟨g2.os, g2.tape, g2.output, g2.size, g2.block⟩
                have hw2 := HD.out.lt
                refine ⟨KeepsFrom.of_grownBy g3 (fun j e => by injection e with e; omega), keepsBox_grown g3 hw2 (by omega), ⟨?_, HR.out.kept g3 (by intro e; injection e with e; omega), HC.out.kept g3 (by intro e; injection e with e; omega), HD.out.kept g3 (by intro e; injection e with e; omega)⟩, hB.grown g3 hB.size (fun j e => by injection e with e; omega)⟩
                have hf : (fun y => if y = z then ga ||| 2 ^ x.val else grp zs (valsX pre) y) = grp zs (valsX (pre ++ [x])) := by
                  funext y
                  by_cases e : y = z
                  · rw [if_pos e, e, HH.out]
                  · rw [if_neg e, HO.out y (fun h => e h.symm)]
                rw [hf] at m2
                rw [show (valsX (pre ++ [x])).length = (valsX pre).length + 1 by rw [valsX_snoc]; simp]
                exact m2
            · skip
              go_simp
              refine hK _ _ ?_
              clear hK K
              refine wpAnyIn_ready (rs := [0]) (by kernel_rfl) (by simp) (AllReadyIn.cons rfl (fun K hK => ?_) AllReadyIn.nil)
              go_simp
              refine hK _ _ ?_
              clear hK K
              refine wpAnyIn_ready (rs := [4]) (by kernel_rfl) (by simp) (AllReadyIn.cons rfl (fun K hK => ?_) AllReadyIn.nil)
              refine stepIn_lookup rfl _ _ 111 rfl _ HL.out ?_
              refine hK _ _ ?_
              clear hK K
              refine wpAnyIn_take (i := 7) (v := ?v6) hro rfl (by kernel_rfl) (by kernel_rfl) (by kernel_rfl) (fun _ _ _ h => h) ⟨Or.inl ⟨by rfl, ?y6⟩, fun _ => rfl⟩ ?r6
              case y6 => intro w; go_simp; try with_reducible rfl
              case r6 =>
                refine wpAnyIn_ready (rs := [8]) (by kernel_rfl) (by simp) (AllReadyIn.cons rfl (fun K hK => ?_) AllReadyIn.nil)
                obtain ⟨W2, hr2, m2, g2⟩ := HN.out.store (by unfold maxLen; omega) hz HY.out
                refine stepIn_update rfl _ _ _ 111 rfl hr2 ?_
                refine hK _ _ ?_
                clear hK K
                refine wpAnyIn_done (by kernel_rfl) ?_ _
                gi_wp2
                have g3 : W.grownBy W2 (some (w.heap.size + 1)) := ⟨g2.os, g2.tape, g2.output, g2.size, g2.block⟩
                have hw2 := HD.out.lt
                refine ⟨KeepsFrom.of_grownBy g3 (fun j e => by injection e with e; omega), keepsBox_grown g3 hw2 (by omega), ⟨?_, HR.out.kept g3 (by intro e; injection e with e; omega), HC.out.kept g3 (by intro e; injection e with e; omega), HD.out.kept g3 (by intro e; injection e with e; omega)⟩, hB.grown g3 hB.size (fun j e => by injection e with e; omega)⟩
                have hf : (fun y => if y = z then ga ||| 2 ^ x.val else grp zs (valsX pre) y) = grp zs (valsX (pre ++ [x])) := by
                  funext y
                  by_cases e : y = z
                  · rw [if_pos e, e, HH.out]
                  · rw [if_neg e, HO.out y (fun h => e h.symm)]
                rw [hf] at m2
                rw [show (valsX (pre ++ [x])).length = (valsX pre).length + 1 by rw [valsX_snoc]; simp]
                exact m2
  case done =>
    subst hzs
    rintro D ys W hD hS ⟨⟨m1, _, b1, _⟩, hB⟩ hK
    have hS' : valsX ys = onesTo X 32 := hS
    rw [hS'] at m1
    have hc := b1.cell
    have hl := onesTo_len X 32
    gi_wp2
    refine ⟨by simp, .inl ⟨_, _, rfl, run_takeDeferred hK, ?_⟩⟩
    exact ⟨_, results_tmp rfl _ _ _, _, _, rfl, by omega, hl, m1.kept (grownBy_putObj' _ _ _) (by intro e; injection e with e; omega), hB.trans (belowK_b (w := w) (Nat.le_refl _) W D _ _ (by omega) hK rfl rfl)⟩
  case stop =>
    rintro D c pre W _ _ h _
    exact h.elim

end Go.Proofs.Ytflccpoaacidgaa

namespace Go.Proofs.Ytflccpoaacidgaa
open Go.RowKit Go.Shelf

theorem row_guard : Try.prog.eqGuardType Try.prog.depth 78 = false := by kernel_rfl
theorem int_cells : Try.prog.cellsOf 3 = 1 := by kernel_rfl
theorem int_plain : Try.prog.plainKey 3 = true := by kernel_rfl
theorem row_item (W : World) (zs : List Int) (i : Nat) (hi : i < zs.length) : (part 3 (rowC zs) (i * 1)).run Try.prog W = .ok (.int .i64 (zs[i]?.getD 0)) W := by
  refine Go.run_part_plain W int_plain ?_
  simp [rowC, hi]
theorem row_items (W : World) (us zs : List Int) (hu : us.length = 8) (hz : zs.length = 8) : ∀ (is : List Nat), (∀ i ∈ is, i < 8) → (Op.eqItems 9999 3 (Try.prog.cellsOf 3) (rowC us) (rowC zs) is).run Try.prog W = .ok (decide (∀ i ∈ is, us[i]?.getD 0 = zs[i]?.getD 0)) W := by
  intro is
  rw [int_cells]
  induction is with
  | nil => intro _; simp [Op.eqItems]
  | cons i is ih =>
    intro h
    have hi : i < 8 := h i (by simp)
    have e : (Op.equalIn (9998 + 1) 3 (.int .i64 (us[i]?.getD 0)) (.int .i64 (zs[i]?.getD 0))).run Try.prog W = .ok (us[i]?.getD 0 == zs[i]?.getD 0) W := run_equalIn_int W 9998 3 .i64 .i64 _ _ Try.underlying3
    simp only [Op.eqItems, Sem.run_bind, row_item W us i (by omega), row_item W zs i (by omega), Result.andThen_ok]
    rw [e]
    simp only [Result.andThen_ok]
    by_cases hh : us[i]?.getD 0 = zs[i]?.getD 0
    · rw [if_neg (by simp [hh]), ih (fun j hj => h j (by simp [hj]))]
      simp [hh]
    · rw [if_pos (by simpa using hh)]
      simp [hh]
set_option maxRecDepth 100000 in
theorem row_eq (W : World) (us zs : List Int) (hu : us.length = 8) (hz : zs.length = 8) : (Op.equalIn 10000 78 (.agg (rowC us)) (.agg (rowC zs))).run Try.prog W = .ok (decide (us = zs)) W := by
  obtain ⟨i0, hi, _, _, _⟩ := info_parts info_int
  rw [run_equalIn_array W 9999 (rowC us) (rowC zs) Try.underlying78 hi, row_items W us zs hu hz _ (by simp)]
  congr 1
  apply decide_eq_decide.2
  constructor
  · intro h
    apply List.ext_getElem?
    intro i
    by_cases h8 : i < 8
    · have := h i (by simpa using h8)
      rw [List.getElem?_eq_getElem (by omega), List.getElem?_eq_getElem (by omega)] at this ⊢
      simpa using this
    · rw [List.getElem?_eq_none (by omega), List.getElem?_eq_none (by omega)]
  · rintro rfl i _
    rfl

end Go.Proofs.Ytflccpoaacidgaa

namespace Go.Proofs.Ytflccpoaacidgaa
open Go.RowKit Go.Shelf

attribute [local go_sem] Oper.semAt_some

theorem lead_first {X : Nat} (hX : X < 256) (h0 : X ≠ 0) : ∃ k, k ∈ onesTo X 32 ∧ nthV X 0 = (k : Int) := by
  rw [nthV_zero hX]
  cases hl : onesTo X 32 with
  | nil =>
    exfalso
    apply h0
    rw [← orL_ones (show X < 4294967296 by omega), hl]; rfl
  | cons k t => exact ⟨k, by simp, rfl⟩
theorem ownU_one (W : World) (X : Nat) {n : Nat} (hb : n ≤ W.heap.size) : OwnK 36 .u32 (W.alloc (.cells #[.int .u32 (X : Int)] 36)) n (some ⟨W.heap.size, 0, none⟩) [X].length 1 (ints [X]) :=
  ⟨rfl, .inr ⟨W.heap.size, 1, #[.int .u32 (X : Int)], rfl, hb, World.alloc_heap_new W _, Nat.le_refl _, by unfold maxLen; omega, rfl, rfl⟩⟩
theorem info_word : (Try.prog.info? 36).map (fun i => (i.zero, i.size, i.bytes)) = some (some (.int .u32 0), 1, 4) := by kernel_rfl
/-- The groups that the lanes of l lead. -/
def grpsTo (zs : List Int) (L l : List Nat) : List Nat := (l.filter (fun k => leads zs L k)).map (fun k => grp zs L (at0 zs k))
theorem grpsTo_hit {zs : List Int} {L l : List Nat} {k : Nat} (h : leads zs L k = true) : grpsTo zs L (l ++ [k]) = grpsTo zs L l ++ [grp zs L (at0 zs k)] := by simp [grpsTo, h]
theorem grpsTo_miss {zs : List Int} {L l : List Nat} {k : Nat} (h : ¬ leads zs L k = true) : grpsTo zs L (l ++ [k]) = grpsTo zs L l := by simp [grpsTo, h]
theorem grpsTo_len (zs : List Int) (L l : List Nat) : (grpsTo zs L l).length ≤ l.length := by
  unfold grpsTo
  rw [List.length_map]
  exact List.length_filter_le _ _
theorem MapG.not_row {W : World} {b n : Nat} {f : Int → Nat} (h : MapG W b n f) {base size k : Nat} {e : TypeId} {v : Value} {xs : List Value} (hr : W.ownsRow base e size v k xs) : some b ≠ v.ownBlock := by
  obtain ⟨D, ⟨es, ck, hb, _⟩, _⟩ := h
  rcases hr.2 with ⟨rfl, _⟩ | ⟨g, cap, cur, rfl, _, hgb, _⟩
  · simp [Value.ownBlock]
  · intro e'
    obtain rfl : b = g := by simpa [Value.ownBlock] using e'
    rw [hb] at hgb
    simp at hgb
theorem RowBox.not_rowU {W : World} {B : Nat} {zs : List Int} (h : RowBox W B zs) {base size k : Nat} {v : Value} {xs : List Value} (hr : W.ownsRow base 36 size v k xs) : some B ≠ v.ownBlock := by
  rcases hr.2 with ⟨rfl, _⟩ | ⟨g, cap, cur, rfl, _, hgb, _⟩
  · simp [Value.ownBlock]
  · intro e'
    obtain rfl : B = g := by simpa [Value.ownBlock] using e'
    have := (show W.heap[B]? = _ from h).symm.trans hgb
    simp at this
/-- 'append' onto a slice that the call owns, with the place of the new row. -/
theorem wpListIn_append_at {F : Fence} {n : Nat} {P : Program} {w : World} {ops : Array Oper} {rest : List Oper} {o : Oper} {a : Act} {Q : Exit → Act → World → Prop} (hgd : o.guard = none) (s x : Operand) (t : TypeId)
    (ho : o.op = .call { callee := .builtin .append, args := #[s, x], argTypes := #[t, t] })
    (base : Nat) (e : TypeId) (i : TypeInfo) (z : Value) (size bytes : Nat) (ht : P.underlying t = some (.slice e)) (hi : P.info? e = some i) (hz : i.zero = some z)
    (hsize : i.size = size) (hby : i.bytes = bytes) (hzs : z.cells.size = size) (hsz : 0 < size)
    (v : Value) (k : Nat) (xs : List Value) (hs : a.eval s = v) (hown : w.ownsRow base e size v k xs)
    (ad : Addr) (m c : Nat) (news : List Value) (hx : a.eval x = .slice (some ad) m c) (hl : news.length = m * size) (hnews : ∀ j u, news[j]? = some u → w.cell? (ad.add j) = some u) (h1 : ∀ u ∈ news, u.oneCell' = true)
    (h63 : k + m ≤ maxLen) (hbytes : (k + m) * bytes ≤ 140737488355328) (hbase : base ≤ w.heap.size)
    (h : ∀ v' w', w'.ownsRow base e size v' (k + m) (xs ++ news) → w.grownBy w' v.ownBlock → (v'.ownBlock = v.ownBlock ∨ v'.ownBlock = some w.heap.size) → wpListIn F n P ops Q rest (a.put o.dst v') w') :
    wpListIn F n P ops Q (o :: rest) a w := by
  refine wpListIn_plain hgd fun K hK => ?_
  obtain ⟨v', w', hr, h2, h3, _, h5⟩ := run_append_own_at (P := P) w base t o.type e i z size bytes ht hi hz hsize hby hzs hsz v k xs hown ad m c news hl hnews h1 h63 hbytes hbase
  unfold Oper.wpIn
  refine ⟨by simp [Oper.about, ho, resolve, Target.leads, Sem.run_pure], ?_⟩
  rw [Oper.semAt_plain F _ _ (by rw [ho]; intro c hc'; cases hc')]
  simp [execOp, ho, resolve, invoke, builtin, hs, hx, hr, Result.andThen]
  exact hK _ _ (h v' w' h2 h3 h5)
theorem ownsRow_low {W W' : World} {base size k : Nat} {e : TypeId} {v : Value} {xs : List Value} (h : W.ownsRow base e size v k xs) (hb : Below W.heap.size W W') : W'.ownsRow base e size v k xs :=
  World.ownsRow.kept h (row := none) ⟨hb.os, hb.tape, hb.output, hb.size, fun k hk _ => hb.block k hk⟩ (by cases hv : v.ownBlock <;> simp)
/-- Behind a piece of code the walk goes on from one activation alone. -/
theorem cut_at {F : Fence} {n : Nat} {P : Program} {c : Code} {Q : Exit → Act → World → Prop} {a : Act} {w : World} (A : Act) (R : World → Prop) (h : c.wpIn F n P (fun e a' w' => e = .normal ∧ a' = A ∧ R w') a w) (h2 : ∀ w', R w' → Q .normal A w') : c.wpIn F n P Q a w :=
  Go.wpIn_mono h (by rintro e a' w' ⟨rfl, rfl, h3⟩; exact h2 w' h3)
theorem stepIn_load_row {F : Fence} {nF : Nat} {P : Program} {w : World} {ops : Array Oper} {o : Oper} {a : Act} {K : Act → World → Prop} {Q : Exit → Act → World → Prop} {E : Prop} (hgd : o.guard = none) (ty : TypeId) (x : Operand) (ho : o.op = .load ty x)
    (g : Nat) (hx : a.eval x = .pointer (some ⟨g, 0, none⟩)) (t : TypeId) (cs : Array Value) (fr : Nat × Nat) (d : TypeDesc) (hg : w.heap[g]? = some (.cells cs t fr))
    (hu : P.underlying ty = some d) (hd : (match d with | .struct _ | .array _ _ => true | _ => false) = true) (hi : (P.info? ty).map (·.size) = some cs.size)
    (h : K (a.put o.dst (.agg cs)) w) : if Region.wanted o (yielded ops a.tmps) = true then Oper.wpIn F nF P o a w K Q else E := by
  have hw : Region.wanted o (yielded ops a.tmps) = true := by simp [Region.wanted, hgd]
  rw [if_pos hw]
  unfold Oper.wpIn
  refine ⟨by simp [Oper.about, ho], ?_⟩
  rw [Oper.semAt_plain F _ _ (by rw [ho]; intro c hc'; cases hc')]
  simp only [execOp, ho, hx, Instr.loadAt, Instr.sureAddr, Sem.run_bind, Sem.run_pure, Result.andThen_ok, run_loadVar_row w g t ty cs fr d hg hu hd hi]
  exact h

set_option maxRecDepth 100000 in
set_option maxHeartbeats 4000000 in
theorem grp_same_in (F : Fence) (n : Nat) (A : Option Addr) (c B X : Nat) (v0 v1 v2 v3 v4 v5 v6 v7 : Int) (w : World) (h : RdK .i64 w B A 8 [v0, v1, v2, v3, v4, v5, v6, v7]) (hB : B ≤ w.heap.size) (hX : X < 256) (h0X : X ≠ 0) (k0 : Nat) (hk0 : k0 ∈ onesTo X 32) (hlead : nthV X 0 = (k0 : Int)) (hcase : fillL (at0 [v0, v1, v2, v3, v4, v5, v6, v7] k0) [v0, v1, v2, v3, v4, v5, v6, v7] (onesTo X 32) = [v0, v1, v2, v3, v4, v5, v6, v7]) (h0 : F.fn 85) (hrw : F.fn 100) (hf : F.fn 56) (hm : F.fn 75) (hg : F.fn 91) (hl : F.fn 83) (ht : F.fn 99) (hr : F.fn 109) (hh : F.fn 113) (ho : F.fn 98) (h5 : F.fn 103) (h6 : F.fn 110) (hfi : F.fn 101) (hgr : F.fn 102) (hro : F.round = none) (hn : 12 ≤ n) :
    CallsIn F n Try.prog 85 #[.slice A 8 c, .int .u32 (X : Int)] w fun e w' => ∃ A' c', e = .returned (.slice A' (groupsL [v0, v1, v2, v3, v4, v5, v6, v7] (onesTo X 32)).length c') ∧ OwnK 36 .u32 w' w.heap.size A' (groupsL [v0, v1, v2, v3, v4, v5, v6, v7] (onesTo X 32)).length c' (ints (groupsL [v0, v1, v2, v3, v4, v5, v6, v7] (onesTo X 32))) ∧ Below w.heap.size w w' := by
  have HG : Hid (groupsL [v0, v1, v2, v3, v4, v5, v6, v7] (onesTo X 32) = [X]) := groupsL_one hX h0X (v := at0 [v0, v1, v2, v3, v4, v5, v6, v7] k0) (fun k hk => by
    have h2 := fillL_at (at0 [v0, v1, v2, v3, v4, v5, v6, v7] k0) (onesTo X 32) [v0, v1, v2, v3, v4, v5, v6, v7] k hk (ones_lt_8 hX hk)
    rw [hcase] at h2
    exact h2)
  have hX32 : X < 4294967296 := by omega
  have HM : Hid (∀ W, CallsIn F (n - 1) Try.prog 56 #[.int .u32 (X : Int)] W fun e w' => e = .returned (.bool (decide (X < 256))) ∧ W = w') := fun W => isMask_in F (n - 1) X W hX32 hf hm hg (by omega) hro
  rw [decide_eq_true hX] at HM
  have HR := Lib.hid (rowOf_in F (n - 1) hrw hro A c B v0 v1 v2 v3 v4 v5 v6 v7 w h hB)
  have HL : Hid (∀ W, CallsIn F (n - 1) Try.prog 83 #[.int .u32 (X : Int)] W fun e w' => e = .returned (.int .i64 (nthV X 0)) ∧ Below W.heap.size W w') := fun W => leader_in F (n - 1) X W hX32 hl ht hr hh hf hm hg ho h5 h6 (by omega) hro
  rw [hlead] at HL
  have hk8 : k0 < 8 := ones_lt_8 hX hk0
  have hk8' : (k0 : Int) < 8 := by omega
  have HFl : Hid (∀ W, CallsIn F (n - 1) Try.prog 101 #[.agg #[.int .i64 v0, .int .i64 v1, .int .i64 v2, .int .i64 v3, .int .i64 v4, .int .i64 v5, .int .i64 v6, .int .i64 v7], .int .u32 (X : Int), .int .i64 (at0 [v0, v1, v2, v3, v4, v5, v6, v7] k0)] W fun e w' => e = .returned (.agg (rowC (fillL (at0 [v0, v1, v2, v3, v4, v5, v6, v7] k0) [v0, v1, v2, v3, v4, v5, v6, v7] (onesTo X 32)))) ∧ Below W.heap.size W w') := fun W => filled_in F (n - 1) X v0 v1 v2 v3 v4 v5 v6 v7 _ W hX hfi h5 h6 hro (by omega)
  have heq := fun W => row_eq W (fillL (at0 [v0, v1, v2, v3, v4, v5, v6, v7] k0) [v0, v1, v2, v3, v4, v5, v6, v7] (onesTo X 32)) [v0, v1, v2, v3, v4, v5, v6, v7] (by rw [fillL_len]; rfl) rfl
  rw [decide_eq_true hcase] at heq
  have heq' : ∀ W, (Op.equalIn 10000 78 (.agg (rowC (fillL (at0 [v0, v1, v2, v3, v4, v5, v6, v7] k0) [v0, v1, v2, v3, v4, v5, v6, v7] (onesTo X 32)))) (.agg #[.int .i64 v0, .int .i64 v1, .int .i64 v2, .int .i64 v3, .int .i64 v4, .int .i64 v5, .int .i64 v6, .int .i64 v7])).run Try.prog W = .ok true W := heq
  clear heq
  have hgd := row_guard
  have h1 : 1 ≤ n := by omega
  have hmx := mixed
  have HI : (Try.prog.info? 78).map (·.size) = some (#[.int .i64 v0, .int .i64 v1, .int .i64 v2, .int .i64 v3, .int .i64 v4, .int .i64 v5, .int .i64 v6, .int .i64 v7] : Array Value).size := row_size
  have HX := Lib.hid hX32
  have HX8 := Lib.hid hX
  have H0X : ¬ ((X : Int) = 0) := by omega
  have HK0 := Lib.hid hk0
  clear hX hX32 h h0X hlead hk0
  refine callsIn_of_wp Try.func85 rfl h0 ?_ hro
  simp only [Try.ntmps85, List.size_toArray, List.length_cons, List.length_nil, Nat.reduceAdd, Nat.reduceSub, Array.replicate_succ, Array.replicate_zero, List.push_toArray, List.append_toArray, List.nil_append, List.cons_append]
  gi_wp2_with (first | (gi_at_call 100; refine HR.out.mono ?_; rintro e w' ⟨rfl, rfl⟩) | (gi_at_call 56; refine (HM.out _).mono ?_; rintro e w' ⟨rfl, rfl⟩))
  have hB0 : Below w.heap.size w ((w.alloc (.cells #[.int .i64 v0, .int .i64 v1, .int .i64 v2, .int .i64 v3, .int .i64 v4, .int .i64 v5, .int .i64 v6, .int .i64 v7] 78)).alloc (.cells #[.int .i64 v0, .int .i64 v1, .int .i64 v2, .int .i64 v3, .int .i64 v4, .int .i64 v5, .int .i64 v6, .int .i64 v7] 78)) := ((Below.refl _ w).alloc (Nat.le_refl _) _).alloc (by simp) _
  have r0 : ((w.alloc (.cells #[.int .i64 v0, .int .i64 v1, .int .i64 v2, .int .i64 v3, .int .i64 v4, .int .i64 v5, .int .i64 v6, .int .i64 v7] 78)).alloc (.cells #[.int .i64 v0, .int .i64 v1, .int .i64 v2, .int .i64 v3, .int .i64 v4, .int .i64 v5, .int .i64 v6, .int .i64 v7] 78)).heap[w.heap.size + 1]? = some (.cells #[.int .i64 v0, .int .i64 v1, .int .i64 v2, .int .i64 v3, .int .i64 v4, .int .i64 v5, .int .i64 v6, .int .i64 v7] 78 (0, 0)) := by
    have := RowBox.new (w.alloc (.cells #[.int .i64 v0, .int .i64 v1, .int .i64 v2, .int .i64 v3, .int .i64 v4, .int .i64 v5, .int .i64 v6, .int .i64 v7] 78)) [v0, v1, v2, v3, v4, v5, v6, v7]
    rw [World.size_alloc] at this
    exact this
  have hsz : ((w.alloc (.cells #[.int .i64 v0, .int .i64 v1, .int .i64 v2, .int .i64 v3, .int .i64 v4, .int .i64 v5, .int .i64 v6, .int .i64 v7] 78)).alloc (.cells #[.int .i64 v0, .int .i64 v1, .int .i64 v2, .int .i64 v3, .int .i64 v4, .int .i64 v5, .int .i64 v6, .int .i64 v7] 78)).heap.size = w.heap.size + 2 := by simp
  obtain ⟨W0, hW0⟩ : ∃ W0, ((w.alloc (.cells #[.int .i64 v0, .int .i64 v1, .int .i64 v2, .int .i64 v3, .int .i64 v4, .int .i64 v5, .int .i64 v6, .int .i64 v7] 78)).alloc (.cells #[.int .i64 v0, .int .i64 v1, .int .i64 v2, .int .i64 v3, .int .i64 v4, .int .i64 v5, .int .i64 v6, .int .i64 v7] 78)) = W0 := ⟨_, rfl⟩
  rw [hW0] at hB0 r0 hsz ⊢
  clear hW0 HR HM
  generalize rowC (fillL (at0 [v0, v1, v2, v3, v4, v5, v6, v7] k0) [v0, v1, v2, v3, v4, v5, v6, v7] (onesTo X 32)) = fc at *
  generalize hz0 : at0 [v0, v1, v2, v3, v4, v5, v6, v7] k0 = z0 at *
  apply cut_at (R := fun w' => w'.heap[w.heap.size + 1]? = some (.cells #[.int .i64 v0, .int .i64 v1, .int .i64 v2, .int .i64 v3, .int .i64 v4, .int .i64 v5, .int .i64 v6, .int .i64 v7] 78 (0, 0)) ∧ Below w.heap.size w w')
  case h =>
    refine wpIn_region_any (by assumption) ?_
    change wpAnyIn _ _ _ _ _ _ _ _ _ (World.drew _)
    refine wpAnyIn_take (i := 1) (v := ?v7) hro rfl (by kernel_rfl) (by kernel_rfl) (by kernel_rfl) (fun _ _ _ h => by cases h.1) ⟨Or.inl ⟨by rfl, ?y7⟩, fun _ => rfl⟩ ?r7
    case y7 => intro w; go_simp; try with_reducible rfl
    case r7 =>
      refine wpAnyIn_take (i := 2) (v := ?v8) hro rfl (by kernel_rfl) (by kernel_rfl) (by kernel_rfl) (fun _ _ _ h => by cases h.1) ⟨Or.inl ⟨by rfl, ?y8⟩, fun _ => rfl⟩ ?r8
      case y8 => intro w; go_simp; try with_reducible rfl
      case r8 =>
        refine wpAnyIn_ready (rs := [0, 3, 7]) (by kernel_rfl) (by simp) (AllReadyIn.cons rfl (fun K hK => ?_) (AllReadyIn.cons rfl (fun K hK => ?_) (AllReadyIn.cons rfl (fun K hK => ?_) AllReadyIn.nil)))
        · skip
          refine stepIn_load_row rfl 78 _ rfl (w.heap.size + 1) rfl 78 #[.int .i64 v0, .int .i64 v1, .int .i64 v2, .int .i64 v3, .int .i64 v4, .int .i64 v5, .int .i64 v6, .int .i64 v7] (0, 0) _ r0 Try.underlying78 rfl HI ?_
          refine hK _ _ ?_
          clear hK K
          refine wpAnyIn_ready (rs := [3, 7]) (by kernel_rfl) (by simp) (AllReadyIn.cons rfl (fun K hK => ?_) (AllReadyIn.cons rfl (fun K hK => ?_) AllReadyIn.nil))
          · skip
            go_simp
            gi_wp2_with (gi_at_call 83; refine (HL.out _).mono ?_; rintro e w1 ⟨rfl, hb1⟩; have r1 := (hb1.block (w.heap.size + 1) (by show _ < W0.heap.size; omega)).trans r0; have z1 := hb1.size; have HB1 := Lib.hid hb1; clear hb1)
            refine wpAnyIn_take (i := 4) (v := ?v9) hro rfl (by kernel_rfl) (by kernel_rfl) (by kernel_rfl) (fun _ _ _ h => by cases h.1) ⟨Or.inl ⟨by rfl, ?y9⟩, fun _ => rfl⟩ ?r9
            case y9 => intro w; go_simp; try with_reducible rfl
            case r9 =>
              refine wpAnyIn_ready (rs := [5, 7]) (by kernel_rfl) (by simp) (AllReadyIn.cons rfl (fun K hK => ?_) (AllReadyIn.cons rfl (fun K hK => ?_) AllReadyIn.nil))
              · skip
                have c5 : World.cell? w1 ⟨w.heap.size + 1, k0, none⟩ = some (.int .i64 z0) := by
                  have h5 := RowBox.cell (zs := [v0, v1, v2, v3, v4, v5, v6, v7]) (i := k0) r1 (by simpa using hk8)
                  rw [← hz0]
                  exact h5
                go_simp
                refine hK _ _ ?_
                clear hK K
                refine wpAnyIn_ready (rs := [6, 7]) (by kernel_rfl) (by simp) (AllReadyIn.cons rfl (fun K hK => ?_) (AllReadyIn.cons rfl (fun K hK => ?_) AllReadyIn.nil))
                · skip
                  go_simp
                  gi_wp2_with (gi_at_call 101; refine (HFl.out _).mono ?_; rintro e w2 ⟨rfl, hb2⟩; have r2 := (hb2.block (w.heap.size + 1) (by have : W0.heap.size ≤ w1.heap.size := z1; omega)).trans r1; have HB2 := Lib.hid hb2; clear hb2)
                  refine wpAnyIn_ready (rs := [7]) (by kernel_rfl) (by simp) (AllReadyIn.cons rfl (fun K hK => ?_) AllReadyIn.nil)
                  refine stepIn_load_row rfl 78 _ rfl (w.heap.size + 1) rfl 78 #[.int .i64 v0, .int .i64 v1, .int .i64 v2, .int .i64 v3, .int .i64 v4, .int .i64 v5, .int .i64 v6, .int .i64 v7] (0, 0) _ r2 Try.underlying78 rfl HI ?_
                  refine hK _ _ ?_
                  clear hK K
                  refine wpAnyIn_ready (rs := [8]) (by kernel_rfl) (by simp) (AllReadyIn.cons rfl (fun K hK => ?_) AllReadyIn.nil)
                  go_simp
                  refine hK _ _ ?_
                  clear hK K
                  refine wpAnyIn_done (by kernel_rfl) ?_ _
                  refine ⟨rfl, rfl, r2, ?_⟩
                  exact (hB0.drew.trans (HB1.out.mono (by show _ ≤ W0.heap.size; omega))).trans (HB2.out.mono (by have : W0.heap.size ≤ w1.heap.size := z1; omega))
                · skip
                  refine stepIn_load_row rfl 78 _ rfl (w.heap.size + 1) rfl 78 #[.int .i64 v0, .int .i64 v1, .int .i64 v2, .int .i64 v3, .int .i64 v4, .int .i64 v5, .int .i64 v6, .int .i64 v7] (0, 0) _ r1 Try.underlying78 rfl HI ?_
                  refine hK _ _ ?_
                  clear hK K
                  refine wpAnyIn_ready (rs := [6]) (by kernel_rfl) (by simp) (AllReadyIn.cons rfl (fun K hK => ?_) AllReadyIn.nil)
                  go_simp
                  gi_wp2_with (gi_at_call 101; refine (HFl.out _).mono ?_; rintro e w2 ⟨rfl, hb2⟩; have r2 := (hb2.block (w.heap.size + 1) (by have : W0.heap.size ≤ w1.heap.size := z1; omega)).trans r1; have HB2 := Lib.hid hb2; clear hb2)
                  refine wpAnyIn_ready (rs := [8]) (by kernel_rfl) (by simp) (AllReadyIn.cons rfl (fun K hK => ?_) AllReadyIn.nil)
                  go_simp
                  refine hK _ _ ?_
                  clear hK K
                  refine wpAnyIn_done (by kernel_rfl) ?_ _
                  refine ⟨rfl, rfl, r2, ?_⟩
                  exact (hB0.drew.trans (HB1.out.mono (by show _ ≤ W0.heap.size; omega))).trans (HB2.out.mono (by have : W0.heap.size ≤ w1.heap.size := z1; omega))
              · skip
                refine stepIn_load_row rfl 78 _ rfl (w.heap.size + 1) rfl 78 #[.int .i64 v0, .int .i64 v1, .int .i64 v2, .int .i64 v3, .int .i64 v4, .int .i64 v5, .int .i64 v6, .int .i64 v7] (0, 0) _ r1 Try.underlying78 rfl HI ?_
                refine hK _ _ ?_
                clear hK K
                refine wpAnyIn_ready (rs := [5]) (by kernel_rfl) (by simp) (AllReadyIn.cons rfl (fun K hK => ?_) AllReadyIn.nil)
                have c5 : World.cell? w1 ⟨w.heap.size + 1, k0, none⟩ = some (.int .i64 z0) := by
                  have h5 := RowBox.cell (zs := [v0, v1, v2, v3, v4, v5, v6, v7]) (i := k0) r1 (by simpa using hk8)
                  rw [← hz0]
                  exact h5
                go_simp
                refine hK _ _ ?_
                clear hK K
                refine wpAnyIn_ready (rs := [6]) (by kernel_rfl) (by simp) (AllReadyIn.cons rfl (fun K hK => ?_) AllReadyIn.nil)
                go_simp
                gi_wp2_with (gi_at_call 101; refine (HFl.out _).mono ?_; rintro e w2 ⟨rfl, hb2⟩; have r2 := (hb2.block (w.heap.size + 1) (by have : W0.heap.size ≤ w1.heap.size := z1; omega)).trans r1; have HB2 := Lib.hid hb2; clear hb2)
                refine wpAnyIn_ready (rs := [8]) (by kernel_rfl) (by simp) (AllReadyIn.cons rfl (fun K hK => ?_) AllReadyIn.nil)
                go_simp
                refine hK _ _ ?_
                clear hK K
                refine wpAnyIn_done (by kernel_rfl) ?_ _
                refine ⟨rfl, rfl, r2, ?_⟩
                exact (hB0.drew.trans (HB1.out.mono (by show _ ≤ W0.heap.size; omega))).trans (HB2.out.mono (by have : W0.heap.size ≤ w1.heap.size := z1; omega))
          · skip
            refine stepIn_load_row rfl 78 _ rfl (w.heap.size + 1) rfl 78 #[.int .i64 v0, .int .i64 v1, .int .i64 v2, .int .i64 v3, .int .i64 v4, .int .i64 v5, .int .i64 v6, .int .i64 v7] (0, 0) _ r0 Try.underlying78 rfl HI ?_
            refine hK _ _ ?_
            clear hK K
            refine wpAnyIn_ready (rs := [3]) (by kernel_rfl) (by simp) (AllReadyIn.cons rfl (fun K hK => ?_) AllReadyIn.nil)
            go_simp
            gi_wp2_with (gi_at_call 83; refine (HL.out _).mono ?_; rintro e w1 ⟨rfl, hb1⟩; have r1 := (hb1.block (w.heap.size + 1) (by show _ < W0.heap.size; omega)).trans r0; have z1 := hb1.size; have HB1 := Lib.hid hb1; clear hb1)
            refine wpAnyIn_take (i := 4) (v := ?v10) hro rfl (by kernel_rfl) (by kernel_rfl) (by kernel_rfl) (fun _ _ _ h => by cases h.1) ⟨Or.inl ⟨by rfl, ?y10⟩, fun _ => rfl⟩ ?r10
            case y10 => intro w; go_simp; try with_reducible rfl
            case r10 =>
              refine wpAnyIn_ready (rs := [5]) (by kernel_rfl) (by simp) (AllReadyIn.cons rfl (fun K hK => ?_) AllReadyIn.nil)
              have c5 : World.cell? w1 ⟨w.heap.size + 1, k0, none⟩ = some (.int .i64 z0) := by
                have h5 := RowBox.cell (zs := [v0, v1, v2, v3, v4, v5, v6, v7]) (i := k0) r1 (by simpa using hk8)
                rw [← hz0]
                exact h5
              go_simp
              refine hK _ _ ?_
              clear hK K
              refine wpAnyIn_ready (rs := [6]) (by kernel_rfl) (by simp) (AllReadyIn.cons rfl (fun K hK => ?_) AllReadyIn.nil)
              go_simp
              gi_wp2_with (gi_at_call 101; refine (HFl.out _).mono ?_; rintro e w2 ⟨rfl, hb2⟩; have r2 := (hb2.block (w.heap.size + 1) (by have : W0.heap.size ≤ w1.heap.size := z1; omega)).trans r1; have HB2 := Lib.hid hb2; clear hb2)
              refine wpAnyIn_ready (rs := [8]) (by kernel_rfl) (by simp) (AllReadyIn.cons rfl (fun K hK => ?_) AllReadyIn.nil)
              go_simp
              refine hK _ _ ?_
              clear hK K
              refine wpAnyIn_done (by kernel_rfl) ?_ _
              refine ⟨rfl, rfl, r2, ?_⟩
              exact (hB0.drew.trans (HB1.out.mono (by show _ ≤ W0.heap.size; omega))).trans (HB2.out.mono (by have : W0.heap.size ≤ w1.heap.size := z1; omega))
        · skip
          go_simp
          gi_wp2_with (gi_at_call 83; refine (HL.out _).mono ?_; rintro e w1 ⟨rfl, hb1⟩; have r1 := (hb1.block (w.heap.size + 1) (by show _ < W0.heap.size; omega)).trans r0; have z1 := hb1.size; have HB1 := Lib.hid hb1; clear hb1)
          refine wpAnyIn_take (i := 4) (v := ?v11) hro rfl (by kernel_rfl) (by kernel_rfl) (by kernel_rfl) (fun _ _ _ h => by cases h.1) ⟨Or.inl ⟨by rfl, ?y11⟩, fun _ => rfl⟩ ?r11
          case y11 => intro w; go_simp; try with_reducible rfl
          case r11 =>
            refine wpAnyIn_ready (rs := [0, 5, 7]) (by kernel_rfl) (by simp) (AllReadyIn.cons rfl (fun K hK => ?_) (AllReadyIn.cons rfl (fun K hK => ?_) (AllReadyIn.cons rfl (fun K hK => ?_) AllReadyIn.nil)))
            · skip
              refine stepIn_load_row rfl 78 _ rfl (w.heap.size + 1) rfl 78 #[.int .i64 v0, .int .i64 v1, .int .i64 v2, .int .i64 v3, .int .i64 v4, .int .i64 v5, .int .i64 v6, .int .i64 v7] (0, 0) _ r1 Try.underlying78 rfl HI ?_
              refine hK _ _ ?_
              clear hK K
              refine wpAnyIn_ready (rs := [5, 7]) (by kernel_rfl) (by simp) (AllReadyIn.cons rfl (fun K hK => ?_) (AllReadyIn.cons rfl (fun K hK => ?_) AllReadyIn.nil))
              · skip
                have c5 : World.cell? w1 ⟨w.heap.size + 1, k0, none⟩ = some (.int .i64 z0) := by
                  have h5 := RowBox.cell (zs := [v0, v1, v2, v3, v4, v5, v6, v7]) (i := k0) r1 (by simpa using hk8)
                  rw [← hz0]
                  exact h5
                go_simp
                refine hK _ _ ?_
                clear hK K
                refine wpAnyIn_ready (rs := [6, 7]) (by kernel_rfl) (by simp) (AllReadyIn.cons rfl (fun K hK => ?_) (AllReadyIn.cons rfl (fun K hK => ?_) AllReadyIn.nil))
                · skip
                  go_simp
                  gi_wp2_with (gi_at_call 101; refine (HFl.out _).mono ?_; rintro e w2 ⟨rfl, hb2⟩; have r2 := (hb2.block (w.heap.size + 1) (by have : W0.heap.size ≤ w1.heap.size := z1; omega)).trans r1; have HB2 := Lib.hid hb2; clear hb2)
                  refine wpAnyIn_ready (rs := [7]) (by kernel_rfl) (by simp) (AllReadyIn.cons rfl (fun K hK => ?_) AllReadyIn.nil)
                  refine stepIn_load_row rfl 78 _ rfl (w.heap.size + 1) rfl 78 #[.int .i64 v0, .int .i64 v1, .int .i64 v2, .int .i64 v3, .int .i64 v4, .int .i64 v5, .int .i64 v6, .int .i64 v7] (0, 0) _ r2 Try.underlying78 rfl HI ?_
                  refine hK _ _ ?_
                  clear hK K
                  refine wpAnyIn_ready (rs := [8]) (by kernel_rfl) (by simp) (AllReadyIn.cons rfl (fun K hK => ?_) AllReadyIn.nil)
                  go_simp
                  refine hK _ _ ?_
                  clear hK K
                  refine wpAnyIn_done (by kernel_rfl) ?_ _
                  refine ⟨rfl, rfl, r2, ?_⟩
                  exact (hB0.drew.trans (HB1.out.mono (by show _ ≤ W0.heap.size; omega))).trans (HB2.out.mono (by have : W0.heap.size ≤ w1.heap.size := z1; omega))
                · skip
                  refine stepIn_load_row rfl 78 _ rfl (w.heap.size + 1) rfl 78 #[.int .i64 v0, .int .i64 v1, .int .i64 v2, .int .i64 v3, .int .i64 v4, .int .i64 v5, .int .i64 v6, .int .i64 v7] (0, 0) _ r1 Try.underlying78 rfl HI ?_
                  refine hK _ _ ?_
                  clear hK K
                  refine wpAnyIn_ready (rs := [6]) (by kernel_rfl) (by simp) (AllReadyIn.cons rfl (fun K hK => ?_) AllReadyIn.nil)
                  go_simp
                  gi_wp2_with (gi_at_call 101; refine (HFl.out _).mono ?_; rintro e w2 ⟨rfl, hb2⟩; have r2 := (hb2.block (w.heap.size + 1) (by have : W0.heap.size ≤ w1.heap.size := z1; omega)).trans r1; have HB2 := Lib.hid hb2; clear hb2)
                  refine wpAnyIn_ready (rs := [8]) (by kernel_rfl) (by simp) (AllReadyIn.cons rfl (fun K hK => ?_) AllReadyIn.nil)
                  go_simp
                  refine hK _ _ ?_
                  clear hK K
                  refine wpAnyIn_done (by kernel_rfl) ?_ _
                  refine ⟨rfl, rfl, r2, ?_⟩
                  exact (hB0.drew.trans (HB1.out.mono (by show _ ≤ W0.heap.size; omega))).trans (HB2.out.mono (by have : W0.heap.size ≤ w1.heap.size := z1; omega))
              · skip
                refine stepIn_load_row rfl 78 _ rfl (w.heap.size + 1) rfl 78 #[.int .i64 v0, .int .i64 v1, .int .i64 v2, .int .i64 v3, .int .i64 v4, .int .i64 v5, .int .i64 v6, .int .i64 v7] (0, 0) _ r1 Try.underlying78 rfl HI ?_
                refine hK _ _ ?_
                clear hK K
                refine wpAnyIn_ready (rs := [5]) (by kernel_rfl) (by simp) (AllReadyIn.cons rfl (fun K hK => ?_) AllReadyIn.nil)
                have c5 : World.cell? w1 ⟨w.heap.size + 1, k0, none⟩ = some (.int .i64 z0) := by
                  have h5 := RowBox.cell (zs := [v0, v1, v2, v3, v4, v5, v6, v7]) (i := k0) r1 (by simpa using hk8)
                  rw [← hz0]
                  exact h5
                go_simp
                refine hK _ _ ?_
                clear hK K
                refine wpAnyIn_ready (rs := [6]) (by kernel_rfl) (by simp) (AllReadyIn.cons rfl (fun K hK => ?_) AllReadyIn.nil)
                go_simp
                gi_wp2_with (gi_at_call 101; refine (HFl.out _).mono ?_; rintro e w2 ⟨rfl, hb2⟩; have r2 := (hb2.block (w.heap.size + 1) (by have : W0.heap.size ≤ w1.heap.size := z1; omega)).trans r1; have HB2 := Lib.hid hb2; clear hb2)
                refine wpAnyIn_ready (rs := [8]) (by kernel_rfl) (by simp) (AllReadyIn.cons rfl (fun K hK => ?_) AllReadyIn.nil)
                go_simp
                refine hK _ _ ?_
                clear hK K
                refine wpAnyIn_done (by kernel_rfl) ?_ _
                refine ⟨rfl, rfl, r2, ?_⟩
                exact (hB0.drew.trans (HB1.out.mono (by show _ ≤ W0.heap.size; omega))).trans (HB2.out.mono (by have : W0.heap.size ≤ w1.heap.size := z1; omega))
            · skip
              have c5 : World.cell? w1 ⟨w.heap.size + 1, k0, none⟩ = some (.int .i64 z0) := by
                have h5 := RowBox.cell (zs := [v0, v1, v2, v3, v4, v5, v6, v7]) (i := k0) r1 (by simpa using hk8)
                rw [← hz0]
                exact h5
              go_simp
              refine hK _ _ ?_
              clear hK K
              refine wpAnyIn_ready (rs := [0, 7]) (by kernel_rfl) (by simp) (AllReadyIn.cons rfl (fun K hK => ?_) (AllReadyIn.cons rfl (fun K hK => ?_) AllReadyIn.nil))
              · skip
                refine stepIn_load_row rfl 78 _ rfl (w.heap.size + 1) rfl 78 #[.int .i64 v0, .int .i64 v1, .int .i64 v2, .int .i64 v3, .int .i64 v4, .int .i64 v5, .int .i64 v6, .int .i64 v7] (0, 0) _ r1 Try.underlying78 rfl HI ?_
                refine hK _ _ ?_
                clear hK K
                refine wpAnyIn_ready (rs := [6, 7]) (by kernel_rfl) (by simp) (AllReadyIn.cons rfl (fun K hK => ?_) (AllReadyIn.cons rfl (fun K hK => ?_) AllReadyIn.nil))
                · skip
                  go_simp
                  gi_wp2_with (gi_at_call 101; refine (HFl.out _).mono ?_; rintro e w2 ⟨rfl, hb2⟩; have r2 := (hb2.block (w.heap.size + 1) (by have : W0.heap.size ≤ w1.heap.size := z1; omega)).trans r1; have HB2 := Lib.hid hb2; clear hb2)
                  refine wpAnyIn_ready (rs := [7]) (by kernel_rfl) (by simp) (AllReadyIn.cons rfl (fun K hK => ?_) AllReadyIn.nil)
                  refine stepIn_load_row rfl 78 _ rfl (w.heap.size + 1) rfl 78 #[.int .i64 v0, .int .i64 v1, .int .i64 v2, .int .i64 v3, .int .i64 v4, .int .i64 v5, .int .i64 v6, .int .i64 v7] (0, 0) _ r2 Try.underlying78 rfl HI ?_
                  refine hK _ _ ?_
                  clear hK K
                  refine wpAnyIn_ready (rs := [8]) (by kernel_rfl) (by simp) (AllReadyIn.cons rfl (fun K hK => ?_) AllReadyIn.nil)
                  go_simp
                  refine hK _ _ ?_
                  clear hK K
                  refine wpAnyIn_done (by kernel_rfl) ?_ _
                  refine ⟨rfl, rfl, r2, ?_⟩
                  exact (hB0.drew.trans (HB1.out.mono (by show _ ≤ W0.heap.size; omega))).trans (HB2.out.mono (by have : W0.heap.size ≤ w1.heap.size := z1; omega))
                · skip
                  refine stepIn_load_row rfl 78 _ rfl (w.heap.size + 1) rfl 78 #[.int .i64 v0, .int .i64 v1, .int .i64 v2, .int .i64 v3, .int .i64 v4, .int .i64 v5, .int .i64 v6, .int .i64 v7] (0, 0) _ r1 Try.underlying78 rfl HI ?_
                  refine hK _ _ ?_
                  clear hK K
                  refine wpAnyIn_ready (rs := [6]) (by kernel_rfl) (by simp) (AllReadyIn.cons rfl (fun K hK => ?_) AllReadyIn.nil)
                  go_simp
                  gi_wp2_with (gi_at_call 101; refine (HFl.out _).mono ?_; rintro e w2 ⟨rfl, hb2⟩; have r2 := (hb2.block (w.heap.size + 1) (by have : W0.heap.size ≤ w1.heap.size := z1; omega)).trans r1; have HB2 := Lib.hid hb2; clear hb2)
                  refine wpAnyIn_ready (rs := [8]) (by kernel_rfl) (by simp) (AllReadyIn.cons rfl (fun K hK => ?_) AllReadyIn.nil)
                  go_simp
                  refine hK _ _ ?_
                  clear hK K
                  refine wpAnyIn_done (by kernel_rfl) ?_ _
                  refine ⟨rfl, rfl, r2, ?_⟩
                  exact (hB0.drew.trans (HB1.out.mono (by show _ ≤ W0.heap.size; omega))).trans (HB2.out.mono (by have : W0.heap.size ≤ w1.heap.size := z1; omega))
              · skip
                refine stepIn_load_row rfl 78 _ rfl (w.heap.size + 1) rfl 78 #[.int .i64 v0, .int .i64 v1, .int .i64 v2, .int .i64 v3, .int .i64 v4, .int .i64 v5, .int .i64 v6, .int .i64 v7] (0, 0) _ r1 Try.underlying78 rfl HI ?_
                refine hK _ _ ?_
                clear hK K
                refine wpAnyIn_ready (rs := [0]) (by kernel_rfl) (by simp) (AllReadyIn.cons rfl (fun K hK => ?_) AllReadyIn.nil)
                refine stepIn_load_row rfl 78 _ rfl (w.heap.size + 1) rfl 78 #[.int .i64 v0, .int .i64 v1, .int .i64 v2, .int .i64 v3, .int .i64 v4, .int .i64 v5, .int .i64 v6, .int .i64 v7] (0, 0) _ r1 Try.underlying78 rfl HI ?_
                refine hK _ _ ?_
                clear hK K
                refine wpAnyIn_ready (rs := [6]) (by kernel_rfl) (by simp) (AllReadyIn.cons rfl (fun K hK => ?_) AllReadyIn.nil)
                go_simp
                gi_wp2_with (gi_at_call 101; refine (HFl.out _).mono ?_; rintro e w2 ⟨rfl, hb2⟩; have r2 := (hb2.block (w.heap.size + 1) (by have : W0.heap.size ≤ w1.heap.size := z1; omega)).trans r1; have HB2 := Lib.hid hb2; clear hb2)
                refine wpAnyIn_ready (rs := [8]) (by kernel_rfl) (by simp) (AllReadyIn.cons rfl (fun K hK => ?_) AllReadyIn.nil)
                go_simp
                refine hK _ _ ?_
                clear hK K
                refine wpAnyIn_done (by kernel_rfl) ?_ _
                refine ⟨rfl, rfl, r2, ?_⟩
                exact (hB0.drew.trans (HB1.out.mono (by show _ ≤ W0.heap.size; omega))).trans (HB2.out.mono (by have : W0.heap.size ≤ w1.heap.size := z1; omega))
            · skip
              refine stepIn_load_row rfl 78 _ rfl (w.heap.size + 1) rfl 78 #[.int .i64 v0, .int .i64 v1, .int .i64 v2, .int .i64 v3, .int .i64 v4, .int .i64 v5, .int .i64 v6, .int .i64 v7] (0, 0) _ r1 Try.underlying78 rfl HI ?_
              refine hK _ _ ?_
              clear hK K
              refine wpAnyIn_ready (rs := [0, 5]) (by kernel_rfl) (by simp) (AllReadyIn.cons rfl (fun K hK => ?_) (AllReadyIn.cons rfl (fun K hK => ?_) AllReadyIn.nil))
              · skip
                refine stepIn_load_row rfl 78 _ rfl (w.heap.size + 1) rfl 78 #[.int .i64 v0, .int .i64 v1, .int .i64 v2, .int .i64 v3, .int .i64 v4, .int .i64 v5, .int .i64 v6, .int .i64 v7] (0, 0) _ r1 Try.underlying78 rfl HI ?_
                refine hK _ _ ?_
                clear hK K
                refine wpAnyIn_ready (rs := [5]) (by kernel_rfl) (by simp) (AllReadyIn.cons rfl (fun K hK => ?_) AllReadyIn.nil)
                have c5 : World.cell? w1 ⟨w.heap.size + 1, k0, none⟩ = some (.int .i64 z0) := by
                  have h5 := RowBox.cell (zs := [v0, v1, v2, v3, v4, v5, v6, v7]) (i := k0) r1 (by simpa using hk8)
                  rw [← hz0]
                  exact h5
                go_simp
                refine hK _ _ ?_
                clear hK K
                refine wpAnyIn_ready (rs := [6]) (by kernel_rfl) (by simp) (AllReadyIn.cons rfl (fun K hK => ?_) AllReadyIn.nil)
                go_simp
                gi_wp2_with (gi_at_call 101; refine (HFl.out _).mono ?_; rintro e w2 ⟨rfl, hb2⟩; have r2 := (hb2.block (w.heap.size + 1) (by have : W0.heap.size ≤ w1.heap.size := z1; omega)).trans r1; have HB2 := Lib.hid hb2; clear hb2)
                refine wpAnyIn_ready (rs := [8]) (by kernel_rfl) (by simp) (AllReadyIn.cons rfl (fun K hK => ?_) AllReadyIn.nil)
                go_simp
                refine hK _ _ ?_
                clear hK K
                refine wpAnyIn_done (by kernel_rfl) ?_ _
                refine ⟨rfl, rfl, r2, ?_⟩
                exact (hB0.drew.trans (HB1.out.mono (by show _ ≤ W0.heap.size; omega))).trans (HB2.out.mono (by have : W0.heap.size ≤ w1.heap.size := z1; omega))
              · skip
                have c5 : World.cell? w1 ⟨w.heap.size + 1, k0, none⟩ = some (.int .i64 z0) := by
                  have h5 := RowBox.cell (zs := [v0, v1, v2, v3, v4, v5, v6, v7]) (i := k0) r1 (by simpa using hk8)
                  rw [← hz0]
                  exact h5
                go_simp
                refine hK _ _ ?_
                clear hK K
                refine wpAnyIn_ready (rs := [0]) (by kernel_rfl) (by simp) (AllReadyIn.cons rfl (fun K hK => ?_) AllReadyIn.nil)
                refine stepIn_load_row rfl 78 _ rfl (w.heap.size + 1) rfl 78 #[.int .i64 v0, .int .i64 v1, .int .i64 v2, .int .i64 v3, .int .i64 v4, .int .i64 v5, .int .i64 v6, .int .i64 v7] (0, 0) _ r1 Try.underlying78 rfl HI ?_
                refine hK _ _ ?_
                clear hK K
                refine wpAnyIn_ready (rs := [6]) (by kernel_rfl) (by simp) (AllReadyIn.cons rfl (fun K hK => ?_) AllReadyIn.nil)
                go_simp
                gi_wp2_with (gi_at_call 101; refine (HFl.out _).mono ?_; rintro e w2 ⟨rfl, hb2⟩; have r2 := (hb2.block (w.heap.size + 1) (by have : W0.heap.size ≤ w1.heap.size := z1; omega)).trans r1; have HB2 := Lib.hid hb2; clear hb2)
                refine wpAnyIn_ready (rs := [8]) (by kernel_rfl) (by simp) (AllReadyIn.cons rfl (fun K hK => ?_) AllReadyIn.nil)
                go_simp
                refine hK _ _ ?_
                clear hK K
                refine wpAnyIn_done (by kernel_rfl) ?_ _
                refine ⟨rfl, rfl, r2, ?_⟩
                exact (hB0.drew.trans (HB1.out.mono (by show _ ≤ W0.heap.size; omega))).trans (HB2.out.mono (by have : W0.heap.size ≤ w1.heap.size := z1; omega))
        · skip
          refine stepIn_load_row rfl 78 _ rfl (w.heap.size + 1) rfl 78 #[.int .i64 v0, .int .i64 v1, .int .i64 v2, .int .i64 v3, .int .i64 v4, .int .i64 v5, .int .i64 v6, .int .i64 v7] (0, 0) _ r0 Try.underlying78 rfl HI ?_
          refine hK _ _ ?_
          clear hK K
          refine wpAnyIn_ready (rs := [0, 3]) (by kernel_rfl) (by simp) (AllReadyIn.cons rfl (fun K hK => ?_) (AllReadyIn.cons rfl (fun K hK => ?_) AllReadyIn.nil))
          · skip
            refine stepIn_load_row rfl 78 _ rfl (w.heap.size + 1) rfl 78 #[.int .i64 v0, .int .i64 v1, .int .i64 v2, .int .i64 v3, .int .i64 v4, .int .i64 v5, .int .i64 v6, .int .i64 v7] (0, 0) _ r0 Try.underlying78 rfl HI ?_
            refine hK _ _ ?_
            clear hK K
            refine wpAnyIn_ready (rs := [3]) (by kernel_rfl) (by simp) (AllReadyIn.cons rfl (fun K hK => ?_) AllReadyIn.nil)
            go_simp
            gi_wp2_with (gi_at_call 83; refine (HL.out _).mono ?_; rintro e w1 ⟨rfl, hb1⟩; have r1 := (hb1.block (w.heap.size + 1) (by show _ < W0.heap.size; omega)).trans r0; have z1 := hb1.size; have HB1 := Lib.hid hb1; clear hb1)
            refine wpAnyIn_take (i := 4) (v := ?v12) hro rfl (by kernel_rfl) (by kernel_rfl) (by kernel_rfl) (fun _ _ _ h => by cases h.1) ⟨Or.inl ⟨by rfl, ?y12⟩, fun _ => rfl⟩ ?r12
            case y12 => intro w; go_simp; try with_reducible rfl
            case r12 =>
              refine wpAnyIn_ready (rs := [5]) (by kernel_rfl) (by simp) (AllReadyIn.cons rfl (fun K hK => ?_) AllReadyIn.nil)
              have c5 : World.cell? w1 ⟨w.heap.size + 1, k0, none⟩ = some (.int .i64 z0) := by
                have h5 := RowBox.cell (zs := [v0, v1, v2, v3, v4, v5, v6, v7]) (i := k0) r1 (by simpa using hk8)
                rw [← hz0]
                exact h5
              go_simp
              refine hK _ _ ?_
              clear hK K
              refine wpAnyIn_ready (rs := [6]) (by kernel_rfl) (by simp) (AllReadyIn.cons rfl (fun K hK => ?_) AllReadyIn.nil)
              go_simp
              gi_wp2_with (gi_at_call 101; refine (HFl.out _).mono ?_; rintro e w2 ⟨rfl, hb2⟩; have r2 := (hb2.block (w.heap.size + 1) (by have : W0.heap.size ≤ w1.heap.size := z1; omega)).trans r1; have HB2 := Lib.hid hb2; clear hb2)
              refine wpAnyIn_ready (rs := [8]) (by kernel_rfl) (by simp) (AllReadyIn.cons rfl (fun K hK => ?_) AllReadyIn.nil)
              go_simp
              refine hK _ _ ?_
              clear hK K
              refine wpAnyIn_done (by kernel_rfl) ?_ _
              refine ⟨rfl, rfl, r2, ?_⟩
              exact (hB0.drew.trans (HB1.out.mono (by show _ ≤ W0.heap.size; omega))).trans (HB2.out.mono (by have : W0.heap.size ≤ w1.heap.size := z1; omega))
          · skip
            go_simp
            gi_wp2_with (gi_at_call 83; refine (HL.out _).mono ?_; rintro e w1 ⟨rfl, hb1⟩; have r1 := (hb1.block (w.heap.size + 1) (by show _ < W0.heap.size; omega)).trans r0; have z1 := hb1.size; have HB1 := Lib.hid hb1; clear hb1)
            refine wpAnyIn_take (i := 4) (v := ?v13) hro rfl (by kernel_rfl) (by kernel_rfl) (by kernel_rfl) (fun _ _ _ h => by cases h.1) ⟨Or.inl ⟨by rfl, ?y13⟩, fun _ => rfl⟩ ?r13
            case y13 => intro w; go_simp; try with_reducible rfl
            case r13 =>
              refine wpAnyIn_ready (rs := [0, 5]) (by kernel_rfl) (by simp) (AllReadyIn.cons rfl (fun K hK => ?_) (AllReadyIn.cons rfl (fun K hK => ?_) AllReadyIn.nil))
              · skip
                refine stepIn_load_row rfl 78 _ rfl (w.heap.size + 1) rfl 78 #[.int .i64 v0, .int .i64 v1, .int .i64 v2, .int .i64 v3, .int .i64 v4, .int .i64 v5, .int .i64 v6, .int .i64 v7] (0, 0) _ r1 Try.underlying78 rfl HI ?_
                refine hK _ _ ?_
                clear hK K
                refine wpAnyIn_ready (rs := [5]) (by kernel_rfl) (by simp) (AllReadyIn.cons rfl (fun K hK => ?_) AllReadyIn.nil)
                have c5 : World.cell? w1 ⟨w.heap.size + 1, k0, none⟩ = some (.int .i64 z0) := by
                  have h5 := RowBox.cell (zs := [v0, v1, v2, v3, v4, v5, v6, v7]) (i := k0) r1 (by simpa using hk8)
                  rw [← hz0]
                  exact h5
                go_simp
                refine hK _ _ ?_
                clear hK K
                refine wpAnyIn_ready (rs := [6]) (by kernel_rfl) (by simp) (AllReadyIn.cons rfl (fun K hK => ?_) AllReadyIn.nil)
                go_simp
                gi_wp2_with (gi_at_call 101; refine (HFl.out _).mono ?_; rintro e w2 ⟨rfl, hb2⟩; have r2 := (hb2.block (w.heap.size + 1) (by have : W0.heap.size ≤ w1.heap.size := z1; omega)).trans r1; have HB2 := Lib.hid hb2; clear hb2)
                refine wpAnyIn_ready (rs := [8]) (by kernel_rfl) (by simp) (AllReadyIn.cons rfl (fun K hK => ?_) AllReadyIn.nil)
                go_simp
                refine hK _ _ ?_
                clear hK K
                refine wpAnyIn_done (by kernel_rfl) ?_ _
                refine ⟨rfl, rfl, r2, ?_⟩
                exact (hB0.drew.trans (HB1.out.mono (by show _ ≤ W0.heap.size; omega))).trans (HB2.out.mono (by have : W0.heap.size ≤ w1.heap.size := z1; omega))
              · skip
                have c5 : World.cell? w1 ⟨w.heap.size + 1, k0, none⟩ = some (.int .i64 z0) := by
                  have h5 := RowBox.cell (zs := [v0, v1, v2, v3, v4, v5, v6, v7]) (i := k0) r1 (by simpa using hk8)
                  rw [← hz0]
                  exact h5
                go_simp
                refine hK _ _ ?_
                clear hK K
                refine wpAnyIn_ready (rs := [0]) (by kernel_rfl) (by simp) (AllReadyIn.cons rfl (fun K hK => ?_) AllReadyIn.nil)
                refine stepIn_load_row rfl 78 _ rfl (w.heap.size + 1) rfl 78 #[.int .i64 v0, .int .i64 v1, .int .i64 v2, .int .i64 v3, .int .i64 v4, .int .i64 v5, .int .i64 v6, .int .i64 v7] (0, 0) _ r1 Try.underlying78 rfl HI ?_
                refine hK _ _ ?_
                clear hK K
                refine wpAnyIn_ready (rs := [6]) (by kernel_rfl) (by simp) (AllReadyIn.cons rfl (fun K hK => ?_) AllReadyIn.nil)
                go_simp
                gi_wp2_with (gi_at_call 101; refine (HFl.out _).mono ?_; rintro e w2 ⟨rfl, hb2⟩; have r2 := (hb2.block (w.heap.size + 1) (by have : W0.heap.size ≤ w1.heap.size := z1; omega)).trans r1; have HB2 := Lib.hid hb2; clear hb2)
                refine wpAnyIn_ready (rs := [8]) (by kernel_rfl) (by simp) (AllReadyIn.cons rfl (fun K hK => ?_) AllReadyIn.nil)
                go_simp
                refine hK _ _ ?_
                clear hK K
                refine wpAnyIn_done (by kernel_rfl) ?_ _
                refine ⟨rfl, rfl, r2, ?_⟩
                exact (hB0.drew.trans (HB1.out.mono (by show _ ≤ W0.heap.size; omega))).trans (HB2.out.mono (by have : W0.heap.size ≤ w1.heap.size := z1; omega))
  case h2 =>
    rintro w' ⟨r0, hB0⟩
    have R0 := Lib.hid r0
    have HB0 := Lib.hid hB0
    clear r0 hB0
    gi_wp2
    go_ret
    rw [HG.out]
    exact ⟨_, 1, rfl, ownU_one w' X HB0.out.size, HB0.out.alloc HB0.out.size _⟩

end Go.Proofs.Ytflccpoaacidgaa

namespace Go.Proofs.Ytflccpoaacidgaa
open Go.RowKit Go.Shelf

attribute [local go_sem] Oper.semAt_some

set_option maxRecDepth 100000 in
set_option maxHeartbeats 4000000 in
theorem grp_many_in (F : Fence) (n : Nat) (A : Option Addr) (c B X : Nat) (v0 v1 v2 v3 v4 v5 v6 v7 : Int) (w : World) (h : RdK .i64 w B A 8 [v0, v1, v2, v3, v4, v5, v6, v7]) (hB : B ≤ w.heap.size) (hX : X < 256) (h0X : X ≠ 0) (hv : ∀ z ∈ [v0, v1, v2, v3, v4, v5, v6, v7], -9223372036854775808 ≤ z ∧ z < 9223372036854775808) (k0 : Nat) (hk0 : k0 ∈ onesTo X 32) (hlead : nthV X 0 = (k0 : Int)) (hcase : ¬ fillL (at0 [v0, v1, v2, v3, v4, v5, v6, v7] k0) [v0, v1, v2, v3, v4, v5, v6, v7] (onesTo X 32) = [v0, v1, v2, v3, v4, v5, v6, v7]) (h0 : F.fn 85) (hrw : F.fn 100) (hf : F.fn 56) (hm : F.fn 75) (hg : F.fn 91) (hl : F.fn 83) (ht : F.fn 99) (hr : F.fn 109) (hh : F.fn 113) (ho : F.fn 98) (h5 : F.fn 103) (h6 : F.fn 110) (hfi : F.fn 101) (hgr : F.fn 102) (hro : F.round = none) (hn : 12 ≤ n) :
    CallsIn F n Try.prog 85 #[.slice A 8 c, .int .u32 (X : Int)] w fun e w' => ∃ A' c', e = .returned (.slice A' (groupsL [v0, v1, v2, v3, v4, v5, v6, v7] (onesTo X 32)).length c') ∧ OwnK 36 .u32 w' w.heap.size A' (groupsL [v0, v1, v2, v3, v4, v5, v6, v7] (onesTo X 32)).length c' (ints (groupsL [v0, v1, v2, v3, v4, v5, v6, v7] (onesTo X 32))) ∧ Below w.heap.size w w' := by
  have HGr : Hid (∀ W, CallsIn F (n - 1) Try.prog 102 #[.agg #[.int .i64 v0, .int .i64 v1, .int .i64 v2, .int .i64 v3, .int .i64 v4, .int .i64 v5, .int .i64 v6, .int .i64 v7], .int .u32 (X : Int)] W fun e w' => ∃ b k, e = .returned (.map (some b)) ∧ W.heap.size ≤ b ∧ k ≤ 32 ∧ MapG w' b k (grp [v0, v1, v2, v3, v4, v5, v6, v7] (onesTo X 32)) ∧ Below W.heap.size W w') := fun W => groups_in F (n - 1) X v0 v1 v2 v3 v4 v5 v6 v7 W hX hv hgr h5 h6 hro (by omega)
  have HLx : Hid (∀ (Y : Nat) W, Y < 4294967296 → CallsIn F (n - 1 - 1 - 1) Try.prog 83 #[.int .u32 (Y : Int)] W fun e w' => e = .returned (.int .i64 (nthV Y 0)) ∧ Below W.heap.size W w') := fun Y W hY => leader_in F (n - 1 - 1 - 1) Y W hY hl ht hr hh hf hm hg ho h5 h6 (by omega) hro
  have HV := Lib.hid hv
  clear hv
  have hX32 : X < 4294967296 := by omega
  have HM : Hid (∀ W, CallsIn F (n - 1) Try.prog 56 #[.int .u32 (X : Int)] W fun e w' => e = .returned (.bool (decide (X < 256))) ∧ W = w') := fun W => isMask_in F (n - 1) X W hX32 hf hm hg (by omega) hro
  rw [decide_eq_true hX] at HM
  have HR := Lib.hid (rowOf_in F (n - 1) hrw hro A c B v0 v1 v2 v3 v4 v5 v6 v7 w h hB)
  have HL : Hid (∀ W, CallsIn F (n - 1) Try.prog 83 #[.int .u32 (X : Int)] W fun e w' => e = .returned (.int .i64 (nthV X 0)) ∧ Below W.heap.size W w') := fun W => leader_in F (n - 1) X W hX32 hl ht hr hh hf hm hg ho h5 h6 (by omega) hro
  rw [hlead] at HL
  have hk8 : k0 < 8 := ones_lt_8 hX hk0
  have hk8' : (k0 : Int) < 8 := by omega
  have HFl : Hid (∀ W, CallsIn F (n - 1) Try.prog 101 #[.agg #[.int .i64 v0, .int .i64 v1, .int .i64 v2, .int .i64 v3, .int .i64 v4, .int .i64 v5, .int .i64 v6, .int .i64 v7], .int .u32 (X : Int), .int .i64 (at0 [v0, v1, v2, v3, v4, v5, v6, v7] k0)] W fun e w' => e = .returned (.agg (rowC (fillL (at0 [v0, v1, v2, v3, v4, v5, v6, v7] k0) [v0, v1, v2, v3, v4, v5, v6, v7] (onesTo X 32)))) ∧ Below W.heap.size W w') := fun W => filled_in F (n - 1) X v0 v1 v2 v3 v4 v5 v6 v7 _ W hX hfi h5 h6 hro (by omega)
  have heq := fun W => row_eq W (fillL (at0 [v0, v1, v2, v3, v4, v5, v6, v7] k0) [v0, v1, v2, v3, v4, v5, v6, v7] (onesTo X 32)) [v0, v1, v2, v3, v4, v5, v6, v7] (by rw [fillL_len]; rfl) rfl
  rw [decide_eq_false hcase] at heq
  have heq' : ∀ W, (Op.equalIn 10000 78 (.agg (rowC (fillL (at0 [v0, v1, v2, v3, v4, v5, v6, v7] k0) [v0, v1, v2, v3, v4, v5, v6, v7] (onesTo X 32)))) (.agg #[.int .i64 v0, .int .i64 v1, .int .i64 v2, .int .i64 v3, .int .i64 v4, .int .i64 v5, .int .i64 v6, .int .i64 v7])).run Try.prog W = .ok false W := heq
  clear heq
  have hgd := row_guard
  have h1 : 1 ≤ n := by omega
  have hmx := mixed
  have HI : (Try.prog.info? 78).map (·.size) = some (#[.int .i64 v0, .int .i64 v1, .int .i64 v2, .int .i64 v3, .int .i64 v4, .int .i64 v5, .int .i64 v6, .int .i64 v7] : Array Value).size := row_size
  have HX := Lib.hid hX32
  have HX8 := Lib.hid hX
  have H0X : ¬ ((X : Int) = 0) := by omega
  have HK0 := Lib.hid hk0
  clear hX hX32 h h0X hlead hk0
  obtain ⟨i0, hi, hz0', hz1, hz2⟩ := info_parts info_word
  refine callsIn_of_wp_marks Try.func85 rfl h0 ?_ hro
  simp only [Try.ntmps85, List.size_toArray, List.length_cons, List.length_nil, Nat.reduceAdd, Nat.reduceSub, Array.replicate_succ, Array.replicate_zero, List.push_toArray, List.append_toArray, List.nil_append, List.cons_append]
  gi_wp2_with (first | (gi_at_call 100; refine HR.out.mono ?_; rintro e w' ⟨rfl, rfl⟩) | (gi_at_call 56; refine (HM.out _).mono ?_; rintro e w' ⟨rfl, rfl⟩))
  have hB0 : Below w.heap.size w ((w.alloc (.cells #[.int .i64 v0, .int .i64 v1, .int .i64 v2, .int .i64 v3, .int .i64 v4, .int .i64 v5, .int .i64 v6, .int .i64 v7] 78)).alloc (.cells #[.int .i64 v0, .int .i64 v1, .int .i64 v2, .int .i64 v3, .int .i64 v4, .int .i64 v5, .int .i64 v6, .int .i64 v7] 78)) := ((Below.refl _ w).alloc (Nat.le_refl _) _).alloc (by simp) _
  have r0 : ((w.alloc (.cells #[.int .i64 v0, .int .i64 v1, .int .i64 v2, .int .i64 v3, .int .i64 v4, .int .i64 v5, .int .i64 v6, .int .i64 v7] 78)).alloc (.cells #[.int .i64 v0, .int .i64 v1, .int .i64 v2, .int .i64 v3, .int .i64 v4, .int .i64 v5, .int .i64 v6, .int .i64 v7] 78)).heap[w.heap.size + 1]? = some (.cells #[.int .i64 v0, .int .i64 v1, .int .i64 v2, .int .i64 v3, .int .i64 v4, .int .i64 v5, .int .i64 v6, .int .i64 v7] 78 (0, 0)) := by
    have := RowBox.new (w.alloc (.cells #[.int .i64 v0, .int .i64 v1, .int .i64 v2, .int .i64 v3, .int .i64 v4, .int .i64 v5, .int .i64 v6, .int .i64 v7] 78)) [v0, v1, v2, v3, v4, v5, v6, v7]
    rw [World.size_alloc] at this
    exact this
  have hsz : ((w.alloc (.cells #[.int .i64 v0, .int .i64 v1, .int .i64 v2, .int .i64 v3, .int .i64 v4, .int .i64 v5, .int .i64 v6, .int .i64 v7] 78)).alloc (.cells #[.int .i64 v0, .int .i64 v1, .int .i64 v2, .int .i64 v3, .int .i64 v4, .int .i64 v5, .int .i64 v6, .int .i64 v7] 78)).heap.size = w.heap.size + 2 := by simp
  obtain ⟨W0, hW0⟩ : ∃ W0, ((w.alloc (.cells #[.int .i64 v0, .int .i64 v1, .int .i64 v2, .int .i64 v3, .int .i64 v4, .int .i64 v5, .int .i64 v6, .int .i64 v7] 78)).alloc (.cells #[.int .i64 v0, .int .i64 v1, .int .i64 v2, .int .i64 v3, .int .i64 v4, .int .i64 v5, .int .i64 v6, .int .i64 v7] 78)) = W0 := ⟨_, rfl⟩
  rw [hW0] at hB0 r0 hsz ⊢
  clear hW0 HR HM
  generalize rowC (fillL (at0 [v0, v1, v2, v3, v4, v5, v6, v7] k0) [v0, v1, v2, v3, v4, v5, v6, v7] (onesTo X 32)) = fc at *
  generalize hz0 : at0 [v0, v1, v2, v3, v4, v5, v6, v7] k0 = z0 at *
  apply cut_at (R := fun w' => w'.heap[w.heap.size + 1]? = some (.cells #[.int .i64 v0, .int .i64 v1, .int .i64 v2, .int .i64 v3, .int .i64 v4, .int .i64 v5, .int .i64 v6, .int .i64 v7] 78 (0, 0)) ∧ Below w.heap.size w w')
  case h =>
    refine wpIn_region_any (by assumption) ?_
    change wpAnyIn _ _ _ _ _ _ _ _ _ (World.drew _)
    refine wpAnyIn_take (i := 1) (v := ?v7) hro rfl (by kernel_rfl) (by kernel_rfl) (by kernel_rfl) (fun _ _ _ h => by cases h.1) ⟨Or.inl ⟨by rfl, ?y7⟩, fun _ => rfl⟩ ?r7
    case y7 => intro w; go_simp; try with_reducible rfl
    case r7 =>
      refine wpAnyIn_take (i := 2) (v := ?v8) hro rfl (by kernel_rfl) (by kernel_rfl) (by kernel_rfl) (fun _ _ _ h => by cases h.1) ⟨Or.inl ⟨by rfl, ?y8⟩, fun _ => rfl⟩ ?r8
      case y8 => intro w; go_simp; try with_reducible rfl
      case r8 =>
        refine wpAnyIn_ready (rs := [0, 3, 7]) (by kernel_rfl) (by simp) (AllReadyIn.cons rfl (fun K hK => ?_) (AllReadyIn.cons rfl (fun K hK => ?_) (AllReadyIn.cons rfl (fun K hK => ?_) AllReadyIn.nil)))
        · skip
          refine stepIn_load_row rfl 78 _ rfl (w.heap.size + 1) rfl 78 #[.int .i64 v0, .int .i64 v1, .int .i64 v2, .int .i64 v3, .int .i64 v4, .int .i64 v5, .int .i64 v6, .int .i64 v7] (0, 0) _ r0 Try.underlying78 rfl HI ?_
          refine hK _ _ ?_
          clear hK K
          refine wpAnyIn_ready (rs := [3, 7]) (by kernel_rfl) (by simp) (AllReadyIn.cons rfl (fun K hK => ?_) (AllReadyIn.cons rfl (fun K hK => ?_) AllReadyIn.nil))
          · skip
            go_simp
            gi_wp2_with (gi_at_call 83; refine (HL.out _).mono ?_; rintro e w1 ⟨rfl, hb1⟩; have r1 := (hb1.block (w.heap.size + 1) (by show _ < W0.heap.size; omega)).trans r0; have z1 := hb1.size; have HB1 := Lib.hid hb1; clear hb1)
            refine wpAnyIn_take (i := 4) (v := ?v9) hro rfl (by kernel_rfl) (by kernel_rfl) (by kernel_rfl) (fun _ _ _ h => by cases h.1) ⟨Or.inl ⟨by rfl, ?y9⟩, fun _ => rfl⟩ ?r9
            case y9 => intro w; go_simp; try with_reducible rfl
            case r9 =>
              refine wpAnyIn_ready (rs := [5, 7]) (by kernel_rfl) (by simp) (AllReadyIn.cons rfl (fun K hK => ?_) (AllReadyIn.cons rfl (fun K hK => ?_) AllReadyIn.nil))
              · skip
                have c5 : World.cell? w1 ⟨w.heap.size + 1, k0, none⟩ = some (.int .i64 z0) := by
                  have h5 := RowBox.cell (zs := [v0, v1, v2, v3, v4, v5, v6, v7]) (i := k0) r1 (by simpa using hk8)
                  rw [← hz0]
                  exact h5
                go_simp
                refine hK _ _ ?_
                clear hK K
                refine wpAnyIn_ready (rs := [6, 7]) (by kernel_rfl) (by simp) (AllReadyIn.cons rfl (fun K hK => ?_) (AllReadyIn.cons rfl (fun K hK => ?_) AllReadyIn.nil))
                · skip
                  go_simp
                  gi_wp2_with (gi_at_call 101; refine (HFl.out _).mono ?_; rintro e w2 ⟨rfl, hb2⟩; have r2 := (hb2.block (w.heap.size + 1) (by have : W0.heap.size ≤ w1.heap.size := z1; omega)).trans r1; have HB2 := Lib.hid hb2; clear hb2)
                  refine wpAnyIn_ready (rs := [7]) (by kernel_rfl) (by simp) (AllReadyIn.cons rfl (fun K hK => ?_) AllReadyIn.nil)
                  refine stepIn_load_row rfl 78 _ rfl (w.heap.size + 1) rfl 78 #[.int .i64 v0, .int .i64 v1, .int .i64 v2, .int .i64 v3, .int .i64 v4, .int .i64 v5, .int .i64 v6, .int .i64 v7] (0, 0) _ r2 Try.underlying78 rfl HI ?_
                  refine hK _ _ ?_
                  clear hK K
                  refine wpAnyIn_ready (rs := [8]) (by kernel_rfl) (by simp) (AllReadyIn.cons rfl (fun K hK => ?_) AllReadyIn.nil)
                  go_simp
                  refine hK _ _ ?_
                  clear hK K
                  refine wpAnyIn_done (by kernel_rfl) ?_ _
                  refine ⟨rfl, rfl, r2, ?_⟩
                  exact (hB0.drew.trans (HB1.out.mono (by show _ ≤ W0.heap.size; omega))).trans (HB2.out.mono (by have : W0.heap.size ≤ w1.heap.size := z1; omega))
                · skip
                  refine stepIn_load_row rfl 78 _ rfl (w.heap.size + 1) rfl 78 #[.int .i64 v0, .int .i64 v1, .int .i64 v2, .int .i64 v3, .int .i64 v4, .int .i64 v5, .int .i64 v6, .int .i64 v7] (0, 0) _ r1 Try.underlying78 rfl HI ?_
                  refine hK _ _ ?_
                  clear hK K
                  refine wpAnyIn_ready (rs := [6]) (by kernel_rfl) (by simp) (AllReadyIn.cons rfl (fun K hK => ?_) AllReadyIn.nil)
                  go_simp
                  gi_wp2_with (gi_at_call 101; refine (HFl.out _).mono ?_; rintro e w2 ⟨rfl, hb2⟩; have r2 := (hb2.block (w.heap.size + 1) (by have : W0.heap.size ≤ w1.heap.size := z1; omega)).trans r1; have HB2 := Lib.hid hb2; clear hb2)
                  refine wpAnyIn_ready (rs := [8]) (by kernel_rfl) (by simp) (AllReadyIn.cons rfl (fun K hK => ?_) AllReadyIn.nil)
                  go_simp
                  refine hK _ _ ?_
                  clear hK K
                  refine wpAnyIn_done (by kernel_rfl) ?_ _
                  refine ⟨rfl, rfl, r2, ?_⟩
                  exact (hB0.drew.trans (HB1.out.mono (by show _ ≤ W0.heap.size; omega))).trans (HB2.out.mono (by have : W0.heap.size ≤ w1.heap.size := z1; omega))
              · skip
                refine stepIn_load_row rfl 78 _ rfl (w.heap.size + 1) rfl 78 #[.int .i64 v0, .int .i64 v1, .int .i64 v2, .int .i64 v3, .int .i64 v4, .int .i64 v5, .int .i64 v6, .int .i64 v7] (0, 0) _ r1 Try.underlying78 rfl HI ?_
                refine hK _ _ ?_
                clear hK K
                refine wpAnyIn_ready (rs := [5]) (by kernel_rfl) (by simp) (AllReadyIn.cons rfl (fun K hK => ?_) AllReadyIn.nil)
                have c5 : World.cell? w1 ⟨w.heap.size + 1, k0, none⟩ = some (.int .i64 z0) := by
                  have h5 := RowBox.cell (zs := [v0, v1, v2, v3, v4, v5, v6, v7]) (i := k0) r1 (by simpa using hk8)
                  rw [← hz0]
                  exact h5
                go_simp
                refine hK _ _ ?_
                clear hK K
                refine wpAnyIn_ready (rs := [6]) (by kernel_rfl) (by simp) (AllReadyIn.cons rfl (fun K hK => ?_) AllReadyIn.nil)
                go_simp
                gi_wp2_with (gi_at_call 101; refine (HFl.out _).mono ?_; rintro e w2 ⟨rfl, hb2⟩; have r2 := (hb2.block (w.heap.size + 1) (by have : W0.heap.size ≤ w1.heap.size := z1; omega)).trans r1; have HB2 := Lib.hid hb2; clear hb2)
                refine wpAnyIn_ready (rs := [8]) (by kernel_rfl) (by simp) (AllReadyIn.cons rfl (fun K hK => ?_) AllReadyIn.nil)
                go_simp
                refine hK _ _ ?_
                clear hK K
                refine wpAnyIn_done (by kernel_rfl) ?_ _
                refine ⟨rfl, rfl, r2, ?_⟩
                exact (hB0.drew.trans (HB1.out.mono (by show _ ≤ W0.heap.size; omega))).trans (HB2.out.mono (by have : W0.heap.size ≤ w1.heap.size := z1; omega))
          · skip
            refine stepIn_load_row rfl 78 _ rfl (w.heap.size + 1) rfl 78 #[.int .i64 v0, .int .i64 v1, .int .i64 v2, .int .i64 v3, .int .i64 v4, .int .i64 v5, .int .i64 v6, .int .i64 v7] (0, 0) _ r0 Try.underlying78 rfl HI ?_
            refine hK _ _ ?_
            clear hK K
            refine wpAnyIn_ready (rs := [3]) (by kernel_rfl) (by simp) (AllReadyIn.cons rfl (fun K hK => ?_) AllReadyIn.nil)
            go_simp
            gi_wp2_with (gi_at_call 83; refine (HL.out _).mono ?_; rintro e w1 ⟨rfl, hb1⟩; have r1 := (hb1.block (w.heap.size + 1) (by show _ < W0.heap.size; omega)).trans r0; have z1 := hb1.size; have HB1 := Lib.hid hb1; clear hb1)
            refine wpAnyIn_take (i := 4) (v := ?v10) hro rfl (by kernel_rfl) (by kernel_rfl) (by kernel_rfl) (fun _ _ _ h => by cases h.1) ⟨Or.inl ⟨by rfl, ?y10⟩, fun _ => rfl⟩ ?r10
            case y10 => intro w; go_simp; try with_reducible rfl
            case r10 =>
              refine wpAnyIn_ready (rs := [5]) (by kernel_rfl) (by simp) (AllReadyIn.cons rfl (fun K hK => ?_) AllReadyIn.nil)
              have c5 : World.cell? w1 ⟨w.heap.size + 1, k0, none⟩ = some (.int .i64 z0) := by
                have h5 := RowBox.cell (zs := [v0, v1, v2, v3, v4, v5, v6, v7]) (i := k0) r1 (by simpa using hk8)
                rw [← hz0]
                exact h5
              go_simp
              refine hK _ _ ?_
              clear hK K
              refine wpAnyIn_ready (rs := [6]) (by kernel_rfl) (by simp) (AllReadyIn.cons rfl (fun K hK => ?_) AllReadyIn.nil)
              go_simp
              gi_wp2_with (gi_at_call 101; refine (HFl.out _).mono ?_; rintro e w2 ⟨rfl, hb2⟩; have r2 := (hb2.block (w.heap.size + 1) (by have : W0.heap.size ≤ w1.heap.size := z1; omega)).trans r1; have HB2 := Lib.hid hb2; clear hb2)
              refine wpAnyIn_ready (rs := [8]) (by kernel_rfl) (by simp) (AllReadyIn.cons rfl (fun K hK => ?_) AllReadyIn.nil)
              go_simp
              refine hK _ _ ?_
              clear hK K
              refine wpAnyIn_done (by kernel_rfl) ?_ _
              refine ⟨rfl, rfl, r2, ?_⟩
              exact (hB0.drew.trans (HB1.out.mono (by show _ ≤ W0.heap.size; omega))).trans (HB2.out.mono (by have : W0.heap.size ≤ w1.heap.size := z1; omega))
        · skip
          go_simp
          gi_wp2_with (gi_at_call 83; refine (HL.out _).mono ?_; rintro e w1 ⟨rfl, hb1⟩; have r1 := (hb1.block (w.heap.size + 1) (by show _ < W0.heap.size; omega)).trans r0; have z1 := hb1.size; have HB1 := Lib.hid hb1; clear hb1)
          refine wpAnyIn_take (i := 4) (v := ?v11) hro rfl (by kernel_rfl) (by kernel_rfl) (by kernel_rfl) (fun _ _ _ h => by cases h.1) ⟨Or.inl ⟨by rfl, ?y11⟩, fun _ => rfl⟩ ?r11
          case y11 => intro w; go_simp; try with_reducible rfl
          case r11 =>
            refine wpAnyIn_ready (rs := [0, 5, 7]) (by kernel_rfl) (by simp) (AllReadyIn.cons rfl (fun K hK => ?_) (AllReadyIn.cons rfl (fun K hK => ?_) (AllReadyIn.cons rfl (fun K hK => ?_) AllReadyIn.nil)))
            · skip
              refine stepIn_load_row rfl 78 _ rfl (w.heap.size + 1) rfl 78 #[.int .i64 v0, .int .i64 v1, .int .i64 v2, .int .i64 v3, .int .i64 v4, .int .i64 v5, .int .i64 v6, .int .i64 v7] (0, 0) _ r1 Try.underlying78 rfl HI ?_
              refine hK _ _ ?_
              clear hK K
              refine wpAnyIn_ready (rs := [5, 7]) (by kernel_rfl) (by simp) (AllReadyIn.cons rfl (fun K hK => ?_) (AllReadyIn.cons rfl (fun K hK => ?_) AllReadyIn.nil))
              · skip
                have c5 : World.cell? w1 ⟨w.heap.size + 1, k0, none⟩ = some (.int .i64 z0) := by
                  have h5 := RowBox.cell (zs := [v0, v1, v2, v3, v4, v5, v6, v7]) (i := k0) r1 (by simpa using hk8)
                  rw [← hz0]
                  exact h5
                go_simp
                refine hK _ _ ?_
                clear hK K
                refine wpAnyIn_ready (rs := [6, 7]) (by kernel_rfl) (by simp) (AllReadyIn.cons rfl (fun K hK => ?_) (AllReadyIn.cons rfl (fun K hK => ?_) AllReadyIn.nil))
                · skip
                  go_simp
                  gi_wp2_with (gi_at_call 101; refine (HFl.out _).mono ?_; rintro e w2 ⟨rfl, hb2⟩; have r2 := (hb2.block (w.heap.size + 1) (by have : W0.heap.size ≤ w1.heap.size := z1; omega)).trans r1; have HB2 := Lib.hid hb2; clear hb2)
                  refine wpAnyIn_ready (rs := [7]) (by kernel_rfl) (by simp) (AllReadyIn.cons rfl (fun K hK => ?_) AllReadyIn.nil)
                  refine stepIn_load_row rfl 78 _ rfl (w.heap.size + 1) rfl 78 #[.int .i64 v0, .int .i64 v1, .int .i64 v2, .int .i64 v3, .int .i64 v4, .int .i64 v5, .int .i64 v6, .int .i64 v7] (0, 0) _ r2 Try.underlying78 rfl HI ?_
                  refine hK _ _ ?_
                  clear hK K
                  refine wpAnyIn_ready (rs := [8]) (by kernel_rfl) (by simp) (AllReadyIn.cons rfl (fun K hK => ?_) AllReadyIn.nil)
                  go_simp
                  refine hK _ _ ?_
                  clear hK K
                  refine wpAnyIn_done (by kernel_rfl) ?_ _
                  refine ⟨rfl, rfl, r2, ?_⟩
                  exact (hB0.drew.trans (HB1.out.mono (by show _ ≤ W0.heap.size; omega))).trans (HB2.out.mono (by have : W0.heap.size ≤ w1.heap.size := z1; omega))
                · skip
                  refine stepIn_load_row rfl 78 _ rfl (w.heap.size + 1) rfl 78 #[.int .i64 v0, .int .i64 v1, .int .i64 v2, .int .i64 v3, .int .i64 v4, .int .i64 v5, .int .i64 v6, .int .i64 v7] (0, 0) _ r1 Try.underlying78 rfl HI ?_
                  refine hK _ _ ?_
                  clear hK K
                  refine wpAnyIn_ready (rs := [6]) (by kernel_rfl) (by simp) (AllReadyIn.cons rfl (fun K hK => ?_) AllReadyIn.nil)
                  go_simp
                  gi_wp2_with (gi_at_call 101; refine (HFl.out _).mono ?_; rintro e w2 ⟨rfl, hb2⟩; have r2 := (hb2.block (w.heap.size + 1) (by have : W0.heap.size ≤ w1.heap.size := z1; omega)).trans r1; have HB2 := Lib.hid hb2; clear hb2)
                  refine wpAnyIn_ready (rs := [8]) (by kernel_rfl) (by simp) (AllReadyIn.cons rfl (fun K hK => ?_) AllReadyIn.nil)
                  go_simp
                  refine hK _ _ ?_
                  clear hK K
                  refine wpAnyIn_done (by kernel_rfl) ?_ _
                  refine ⟨rfl, rfl, r2, ?_⟩
                  exact (hB0.drew.trans (HB1.out.mono (by show _ ≤ W0.heap.size; omega))).trans (HB2.out.mono (by have : W0.heap.size ≤ w1.heap.size := z1; omega))
              · skip
                refine stepIn_load_row rfl 78 _ rfl (w.heap.size + 1) rfl 78 #[.int .i64 v0, .int .i64 v1, .int .i64 v2, .int .i64 v3, .int .i64 v4, .int .i64 v5, .int .i64 v6, .int .i64 v7] (0, 0) _ r1 Try.underlying78 rfl HI ?_
                refine hK _ _ ?_
                clear hK K
                refine wpAnyIn_ready (rs := [5]) (by kernel_rfl) (by simp) (AllReadyIn.cons rfl (fun K hK => ?_) AllReadyIn.nil)
                have c5 : World.cell? w1 ⟨w.heap.size + 1, k0, none⟩ = some (.int .i64 z0) := by
                  have h5 := RowBox.cell (zs := [v0, v1, v2, v3, v4, v5, v6, v7]) (i := k0) r1 (by simpa using hk8)
                  rw [← hz0]
                  exact h5
                go_simp
                refine hK _ _ ?_
                clear hK K
                refine wpAnyIn_ready (rs := [6]) (by kernel_rfl) (by simp) (AllReadyIn.cons rfl (fun K hK => ?_) AllReadyIn.nil)
                go_simp
                gi_wp2_with (gi_at_call 101; refine (HFl.out _).mono ?_; rintro e w2 ⟨rfl, hb2⟩; have r2 := (hb2.block (w.heap.size + 1) (by have : W0.heap.size ≤ w1.heap.size := z1; omega)).trans r1; have HB2 := Lib.hid hb2; clear hb2)
                refine wpAnyIn_ready (rs := [8]) (by kernel_rfl) (by simp) (AllReadyIn.cons rfl (fun K hK => ?_) AllReadyIn.nil)
                go_simp
                refine hK _ _ ?_
                clear hK K
                refine wpAnyIn_done (by kernel_rfl) ?_ _
                refine ⟨rfl, rfl, r2, ?_⟩
                exact (hB0.drew.trans (HB1.out.mono (by show _ ≤ W0.heap.size; omega))).trans (HB2.out.mono (by have : W0.heap.size ≤ w1.heap.size := z1; omega))
            · skip
              have c5 : World.cell? w1 ⟨w.heap.size + 1, k0, none⟩ = some (.int .i64 z0) := by
                have h5 := RowBox.cell (zs := [v0, v1, v2, v3, v4, v5, v6, v7]) (i := k0) r1 (by simpa using hk8)
                rw [← hz0]
                exact h5
              go_simp
              refine hK _ _ ?_
              clear hK K
              refine wpAnyIn_ready (rs := [0, 7]) (by kernel_rfl) (by simp) (AllReadyIn.cons rfl (fun K hK => ?_) (AllReadyIn.cons rfl (fun K hK => ?_) AllReadyIn.nil))
              · skip
                refine stepIn_load_row rfl 78 _ rfl (w.heap.size + 1) rfl 78 #[.int .i64 v0, .int .i64 v1, .int .i64 v2, .int .i64 v3, .int .i64 v4, .int .i64 v5, .int .i64 v6, .int .i64 v7] (0, 0) _ r1 Try.underlying78 rfl HI ?_
                refine hK _ _ ?_
                clear hK K
                refine wpAnyIn_ready (rs := [6, 7]) (by kernel_rfl) (by simp) (AllReadyIn.cons rfl (fun K hK => ?_) (AllReadyIn.cons rfl (fun K hK => ?_) AllReadyIn.nil))
                · skip
                  go_simp
                  gi_wp2_with (gi_at_call 101; refine (HFl.out _).mono ?_; rintro e w2 ⟨rfl, hb2⟩; have r2 := (hb2.block (w.heap.size + 1) (by have : W0.heap.size ≤ w1.heap.size := z1; omega)).trans r1; have HB2 := Lib.hid hb2; clear hb2)
                  refine wpAnyIn_ready (rs := [7]) (by kernel_rfl) (by simp) (AllReadyIn.cons rfl (fun K hK => ?_) AllReadyIn.nil)
                  refine stepIn_load_row rfl 78 _ rfl (w.heap.size + 1) rfl 78 #[.int .i64 v0, .int .i64 v1, .int .i64 v2, .int .i64 v3, .int .i64 v4, .int .i64 v5, .int .i64 v6, .int .i64 v7] (0, 0) _ r2 Try.underlying78 rfl HI ?_
                  refine hK _ _ ?_
                  clear hK K
                  refine wpAnyIn_ready (rs := [8]) (by kernel_rfl) (by simp) (AllReadyIn.cons rfl (fun K hK => ?_) AllReadyIn.nil)
                  go_simp
                  refine hK _ _ ?_
                  clear hK K
                  refine wpAnyIn_done (by kernel_rfl) ?_ _
                  refine ⟨rfl, rfl, r2, ?_⟩
                  exact (hB0.drew.trans (HB1.out.mono (by show _ ≤ W0.heap.size; omega))).trans (HB2.out.mono (by have : W0.heap.size ≤ w1.heap.size := z1; omega))
                · skip
                  refine stepIn_load_row rfl 78 _ rfl (w.heap.size + 1) rfl 78 #[.int .i64 v0, .int .i64 v1, .int .i64 v2, .int .i64 v3, .int .i64 v4, .int .i64 v5, .int .i64 v6, .int .i64 v7] (0, 0) _ r1 Try.underlying78 rfl HI ?_
                  refine hK _ _ ?_
                  clear hK K
                  refine wpAnyIn_ready (rs := [6]) (by kernel_rfl) (by simp) (AllReadyIn.cons rfl (fun K hK => ?_) AllReadyIn.nil)
                  go_simp
                  gi_wp2_with (gi_at_call 101; refine (HFl.out _).mono ?_; rintro e w2 ⟨rfl, hb2⟩; have r2 := (hb2.block (w.heap.size + 1) (by have : W0.heap.size ≤ w1.heap.size := z1; omega)).trans r1; have HB2 := Lib.hid hb2; clear hb2)
                  refine wpAnyIn_ready (rs := [8]) (by kernel_rfl) (by simp) (AllReadyIn.cons rfl (fun K hK => ?_) AllReadyIn.nil)
                  go_simp
                  refine hK _ _ ?_
                  clear hK K
                  refine wpAnyIn_done (by kernel_rfl) ?_ _
                  refine ⟨rfl, rfl, r2, ?_⟩
                  exact (hB0.drew.trans (HB1.out.mono (by show _ ≤ W0.heap.size; omega))).trans (HB2.out.mono (by have : W0.heap.size ≤ w1.heap.size := z1; omega))
              · skip
                refine stepIn_load_row rfl 78 _ rfl (w.heap.size + 1) rfl 78 #[.int .i64 v0, .int .i64 v1, .int .i64 v2, .int .i64 v3, .int .i64 v4, .int .i64 v5, .int .i64 v6, .int .i64 v7] (0, 0) _ r1 Try.underlying78 rfl HI ?_
                refine hK _ _ ?_
                clear hK K
                refine wpAnyIn_ready (rs := [0]) (by kernel_rfl) (by simp) (AllReadyIn.cons rfl (fun K hK => ?_) AllReadyIn.nil)
                refine stepIn_load_row rfl 78 _ rfl (w.heap.size + 1) rfl 78 #[.int .i64 v0, .int .i64 v1, .int .i64 v2, .int .i64 v3, .int .i64 v4, .int .i64 v5, .int .i64 v6, .int .i64 v7] (0, 0) _ r1 Try.underlying78 rfl HI ?_
                refine hK _ _ ?_
                clear hK K
                refine wpAnyIn_ready (rs := [6]) (by kernel_rfl) (by simp) (AllReadyIn.cons rfl (fun K hK => ?_) AllReadyIn.nil)
                go_simp
                gi_wp2_with (gi_at_call 101; refine (HFl.out _).mono ?_; rintro e w2 ⟨rfl, hb2⟩; have r2 := (hb2.block (w.heap.size + 1) (by have : W0.heap.size ≤ w1.heap.size := z1; omega)).trans r1; have HB2 := Lib.hid hb2; clear hb2)
                refine wpAnyIn_ready (rs := [8]) (by kernel_rfl) (by simp) (AllReadyIn.cons rfl (fun K hK => ?_) AllReadyIn.nil)
                go_simp
                refine hK _ _ ?_
                clear hK K
                refine wpAnyIn_done (by kernel_rfl) ?_ _
                refine ⟨rfl, rfl, r2, ?_⟩
                exact (hB0.drew.trans (HB1.out.mono (by show _ ≤ W0.heap.size; omega))).trans (HB2.out.mono (by have : W0.heap.size ≤ w1.heap.size := z1; omega))
            · skip
              refine stepIn_load_row rfl 78 _ rfl (w.heap.size + 1) rfl 78 #[.int .i64 v0, .int .i64 v1, .int .i64 v2, .int .i64 v3, .int .i64 v4, .int .i64 v5, .int .i64 v6, .int .i64 v7] (0, 0) _ r1 Try.underlying78 rfl HI ?_
              refine hK _ _ ?_
              clear hK K
              refine wpAnyIn_ready (rs := [0, 5]) (by kernel_rfl) (by simp) (AllReadyIn.cons rfl (fun K hK => ?_) (AllReadyIn.cons rfl (fun K hK => ?_) AllReadyIn.nil))
              · skip
                refine stepIn_load_row rfl 78 _ rfl (w.heap.size + 1) rfl 78 #[.int .i64 v0, .int .i64 v1, .int .i64 v2, .int .i64 v3, .int .i64 v4, .int .i64 v5, .int .i64 v6, .int .i64 v7] (0, 0) _ r1 Try.underlying78 rfl HI ?_
                refine hK _ _ ?_
                clear hK K
                refine wpAnyIn_ready (rs := [5]) (by kernel_rfl) (by simp) (AllReadyIn.cons rfl (fun K hK => ?_) AllReadyIn.nil)
                have c5 : World.cell? w1 ⟨w.heap.size + 1, k0, none⟩ = some (.int .i64 z0) := by
                  have h5 := RowBox.cell (zs := [v0, v1, v2, v3, v4, v5, v6, v7]) (i := k0) r1 (by simpa using hk8)
                  rw [← hz0]
                  exact h5
                go_simp
                refine hK _ _ ?_
                clear hK K
                refine wpAnyIn_ready (rs := [6]) (by kernel_rfl) (by simp) (AllReadyIn.cons rfl (fun K hK => ?_) AllReadyIn.nil)
                go_simp
                gi_wp2_with (gi_at_call 101; refine (HFl.out _).mono ?_; rintro e w2 ⟨rfl, hb2⟩; have r2 := (hb2.block (w.heap.size + 1) (by have : W0.heap.size ≤ w1.heap.size := z1; omega)).trans r1; have HB2 := Lib.hid hb2; clear hb2)
                refine wpAnyIn_ready (rs := [8]) (by kernel_rfl) (by simp) (AllReadyIn.cons rfl (fun K hK => ?_) AllReadyIn.nil)
                go_simp
                refine hK _ _ ?_
                clear hK K
                refine wpAnyIn_done (by kernel_rfl) ?_ _
                refine ⟨rfl, rfl, r2, ?_⟩
                exact (hB0.drew.trans (HB1.out.mono (by show _ ≤ W0.heap.size; omega))).trans (HB2.out.mono (by have : W0.heap.size ≤ w1.heap.size := z1; omega))
              · skip
                have c5 : World.cell? w1 ⟨w.heap.size + 1, k0, none⟩ = some (.int .i64 z0) := by
                  have h5 := RowBox.cell (zs := [v0, v1, v2, v3, v4, v5, v6, v7]) (i := k0) r1 (by simpa using hk8)
                  rw [← hz0]
                  exact h5
                go_simp
                refine hK _ _ ?_
                clear hK K
                refine wpAnyIn_ready (rs := [0]) (by kernel_rfl) (by simp) (AllReadyIn.cons rfl (fun K hK => ?_) AllReadyIn.nil)
                refine stepIn_load_row rfl 78 _ rfl (w.heap.size + 1) rfl 78 #[.int .i64 v0, .int .i64 v1, .int .i64 v2, .int .i64 v3, .int .i64 v4, .int .i64 v5, .int .i64 v6, .int .i64 v7] (0, 0) _ r1 Try.underlying78 rfl HI ?_
                refine hK _ _ ?_
                clear hK K
                refine wpAnyIn_ready (rs := [6]) (by kernel_rfl) (by simp) (AllReadyIn.cons rfl (fun K hK => ?_) AllReadyIn.nil)
                go_simp
                gi_wp2_with (gi_at_call 101; refine (HFl.out _).mono ?_; rintro e w2 ⟨rfl, hb2⟩; have r2 := (hb2.block (w.heap.size + 1) (by have : W0.heap.size ≤ w1.heap.size := z1; omega)).trans r1; have HB2 := Lib.hid hb2; clear hb2)
                refine wpAnyIn_ready (rs := [8]) (by kernel_rfl) (by simp) (AllReadyIn.cons rfl (fun K hK => ?_) AllReadyIn.nil)
                go_simp
                refine hK _ _ ?_
                clear hK K
                refine wpAnyIn_done (by kernel_rfl) ?_ _
                refine ⟨rfl, rfl, r2, ?_⟩
                exact (hB0.drew.trans (HB1.out.mono (by show _ ≤ W0.heap.size; omega))).trans (HB2.out.mono (by have : W0.heap.size ≤ w1.heap.size := z1; omega))
        · skip
          refine stepIn_load_row rfl 78 _ rfl (w.heap.size + 1) rfl 78 #[.int .i64 v0, .int .i64 v1, .int .i64 v2, .int .i64 v3, .int .i64 v4, .int .i64 v5, .int .i64 v6, .int .i64 v7] (0, 0) _ r0 Try.underlying78 rfl HI ?_
          refine hK _ _ ?_
          clear hK K
          refine wpAnyIn_ready (rs := [0, 3]) (by kernel_rfl) (by simp) (AllReadyIn.cons rfl (fun K hK => ?_) (AllReadyIn.cons rfl (fun K hK => ?_) AllReadyIn.nil))
          · skip
            refine stepIn_load_row rfl 78 _ rfl (w.heap.size + 1) rfl 78 #[.int .i64 v0, .int .i64 v1, .int .i64 v2, .int .i64 v3, .int .i64 v4, .int .i64 v5, .int .i64 v6, .int .i64 v7] (0, 0) _ r0 Try.underlying78 rfl HI ?_
            refine hK _ _ ?_
            clear hK K
            refine wpAnyIn_ready (rs := [3]) (by kernel_rfl) (by simp) (AllReadyIn.cons rfl (fun K hK => ?_) AllReadyIn.nil)
            go_simp
            gi_wp2_with (gi_at_call 83; refine (HL.out _).mono ?_; rintro e w1 ⟨rfl, hb1⟩; have r1 := (hb1.block (w.heap.size + 1) (by show _ < W0.heap.size; omega)).trans r0; have z1 := hb1.size; have HB1 := Lib.hid hb1; clear hb1)
            refine wpAnyIn_take (i := 4) (v := ?v12) hro rfl (by kernel_rfl) (by kernel_rfl) (by kernel_rfl) (fun _ _ _ h => by cases h.1) ⟨Or.inl ⟨by rfl, ?y12⟩, fun _ => rfl⟩ ?r12
            case y12 => intro w; go_simp; try with_reducible rfl
            case r12 =>
              refine wpAnyIn_ready (rs := [5]) (by kernel_rfl) (by simp) (AllReadyIn.cons rfl (fun K hK => ?_) AllReadyIn.nil)
              have c5 : World.cell? w1 ⟨w.heap.size + 1, k0, none⟩ = some (.int .i64 z0) := by
                have h5 := RowBox.cell (zs := [v0, v1, v2, v3, v4, v5, v6, v7]) (i := k0) r1 (by simpa using hk8)
                rw [← hz0]
                exact h5
              go_simp
              refine hK _ _ ?_
              clear hK K
              refine wpAnyIn_ready (rs := [6]) (by kernel_rfl) (by simp) (AllReadyIn.cons rfl (fun K hK => ?_) AllReadyIn.nil)
              go_simp
              gi_wp2_with (gi_at_call 101; refine (HFl.out _).mono ?_; rintro e w2 ⟨rfl, hb2⟩; have r2 := (hb2.block (w.heap.size + 1) (by have : W0.heap.size ≤ w1.heap.size := z1; omega)).trans r1; have HB2 := Lib.hid hb2; clear hb2)
              refine wpAnyIn_ready (rs := [8]) (by kernel_rfl) (by simp) (AllReadyIn.cons rfl (fun K hK => ?_) AllReadyIn.nil)
              go_simp
              refine hK _ _ ?_
              clear hK K
              refine wpAnyIn_done (by kernel_rfl) ?_ _
              refine ⟨rfl, rfl, r2, ?_⟩
              exact (hB0.drew.trans (HB1.out.mono (by show _ ≤ W0.heap.size; omega))).trans (HB2.out.mono (by have : W0.heap.size ≤ w1.heap.size := z1; omega))
          · skip
            go_simp
            gi_wp2_with (gi_at_call 83; refine (HL.out _).mono ?_; rintro e w1 ⟨rfl, hb1⟩; have r1 := (hb1.block (w.heap.size + 1) (by show _ < W0.heap.size; omega)).trans r0; have z1 := hb1.size; have HB1 := Lib.hid hb1; clear hb1)
            refine wpAnyIn_take (i := 4) (v := ?v13) hro rfl (by kernel_rfl) (by kernel_rfl) (by kernel_rfl) (fun _ _ _ h => by cases h.1) ⟨Or.inl ⟨by rfl, ?y13⟩, fun _ => rfl⟩ ?r13
            case y13 => intro w; go_simp; try with_reducible rfl
            case r13 =>
              refine wpAnyIn_ready (rs := [0, 5]) (by kernel_rfl) (by simp) (AllReadyIn.cons rfl (fun K hK => ?_) (AllReadyIn.cons rfl (fun K hK => ?_) AllReadyIn.nil))
              · skip
                refine stepIn_load_row rfl 78 _ rfl (w.heap.size + 1) rfl 78 #[.int .i64 v0, .int .i64 v1, .int .i64 v2, .int .i64 v3, .int .i64 v4, .int .i64 v5, .int .i64 v6, .int .i64 v7] (0, 0) _ r1 Try.underlying78 rfl HI ?_
                refine hK _ _ ?_
                clear hK K
                refine wpAnyIn_ready (rs := [5]) (by kernel_rfl) (by simp) (AllReadyIn.cons rfl (fun K hK => ?_) AllReadyIn.nil)
                have c5 : World.cell? w1 ⟨w.heap.size + 1, k0, none⟩ = some (.int .i64 z0) := by
                  have h5 := RowBox.cell (zs := [v0, v1, v2, v3, v4, v5, v6, v7]) (i := k0) r1 (by simpa using hk8)
                  rw [← hz0]
                  exact h5
                go_simp
                refine hK _ _ ?_
                clear hK K
                refine wpAnyIn_ready (rs := [6]) (by kernel_rfl) (by simp) (AllReadyIn.cons rfl (fun K hK => ?_) AllReadyIn.nil)
                go_simp
                gi_wp2_with (gi_at_call 101; refine (HFl.out _).mono ?_; rintro e w2 ⟨rfl, hb2⟩; have r2 := (hb2.block (w.heap.size + 1) (by have : W0.heap.size ≤ w1.heap.size := z1; omega)).trans r1; have HB2 := Lib.hid hb2; clear hb2)
                refine wpAnyIn_ready (rs := [8]) (by kernel_rfl) (by simp) (AllReadyIn.cons rfl (fun K hK => ?_) AllReadyIn.nil)
                go_simp
                refine hK _ _ ?_
                clear hK K
                refine wpAnyIn_done (by kernel_rfl) ?_ _
                refine ⟨rfl, rfl, r2, ?_⟩
                exact (hB0.drew.trans (HB1.out.mono (by show _ ≤ W0.heap.size; omega))).trans (HB2.out.mono (by have : W0.heap.size ≤ w1.heap.size := z1; omega))
              · skip
                have c5 : World.cell? w1 ⟨w.heap.size + 1, k0, none⟩ = some (.int .i64 z0) := by
                  have h5 := RowBox.cell (zs := [v0, v1, v2, v3, v4, v5, v6, v7]) (i := k0) r1 (by simpa using hk8)
                  rw [← hz0]
                  exact h5
                go_simp
                refine hK _ _ ?_
                clear hK K
                refine wpAnyIn_ready (rs := [0]) (by kernel_rfl) (by simp) (AllReadyIn.cons rfl (fun K hK => ?_) AllReadyIn.nil)
                refine stepIn_load_row rfl 78 _ rfl (w.heap.size + 1) rfl 78 #[.int .i64 v0, .int .i64 v1, .int .i64 v2, .int .i64 v3, .int .i64 v4, .int .i64 v5, .int .i64 v6, .int .i64 v7] (0, 0) _ r1 Try.underlying78 rfl HI ?_
                refine hK _ _ ?_
                clear hK K
                refine wpAnyIn_ready (rs := [6]) (by kernel_rfl) (by simp) (AllReadyIn.cons rfl (fun K hK => ?_) AllReadyIn.nil)
                go_simp
                gi_wp2_with (gi_at_call 101; refine (HFl.out _).mono ?_; rintro e w2 ⟨rfl, hb2⟩; have r2 := (hb2.block (w.heap.size + 1) (by have : W0.heap.size ≤ w1.heap.size := z1; omega)).trans r1; have HB2 := Lib.hid hb2; clear hb2)
                refine wpAnyIn_ready (rs := [8]) (by kernel_rfl) (by simp) (AllReadyIn.cons rfl (fun K hK => ?_) AllReadyIn.nil)
                go_simp
                refine hK _ _ ?_
                clear hK K
                refine wpAnyIn_done (by kernel_rfl) ?_ _
                refine ⟨rfl, rfl, r2, ?_⟩
                exact (hB0.drew.trans (HB1.out.mono (by show _ ≤ W0.heap.size; omega))).trans (HB2.out.mono (by have : W0.heap.size ≤ w1.heap.size := z1; omega))
  case h2 =>
    rintro w2 ⟨r0, hB0⟩
    clear hz0
    gi_wp2_with (first | (refine wpListIn_load_row rfl 78 _ rfl (w.heap.size + 1) rfl 78 #[.int .i64 v0, .int .i64 v1, .int .i64 v2, .int .i64 v3, .int .i64 v4, .int .i64 v5, .int .i64 v6, .int .i64 v7] (0, 0) _ r0 Try.underlying78 rfl HI ?_) | (gi_at_call 102; refine (HGr.out _).mono ?_; rintro e w3 ⟨b, kb, rfl, hbb, hkb, mb, hb3⟩; have HMB := Lib.hid mb; have HB3 := Lib.hid hb3; clear mb hb3) | (gi_at_call 103; refine (oneBits_in F (n - 1) h5 hro _ _).mono ?_; rintro e w' ⟨rfl, rfl⟩))
    have z3 : w2.heap.size ≤ w3.heap.size := HB3.out.size
    have z2 : w.heap.size + 1 < w2.heap.size := (Array.getElem?_eq_some_iff.1 r0).1
    have hB2 : Below w.heap.size w (((w3.alloc (.cells #[.map (some b)] 111)).alloc (.cells #[.slice none 0 0] 96)).alloc (.cells #[.int .u32 (X : Int)] 36)) := (((hB0.trans (HB3.out.mono (by omega))).alloc (by omega) _).alloc (by simp; omega) _).alloc (by simp; omega) _
    have rB : RowBox (((w3.alloc (.cells #[.map (some b)] 111)).alloc (.cells #[.slice none 0 0] 96)).alloc (.cells #[.int .u32 (X : Int)] 36)) (w.heap.size + 1) [v0, v1, v2, v3, v4, v5, v6, v7] := ((RowBox.low (zs := [v0, v1, v2, v3, v4, v5, v6, v7]) r0 HB3.out).alloc _).alloc _ |>.alloc _
    have mB : MapG (((w3.alloc (.cells #[.map (some b)] 111)).alloc (.cells #[.slice none 0 0] 96)).alloc (.cells #[.int .u32 (X : Int)] 36)) b kb (grp [v0, v1, v2, v3, v4, v5, v6, v7] (onesTo X 32)) := ((HMB.out.kept (row := none) (World.grownBy_alloc _ _ none) (by simp)).kept (row := none) (World.grownBy_alloc _ _ none) (by simp)).kept (row := none) (World.grownBy_alloc _ _ none) (by simp)
    have bM : Boxed (((w3.alloc (.cells #[.map (some b)] 111)).alloc (.cells #[.slice none 0 0] 96)).alloc (.cells #[.int .u32 (X : Int)] 36)) w3.heap.size 111 (.map (some b)) := ((Boxed.new w3 111 (.map (some b))).alloc _).alloc _
    have bO : Boxed (((w3.alloc (.cells #[.map (some b)] 111)).alloc (.cells #[.slice none 0 0] 96)).alloc (.cells #[.int .u32 (X : Int)] 36)) (w3.heap.size + 1) 96 (.slice none 0 0) := by
      have := Boxed.new (w3.alloc (.cells #[.map (some b)] 111)) 96 (.slice none 0 0)
      simp only [World.size_alloc] at this
      exact this.alloc _
    have bN : Boxed (((w3.alloc (.cells #[.map (some b)] 111)).alloc (.cells #[.slice none 0 0] 96)).alloc (.cells #[.int .u32 (X : Int)] 36)) (w3.heap.size + 1 + 1) 36 (.int .u32 (X : Int)) := by
      have := Boxed.new ((w3.alloc (.cells #[.map (some b)] 111)).alloc (.cells #[.slice none 0 0] 96)) 36 (.int .u32 (X : Int))
      simp only [World.size_alloc] at this
      exact this
    have hb3 : b < w3.heap.size := HMB.out.lt
    have hsz3 : (((w3.alloc (.cells #[.map (some b)] 111)).alloc (.cells #[.slice none 0 0] 96)).alloc (.cells #[.int .u32 (X : Int)] 36)).heap.size = w3.heap.size + 3 := by simp
    obtain ⟨W4, hW4⟩ : ∃ W4, (((w3.alloc (.cells #[.map (some b)] 111)).alloc (.cells #[.slice none 0 0] 96)).alloc (.cells #[.int .u32 (X : Int)] 36)) = W4 := ⟨_, rfl⟩
    rw [hW4] at hB2 rB mB bM bO bN hsz3 ⊢
    generalize hq : w3.heap.size = q at *
    clear hW4 HGr HL HFl heq' hcase HMB HB3 hB0 hq
    have hlen : ([v0, v1, v2, v3, v4, v5, v6, v7] : List Int).length = 8 := rfl
    obtain ⟨zs, hzs⟩ : ∃ zs, ([v0, v1, v2, v3, v4, v5, v6, v7] : List Int) = zs := ⟨_, rfl⟩
    rw [hzs] at rB mB hlen HV
    have HLs : Hid ((onesTo X 32).Pairwise (· < ·)) := ones_sorted _ _
    have HL8 : Hid (∀ j ∈ onesTo X 32, j < 8) := fun j hj => ones_lt_8 HX8.out hj
    refine wpIn_rangeFunc_ownG hro h1 (gf := 110) (lb := #[.pointer (some ⟨q + 1 + 1, 0, none⟩)]) rfl h6 (enters_of Try.func110 (by kernel_rfl) rfl)
      (iterX_stops F (n - 1) h6 hro (by omega) (q + 1 + 1) X HX.out W4 (by omega) bN.cell) keepsBox_t (keepsBox_b (by omega)) (Below.refl _ _) (fun _ => rfl)
      (fun pre W => ((∃ v, Boxed W (q + 1) 96 v ∧ W.ownsRow w.heap.size 36 1 v (grpsTo zs (onesTo X 32) (valsX pre)).length ((ints (grpsTo zs (onesTo X 32) (valsX pre))).map (Value.int .u32)) ∧ v.ownBlock ≠ some (q + 1 + 1)) ∧ (MapG W b kb (grp zs (onesTo X 32)) ∧ (RowBox W (w.heap.size + 1) zs ∧ (Boxed W q 111 (.map (some b)) ∧ Boxed W (q + 1 + 1) 36 (.int .u32 (X : Int)))))) ∧ Below w.heap.size w W)
      (fun _ _ _ => False)
      (OwnFrom.and (OwnFrom.and (Go.Own.from (holdsRow_own w.heap.size (q + 1) 96 36 1 (fun pre => (grpsTo zs (onesTo X 32) (valsX pre)).length) (fun pre => (ints (grpsTo zs (onesTo X 32) (valsX pre))).map (Value.int .u32)) (fun _ v => v.ownBlock ≠ some (q + 1 + 1))) _) (OwnFrom.and (mapG_own _ _ (by omega) (fun _ => kb) (fun _ => grp zs (onesTo X 32))) (OwnFrom.and (Go.Own.from (rowBox_own _ _) _) (OwnFrom.and (Go.Own.from (boxed_own _ _ _) _) (Go.Own.from (boxed_own _ _ _) _))))) (ownFrom_below (Nat.le_refl _) (by omega)))
      (fun _ _ _ _ _ hs _ _ => hs)
      ⟨⟨⟨_, bO, World.ownsRow_nil _ _ _ _, by simp [Value.ownBlock]⟩, mB, rB, bM, bN⟩, hB2⟩
      ?a1 ?assign ?body ?done ?stop
    case assign =>
      intro l x W K hK
      gi_wp2
      exact hK
    case body =>
      rintro l pre x W ⟨⟨⟨v, hv, hrow, hvo⟩, m1, r1, b1, b2⟩, hB⟩ hlt
      have HVO := Lib.hid hvo
      clear hvo
      have hd : 1 ≤ n - 1 - 1 := by omega
      have hx8 : x.val < 8 := bit_lt_8 HX8.out x.2
      have hx8' : (x.val : Int) < 8 := by omega
      have hpl : (grpsTo zs (onesTo X 32) (valsX pre)).length < 32 := Nat.lt_of_le_of_lt (grpsTo_len _ _ _) (by rw [valsX_len]; exact hlt)
      have cm := b1.cell
      have cr : W.cell? ⟨w.heap.size + 1, x.val, none⟩ = some (.int .i64 (at0 zs x.val)) := r1.cell (i := x.val) (by omega)
      have hz := wf_of_range (at0_range HV.out x.val)
      have HLk := Lib.hid ((m1.drew).look hz)
      have hG : grp zs (onesTo X 32) (at0 zs x.val) < 4294967296 := grp_lt fun k hk => by have := HL8.out k hk; omega
      have HLy : Hid (∀ W, CallsIn F (n - 1 - 1 - 1) Try.prog 83 #[.int .u32 ((grp zs (onesTo X 32) (at0 zs x.val) : Nat) : Int)] W fun e w' => e = .returned (.int .i64 (nthV (grp zs (onesTo X 32) (at0 zs x.val)) 0)) ∧ Below W.heap.size W w') := fun W => HLx.out _ W hG
      have hiff := lead_iff (zs := zs) (k := x.val) HLs.out HL8.out
      have HV0 := Lib.hid hv
      have HRow := Lib.hid hrow
      have HM1 := Lib.hid m1
      have HR1 := Lib.hid r1
      have HB1 := Lib.hid b1
      have HB2 := Lib.hid b2
      clear hv hrow m1 r1 b1 b2 hG hz
      by_cases hld : leads zs (onesTo X 32) x.val = true
      · have HST : Hid (grpsTo zs (onesTo X 32) (valsX (pre ++ [x])) = grpsTo zs (onesTo X 32) (valsX pre) ++ [grp zs (onesTo X 32) (at0 zs x.val)]) := by
          show _ = _
          rw [valsX_snoc, grpsTo_hit hld]
        rw [hiff.2 hld] at HLy
        clear hiff hld
        generalize grp zs (onesTo X 32) (at0 zs x.val) = g at *
        generalize at0 zs x.val = z at *
        gi_wp2
        apply cut_at (R := fun w' => w' = W.drew)
        case h =>
          refine wpIn_region_any (by assumption) ?_
          refine wpAny_inRound (by kernel_rfl) _ _ _ _ ?_
          change wpAnyIn _ _ _ _ _ _ _ _ _ (World.drew _)
          refine wpAnyIn_take (i := 1) (v := ?v14) hro rfl (by kernel_rfl) (by kernel_rfl) (by kernel_rfl) (fun _ _ _ h => by cases h.1) ⟨Or.inl ⟨by rfl, ?y14⟩, fun _ => rfl⟩ ?r14
          case y14 => intro w; go_simp; try with_reducible rfl
          case r14 =>
            refine wpAnyIn_take (i := 2) (v := ?v15) hro rfl (by kernel_rfl) (by kernel_rfl) (by kernel_rfl) (fun _ _ _ h => by cases h.1) ⟨Or.inl ⟨by rfl, ?y15⟩, fun _ => rfl⟩ ?r15
            case y15 => intro w; go_simp; try with_reducible rfl
            case r15 =>
              refine wpAnyIn_ready (rs := [0, 3]) (by kernel_rfl) (by simp) (AllReadyIn.cons rfl (fun K hK => ?_) (AllReadyIn.cons rfl (fun K hK => ?_) AllReadyIn.nil))
              · skip
                go_simp
                refine hK _ _ ?_
                clear hK K
                refine wpAnyIn_ready (rs := [3]) (by kernel_rfl) (by simp) (AllReadyIn.cons rfl (fun K hK => ?_) AllReadyIn.nil)
                go_simp
                refine hK _ _ ?_
                clear hK K
                refine wpAnyIn_ready (rs := [4]) (by kernel_rfl) (by simp) (AllReadyIn.cons rfl (fun K hK => ?_) AllReadyIn.nil)
                refine stepIn_lookup rfl _ _ 111 rfl _ HLk.out ?_
                refine hK _ _ ?_
                clear hK K
                refine wpAnyIn_take (i := 5) (v := ?v16) hro rfl (by kernel_rfl) (by kernel_rfl) (by kernel_rfl) (fun _ _ _ h => by cases h.1) ⟨Or.inl ⟨by rfl, ?y16⟩, fun _ => rfl⟩ ?r16
                case y16 => intro w; go_simp; try with_reducible rfl
                case r16 =>
                  refine wpAnyIn_done (by kernel_rfl) ?_ _
                  exact ⟨rfl, rfl, rfl⟩
              · skip
                go_simp
                refine hK _ _ ?_
                clear hK K
                refine wpAnyIn_ready (rs := [0]) (by kernel_rfl) (by simp) (AllReadyIn.cons rfl (fun K hK => ?_) AllReadyIn.nil)
                go_simp
                refine hK _ _ ?_
                clear hK K
                refine wpAnyIn_ready (rs := [4]) (by kernel_rfl) (by simp) (AllReadyIn.cons rfl (fun K hK => ?_) AllReadyIn.nil)
                refine stepIn_lookup rfl _ _ 111 rfl _ HLk.out ?_
                refine hK _ _ ?_
                clear hK K
                refine wpAnyIn_take (i := 5) (v := ?v17) hro rfl (by kernel_rfl) (by kernel_rfl) (by kernel_rfl) (fun _ _ _ h => by cases h.1) ⟨Or.inl ⟨by rfl, ?y17⟩, fun _ => rfl⟩ ?r17
                case y17 => intro w; go_simp; try with_reducible rfl
                case r17 =>
                  refine wpAnyIn_done (by kernel_rfl) ?_ _
                  exact ⟨rfl, rfl, rfl⟩
        case h2 =>
          rintro w' rfl
          gi_wp2_with (first | (gi_at_call 83; refine (CallsIn.inRound l (HLy.out _)).mono ?_; rintro e w5 ⟨rfl, hb50⟩; have hb5 : Below W.heap.size W w5 := ⟨hb50.os, hb50.tape, hb50.output, hb50.size, hb50.block⟩; have hz5 := hb5.size; have hv5 := boxed_low HV0.out hb5; have hc5 := hv5.cell; have HV5 := Lib.hid hv5; have HRow5 := Lib.hid (ownsRow_low HRow.out hb5); have HM5 := Lib.hid (HM1.out.low hb5); have HR5 := Lib.hid (HR1.out.low hb5); have HB15 := Lib.hid (boxed_low HB1.out hb5); have HB25 := Lib.hid (boxed_low HB2.out hb5); have HB5 := Lib.hid hb5; clear hb50 hb5 hv5) | (gi_at_builtin; refine wpListIn_append_at rfl _ _ 96 rfl w.heap.size 36 i0 (.int .u32 0) 1 4 Try.underlying96 hi hz0' hz1 hz2 rfl (by decide) _ _ _ rfl (HRow5.out.alloc _) ⟨w5.heap.size, 0, none⟩ 1 1 [.int .u32 (g : Int)] rfl rfl (cell_one_new _ _ _) (by simp [Value.oneCell']) (by unfold maxLen; omega) (by omega) (by have := hB.size; simp; omega) ?_; intro v' w6 hown' hgrow hat; obtain ⟨g', cap', rfl⟩ := ownsRow_succ hown'; obtain ⟨hv1, hv2, hr2, hk2, hb2⟩ := HV5.out.appended (by decide) HRow5.out (by have := hB.size; omega) (by omega) hown' hgrow; have hc1 := hv1.cell; have hf1 := hv1.frozen))
          have hx3 := ((HB25.out.alloc (.cells #[.int .u32 (g : Int)] 36)).kept hgrow (fun e => HVO.out e.symm)).other (show q + 1 + 1 ≠ q + 1 by omega) (.slice (some ⟨g', 0, none⟩) ((grpsTo zs (onesTo X 32) (valsX pre)).length + 1) cap')
          have hm3 := ((HB15.out.alloc (.cells #[.int .u32 (g : Int)] 36)).kept hgrow (HB15.out.not_row (by decide) HRow5.out)).other (show q ≠ q + 1 by omega) (.slice (some ⟨g', 0, none⟩) ((grpsTo zs (onesTo X 32) (valsX pre)).length + 1) cap')
          have hr3 := ((HR5.out.alloc (.cells #[.int .u32 (g : Int)] 36)).kept hgrow (HR5.out.not_rowU HRow5.out)).other (p := ⟨q + 1, 0, none⟩) (show w.heap.size + 1 ≠ q + 1 by omega) (.slice (some ⟨g', 0, none⟩) ((grpsTo zs (onesTo X 32) (valsX pre)).length + 1) cap')
          have hg3 := ((HM5.out.kept (row := none) (World.grownBy_alloc _ (.cells #[.int .u32 (g : Int)] 36) none) (by simp)).kept hgrow (HM5.out.not_row HRow5.out)).kept (grownBy_setAt _ (q + 1) 0 (.slice (some ⟨g', 0, none⟩) ((grpsTo zs (onesTo X 32) (valsX pre)).length + 1) cap')) (by intro e; injection e with e; omega)
          refine ⟨((keeps_below HB5.out).trans hk2).from _, hx3.cell.trans HB2.out.cell.symm, ⟨⟨_, hv2, ?_, ?_⟩, hg3, hr3, hm3, hx3⟩, (hB.trans (HB5.out.mono hB.size)).trans hb2⟩
          rotate_left
          · rcases hat with hat | hat
            · rw [hat]; exact HVO.out
            · rw [hat]
              have := HB25.out.lt
              intro e
              injection e with e
              simp at e
              omega
          rw [HST.out, List.length_append, ints_snoc, List.map_append]
          exact hr2
      · have HST : Hid (grpsTo zs (onesTo X 32) (valsX (pre ++ [x])) = grpsTo zs (onesTo X 32) (valsX pre)) := by
          show _ = _
          rw [valsX_snoc, grpsTo_miss hld]
        have hne : ¬ nthV (grp zs (onesTo X 32) (at0 zs x.val)) 0 = (x.val : Int) := fun e => hld (hiff.1 e)
        clear hiff hld
        generalize nthV (grp zs (onesTo X 32) (at0 zs x.val)) 0 = y at *
        have hne' : (y == (x.val : Int)) = false := by simpa using hne
        clear hne
        generalize grp zs (onesTo X 32) (at0 zs x.val) = g at *
        generalize at0 zs x.val = z at *
        gi_wp2
        apply cut_at (R := fun w' => w' = W.drew)
        case h =>
          refine wpIn_region_any (by assumption) ?_
          refine wpAny_inRound (by kernel_rfl) _ _ _ _ ?_
          change wpAnyIn _ _ _ _ _ _ _ _ _ (World.drew _)
          refine wpAnyIn_take (i := 1) (v := ?v18) hro rfl (by kernel_rfl) (by kernel_rfl) (by kernel_rfl) (fun _ _ _ h => by cases h.1) ⟨Or.inl ⟨by rfl, ?y18⟩, fun _ => rfl⟩ ?r18
          case y18 => intro w; go_simp; try with_reducible rfl
          case r18 =>
            refine wpAnyIn_take (i := 2) (v := ?v19) hro rfl (by kernel_rfl) (by kernel_rfl) (by kernel_rfl) (fun _ _ _ h => by cases h.1) ⟨Or.inl ⟨by rfl, ?y19⟩, fun _ => rfl⟩ ?r19
            case y19 => intro w; go_simp; try with_reducible rfl
            case r19 =>
              refine wpAnyIn_ready (rs := [0, 3]) (by kernel_rfl) (by simp) (AllReadyIn.cons rfl (fun K hK => ?_) (AllReadyIn.cons rfl (fun K hK => ?_) AllReadyIn.nil))
              · skip
                go_simp
                refine hK _ _ ?_
                clear hK K
                refine wpAnyIn_ready (rs := [3]) (by kernel_rfl) (by simp) (AllReadyIn.cons rfl (fun K hK => ?_) AllReadyIn.nil)
                go_simp
                refine hK _ _ ?_
                clear hK K
                refine wpAnyIn_ready (rs := [4]) (by kernel_rfl) (by simp) (AllReadyIn.cons rfl (fun K hK => ?_) AllReadyIn.nil)
                refine stepIn_lookup rfl _ _ 111 rfl _ HLk.out ?_
                refine hK _ _ ?_
                clear hK K
                refine wpAnyIn_take (i := 5) (v := ?v20) hro rfl (by kernel_rfl) (by kernel_rfl) (by kernel_rfl) (fun _ _ _ h => by cases h.1) ⟨Or.inl ⟨by rfl, ?y20⟩, fun _ => rfl⟩ ?r20
                case y20 => intro w; go_simp; try with_reducible rfl
                case r20 =>
                  refine wpAnyIn_done (by kernel_rfl) ?_ _
                  exact ⟨rfl, rfl, rfl⟩
              · skip
                go_simp
                refine hK _ _ ?_
                clear hK K
                refine wpAnyIn_ready (rs := [0]) (by kernel_rfl) (by simp) (AllReadyIn.cons rfl (fun K hK => ?_) AllReadyIn.nil)
                go_simp
                refine hK _ _ ?_
                clear hK K
                refine wpAnyIn_ready (rs := [4]) (by kernel_rfl) (by simp) (AllReadyIn.cons rfl (fun K hK => ?_) AllReadyIn.nil)
                refine stepIn_lookup rfl _ _ 111 rfl _ HLk.out ?_
                refine hK _ _ ?_
                clear hK K
                refine wpAnyIn_take (i := 5) (v := ?v21) hro rfl (by kernel_rfl) (by kernel_rfl) (by kernel_rfl) (fun _ _ _ h => by cases h.1) ⟨Or.inl ⟨by rfl, ?y21⟩, fun _ => rfl⟩ ?r21
                case y21 => intro w; go_simp; try with_reducible rfl
                case r21 =>
                  refine wpAnyIn_done (by kernel_rfl) ?_ _
                  exact ⟨rfl, rfl, rfl⟩
        case h2 =>
          rintro w' rfl
          gi_wp2_with (gi_at_call 83; refine (CallsIn.inRound l (HLy.out _)).mono ?_; rintro e w5 ⟨rfl, hb50⟩; have hb5 : Below W.heap.size W w5 := ⟨hb50.os, hb50.tape, hb50.output, hb50.size, hb50.block⟩; have HB5 := Lib.hid hb5; clear hb50 hb5)
          refine ⟨(keeps_below HB5.out).from _, keepsBox_below HB2.out.lt HB5.out, ⟨⟨v, boxed_low HV0.out HB5.out, ?_, HVO.out⟩, HM1.out.low HB5.out, HR1.out.low HB5.out, boxed_low HB1.out HB5.out, boxed_low HB2.out HB5.out⟩, hB.trans (HB5.out.mono hB.size)⟩
          rw [HST.out]
          exact ownsRow_low HRow.out HB5.out
    case done =>
      subst hzs
      rintro D ys W hD hS ⟨⟨⟨v, hv, hrow, _⟩, _, _, _, _⟩, hB⟩ hK
      have hc := hv.cell
      have hS' : valsX ys = onesTo X 32 := hS
      rw [hS'] at hrow
      have hrow' : W.ownsRow w.heap.size 36 1 v (groupsL [v0, v1, v2, v3, v4, v5, v6, v7] (onesTo X 32)).length ((ints (groupsL [v0, v1, v2, v3, v4, v5, v6, v7] (onesTo X 32))).map (Value.int .u32)) := hrow
      clear hrow
      obtain ⟨A', c', rfl, ho'⟩ := OwnK.shape hrow'
      gi_wp2
      refine ⟨by simp, .inl ⟨_, _, rfl, run_takeDeferred hK, ?_⟩⟩
      exact ⟨_, results_tmp rfl _ _ _, A', c', rfl, ownsRow_putObj ho' _ hK rfl, hB.trans (belowK_b (w := w) (Nat.le_refl _) W D _ _ (by omega) hK rfl rfl)⟩
    case stop =>
      rintro D c pre W _ _ h _
      exact h.elim

end Go.Proofs.Ytflccpoaacidgaa

namespace Go.Proofs.Ytflccpoaacidgaa
open Go.RowKit Go.Shelf

attribute [local go_sem] Oper.semAt_some

theorem ints_vals (l : List (Fin 32)) (x : Fin 32) : (ints (vals (l ++ [x]))).map (Value.int .i64) = (ints (vals l)).map (Value.int .i64) ++ [.int .i64 (x.val : Int)] := by simp [ints, vals]

end Go.Proofs.Ytflccpoaacidgaa

namespace Go.Proofs.Ytflccpoaacidgaa
open Go.RowKit Go.Shelf

attribute [local go_sem] Oper.semAt_some

/-- The values of these lanes. -/
def gath (zs : List Int) (l : List Nat) : List Int := l.map (fun k => zs[k]?.getD 0)
theorem gath_len (zs : List Int) (l : List Nat) : (gath zs l).length = l.length := by simp [gath]
theorem gath_snoc (zs : List Int) (l : List Nat) (k : Nat) : gath zs (l ++ [k]) = gath zs l ++ [zs[k]?.getD 0] := by simp [gath]
theorem gath_snocV (zs : List Int) (l : List Nat) (k : Nat) : (gath zs (l ++ [k])).map (Value.int .i64) = (gath zs l).map (Value.int .i64) ++ [.int .i64 (zs[k]?.getD 0)] := by simp [gath]

/-- What Gather answers. -/
def gatherV (m X : Nat) (zs : List Int) : List Int := if m = 8 ∧ X < 256 then gath zs (onesTo X 32) else []

end Go.Proofs.Ytflccpoaacidgaa

namespace Go.Proofs.Ytflccpoaacidgaa
open Go.RowKit

set_option maxHeartbeats 400000 in
theorem sRow_any (A : Option Addr) (n c : Nat) (w : World) :
    Calls Try.prog 47 #[.slice A n c] w fun e w' => e = .returned (.bool (decide (n = 8))) ∧ w = w' := by
  by_cases h : n = 8
  · subst h
    go_enter Try.func47, Try.ntmps47
    go_wp2
    go_ret
    exact ⟨rfl, rfl⟩
  · have h' : ((n : Int) == 8) = false := by simp; omega
    rw [decide_eq_false h]
    clear h
    go_enter Try.func47, Try.ntmps47
    go_wp2
    go_ret
    exact ⟨rfl, rfl⟩

theorem gatherV_len (n X : Nat) (zs : List Int) : (gatherV n X zs).length ≤ 32 := by
  unfold gatherV
  split
  · rw [gath_len]; exact onesTo_len X 32
  · simp
theorem gath_take (zs : List Int) (l : List Nat) {k : Nat} (h : k < l.length) : gath zs (l.take (k + 1)) = gath zs (l.take k) ++ [zs[l[k]]?.getD 0] := by
  rw [List.take_succ_eq_append_getElem h, gath_snoc]

end Go.Proofs.Ytflccpoaacidgaa

namespace Go.Proofs.Ytflccpoaacidgaa
open Go.RowKit

theorem alike_take (zs : List Int) (l : List Nat) (z : Int) {k : Nat} (h : k < l.length) : alike zs (l.take (k + 1)) z = alike zs (l.take k) z ++ (if at0 zs l[k] = z then [l[k]] else []) := by
  rw [List.take_succ_eq_append_getElem h, alike_snoc]
theorem alike_len (zs : List Int) (l : List Nat) (z : Int) : (alike zs l z).length ≤ l.length := List.length_filter_le _ _
/-- The value of the first lane of a list. -/
def first0 (zs : List Int) (l : List Nat) : Int := at0 zs (l[0]?.getD 0)

end Go.Proofs.Ytflccpoaacidgaa

namespace Go.Proofs.Ytflccpoaacidgaa
open Go.RowKit

/-- 'append(s, x)' onto a slice of words that the call owns, and what it leaves alone. -/
theorem wpList_push_word {w : World} {ops : Array Oper} {rest : List Oper} {o : Oper} {a : Act} {Q : Exit → Act → World → Prop} (hgd : o.guard = none) (s x : Operand)
    (ho : o.op = .call { callee := .builtin .append, args := #[s, x], argTypes := #[96, 96] })
    (b0 n c : Nat) (A : Option Addr) (zs : List Int) (z : Int) (hs : a.eval s = .slice A n c) (hx : a.eval x = .slice (some ⟨w.heap.size, 0, none⟩) 1 1)
    (hO : OwnK 36 .u32 w b0 A n c zs) (hn : n ≤ 1000000) (hb : b0 ≤ w.heap.size)
    (h : ∀ A' c' w', Hid (OwnK 36 .u32 w' b0 A' (n + 1) c' (zs ++ [z])) → Hid (w.grownBy w' (Value.slice A n c).ownBlock) → Hid (∀ g, (Value.slice A' (n + 1) c').ownBlock = some g → (Value.slice A n c).ownBlock = some g ∨ w.heap.size ≤ g) → wpList Try.prog ops Q rest (a.put o.dst (.slice A' (n + 1) c')) w') :
    wpList Try.prog ops Q (o :: rest) a (w.alloc (.cells #[.int .u32 z] 36)) := by
  obtain ⟨i0, hi, hz0, hz1, hz2⟩ := info_parts info_word
  refine wpList_append_own_at _ hgd s x 96 ho b0 36 i0 (.int .u32 0) 1 4 Try.underlying96 hi hz0 hz1 hz2 rfl (by omega) (.slice A n c) n _ hs (hO.alloc _) ⟨w.heap.size, 0, none⟩ 1 1 [.int .u32 z] hx rfl ?_ (by simp [Value.oneCell']) (by unfold maxLen; omega) (by omega) (by simp; omega) ?_
  · intro j u hj
    match j, hj with
    | 0, hj => simp at hj; subst hj; simp [Addr.add]
  · intro v' w' h1 h2 _ h4
    have h3 : w'.ownsRow b0 36 1 v' (n + 1) ((zs ++ [z]).map (Value.int .u32)) := by simpa using h1
    obtain ⟨A', c', rfl, h5⟩ := OwnK.shape h3
    refine h A' c' w' h5 ?_ ?_
    · exact ⟨h2.os, h2.tape, h2.output, Nat.le_trans (by simp) h2.size, fun i hi hne => (h2.block i (by simp; omega) hne).trans (Below.heap_alloc w _ i hi)⟩
    · intro g hg
      rcases h4 with h4 | h4
      · exact .inl (h4 ▸ hg)
      · rw [hg] at h4
        refine .inr ?_
        injection h4 with h4
        simp at h4
        omega

/-- What Groups and GroupOf answer. -/
def groupsV (n X : Nat) (zs : List Int) : List Nat := if n = 8 ∧ X < 256 then groupsL zs (onesTo X 32) else []
def groupOfV (n X : Nat) (zs : List Int) : Nat := (groupsV n X zs).head?.getD 0
theorem RdK.more {kd : IntKind} {w : World} {B B' n : Nat} {A : Option Addr} {zs : List Int} (h : RdK kd w B A n zs) (hb : B ≤ B') : RdK kd w B' A n zs := ⟨h.1, fun hn => by
  obtain ⟨g, o, e, hg, hc⟩ := h.2 hn
  exact ⟨g, o, e, by omega, hc⟩⟩
theorem alike_ofA {zs : List Int} {l : List Nat} {z : Int} (hn : l.Nodup) (h8 : ∀ j ∈ l, j < 8) : ofA (ints (alike zs l z)) = grp zs l z := by
  have h : bitsG 0 (ints (alike zs l z)) = some (orL (alike zs l z)) := bitsG_ok _ 0 (fun k hk => ⟨by have := alike_lt h8 k hk; omega, Nat.zero_testBit k⟩) (List.Sublist.nodup List.filter_sublist hn)
  unfold ofA grp
  rw [h]
  rfl
theorem first0_cons (zs : List Int) (k : Nat) (t : List Nat) : first0 zs (k :: t) = at0 zs k := rfl
/-- The lanes that are left behind the first group. -/
def others (zs : List Int) (l : List Nat) (z : Int) : List Nat := l.filter (fun k => decide (at0 zs k ≠ z))
theorem others_take (zs : List Int) (l : List Nat) (z : Int) {k : Nat} (h : k < l.length) : others zs (l.take (k + 1)) z = others zs (l.take k) z ++ (if at0 zs l[k] = z then [] else [l[k]]) := by
  unfold others
  rw [List.take_succ_eq_append_getElem h, List.filter_append]
  by_cases e : at0 zs l[k] = z <;> simp [e]
theorem others_len (zs : List Int) {l : List Nat} (h : 0 < l.length) : (others zs l (first0 zs l)).length < l.length := by
  cases l with
  | nil => simp at h
  | cons k t =>
    unfold others
    rw [List.filter_cons_of_neg (by simp [first0_cons]), List.length_cons]
    have := List.length_filter_le (fun j => decide (at0 zs j ≠ first0 zs (k :: t))) t
    omega
theorem groupsL_step (zs : List Int) {l : List Nat} (h : 0 < l.length) (hn : l.Nodup) : groupsL zs l = grp zs l (first0 zs l) :: groupsL zs (others zs l (first0 zs l)) := by
  cases l with
  | nil => simp at h
  | cons k t => exact groupsL_cons zs k t hn
theorem groupOfV_ok {n X : Nat} {zs : List Int} (hn : n = 8) (hX : X < 256) : groupOfV n X zs = ofA (ints (alike zs (onesTo X 32) (first0 zs (onesTo X 32)))) := by
  unfold groupOfV groupsV
  rw [if_pos ⟨hn, hX⟩, alike_ofA (ones_nodup X 32) (fun j hj => ones_lt_8 hX hj)]
  cases hl : onesTo X 32 with
  | nil => rfl
  | cons k t =>
    have hnd := ones_nodup X 32
    rw [hl] at hnd
    rw [groupsL_step zs (by simp) hnd]
    rfl
/-- The length of a slice. -/
def lenOf : Value → Nat
  | .slice _ n _ => n
  | _ => 0

end Go.Proofs.Ytflccpoaacidgaa

namespace Go.Proofs.Ytflccpoaacidgaa
open Go.RowKit Go.Shelf

attribute [local go_sem] Oper.semAt_some

set_option maxRecDepth 100000 in
set_option maxHeartbeats 1000000 in
theorem grp_zero (F : Fence) (n : Nat) (A : Option Addr) (c B : Nat) (v0 v1 v2 v3 v4 v5 v6 v7 : Int) (w : World) (h : RdK .i64 w B A 8 [v0, v1, v2, v3, v4, v5, v6, v7]) (hB : B ≤ w.heap.size) (h0 : F.fn 85) (hrw : F.fn 100) (hf : F.fn 56) (hm : F.fn 75) (hg : F.fn 91) (hl : F.fn 83) (ht : F.fn 99) (hr : F.fn 109) (hh : F.fn 113) (ho : F.fn 98) (h5 : F.fn 103) (h6 : F.fn 110) (hfi : F.fn 101) (hgr : F.fn 102) (hro : F.round = none) (hn : 12 ≤ n) :
    CallsIn F n Try.prog 85 #[.slice A 8 c, .int .u32 ((0 : Nat) : Int)] w fun e w' => e = .returned (.slice none 0 0) ∧ Below w.heap.size w w' := by
  have hX32 : 0 < 4294967296 := by omega
  have HM : Hid (∀ W, CallsIn F (n - 1) Try.prog 56 #[.int .u32 ((0 : Nat) : Int)] W fun e w' => e = .returned (.bool (decide (0 < 256))) ∧ W = w') := fun W => isMask_in F (n - 1) 0 W hX32 hf hm hg (by omega) hro
  rw [decide_eq_true (by decide)] at HM
  have HR := Lib.hid (rowOf_in F (n - 1) hrw hro A c B v0 v1 v2 v3 v4 v5 v6 v7 w h hB)
  have h1 : 1 ≤ n := by omega
  clear h
  refine callsIn_of_wp Try.func85 rfl h0 ?_ hro
  simp only [Try.ntmps85, List.size_toArray, List.length_cons, List.length_nil, Nat.reduceAdd, Nat.reduceSub, Array.replicate_succ, Array.replicate_zero, List.push_toArray, List.append_toArray, List.nil_append, List.cons_append]
  gi_wp2_with (first | (gi_at_call 100; refine HR.out.mono ?_; rintro e w' ⟨rfl, rfl⟩) | (gi_at_call 56; refine (HM.out _).mono ?_; rintro e w' ⟨rfl, rfl⟩))
  go_ret
  exact ⟨rfl, ((Below.refl _ w).alloc (Nat.le_refl _) _).alloc (by simp) _⟩

set_option maxRecDepth 100000 in
set_option maxHeartbeats 1000000 in
theorem grp_nomask (F : Fence) (n : Nat) (A : Option Addr) (c B X : Nat) (v0 v1 v2 v3 v4 v5 v6 v7 : Int) (w : World) (h : RdK .i64 w B A 8 [v0, v1, v2, v3, v4, v5, v6, v7]) (hB : B ≤ w.heap.size) (hX : ¬ X < 256) (hX32 : X < 4294967296) (h0 : F.fn 85) (hrw : F.fn 100) (hf : F.fn 56) (hm : F.fn 75) (hg : F.fn 91) (hl : F.fn 83) (ht : F.fn 99) (hr : F.fn 109) (hh : F.fn 113) (ho : F.fn 98) (h5 : F.fn 103) (h6 : F.fn 110) (hfi : F.fn 101) (hgr : F.fn 102) (hro : F.round = none) (hn : 12 ≤ n) :
    CallsIn F n Try.prog 85 #[.slice A 8 c, .int .u32 (X : Int)] w fun e w' => e = .returned (.slice none 0 0) ∧ Below w.heap.size w w' := by
  have HM : Hid (∀ W, CallsIn F (n - 1) Try.prog 56 #[.int .u32 (X : Int)] W fun e w' => e = .returned (.bool (decide (X < 256))) ∧ W = w') := fun W => isMask_in F (n - 1) X W hX32 hf hm hg (by omega) hro
  rw [decide_eq_false hX] at HM
  have HR := Lib.hid (rowOf_in F (n - 1) hrw hro A c B v0 v1 v2 v3 v4 v5 v6 v7 w h hB)
  have h1 : 1 ≤ n := by omega
  clear h hX hX32
  refine callsIn_of_wp Try.func85 rfl h0 ?_ hro
  simp only [Try.ntmps85, List.size_toArray, List.length_cons, List.length_nil, Nat.reduceAdd, Nat.reduceSub, Array.replicate_succ, Array.replicate_zero, List.push_toArray, List.append_toArray, List.nil_append, List.cons_append]
  gi_wp2_with (first | (gi_at_call 100; refine HR.out.mono ?_; rintro e w' ⟨rfl, rfl⟩) | (gi_at_call 56; refine (HM.out _).mono ?_; rintro e w' ⟨rfl, rfl⟩))
  go_ret
  exact ⟨rfl, ((Below.refl _ w).alloc (Nat.le_refl _) _).alloc (by simp) _⟩

set_option maxRecDepth 100000 in
set_option maxHeartbeats 1000000 in
theorem grp_norow (F : Fence) (n : Nat) (A : Option Addr) (m c X : Nat) (w : World) (hm8 : ¬ m = 8) (h0 : F.fn 85) (hrw : F.fn 100) (hf : F.fn 56) (hm : F.fn 75) (hg : F.fn 91) (hl : F.fn 83) (ht : F.fn 99) (hr : F.fn 109) (hh : F.fn 113) (ho : F.fn 98) (h5 : F.fn 103) (h6 : F.fn 110) (hfi : F.fn 101) (hgr : F.fn 102) (hro : F.round = none) (hn : 12 ≤ n) :
    CallsIn F n Try.prog 85 #[.slice A m c, .int .u32 (X : Int)] w fun e w' => e = .returned (.slice none 0 0) ∧ Below w.heap.size w w' := by
  have HR := Lib.hid (rowOf_no F (n - 1) hrw hro A m c w hm8)
  have h1 : 1 ≤ n := by omega
  clear hm8
  refine callsIn_of_wp Try.func85 rfl h0 ?_ hro
  simp only [Try.ntmps85, List.size_toArray, List.length_cons, List.length_nil, Nat.reduceAdd, Nat.reduceSub, Array.replicate_succ, Array.replicate_zero, List.push_toArray, List.append_toArray, List.nil_append, List.cons_append]
  gi_wp2_with (first | (gi_at_call 100; refine HR.out.mono ?_; rintro e w' ⟨rfl, rfl⟩))
  go_ret
  exact ⟨rfl, ((Below.refl _ w).alloc (Nat.le_refl _) _).alloc (by simp) _⟩

theorem iGroups_in (F : Fence) (n : Nat) (A : Option Addr) (m c B X : Nat) (zs : List Int) (w : World) (h : RdK .i64 w B A m zs) (hB : B ≤ w.heap.size) (hX : X < 4294967296) (hv : ∀ z ∈ zs, -9223372036854775808 ≤ z ∧ z < 9223372036854775808) (h0 : F.fn 85) (hrw : F.fn 100) (hf : F.fn 56) (hm : F.fn 75) (hg : F.fn 91) (hl : F.fn 83) (ht : F.fn 99) (hr : F.fn 109) (hh : F.fn 113) (ho : F.fn 98) (h5 : F.fn 103) (h6 : F.fn 110) (hfi : F.fn 101) (hgr : F.fn 102) (hro : F.round = none) (hn : 12 ≤ n) :
    CallsIn F n Try.prog 85 #[.slice A m c, .int .u32 (X : Int)] w fun e w' => ∃ A' c', e = .returned (.slice A' (groupsV m X zs).length c') ∧ OwnK 36 .u32 w' w.heap.size A' (groupsV m X zs).length c' (ints (groupsV m X zs)) ∧ Below w.heap.size w w' := by
  by_cases hm8 : m = 8
  · subst hm8
    obtain ⟨v0, v1, v2, v3, v4, v5, v6, v7, rfl⟩ := eight h.1
    by_cases hx : X < 256
    · have e : groupsV 8 X [v0, v1, v2, v3, v4, v5, v6, v7] = groupsL [v0, v1, v2, v3, v4, v5, v6, v7] (onesTo X 32) := if_pos ⟨rfl, hx⟩
      rw [e]
      by_cases h0X : X = 0
      · subst h0X
        have e2 : groupsL [v0, v1, v2, v3, v4, v5, v6, v7] (onesTo 0 32) = [] := by
          have : onesTo 0 32 = [] := by decide
          rw [this]; rfl
        rw [e2]
        exact (grp_zero F n A c B v0 v1 v2 v3 v4 v5 v6 v7 w h hB h0 hrw hf hm hg hl ht hr hh ho h5 h6 hfi hgr hro hn).mono fun _ _ ⟨h1, h2⟩ => ⟨none, 0, h1, World.ownsRow_nil _ _ _ _, h2⟩
      · obtain ⟨k0, hk0, hlead⟩ := lead_first hx h0X
        by_cases hc : fillL (at0 [v0, v1, v2, v3, v4, v5, v6, v7] k0) [v0, v1, v2, v3, v4, v5, v6, v7] (onesTo X 32) = [v0, v1, v2, v3, v4, v5, v6, v7]
        · exact grp_same_in F n A c B X v0 v1 v2 v3 v4 v5 v6 v7 w h hB hx h0X k0 hk0 hlead hc h0 hrw hf hm hg hl ht hr hh ho h5 h6 hfi hgr hro hn
        · exact grp_many_in F n A c B X v0 v1 v2 v3 v4 v5 v6 v7 w h hB hx h0X hv k0 hk0 hlead hc h0 hrw hf hm hg hl ht hr hh ho h5 h6 hfi hgr hro hn
    · have e : groupsV 8 X [v0, v1, v2, v3, v4, v5, v6, v7] = [] := if_neg fun e => hx e.2
      rw [e]
      exact (grp_nomask F n A c B X v0 v1 v2 v3 v4 v5 v6 v7 w h hB hx hX h0 hrw hf hm hg hl ht hr hh ho h5 h6 hfi hgr hro hn).mono fun _ _ ⟨h1, h2⟩ => ⟨none, 0, h1, World.ownsRow_nil _ _ _ _, h2⟩
  · have e : groupsV m X zs = [] := if_neg fun e => hm8 e.1
    rw [e]
    exact (grp_norow F n A m c X w hm8 h0 hrw hf hm hg hl ht hr hh ho h5 h6 hfi hgr hro hn).mono fun _ _ ⟨h1, h2⟩ => ⟨none, 0, h1, World.ownsRow_nil _ _ _ _, h2⟩

theorem iGroups_any (A : Option Addr) (m c B X : Nat) (zs : List Int) (w : World) (h : RdK .i64 w B A m zs) (hB : B ≤ w.heap.size) (hX : X < 4294967296) (hv : ∀ z ∈ zs, -9223372036854775808 ≤ z ∧ z < 9223372036854775808) :
    Calls Try.prog 85 #[.slice A m c, .int .u32 (X : Int)] w fun e w' => ∃ A' c', e = .returned (.slice A' (groupsV m X zs).length c') ∧ OwnK 36 .u32 w' w.heap.size A' (groupsV m X zs).length c' (ints (groupsV m X zs)) ∧ Below w.heap.size w w' :=
  (callsIn_wide (n := 12)).1 (iGroups_in Fence.wide 12 A m c B X zs w h hB hX hv trivial trivial trivial trivial trivial trivial trivial trivial trivial trivial trivial trivial trivial trivial rfl (Nat.le_refl _))

theorem groupsV_len (n X : Nat) (zs : List Int) : (groupsV n X zs).length ≤ 32 := by
  unfold groupsV
  split
  · exact Nat.le_trans (groupsL_len _ _) (onesTo_len X 32)
  · simp

set_option maxRecDepth 100000 in
set_option maxHeartbeats 1000000 in
theorem iGroupOf_any (A : Option Addr) (m c B X : Nat) (zs : List Int) (w : World) (h : RdK .i64 w B A m zs) (hB : B ≤ w.heap.size) (hX : X < 4294967296) (hv : ∀ z ∈ zs, -9223372036854775808 ≤ z ∧ z < 9223372036854775808) :
    Calls Try.prog 66 #[.slice A m c, .int .u32 (X : Int)] w fun e w' => e = .returned (.int .u32 (groupOfV m X zs : Int)) ∧ Below w.heap.size w w' := by
  have HI := Lib.hid (iGroups_any A m c B X zs w h hB hX hv)
  have hl := groupsV_len m X zs
  unfold groupOfV
  clear h hX hv
  generalize groupsV m X zs = r at *
  cases r with
  | nil =>
    clear hl
    go_enter Try.func66, Try.ntmps66
    go_wp2_with fail
    refine HI.out.mono ?_
    rintro e w1 ⟨A1, c1, rfl, ho, hb⟩
    have HB1 := Lib.hid hb
    clear ho hb
    go_wp2
    go_ret
    exact ⟨rfl, HB1.out⟩
  | cons g t =>
    obtain ⟨k, hk⟩ : ∃ k, (g :: t).length = k := ⟨_, rfl⟩
    have hk0 : 0 < k := by rw [← hk]; simp
    have hk0' : (0 : Int) < (k : Int) := by omega
    rw [hk] at HI hl
    clear hk
    go_enter Try.func66, Try.ntmps66
    go_wp2_with fail
    refine HI.out.mono ?_
    rintro e w1 ⟨A1, c1, rfl, ho, hb⟩
    obtain ⟨gg, rfl, _, _⟩ := ho.form hk0
    have c0 := ho.cell rfl hk0
    have e0 : (ints (g :: t))[0]?.getD 0 = (g : Int) := rfl
    rw [e0] at c0
    have HB1 := Lib.hid hb
    have hk1 : ((k : Int) == 0) = false := by simp; omega
    clear ho hb e0
    go_wp2
    go_ret
    exact ⟨rfl, HB1.out⟩

end Go.Proofs.Ytflccpoaacidgaa
