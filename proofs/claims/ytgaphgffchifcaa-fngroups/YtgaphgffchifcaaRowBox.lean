/- A row of ints in a block of its own (a variable that is an array), and how that is carried on; 'append' as one step of a region that draws its order. -/
import Derived.Test.YtgaphgffchifcaaRowW
import Derived.Maps.AppendAt
import Derived.Maps.OwnIn
namespace Go.Proofs.Ytgaphgffchifcaa
open Go.RowKit Go.Shelf

/-- The cells of a row. -/
def rowC (zs : List Int) : Array Value := (zs.map (Value.int .i64)).toArray
/-- Block B is a variable that is a row: it holds zs. -/
def RowBox (W : World) (B : Nat) (zs : List Int) : Prop := W.heap[B]? = some (.cells (rowC zs) 70 (0, 0))

section
variable {W W' : World} {B n : Nat} {zs : List Int}
theorem RowBox.lt (h : RowBox W B zs) : B < W.heap.size := (Array.getElem?_eq_some_iff.1 h).1
theorem RowBox.cell (h : RowBox W B zs) {i : Nat} (hi : i < zs.length) : W.cell? ⟨B, i, none⟩ = some (.int .i64 (zs[i]?.getD 0)) := by
  rw [cell_of_row W B i _ _ (0, 0) h]
  simp [rowC, hi]
theorem RowBox.frozen (h : RowBox W B zs) (i : Nat) : W.frozen? ⟨B, i, none⟩ = false := frozen_of_row W B i _ _ h
theorem RowBox.kept {row : Option Nat} (h : RowBox W B zs) (hg : W.grownBy W' row) (hne : some B ≠ row) : RowBox W' B zs := (hg.block B h.lt hne).trans h
theorem RowBox.alloc (h : RowBox W B zs) (o : Obj) : RowBox (W.alloc o) B zs := h.kept (World.grownBy_alloc W o none) (by simp)
theorem RowBox.low (h : RowBox W B zs) (hb : Below W.heap.size W W') : RowBox W' B zs := (hb.block B h.lt).trans h
theorem RowBox.below (h : RowBox W B zs) (hb : Below n W W') (hn : B < n) : RowBox W' B zs := (hb.block B hn).trans h
theorem RowBox.other (h : RowBox W B zs) {p : Addr} (hne : B ≠ p.block) (u : Value) : RowBox (W.setCell p u) B zs := (heap_setCell_other W p B u hne).trans h
theorem RowBox.store (h : RowBox W B zs) (i : Nat) (x : Int) : RowBox (W.setCell ⟨B, i, none⟩ (.int .i64 x)) B (zs.set i x) := by
  have := heap_setCell_same W B i _ _ (.int .i64 x) h
  rw [RowBox, this]
  congr 2
  simp [rowC, List.map_set]
theorem rowBox_own {β : Type} (B : Nat) (f : β → List Int) : Go.Own (fun s W => RowBox W B (f s)) := fun s X Y row hs hg hrow =>
  hs.kept hg (fun e' => by obtain ⟨o, ho, hc⟩ := hrow B e'.symm; rw [show X.heap[B]? = _ from hs] at ho; cases ho; cases hc)
theorem RowBox.not_row (h : RowBox W B zs) {base size k : Nat} {v : Value} {xs : List Value} (hr : W.ownsRow base 3 size v k xs) : some B ≠ v.ownBlock := by
  rcases hr.2 with ⟨rfl, _⟩ | ⟨g, cap, cur, rfl, _, hgb, _⟩
  · simp [Value.ownBlock]
  · intro e'
    obtain rfl : B = g := by simpa [Value.ownBlock] using e'
    have := (show W.heap[B]? = _ from h).symm.trans hgb
    simp at this
theorem RowBox.new (W : World) (zs : List Int) : RowBox (W.alloc (.cells (rowC zs) 70)) W.heap.size zs := World.alloc_heap_new W _
end

theorem grownBy_setAt (W : World) (b i : Nat) (v : Value) : W.grownBy (W.setCell ⟨b, i, none⟩ v) (some b) :=
  ⟨rfl, rfl, rfl, (KeepsWalks.setCell W _ v).size, fun k _ hk => Below.heap_setCell _ _ _ k (fun e => hk (by rw [e]))⟩

/-- 'append' onto a slice that the call owns, as one step of a region that draws its order. -/
theorem stepIn_append {F : Fence} {nF : Nat} {P : Program} {w : World} {ops : Array Oper} {o : Oper} {a : Act} {K : Act → World → Prop} {Q : Exit → Act → World → Prop} {E : Prop} (hgd : o.guard = none) (s x : Operand) (t : TypeId)
    (ho : o.op = .call { callee := .builtin .append, args := #[s, x], argTypes := #[t, t] })
    (base : Nat) (e : TypeId) (i : TypeInfo) (z : Value) (size bytes : Nat) (ht : P.underlying t = some (.slice e)) (hi : P.info? e = some i) (hz : i.zero = some z)
    (hsize : i.size = size) (hby : i.bytes = bytes) (hzs : z.cells.size = size) (hsz : 0 < size)
    (v : Value) (n : Nat) (xs : List Value) (hs : a.eval s = v) (hown : w.ownsRow base e size v n xs)
    (ad : Addr) (m c : Nat) (news : List Value) (hx : a.eval x = .slice (some ad) m c) (hl : news.length = m * size) (hnews : ∀ j u, news[j]? = some u → w.cell? (ad.add j) = some u) (h1 : ∀ u ∈ news, u.oneCell' = true)
    (h63 : n + m ≤ maxLen) (hbytes : (n + m) * bytes ≤ 140737488355328) (hbase : base ≤ w.heap.size)
    (h : ∀ v' w', w'.ownsRow base e size v' (n + m) (xs ++ news) → w.grownBy w' v.ownBlock → K (a.put o.dst v') w') :
    if Region.wanted o (yielded ops a.tmps) = true then Oper.wpIn F nF P o a w K Q else E := by
  have hw : Region.wanted o (yielded ops a.tmps) = true := by simp [Region.wanted, hgd]
  rw [if_pos hw]
  obtain ⟨v', w', hr, h2, h3, _, _⟩ := run_append_own_at (P := P) w base t o.type e i z size bytes ht hi hz hsize hby hzs hsz v n xs hown ad m c news hl hnews h1 h63 hbytes hbase
  unfold Oper.wpIn
  refine ⟨by simp [Oper.about, ho, resolve, Target.leads, Sem.run_pure], ?_⟩
  rw [Oper.semAt_plain F _ _ (by rw [ho]; intro c hc'; cases hc')]
  simp [execOp, ho, resolve, invoke, builtin, hs, hx, hr, Result.andThen]
  exact h v' w' h2 h3

end Go.Proofs.Ytgaphgffchifcaa
