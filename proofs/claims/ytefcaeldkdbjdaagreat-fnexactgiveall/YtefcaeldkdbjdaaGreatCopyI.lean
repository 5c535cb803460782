/- The blocks that a call made, in a later world that is known only by Below. -/
/- The contract of slices.Repeat at one int, eight times; and of the program's WarpNew. -/
/- Worlds of which all old blocks are kept but some: how facts on owned slices are carried across. -/
/- The law of a copy of a whole list of ints into a slice that the call has made. -/
import Derived.Test.YtefcaeldkdbjdaaGreatOwnK
import Derived.Laws.CopyRow
import Derived.Laws.CopyOwn
import Derived.LoopN
namespace Go.Proofs.YtefcaeldkdbjdaaGreat
open Go.RowKit

theorem nw1 {w w1 : World} {o1 : Obj} (h : Below (w.alloc o1).heap.size (w.alloc o1) w1) : w1.heap[w.heap.size]? = some o1 ∧ Below w.heap.size w w1 ∧ w.heap.size < w1.heap.size := by
  have e1 : (w.alloc o1).heap.size = w.heap.size + 1 := World.size_alloc w o1
  have hs := h.size
  refine ⟨?_, ((Below.refl _ _).alloc (Nat.le_refl _) _).trans (h.mono (by omega)), by omega⟩
  rw [h.block _ (by omega)]
  exact heap_alloc_new w o1
theorem nw2 {w w1 : World} {o1 o2 : Obj} (h : Below ((w.alloc o1).alloc o2).heap.size ((w.alloc o1).alloc o2) w1) : w1.heap[w.heap.size]? = some o1 ∧ w1.heap[w.heap.size + 1]? = some o2 ∧ Below w.heap.size w w1 ∧ w.heap.size + 1 < w1.heap.size := by
  obtain ⟨h1, h2, h3⟩ := nw1 h
  have e1 : (w.alloc o1).heap.size = w.heap.size + 1 := World.size_alloc w o1
  obtain ⟨h4, h5, h6⟩ := nw1 h2
  rw [e1] at h1 h3
  exact ⟨h4, h1, h5, h3⟩
theorem nw3 {w w1 : World} {o1 o2 o3 : Obj} (h : Below (((w.alloc o1).alloc o2).alloc o3).heap.size (((w.alloc o1).alloc o2).alloc o3) w1) :
    w1.heap[w.heap.size]? = some o1 ∧ w1.heap[w.heap.size + 1]? = some o2 ∧ w1.heap[w.heap.size + 2]? = some o3 ∧ Below w.heap.size w w1 ∧ w.heap.size + 2 < w1.heap.size := by
  obtain ⟨h1, h2, h3⟩ := nw1 h
  have e1 : ((w.alloc o1).alloc o2).heap.size = w.heap.size + 2 := by rw [World.size_alloc, World.size_alloc]
  obtain ⟨h4, h5, h6, h7⟩ := nw2 h2
  rw [e1] at h1 h3
  exact ⟨h4, h5, h1, h6, h3⟩
theorem nw4 {w w1 : World} {o1 o2 o3 o4 : Obj} (h : Below ((((w.alloc o1).alloc o2).alloc o3).alloc o4).heap.size ((((w.alloc o1).alloc o2).alloc o3).alloc o4) w1) :
    w1.heap[w.heap.size]? = some o1 ∧ w1.heap[w.heap.size + 1]? = some o2 ∧ w1.heap[w.heap.size + 2]? = some o3 ∧ w1.heap[w.heap.size + 3]? = some o4 ∧ Below w.heap.size w w1 ∧ w.heap.size + 3 < w1.heap.size := by
  obtain ⟨h1, h2, h3⟩ := nw1 h
  have e1 : (((w.alloc o1).alloc o2).alloc o3).heap.size = w.heap.size + 3 := by rw [World.size_alloc, World.size_alloc, World.size_alloc]
  obtain ⟨h4, h5, h6, h7, h8⟩ := nw3 h2
  rw [e1] at h1 h3
  exact ⟨h4, h5, h6, h1, h7, h3⟩
theorem sz1 (w : World) (o1 : Obj) : (w.alloc o1).heap.size = w.heap.size + 1 := World.size_alloc w o1
theorem sz2 (w : World) (o1 o2 : Obj) : ((w.alloc o1).alloc o2).heap.size = w.heap.size + 2 := by rw [World.size_alloc, World.size_alloc]
theorem sz3 (w : World) (o1 o2 o3 : Obj) : (((w.alloc o1).alloc o2).alloc o3).heap.size = w.heap.size + 3 := by rw [World.size_alloc, World.size_alloc, World.size_alloc]
theorem sz4 (w : World) (o1 o2 o3 o4 : Obj) : ((((w.alloc o1).alloc o2).alloc o3).alloc o4).heap.size = w.heap.size + 4 := by rw [World.size_alloc, World.size_alloc, World.size_alloc, World.size_alloc]
theorem bel1 (w : World) (o1 : Obj) : Below w.heap.size w (w.alloc o1) := (Below.refl _ _).alloc (Nat.le_refl _) _
theorem bel2 (w : World) (o1 o2 : Obj) : Below w.heap.size w ((w.alloc o1).alloc o2) := (bel1 w o1).alloc (bel1 w o1).size _
theorem bel3 (w : World) (o1 o2 o3 : Obj) : Below w.heap.size w (((w.alloc o1).alloc o2).alloc o3) := (bel2 w o1 o2).alloc (bel2 w o1 o2).size _
theorem bel4 (w : World) (o1 o2 o3 o4 : Obj) : Below w.heap.size w ((((w.alloc o1).alloc o2).alloc o3).alloc o4) := (bel3 w o1 o2 o3).alloc (bel3 w o1 o2 o3).size _
/-- The cells of a block that is known whole. -/
theorem blkc {w : World} {b : Nat} {cs : Array Value} {t : TypeId} (h : w.heap[b]? = some (.cells cs t (0, 0))) (i : Nat) {v : Value} (hv : cs[i]? = some v) : w.cell? ⟨b, i, none⟩ = some v := (cell_of_row w b i _ _ (0, 0) h).trans hv
theorem blkf {w : World} {b : Nat} {cs : Array Value} {t : TypeId} (h : w.heap[b]? = some (.cells cs t (0, 0))) (i : Nat) : w.frozen? ⟨b, i, none⟩ = false := by simp [World.frozen?, h]

end Go.Proofs.YtefcaeldkdbjdaaGreat

namespace Go.Proofs.YtefcaeldkdbjdaaGreat
open Go.RowKit
set_option linter.unusedVariables false

theorem size_int1 : (Tryz.prog.info? 3).map (·.size) = some 1 := by kernel_rfl

/-- The row while it is filled: m times x, then zeros. -/
def repC (x : Int) (m : Nat) : Array Value := (List.replicate m (Value.int .i64 x) ++ List.replicate (8 - m) (Value.int .i64 0)).toArray

theorem rep_copy (w0 w : World) (B g m k q : Nat) (z x : Int) (hk : k = 8 - m) (hq : q = 2 * m) (hz : z = (m : Int)) (hm : 2 * m ≤ 8) (h0 : 0 < m) (hh : w.heap[g]? = some (.cells (repC x m) 3 (0, 0))) (hb : Below B w0 w) (hg : B ≤ g) :
    ∃ w', (Builtin.copy_ #[29, 29] 3 #[.slice (some ⟨g, m, none⟩) k k, .slice (some ⟨g, 0, none⟩) m 8]).run Tryz.prog w = .ok (.int .i64 z) w' ∧ w'.heap[g]? = some (.cells (repC x q) 3 (0, 0)) ∧ Below B w0 w' := by
  subst hk hq hz
  have hl : (List.replicate m (Value.int .i64 x)).length = m := List.length_replicate
  have e1 : (List.replicate m (Value.int .i64 x)).length = Nat.min m (8 - m) := by rw [hl]; exact (Nat.min_eq_left (by omega)).symm
  have e2 : ∀ j v, (List.replicate m (Value.int .i64 x))[j]? = some v → w.cell? ((⟨g, 0, none⟩ : Addr).add j) = some v := by
    intro j v hj
    have hjm : j < m := by
      have := (List.getElem?_eq_some_iff.1 hj).1
      rwa [hl] at this
    have e : v = .int .i64 x := by simp [hjm] at hj; exact hj.symm
    subst e
    have h3 : ((⟨g, 0, none⟩ : Addr).add j) = ⟨g, j, none⟩ := by unfold Addr.add; split <;> simp_all
    rw [h3]
    refine blkc hh j ?_
    simp [repC, hjm, List.getElem?_append]
  have e3 : m + (List.replicate m (Value.int .i64 x)).length ≤ (repC x m).size := by simp [repC]; omega
  have e4 : ∀ v ∈ List.replicate m (Value.int .i64 x), v.oneCell' = true := by
    intro v hv
    rw [(List.mem_replicate.1 hv).2]; rfl
  have h1 := run_copy_row (P := Tryz.prog) w 29 29 3 3 g m (8 - m) (8 - m) ⟨g, 0, none⟩ m 8 _ 3 (List.replicate m (Value.int .i64 x)) Tryz.underlying29 size_int1 hh e1 e2 e3 e4
  have e5 : (repC x m).toList.take m ++ List.replicate m (Value.int .i64 x) ++ (repC x m).toList.drop (m + (List.replicate m (Value.int .i64 x)).length) = (repC x (2 * m)).toList := by
    unfold repC
    rw [hl]
    have d1 : (List.replicate m (Value.int .i64 x) ++ List.replicate (8 - m) (Value.int .i64 0)).take m = List.replicate m (Value.int .i64 x) := by
      rw [List.take_append_of_le_length (by simp), List.take_of_length_le (by simp)]
    have d2 : (List.replicate m (Value.int .i64 x) ++ List.replicate (8 - m) (Value.int .i64 0)).drop (m + m) = List.replicate (8 - 2 * m) (Value.int .i64 0) := by
      rw [List.drop_append, List.drop_eq_nil_of_le (by simp), List.drop_replicate]
      simp
      omega
    simp only [d1, d2]
    rw [List.replicate_append_replicate, show m + m = 2 * m by omega]
  rw [e5, hl] at h1
  exact ⟨_, h1, setRow_heap w g _ _ 3 (0, 0) hh, below_setRow hb hg _⟩

theorem rep_first (w0 w : World) (B g b : Nat) (x : Int) (hh : w.heap[g]? = some (.cells (repC x 0) 3 (0, 0))) (hx : w.cell? ⟨b, 0, none⟩ = some (.int .i64 x)) (hb : Below B w0 w) (hg : B ≤ g) :
    ∃ w', (Builtin.copy_ #[29, 29] 3 #[.slice (some ⟨g, 0, none⟩) 8 8, .slice (some ⟨b, 0, none⟩) 1 1]).run Tryz.prog w = .ok (.int .i64 1) w' ∧ w'.heap[g]? = some (.cells (repC x 1) 3 (0, 0)) ∧ Below B w0 w' := by
  have e2 : ∀ j v, [Value.int .i64 x][j]? = some v → w.cell? ((⟨b, 0, none⟩ : Addr).add j) = some v := by
    intro j v hj
    match j, hj with
    | 0, hj => simp at hj; subst hj; simpa [Addr.add] using hx
  have h1 := run_copy_row (P := Tryz.prog) w 29 29 3 3 g 0 8 8 ⟨b, 0, none⟩ 1 1 _ 3 [Value.int .i64 x] Tryz.underlying29 size_int1 hh rfl e2 (by simp [repC]) (by intro v hv; simp at hv; rw [hv]; rfl)
  exact ⟨_, h1, setRow_heap w g _ _ 3 (0, 0) hh, below_setRow hb hg _⟩

theorem mul_1_8 (w : World) : Calls Tryz.prog 41 #[.int .u64 1, .int .u64 8] w fun e w' => e = .returned (.tuple #[.int .u64 0, .int .u64 8]) ∧ w = w' := by
  go_enter Tryz.func41, Tryz.ntmps41
  go_wp2
  go_ret2
  exact ⟨rfl, rfl⟩

set_option maxRecDepth 100000 in
set_option maxHeartbeats 2000000 in
theorem repeat8 (g : Nat) (x : Int) (w : World) (h : w.cell? ⟨g, 0, none⟩ = some (.int .i64 x)) (hg : g < w.heap.size) :
    Calls Tryz.prog 21 #[.slice (some ⟨g, 0, none⟩) 1 1, .int .i64 8] w fun e w' => ∃ A c, e = .returned (.slice A 8 c) ∧ OwnK 3 .i64 w' w.heap.size A 8 c (List.replicate 8 x) ∧ Below w.heap.size w w' := by
  obtain ⟨i0, hi, hz0, hz1, hz2⟩ := info_parts info_int
  have HM := Lib.hid (mul_1_8 w)
  have HI := Lib.hid hi
  have HZ0 := Lib.hid hz0
  have HZ1 := Lib.hid hz1
  have HZ2 := Lib.hid hz2
  clear hi hz0 hz1 hz2
  go_enter Tryz.func21, Tryz.ntmps21
  go_wp2_with fail
  refine HM.out.mono ?_
  rintro e w1 ⟨rfl, rfl⟩
  go_wp2_with (at_make; refine wpList_make_full _ rfl _ _ 29 rfl w.heap.size 3 i0 (.int .i64 0) 1 Tryz.underlying29 HI.out HZ0.out HZ1.out .i64 .i64 _ _ 8 rfl rfl rfl rfl (by rw [HZ2.out]; omega) (by unfold maxLen; omega) (Nat.le_refl _) ?_)
  intro w1 hown hgr
  have hh1 : w1.heap[w.heap.size]? = some (.cells (repC x 0) 3 (0, 0)) := by
    rcases hown.2 with ⟨hv, _⟩ | ⟨g', cap, cur, hv, _, hh, _, _, hs, ht⟩
    · simp at hv
    · injection hv with v1 v2 v3
      injection v1 with v1
      injection v1 with v1
      subst v1 v3
      rw [hh]
      have e : cur = repC x 0 := by
        rw [List.take_of_length_le (by rw [Array.length_toList, hs]; exact Nat.le_refl _)] at ht
        have h8 := toList_madeCells_one (.int .i64 0) 8
        have hr : (repC x 0).toList = List.replicate 8 (Value.int .i64 0) := rfl
        apply Array.toList_inj.1
        rw [hr]
        exact ht.trans h8
      rw [e]
  have B1 : Below w.heap.size w w1 := (Below.refl _ _).grown hgr (Nat.le_refl _) (by simp)
  have hx1 : w1.cell? ⟨g, 0, none⟩ = some (.int .i64 x) := (B1.cell (p := ⟨g, 0, none⟩) hg).trans h
  obtain ⟨w2, r2, hh2, B2⟩ := rep_first w w1 w.heap.size w.heap.size g x hh1 hx1 B1 (Nat.le_refl _)
  obtain ⟨w3, r3, hh3, B3⟩ := rep_copy w w2.drew w.heap.size w.heap.size 1 7 2 1 x rfl rfl rfl (by omega) (by omega) hh2 B2.drew (Nat.le_refl _)
  obtain ⟨w4, r4, hh4, B4⟩ := rep_copy w w3.drew w.heap.size w.heap.size 2 6 4 2 x rfl rfl rfl (by omega) (by omega) hh3 B3.drew (Nat.le_refl _)
  obtain ⟨w5, r5, hh5, B5⟩ := rep_copy w w4.drew w.heap.size w.heap.size 4 4 8 4 x rfl rfl rfl (by omega) (by omega) hh4 B4.drew (Nat.le_refl _)
  have HH := Lib.hid hh5
  have HB := Lib.hid B5
  clear hown hgr hh1 hx1 hh2 hh3 hh4 hh5 B1 B2 B3 B4 B5 HM HI HZ0 HZ1 HZ2 h
  go_wp2
  refine wp_loop_rounds 4 ?_
  rw [rounds_succ]
  go_wp2
  go_region
  all_goals go_wp2
  rw [rounds_succ]
  go_wp2
  go_region
  all_goals go_wp2
  rw [rounds_succ]
  go_wp2
  go_region
  all_goals go_wp2
  rw [rounds_succ]
  go_wp2
  go_ret
  refine ⟨_, 8, rfl, ⟨rfl, .inr ⟨w.heap.size, 8, repC x 8, rfl, Nat.le_refl _, HH.out, Nat.le_refl _, by unfold maxLen; omega, rfl, rfl⟩⟩, HB.out⟩

end Go.Proofs.YtefcaeldkdbjdaaGreat

namespace Go.Proofs.YtefcaeldkdbjdaaGreat
open Go.RowKit

/-- Every old block is kept, but those of r. -/
structure Kp (r : Nat → Prop) (w w' : World) : Prop where
  os : w'.os = w.os
  tape : w'.tape = w.tape
  output : w'.output = w.output
  size : w.heap.size ≤ w'.heap.size
  block : ∀ k, k < w.heap.size → ¬ r k → w'.heap[k]? = w.heap[k]?

theorem Kp.refl (r : Nat → Prop) (w : World) : Kp r w w := ⟨rfl, rfl, rfl, Nat.le_refl _, fun _ _ _ => rfl⟩
theorem Kp.of_below {r : Nat → Prop} {w w' : World} (h : Below w.heap.size w w') : Kp r w w' := ⟨h.os, h.tape, h.output, h.size, fun k hk _ => h.block k hk⟩
theorem Kp.of_grown {r : Nat → Prop} {w w' : World} {row : Option Nat} (h : w.grownBy w' row) (hr : ∀ k, some k = row → r k) : Kp r w w' := ⟨h.os, h.tape, h.output, h.size, fun k hk hn => h.block k hk (fun e => hn (hr k e))⟩
theorem Kp.mono {r s : Nat → Prop} {w w' : World} (h : Kp r w w') (hs : ∀ k, r k → s k) : Kp s w w' := ⟨h.os, h.tape, h.output, h.size, fun k hk hn => h.block k hk (fun a => hn (hs k a))⟩
theorem Kp.trans {r : Nat → Prop} {a b c : World} (h : Kp r a b) (k : Kp r b c) : Kp r a c :=
  ⟨k.os.trans h.os, k.tape.trans h.tape, k.output.trans h.output, Nat.le_trans h.size k.size, fun i hi hn => (k.block i (Nat.lt_of_lt_of_le hi h.size) hn).trans (h.block i hi hn)⟩
theorem Kp.bel {r : Nat → Prop} {B : Nat} {a w w' : World} (h : Kp r w w') (hb : Below B a w) (hB : B ≤ w.heap.size) (hr : ∀ k, r k → B ≤ k) : Below B a w' :=
  ⟨h.os.trans hb.os, h.tape.trans hb.tape, h.output.trans hb.output, Nat.le_trans hb.size h.size, fun k hk => (h.block k (by omega) (fun a => by have := hr k a; omega)).trans (hb.block k hk)⟩
theorem row_kp {w w' : World} {r : Nat → Prop} {b0 : Nat} {e : TypeId} {s n : Nat} {v : Value} {xs : List Value} (h : w.ownsRow b0 e s v n xs) (k : Kp r w w') (hn : ∀ g, v.ownBlock = some g → ¬ r g) : w'.ownsRow b0 e s v n xs := by
  refine ⟨h.1, ?_⟩
  rcases h.2 with h2 | ⟨g, cap, cur, hv, hg, hh, q⟩
  · exact .inl h2
  · refine .inr ⟨g, cap, cur, hv, hg, ?_, q⟩
    rw [k.block g (Array.getElem?_eq_some_iff.1 hh).1 (hn g (by rw [hv]; rfl))]
    exact hh
theorem OwnK.kp {e : TypeId} {kd : IntKind} {w w' : World} {r : Nat → Prop} {b0 n c : Nat} {A : Option Addr} {zs : List Int} (h : OwnK e kd w b0 A n c zs) (k : Kp r w w') (hn : ∀ g, (Value.slice A n c).ownBlock = some g → ¬ r g) : OwnK e kd w' b0 A n c zs := row_kp h k hn

/-- The blocks of two slices. -/
def In2 (u v : Value) (k : Nat) : Prop := some k = u.ownBlock ∨ some k = v.ownBlock

end Go.Proofs.YtefcaeldkdbjdaaGreat

namespace Go.Proofs.YtefcaeldkdbjdaaGreat
open Go.RowKit
set_option linter.unusedVariables false

theorem Kp.setCell (w : World) (p : Addr) (u : Value) : Kp (fun k => k = p.block) w (w.setCell p u) := ⟨rfl, rfl, rfl, by simp, fun k _ hn => Below.heap_setCell w p u k hn⟩
/-- An owned slice is kept by a store into another block. -/
theorem OwnK.apart {e : TypeId} {kd : IntKind} {w : World} {b0 n c : Nat} {A : Option Addr} {zs : List Int} {p : Addr} (h : OwnK e kd w b0 A n c zs) (hp : ∀ g, (Value.slice A n c).ownBlock = some g → g ≠ p.block) (u : Value) : OwnK e kd (w.setCell p u) b0 A n c zs := h.kp (Kp.setCell w p u) hp

theorem wpList_copy_int {w : World} {ops : Array Oper} {rest : List Oper} {o : Oper} {a : Act} {Q : Exit → Act → World → Prop} (hgd : o.guard = none) (d s : Operand)
    (ho : o.op = .call { callee := .builtin .copy, args := #[d, s], argTypes := #[29, 29] })
    (g n c c2 B b0 : Nat) (A : Option Addr) (ys zs : List Int) (hd : a.eval d = .slice (some ⟨g, 0, none⟩) n c) (hs : a.eval s = .slice A n c2) (h0 : 0 < n)
    (hO : OwnK 3 .i64 w b0 (some ⟨g, 0, none⟩) n c ys) (hR : RdK .i64 w B A n zs)
    (h : ∀ w', Hid (OwnK 3 .i64 w' b0 (some ⟨g, 0, none⟩) n c zs) → Hid (Kp (fun k => k = g) w w') → wpList Tryz.prog ops Q rest (a.put o.dst (goInt n)) w') : wpList Tryz.prog ops Q (o :: rest) a w := by
  have hz := hR.1
  rcases hO.2 with ⟨hv, _⟩ | ⟨g', cap, cur, hv, hb, hh, hcn, hcm, hsz, ht⟩
  · simp at hv
  · obtain ⟨rfl, rfl⟩ : g = g' ∧ c = cap := by injection hv with h1 h2 h3; injection h1 with h1; injection h1 with h1; exact ⟨h1, h3⟩
    obtain ⟨g1, o1, rfl, _, hc⟩ := hR.2 h0
    have hlen : (zs.map (Value.int .i64)).length = n := by simp [hz]
    have hsrc : ∀ j v, (zs.map (Value.int .i64))[j]? = some v → w.cell? ((⟨g1, o1, none⟩ : Addr).add j) = some v := by
      intro j v hj
      have hlt : j < n := by
        have := (List.getElem?_eq_some_iff.1 hj).1
        simpa [hz] using this
      have e : v = .int .i64 (zs[j]?.getD 0) := by
        have hj' : j < zs.length := by omega
        simp [hj'] at hj ⊢
        exact hj.symm
      rw [e, ← hc j hlt]
      congr 1
      unfold Addr.add; split <;> simp_all
    have hfit : 0 + (zs.map (Value.int .i64)).length ≤ cur.size := by rw [hlen, hsz]; omega
    have e1 : ∀ v ∈ zs.map (Value.int .i64), v.oneCell' = true := by
      intro v hv
      obtain ⟨z, _, rfl⟩ := List.mem_map.1 hv
      rfl
    refine wpList_copy_own hgd d s 29 29 ho 3 Tryz.underlying29 size_int1 g 0 n c ⟨g1, o1, none⟩ n c2 hd hs cur _ hh (zs.map (Value.int .i64)) (by rw [hlen]; simp) hsrc hfit e1 ?_
    have hw := setRow_heap w g cur (cur.toList.take 0 ++ (zs.map (Value.int .i64) ++ cur.toList.drop (0 + (zs.map (Value.int .i64)).length))).toArray _ (0, 0) hh
    rw [hlen] at hw ⊢
    refine h _ ⟨by simp [hz], .inr ⟨g, c, _, rfl, hb, hw, hcn, hcm, ?_, ?_⟩⟩ ⟨rfl, rfl, rfl, by simp [World.setRow], fun k hk hn => setRow_other w g k _ hn⟩
    · simp [hz, hsz]; omega
    · simp [hz]

end Go.Proofs.YtefcaeldkdbjdaaGreat
