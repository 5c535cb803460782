/- The contracts of MemNew and MemGrow, and of the laws' marks over memories, under a name of their own beside those over ints. -/
import Derived.Test.YtooegpebimpjcaaMemL
import Derived.Conc.RwLib
import Derived.Conc.MuLone
import Derived.KernelRfl
import Derived.Laws.CopyOwn
import Derived.Maps.AppendAt

namespace Go.Proofs.Ytooegpebimpjcaa.U

abbrev muLink : Go.Conc.Locks.MuLink := { lock := 137, unlock := 138, ilock := 147, iunlock := 148, lockSlow := 157, unlockSlow := 160, disable := 153, enable := 155, acquire := 156, relMerge := 158, cas32 := 154, add32 := 159, tMutex := 144, tIMutex := 142, tPMutex := 161, tPIMutex := 162, tPI32 := 164, tUP := 166, tNoCopy := 140, tU32 := 28 }
theorem muLib : Go.Conc.Locks.MuLib Try.prog muLink :=
  ⟨Try.func137, Try.func138, Try.func147, Try.func148, Try.func153, Try.func155, Try.func156, Try.func158, Try.func154, Try.func159, Try.underlying142, Try.runUnderlying142, Try.sizeOf142, Try.isAgg142, Try.zeroValue142, Try.underlying144, Try.runUnderlying144, Try.sizeOf144, Try.isAgg144, Try.zeroValue144, Try.underlying161, Try.runUnderlying161, Try.sizeOf161, Try.isAgg161, Try.zeroValue161, Try.underlying162, Try.runUnderlying162, Try.sizeOf162, Try.isAgg162, Try.zeroValue162, Try.underlying164, Try.runUnderlying164, Try.sizeOf164, Try.isAgg164, Try.zeroValue164, Try.underlying166, Try.runUnderlying166, Try.sizeOf166, Try.isAgg166, Try.zeroValue166, Try.underlying140, Try.runUnderlying140, Try.sizeOf140, Try.isAgg140, Try.zeroValue140, Try.underlying21, Try.runUnderlying21, Try.sizeOf21, Try.isAgg21, Try.zeroValue21, (by kernel_rfl)⟩

end Go.Proofs.Ytooegpebimpjcaa.U


namespace Go.Proofs.Ytooegpebimpjcaa.U
open Go.RowKit Go.MuLone


/-- Block b is a bank whose lock is free and whose words are the slice value v. -/
def Bk (w : World) (b : Nat) (v : Value) : Prop := w.heap[b]? = some (.cells #[.int .i32 0, .int .u32 0, v] 146 (0, 0))

section
variable {w w' : World} {b b0 n c : Nat} {v : Value} {A : Option Addr} {zs : List Int}
theorem Bk.lt (h : Bk w b v) : b < w.heap.size := (Array.getElem?_eq_some_iff.1 h).1
theorem Bk.cell0 (h : Bk w b v) : w.cell? ⟨b, 0, none⟩ = some (.int .i32 0) := (cell_of_row w b 0 _ _ (0, 0) h).trans rfl
theorem Bk.cell2 (h : Bk w b v) : w.cell? ⟨b, 2, none⟩ = some v := (cell_of_row w b 2 _ _ (0, 0) h).trans rfl
theorem Bk.free (h : Bk w b v) (i : Nat) : w.frozen? ⟨b, i, none⟩ = false := by unfold Bk at h; simp [World.frozen?, h]
theorem Bk.below (h : Bk w b v) (hb : Below w.heap.size w w') : Bk w' b v := (hb.block b h.lt).trans h
theorem Bk.ne (h : Bk w b v) {g : Nat} (ho : Own w b0 (some ⟨g, 0, none⟩) n c zs) : g ≠ b := by
  rintro rfl
  rcases ho.2 with ⟨h', _⟩ | ⟨g', cap, cur, hv, _, hh, _⟩
  · simp at h'
  · have e : g = g' := by injection hv with h1; injection h1 with h1; injection h1
    subst e
    unfold Bk at h
    rw [h] at hh
    injection hh with hh
    injection hh with _ ht
    exact absurd ht (by decide)
/-- Locked, one word written, unlocked. -/
theorem Bk.back (h : Bk w b v) {g k : Nat} {x : Value} (hg : g ≠ b) : Bk (((w.setCell ⟨b, 0, none⟩ (.int .i32 1)).setCell ⟨g, k, none⟩ x).setCell ⟨b, 0, none⟩ (.int .i32 0)) b v := by
  unfold Bk at h ⊢
  simp [World.setCell, Array.getElem?_modify, h, hg]
theorem Bk.back0 (h : Bk w b v) : Bk ((w.setCell ⟨b, 0, none⟩ (.int .i32 1)).setCell ⟨b, 0, none⟩ (.int .i32 0)) b v := by
  unfold Bk at h ⊢
  simp [World.setCell, Array.getElem?_modify, h]
theorem _root_.Go.Proofs.Ytooegpebimpjcaa.Own.back {g k : Nat} {x : Int} (h : Own w b0 (some ⟨g, 0, none⟩) n c zs) (hg : g ≠ b) :
    Own (((w.setCell ⟨b, 0, none⟩ (.int .i32 1)).setCell ⟨g, k, none⟩ (.int .u32 x)).setCell ⟨b, 0, none⟩ (.int .i32 0)) b0 (some ⟨g, 0, none⟩) n c (zs.set k x) := by
  refine Own.far (Own.store (Own.far h ?_ _)) ?_ _
  all_goals
    intro g' e
    injection e with e
    injection e with e
    subst e
    exact hg
theorem _root_.Go.Proofs.Ytooegpebimpjcaa.Own.back0 {g : Nat} (h : Own w b0 (some ⟨g, 0, none⟩) n c zs) (hg : g ≠ b) :
    Own ((w.setCell ⟨b, 0, none⟩ (.int .i32 1)).setCell ⟨b, 0, none⟩ (.int .i32 0)) b0 (some ⟨g, 0, none⟩) n c zs := by
  refine Own.far (Own.far h ?_ _) ?_ _
  all_goals
    intro g' e
    injection e with e
    injection e with e
    subst e
    exact hg
end

/-- What a method leaves: the bank with the words zs, and nothing below b0 turned. -/
def Left (b b0 : Nat) (A : Option Addr) (n c : Nat) (w : World) (zs : List Int) (w' : World) : Prop :=
  Bk w' b (.slice A n c) ∧ Own w' b0 A n c zs ∧ Below b0 w w'

theorem lock_there {w : World} {b g k : Nat} {x : Value} (c0 : w.cell? ⟨b, 0, none⟩ = some (.int .i32 0)) (hg : g ≠ b) :
    ((w.setCell ⟨b, 0, none⟩ (.int .i32 1)).setCell ⟨g, k, none⟩ x).cell? ⟨b, 0, none⟩ = some (.int .i32 1) :=
  (World.cell?_setCell_other _ ⟨g, k, none⟩ ⟨b, 0, none⟩ _ (fun e => hg (by injection e))).trans (World.cell?_setCell_same w ⟨b, 0, none⟩ (.int .i32 1) c0)

theorem below_back {w : World} {b b0 g k : Nat} {x : Value} (hb : b0 ≤ b) (hg : b0 ≤ g) :
    Below b0 w (((w.setCell ⟨b, 0, none⟩ (.int .i32 1)).setCell ⟨g, k, none⟩ x).setCell ⟨b, 0, none⟩ (.int .i32 0)) :=
  (((Below.refl _ _).setCell hb _).setCell hg _).setCell hb _
theorem below_back0 {w : World} {b b0 : Nat} (hb : b0 ≤ b) :
    Below b0 w ((w.setCell ⟨b, 0, none⟩ (.int .i32 1)).setCell ⟨b, 0, none⟩ (.int .i32 0)) :=
  ((Below.refl _ _).setCell hb _).setCell hb _


end Go.Proofs.Ytooegpebimpjcaa.U


namespace Go.Proofs.Ytooegpebimpjcaa.U
open Go.RowKit


section
variable {P : Program} (w : World)

theorem zeroCells_one (z : Value) (n : Nat) : Builtin.zeroCells #[z] n = (List.replicate n z).toArray := by
  apply Array.ext'
  simp only [Builtin.zeroCells, List.size_toArray, List.length_cons, List.length_nil, Nat.mul_one, Array.toList_map, Array.toList_range, Nat.zero_add]
  apply List.ext_getElem
  · simp
  · intro i h1 h2
    simp [Nat.mod_one]

theorem run_append_zeros (base : Nat) (t k ty e : TypeId) (i : TypeInfo) (ht : P.underlying t = some (.slice e)) (hk : P.underlying k = some (.int .i64)) (hi : P.info? e = some i) (hz : i.zero = some (.int .u32 0))
    (hsize : i.size = 1) (hby : i.bytes = 4)
    (v : Value) (n : Nat) (xs : List Value) (hown : w.ownsRow base e 1 v n xs) (m : Nat) (hsm : n + m ≤ 100000) (hbase : base ≤ w.heap.size) :
    ∃ v' w', (Builtin.append_ #[t, k] ty #[v, .int .i64 m]).run P w = .ok v' w' ∧ w'.ownsRow base e 1 v' (n + m) (xs ++ List.replicate m (.int .u32 0)) ∧ w.grownBy w' v.ownBlock := by
  have hwr : IntKind.i64.wrap (m : Int) = (m : Int) := IntWalk.i64_in _ (by omega)
  have hneg : ¬ ((m : Int) < 0) := by omega
  have hbig : ¬ (281474976710656 < (m : Int) * 4) := by omega
  have hlen : (xs ++ List.replicate m (Value.int .u32 0)).length = (n + m) * 1 := by rw [List.length_append, hown.1, List.length_replicate]; omega
  have h63 : n + m ≤ maxLen := by unfold maxLen; omega
  have grown : ∀ (old : Nat), ∀ (row : Option Nat),
      (w.drew.alloc (.cells (xs.toArray ++ (List.replicate m (Value.int .u32 0)).toArray ++ Builtin.zeroCells #[.int .u32 0] (grownCap w (n + m) old e - (n + m))) e)).ownsRow base e 1
        (.slice (some ⟨w.heap.size, 0, none⟩) (n + m) (grownCap w (n + m) old e)) (n + m) (xs ++ List.replicate m (.int .u32 0)) ∧
      w.grownBy (w.drew.alloc (.cells (xs.toArray ++ (List.replicate m (Value.int .u32 0)).toArray ++ Builtin.zeroCells #[.int .u32 0] (grownCap w (n + m) old e - (n + m))) e)) row := by
    intro old row
    have hge := grownCap_ge w (n + m) old e
    have hcm : grownCap w (n + m) old e ≤ maxLen := grownCap_le_maxLen w (n + m) old e h63
    refine ⟨⟨hlen, .inr ⟨w.heap.size, _, _, rfl, hbase, _root_.Go.heap_alloc_new w.drew _, hge, hcm, ?_, ?_⟩⟩, ⟨rfl, rfl, rfl, by simp, fun k hk _ => Below.heap_alloc w.drew _ k hk⟩⟩
    · simp only [Array.size_append, List.size_toArray, size_zeroCells, hown.1, List.length_replicate, List.length_cons, List.length_nil]
      omega
    · simp only [Array.toList_append, List.append_assoc]
      rw [← List.append_assoc, ← hlen]
      exact List.take_left
  have has : ∀ W : World, (asInt (.int .i64 (m : Int))).run P W = .ok (m : Int) W := fun W => by simp [asInt, asIntOf]
  rcases hown.2 with ⟨rfl, rfl⟩ | ⟨g, cap, cur, rfl, hbg, hg, hnc, hcm, hcs, htake⟩
  · have hx : xs = [] := List.eq_nil_of_length_eq_zero (by simpa using hown.1)
    subst hx
    by_cases hm : m = 0
    · subst hm
      refine ⟨.slice none 0 0, w, ?_, World.ownsRow_nil w base e 1, ⟨rfl, rfl, rfl, Nat.le_refl _, fun _ _ _ => rfl⟩⟩
      simp only [Int.natCast_zero] at has hwr
      simp [Builtin.append_, run_underlying ht, run_underlying hk, sizeOf, typeInfo, hi, hby, has, hwr]
    · have hgr := grown 0 (Value.ownBlock (.slice none 0 0))
      simp only [Nat.zero_add, List.nil_append, Array.empty_append] at hgr ⊢
      refine ⟨_, _, ?_, hgr.1, hgr.2⟩
      have h48' : ¬ (281474976710656 < Builtin.nextslicecap m 0 * 4) := by rw [nextslicecap_zero (by omega)]; omega
      have h63' : ¬ (9223372036854775807 < (m : Int)) := by omega
      simp [Builtin.append_, run_underlying ht, run_underlying hk, sizeOf, typeInfo, zeroValue, hi, hz, hsize, hby, has, hwr, hneg, hbig, hm, h63', h48', Question.forced, run_firstCells_none, newRow, grownCap, zeroCells_one, Value.cells]
  · by_cases hroom : n + m ≤ cap
    · by_cases hm : m = 0
      · subst hm
        simp only [Int.natCast_zero] at has hwr
        refine ⟨.slice (some ⟨g, 0, none⟩) n cap, w, ?_, by simpa using hown, ⟨rfl, rfl, rfl, Nat.le_refl _, fun _ _ _ => rfl⟩⟩
        have hr : n ≤ cap := by omega
        simp [Builtin.append_, run_underlying ht, run_underlying hk, sizeOf, typeInfo, hi, hby, has, hwr, hr, storeCells]
      · have hst := run_storeCells_at P g n e (List.replicate m (.int .u32 0)) 0 cur w hg (by simp; omega) (by simp [Value.oneCell'])
        simp only [Nat.add_zero] at hst
        have hadd : (⟨g, 0, none⟩ : Addr).add n = ⟨g, n, none⟩ := by unfold Addr.add; split <;> simp_all
        refine ⟨.slice (some ⟨g, 0, none⟩) (n + m) cap, w.setRow g (cur.toList.take n ++ List.replicate m (Value.int .u32 0) ++ cur.toList.drop (n + (List.replicate m (Value.int .u32 0)).length)).toArray, ?_, ⟨hlen, .inr ⟨g, cap, _, rfl, hbg, setRow_heap w g cur _ e _ hg, hroom, hcm, ?_, ?_⟩⟩, ⟨rfl, rfl, rfl, by simp, fun k _ hk => setRow_other w g k _ (fun e => hk (by simp [Value.ownBlock, e]))⟩⟩
        · simp [Builtin.append_, run_underlying ht, run_underlying hk, sizeOf, typeInfo, zeroValue, hi, hz, hsize, hby, has, hwr, hneg, hbig, hm, hroom, zeroCells_one, Value.cells, hadd, hst]
        · simp only [List.size_toArray, List.length_append, List.length_take, List.length_drop, Array.length_toList, List.length_replicate]
          omega
        · rw [Nat.mul_one] at htake
          rw [htake, ← hlen]
          exact List.take_left
    · have holds : ∀ j u, xs[j]? = some u → w.cell? ((⟨g, 0, none⟩ : Addr).add j) = some u := hown.cells (g := g) rfl
      have hgr := grown cap (Value.ownBlock (.slice (some ⟨g, 0, none⟩) n cap))
      refine ⟨_, _, ?_, hgr.1, hgr.2⟩
      have h48' : ¬ (281474976710656 < Builtin.nextslicecap (n + m) cap * 4) := by have := growslice_fits (bytes := 4) (show cap < n + m by omega) (by omega); omega
      have h63' : ¬ (9223372036854775807 < ((n : Int) + (m : Int))) := by omega
      have hm : m ≠ 0 := by omega
      have hfo := run_firstCells_some (P := P) w.drew 1 n ⟨g, 0, none⟩ n cap xs hown.1 (by simpa using holds)
      simp [Builtin.append_, run_underlying ht, run_underlying hk, sizeOf, typeInfo, zeroValue, hi, hz, hsize, hby, has, hwr, hneg, hbig, hm, hroom, h63', h48', Question.forced, hfo, newRow, grownCap, zeroCells_one, Value.cells]

theorem wpList_append_zeros {ops : Array Oper} {rest : List Oper} {o : Oper} {a : Act} {Q : Exit → Act → World → Prop} (hgd : o.guard = none) (s x : Operand) (t k : TypeId)
    (ho : o.op = .call { callee := .builtin .append, args := #[s, x], argTypes := #[t, k] })
    (base : Nat) (e : TypeId) (i : TypeInfo) (ht : P.underlying t = some (.slice e)) (hk : P.underlying k = some (.int .i64)) (hi : P.info? e = some i) (hz : i.zero = some (.int .u32 0)) (hsize : i.size = 1) (hby : i.bytes = 4)
    (v : Value) (n : Nat) (xs : List Value) (hs : a.eval s = v) (hown : w.ownsRow base e 1 v n xs) (m : Nat) (hx : a.eval x = .int .i64 m) (hsm : n + m ≤ 100000) (hbase : base ≤ w.heap.size)
    (h : ∀ v' w', w'.ownsRow base e 1 v' (n + m) (xs ++ List.replicate m (.int .u32 0)) → w.grownBy w' v.ownBlock → wpList P ops Q rest (a.put o.dst v') w') : wpList P ops Q (o :: rest) a w := by
  refine wpList_plain hgd fun K hK => ?_
  obtain ⟨v', w', hr, h2, h3⟩ := run_append_zeros (P := P) w base t k o.type e i ht hk hi hz hsize hby v n xs hown m hsm hbase
  unfold Oper.wp execOp
  simp only [ho, resolve, invoke, builtin, Sem.run_bind, Sem.run_pure, Result.andThen_ok, List.map_toArray, List.map_cons, List.map_nil, hs, hx, hr]
  exact hK _ _ (h v' w' h2 h3)
end

end Go.Proofs.Ytooegpebimpjcaa.U


namespace Go.Proofs.Ytooegpebimpjcaa.U
open Go.RowKit Go.MuLone


theorem info_size_u32 : (Try.prog.info? 28).map (·.size) = some 1 := by kernel_rfl

/-- The block of an own slice whose capacity is its length, written out. -/
theorem _root_.Go.Proofs.Ytooegpebimpjcaa.Own.block {w : World} {b0 g n : Nat} {zs : List Int} (h : Own w b0 (some ⟨g, 0, none⟩) n n zs) : b0 ≤ g ∧ w.heap[g]? = some (.cells (zs.map (Value.int .u32)).toArray 28 (0, 0)) := by
  rcases h.2 with ⟨h', _⟩ | ⟨g', cap, cur, hv, hb, hh, _, _, hs, ht⟩
  · simp at h'
  · obtain ⟨rfl, rfl⟩ : g = g' ∧ n = cap := by injection hv with h1 h2 h3; injection h1 with h1; injection h1 with h1; exact ⟨h1, h3⟩
    refine ⟨hb, ?_⟩
    rw [List.take_of_length_le (by rw [Array.length_toList, hs]; exact Nat.le_refl _)] at ht
    rw [hh, ← ht]
theorem _root_.Go.Proofs.Ytooegpebimpjcaa.Own.of_block {w : World} {b0 g n : Nat} {zs : List Int} (hb : b0 ≤ g) (hl : zs.length = n) (hn : n ≤ maxLen) (h : w.heap[g]? = some (.cells (zs.map (Value.int .u32)).toArray 28 (0, 0))) : Own w b0 (some ⟨g, 0, none⟩) n n zs :=
  ⟨by simp [hl], .inr ⟨g, n, _, rfl, hb, h, Nat.le_refl _, hn, by simp [hl], by rw [List.take_of_length_le (by simp [hl])]⟩⟩

theorem wpList_copy_all {w : World} {ops : Array Oper} {rest : List Oper} {o : Oper} {a : Act} {Q : Exit → Act → World → Prop} (hgd : o.guard = none) (d s : Operand)
    (ho : o.op = .call { callee := .builtin .copy, args := #[d, s], argTypes := #[46, 46] })
    (g n c B b0 : Nat) (A : Option Addr) (ys zs : List Int) (hd : a.eval d = .slice (some ⟨g, 0, none⟩) n n) (hs : a.eval s = .slice A n c) (hn : n ≤ maxLen)
    (hO : Own w b0 (some ⟨g, 0, none⟩) n n ys) (hR : Rd w B A n zs)
    (h : ∀ w', Hid (Own w' b0 (some ⟨g, 0, none⟩) n n zs) → Hid (Below g w w') → wpList Try.prog ops Q rest (a.put o.dst (goInt n)) w') : wpList Try.prog ops Q (o :: rest) a w := by
  have hl := hO.len
  have hz := hR.1
  obtain ⟨hb, hh⟩ := hO.block
  refine wpList_copy_splice hgd d s 46 46 ho 28 Try.underlying46 info_size_u32 _ _ n n n c hd hs g 0 (ys.map (Value.int .u32)) 28 hh (zs.map (Value.int .u32)) (by simp [hz]) ?_ (by simp [hz, hl]) (ints_oneCell _ _) g w (Below.refl _ _) (Nat.le_refl _) ?_
  · intro hp
    obtain ⟨g1, o1, rfl, _, hc⟩ := hR.2 (by simpa [hz] using hp)
    refine ⟨rfl, _, rfl, fun j v hj => ?_⟩
    have hlt : j < n := by
      have := (List.getElem?_eq_some_iff.1 hj).1
      simpa [hz] using this
    have e : v = .int .u32 (zs[j]?.getD 0) := by
      have hj' : j < zs.length := by omega
      simp [hj'] at hj ⊢
      exact hj.symm
    rw [e, ← hc j hlt]
    congr 1
    unfold Addr.add; split <;> simp_all
  · intro w' hw hbw
    have e : splice (ys.map (Value.int .u32)) 0 (zs.map (Value.int .u32)) = zs.map (Value.int .u32) := by
      unfold splice
      rw [List.drop_eq_nil_of_le (by simp [hz, hl])]; simp
    have hw' := hw.out
    rw [e] at hw'
    have := h w' (Own.of_block hb hz hn hw') hbw
    simpa [hz] using this

set_option maxHeartbeats 1000000 in
theorem copyToBank_any (A : Option Addr) (n c B : Nat) (zs : List Int) (w : World) (h : Rd w B A n zs) (hB : B ≤ w.heap.size) (hn : n ≤ 64) :
    Calls Try.prog 119 #[.agg #[.slice A n c]] w fun e w' => ∃ b g, e = .returned (.pointer (some ⟨b, 0, none⟩)) ∧ w.heap.size ≤ b ∧ Bk w' b (.slice (some ⟨g, 0, none⟩) n n) ∧ Own w' w.heap.size (some ⟨g, 0, none⟩) n n zs ∧ Below w.heap.size w w' := by
  obtain ⟨i0, hi, hz0, hz1, hz2⟩ := info_parts info_u32
  have hb2 : i0.bytes * n ≤ 281474976710656 := by rw [hz2]; omega
  have hb3 : n ≤ maxLen := by unfold maxLen; omega
  have H := Lib.hid h
  have HI := Lib.hid hi
  have HZ0 := Lib.hid hz0
  have HZ1 := Lib.hid hz1
  clear h hi hz0 hz1 hz2
  go_enter Try.func119, Try.ntmps119
  go_wp2_with (at_make; refine wpList_make_full _ rfl _ _ 46 rfl (w.heap.size + 1) 28 i0 (.int .u32 0) 1 Try.underlying46 HI.out HZ0.out HZ1.out .i64 .i64 _ _ n rfl rfl rfl rfl hb2 hb3 (by simp) ?_)
  intro w1 hown hgr
  have HO : Hid (Own w1 (w.heap.size + 1) (some ⟨w.heap.size + 1, 0, none⟩) n n (fillTo zs n 0)) := by
    have := toList_madeCells_one (.int .u32 0) n
    have h3 : w1.ownsRow (w.heap.size + 1) 28 1 (.slice (some ⟨w.heap.size + 1, 0, none⟩) n n) n (List.replicate n (.int .u32 0)) := by simpa [this] using hown
    show w1.ownsRow _ _ _ _ _ ((fillTo zs n 0).map _)
    simpa [fillTo] using h3
  have HB : Hid (Below (w.heap.size + 1) (w.alloc (.cells #[.slice A n c] 48)) w1) := (Below.refl _ _).grown hgr (by simp) (by simp)
  have a1 : w1.cell? ⟨w.heap.size, 0, none⟩ = some (.slice A n c) := (HB.out.cell (p := ⟨w.heap.size, 0, none⟩) (by simp)).trans (by simp)
  have H1 : Hid (Rd w1 B A n zs) := (H.out.alloc hB _).below (HB.out.mono (by omega))
  have hz := HB.out.size
  simp at hz
  clear hown hgr
  go_wp2_with (with_reducible refine wpList_copy_all rfl (.tmp 8) (.tmp 10) rfl (w.heap.size + 1) n c B (w.heap.size + 1) A (fillTo zs n 0) zs rfl rfl hb3 HO.out H1.out ?_)
  intro w2 O2 B2
  have h2 : w1.heap.size ≤ w2.heap.size := B2.out.size
  go_wp2
  go_ret
  refine ⟨w2.heap.size, w.heap.size + 1, rfl, by omega, heap_alloc_new w2 _, (O2.out.alloc _).from_ (by omega), ?_⟩
  exact ((((Below.refl _ _).alloc (Nat.le_refl _) _).trans (HB.out.mono (by omega))).trans (B2.out.mono (by omega))).alloc (by omega) _

/-- Is there a word at this index of a valid memory of n words? -/
def HasW (n : Nat) (at_ : Int) : Prop := n ≤ 64 ∧ 0 ≤ at_ ∧ at_ < n


end Go.Proofs.Ytooegpebimpjcaa.U


namespace Go.Proofs.Ytooegpebimpjcaa.U
open Go.RowKit


theorem run_append_none (w : World) (ty : TypeId) (b0 : Nat) (v : Value) (n c : Nat) (xs : List Value) (h : w.ownsRow b0 28 1 v n xs) :
    (Builtin.append_ #[46, 46] ty #[v, .slice none 0 c]).run Try.prog w = .ok v w := by
  obtain ⟨i0, hi, hz0, hz1, hz2⟩ := info_parts info_u32
  rcases h.2 with ⟨rfl, rfl⟩ | ⟨g, cap, cur, rfl, _, _, hnc, _⟩
  · simp [Builtin.append_, run_underlying Try.underlying46, sizeOf, typeInfo, hi, Builtin.lenOf, Builtin.firstCells]
  · simp [Builtin.append_, run_underlying Try.underlying46, sizeOf, typeInfo, hi, Builtin.lenOf, Builtin.firstCells, hnc, storeCells]

theorem own_shape {w : World} {b0 n : Nat} {v : Value} {zs : List Int} (h : w.ownsRow b0 28 1 v n (zs.map (Value.int .u32))) : ∃ A c, v = .slice A n c ∧ Own w b0 A n c zs := by
  rcases h.2 with ⟨rfl, rfl⟩ | ⟨g, cap, cur, rfl, r⟩
  · exact ⟨_, _, rfl, h⟩
  · exact ⟨_, _, rfl, h⟩

set_option maxRecDepth 100000 in
theorem run_append_rd (w : World) (ty : TypeId) (b0 B n m c : Nat) (v : Value) (A : Option Addr) (ys zs : List Int) (hO : w.ownsRow b0 28 1 v n (ys.map (Value.int .u32))) (hR : Rd w B A m zs) (hnm : n + m ≤ 10000000) (hb : b0 ≤ w.heap.size) :
    ∃ A' c' w', (Builtin.append_ #[46, 46] ty #[v, .slice A m c]).run Try.prog w = .ok (.slice A' (n + m) c') w' ∧ Own w' b0 A' (n + m) c' (ys ++ zs) ∧ Below b0 w w' ∧ w.grownBy w' v.ownBlock := by
  obtain ⟨i0, hi, hz0, hz1, hz2⟩ := info_parts info_u32
  rcases A with _ | ad
  · have hm : m = 0 := by
      rcases Nat.eq_zero_or_pos m with h0 | h0
      · exact h0
      · obtain ⟨g, o, e, _⟩ := hR.2 h0
        cases e
    subst hm
    have hz : zs = [] := List.eq_nil_of_length_eq_zero hR.1
    subst hz
    obtain ⟨A', c', rfl, hO'⟩ := own_shape hO
    exact ⟨A', c', w, run_append_none w ty b0 _ n c _ hO, by simpa using hO', Below.refl _ _, ⟨rfl, rfl, rfl, Nat.le_refl _, fun _ _ _ => rfl⟩⟩
  · have hcells : ∀ j u, (zs.map (Value.int .u32))[j]? = some u → w.cell? (ad.add j) = some u := by
      intro j u hj
      have hlt : j < zs.length := by
        have := (List.getElem?_eq_some_iff.1 hj).1
        simpa using this
      obtain ⟨g, o, e, _, hc⟩ := hR.2 (by have := hR.1; omega)
      injection e with e
      subst e
      have e2 : u = .int .u32 (zs[j]?.getD 0) := by
        simp [hlt] at hj ⊢
        exact hj.symm
      rw [e2, ← hc j (by have := hR.1; omega)]
      congr 1
      unfold Addr.add; split <;> simp_all
    obtain ⟨v', w', hrun, h2, h3, _, h5⟩ := run_append_own_at (P := Try.prog) w b0 46 ty 28 i0 (.int .u32 0) 1 4 Try.underlying46 hi hz0 hz1 hz2 rfl (by omega) v n _ hO ad m c (zs.map (Value.int .u32)) (by simp [hR.1]) hcells (ints_oneCell _ _) (by unfold maxLen; omega) (by omega) hb
    rw [← List.map_append] at h2
    obtain ⟨A', c', rfl, hO'⟩ := own_shape h2
    exact ⟨A', c', w', hrun, hO', (Below.refl _ _).grown h3 hb (fun k hk => (World.ownsRow.lt hO k hk).1), h3⟩

theorem wpList_append_fresh {w : World} {ops : Array Oper} {rest : List Oper} {o : Oper} {a : Act} {Q : Exit → Act → World → Prop} (hgd : o.guard = none) (s x : Operand)
    (ho : o.op = .call { callee := .builtin .append, args := #[s, x], argTypes := #[46, 46] })
    (b0 B m c c0 : Nat) (A0 A : Option Addr) (zs : List Int) (hs : a.eval s = .slice A0 0 c0) (hx : a.eval x = .slice A m c) (hO : Own w b0 A0 0 c0 []) (hR : Rd w B A m zs) (hm : m ≤ 10000000) (hb : b0 ≤ w.heap.size)
    (h : ∀ A' c' w', Hid (Own w' b0 A' m c' zs) → Hid (Below b0 w w') → wpList Try.prog ops Q rest (a.put o.dst (.slice A' m c')) w') : wpList Try.prog ops Q (o :: rest) a w := by
  refine wpList_plain hgd fun K hK => ?_
  obtain ⟨A', c', w', hr, h2, h3, _⟩ := run_append_rd w o.type b0 B 0 m c (.slice A0 0 c0) A [] zs hO hR (by omega) hb
  rw [Nat.zero_add, List.nil_append] at *
  unfold Oper.wp execOp
  simp only [ho, resolve, invoke, builtin, Sem.run_bind, Sem.run_pure, Result.andThen_ok, List.map_toArray, List.map_cons, List.map_nil, hs, hx, hr]
  exact hK _ _ (h A' c' w' h2 h3)


end Go.Proofs.Ytooegpebimpjcaa.U


namespace Go.Proofs.Ytooegpebimpjcaa.U
open Go.RowKit Go.MuLone

theorem later_free {w w' : World} {b o B : Nat} (hb : Below B w w') (h : w.frozen? ⟨b, o, none⟩ = false) (hl : b < B) : w'.frozen? ⟨b, o, none⟩ = false :=
  (hb.frozen (p := ⟨b, o, none⟩) hl).trans h
theorem older_free {w : World} {b o : Nat} (h : w.frozen? ⟨b, o, none⟩ = false) (hl : b < w.heap.size) (ob : Obj) : (w.alloc ob).frozen? ⟨b, o, none⟩ = false :=
  (World.frozen?_of_block (w := w) (a := ⟨b, o, none⟩) (Below.heap_alloc w ob b hl)).trans h
theorem later_at {w w' : World} {b o B : Nat} {v : Value} (hb : Below B w w') (h : w.cell? ⟨b, o, none⟩ = some v) (hl : b < B) : w'.cell? ⟨b, o, none⟩ = some v :=
  (hb.cell (p := ⟨b, o, none⟩) hl).trans h


theorem own_ne {w : World} {b b0 n c : Nat} {A : Option Addr} {zs : List Int} {cs : Array Value} (hb : w.heap[b]? = some (.cells cs 146 (0, 0))) (ho : Own w b0 A n c zs) : ∀ g, A = some ⟨g, 0, none⟩ → g ≠ b := by
  rintro g rfl rfl
  rcases ho.2 with ⟨h', _⟩ | ⟨g', cap, cur, hv, _, hh, _⟩
  · simp at h'
  · have e : g = g' := by injection hv with h1; injection h1 with h1; injection h1
    subst e
    rw [hb] at hh
    injection hh with hh
    injection hh with _ ht
    exact absurd ht (by decide)

set_option maxHeartbeats 1000000 in
theorem bgrow (b b0 g n c m : Nat) (zs : List Int) (w : World) (hB : Bk w b (.slice (some ⟨g, 0, none⟩) n c)) (hO : Own w b0 (some ⟨g, 0, none⟩) n c zs) (hb : b0 ≤ b) (hn : n + m ≤ 64) (hs : b0 ≤ w.heap.size) :
    Calls Try.prog 120 #[.pointer (some ⟨b, 0, none⟩), .int .i64 m] w fun e w' => e = .returned (.tuple #[]) ∧ ∃ A' c', Bk w' b (.slice A' (n + m) c') ∧ Own w' b0 A' (n + m) c' (zs ++ List.replicate m 0) ∧ Below b0 w w' := by
  obtain ⟨i0, hi, hz0, hz1, hz2⟩ := info_parts info_u32
  have hg := hB.ne hO
  have c0 := hB.cell0
  have c2 := hB.cell2
  have f0 := hB.free 0
  have HF := Lib.hid (hB.free 2)
  have HB := Lib.hid hB
  have hgb : b0 ≤ g := (World.ownsRow.lt hO g rfl).1
  have HO : Hid (Own (w.setCell ⟨b, 0, none⟩ (.int .i32 1)) b0 (some ⟨g, 0, none⟩) n c zs) := hO.far (fun g' e => by injection e with e; injection e with e; subst e; exact hg) _
  have HI := Lib.hid hi
  have HZ0 := Lib.hid hz0
  have HZ1 := Lib.hid hz1
  have HZ2 := Lib.hid hz2
  clear hB hO hi hz0 hz1 hz2
  go_enter_defers Try.func120, Try.ntmps120
  go_wp2_with (first
    | (go_at_call 137; refine (lock_free muLib ⟨b, 0, none⟩ _ c0 f0).mono ?_; rintro e w' ⟨rfl, rfl⟩)
    | (at_builtin; refine wpList_append_zeros _ rfl (.tmp 15) (.tmp 16) 46 3 rfl b0 28 i0 Try.underlying46 Try.underlying3 HI.out HZ0.out HZ1.out HZ2.out (.slice (some ⟨g, 0, none⟩) n c) n _ rfl HO.out m rfl (by omega) (by simpa using hs) ?_))
  intro v' w1 ho hgr
  have ho' : w1.ownsRow b0 28 1 v' (n + m) ((zs ++ List.replicate m 0).map (Value.int .u32)) := by simpa using ho
  obtain ⟨A', c', rfl, ho2⟩ := own_shape ho'
  have hbl : w1.heap[b]? = some (.cells #[.int .i32 1, .int .u32 0, .slice (some ⟨g, 0, none⟩) n c] 146 (0, 0)) := by
    have hlt : b < (w.setCell ⟨b, 0, none⟩ (.int .i32 1)).heap.size := by have := HB.out.lt; simpa [World.setCell] using this
    rw [hgr.block b hlt (by simp [Value.ownBlock]; omega)]
    have := HB.out
    unfold Bk at this
    simp [World.setCell, Array.getElem?_modify, this]
  have d0 : w1.cell? ⟨b, 0, none⟩ = some (.int .i32 1) := (cell_of_row w1 b 0 _ _ (0, 0) hbl).trans rfl
  have d2 : w1.cell? ⟨b, 2, none⟩ = some (.slice (some ⟨g, 0, none⟩) n c) := (cell_of_row w1 b 2 _ _ (0, 0) hbl).trans rfl
  have e0 : w1.frozen? ⟨b, 0, none⟩ = false := by simp [World.frozen?, hbl]
  have e2 : w1.frozen? ⟨b, 2, none⟩ = false := by simp [World.frozen?, hbl]
  have BB : Hid (Below b0 w w1) := ((Below.refl _ _).setCell hb _).grown hgr (by simpa [World.setCell] using hs) (fun k hk => by simp [Value.ownBlock] at hk; omega)
  have O2 := Lib.hid ho2
  have HBL := Lib.hid hbl
  clear ho ho' hgr hbl ho2 c0 c2 f0 HO HF HB
  go_wp2
  refine leaves_cons (f := 138) (args := #[.pointer (some ⟨b, 0, none⟩)]) (by simp) (by simp [go_sem]) ?_
  refine (unlock_deferred muLib ⟨b, 0, none⟩ .returning _ ((World.cell?_setCell_other _ ⟨b, 2, none⟩ ⟨b, 0, none⟩ _ (by simp)).trans d0) (by simp [e0])).mono ?_
  rintro e u' w'' ⟨rfl, rfl, rfl⟩
  refine ⟨_, results_none rfl _ _ _, rfl, A', c', ?_, ?_, (BB.out.setCell hb _).setCell hb _⟩
  · have := HBL.out
    unfold Bk
    simp [World.setCell, Array.getElem?_modify, this]
  · have hne := own_ne HBL.out O2.out
    exact (O2.out.far hne _).far hne _

/-- May a memory of n words grow by k? -/
def CanG (n : Nat) (k : Int) : Prop := n ≤ 64 ∧ 0 ≤ k ∧ k ≤ 64 - (n : Int)

set_option maxHeartbeats 1000000 in
theorem iGrow_no (A : Option Addr) (n c : Nat) (k : Int) (w : World) (h : ¬ CanG n k) (hn : n ≤ 1048576) :
    Calls Try.prog 95 #[.agg #[.slice A n c], .int .i64 k] w fun e w' => e = .returned (.tuple #[.agg #[.slice none 0 0], .bool false]) ∧ Below w.heap.size w w' := by
  have hc := memOkI_any A n c ((w.alloc (.cells #[.slice A n c] 48)).alloc (.cells #[.slice none 0 0] 48))
  unfold CanG at h
  by_cases h1 : n ≤ 64
  · simp only [h1, decide_true] at hc
    have HC := Lib.hid hc
    clear hc
    by_cases h2 : 0 ≤ k
    · have h3 : ¬ k ≤ 64 - (n : Int) := fun q => h ⟨h1, h2, q⟩
      have d2 : decide (k < 0) = false := by simp; omega
      have d3 : decide (64 - (n : Int) < k) = true := by simp; omega
      clear h
      go_enter Try.func95, Try.ntmps95
      go_wp2_with fail
      refine HC.out.mono ?_
      rintro e w1 ⟨rfl, hb1⟩
      have a1 : w1.cell? ⟨w.heap.size, 0, none⟩ = some (.slice A n c) := later hb1 (by simp)
      have r1 : w1.cell? ⟨w.heap.size + 1, 0, none⟩ = some (.slice none 0 0) := later hb1 (by simp)
      have f1 : w1.frozen? ⟨w.heap.size + 1, 0, none⟩ = false := later_free hb1 (by simp) (by simp)
      have BB1 : Hid (Below w.heap.size w w1) := (by repeat (first | exact Below.refl _ _ | refine Below.drew ?_ | refine Below.setCell ?_ (by first | omega | (simp; done) | (simp; omega) | (simp [*]; done)) _ | refine Below.alloc ?_ (by first | omega | (simp; done) | (simp; omega) | (simp [*]; done)) _ | refine Below.trans ?_ (Below.mono (hb1) (by first | omega | (simp; done) | (simp; omega) | (simp [*]; done)))))
      clear hb1
      go_wp2
      exact bodyPost_ret (v := .tuple #[.agg #[.slice none 0 0], .bool false]) (by simp [results, Try.results95, go_sem, r1]) rfl ⟨rfl, BB1.out.setCell (by simp) _⟩
    · have d2 : decide (k < 0) = true := by simp; omega
      clear h
      go_enter Try.func95, Try.ntmps95
      go_wp2_with fail
      refine HC.out.mono ?_
      rintro e w1 ⟨rfl, hb1⟩
      have a1 : w1.cell? ⟨w.heap.size, 0, none⟩ = some (.slice A n c) := later hb1 (by simp)
      have r1 : w1.cell? ⟨w.heap.size + 1, 0, none⟩ = some (.slice none 0 0) := later hb1 (by simp)
      have f1 : w1.frozen? ⟨w.heap.size + 1, 0, none⟩ = false := later_free hb1 (by simp) (by simp)
      have BB1 : Hid (Below w.heap.size w w1) := (by repeat (first | exact Below.refl _ _ | refine Below.drew ?_ | refine Below.setCell ?_ (by first | omega | (simp; done) | (simp; omega) | (simp [*]; done)) _ | refine Below.alloc ?_ (by first | omega | (simp; done) | (simp; omega) | (simp [*]; done)) _ | refine Below.trans ?_ (Below.mono (hb1) (by first | omega | (simp; done) | (simp; omega) | (simp [*]; done)))))
      clear hb1
      go_wp2
      exact bodyPost_ret (v := .tuple #[.agg #[.slice none 0 0], .bool false]) (by simp [results, Try.results95, go_sem, r1]) rfl ⟨rfl, BB1.out.setCell (by simp) _⟩
  · simp only [h1, decide_false] at hc
    have HC := Lib.hid hc
    clear hc h h1
    go_enter Try.func95, Try.ntmps95
    go_wp2_with fail
    refine HC.out.mono ?_
    rintro e w1 ⟨rfl, hb1⟩
    have a1 : w1.cell? ⟨w.heap.size, 0, none⟩ = some (.slice A n c) := later hb1 (by simp)
    have r1 : w1.cell? ⟨w.heap.size + 1, 0, none⟩ = some (.slice none 0 0) := later hb1 (by simp)
    have f1 : w1.frozen? ⟨w.heap.size + 1, 0, none⟩ = false := later_free hb1 (by simp) (by simp)
    have BB1 : Hid (Below w.heap.size w w1) := (by repeat (first | exact Below.refl _ _ | refine Below.drew ?_ | refine Below.setCell ?_ (by first | omega | (simp; done) | (simp; omega) | (simp [*]; done)) _ | refine Below.alloc ?_ (by first | omega | (simp; done) | (simp; omega) | (simp [*]; done)) _ | refine Below.trans ?_ (Below.mono (hb1) (by first | omega | (simp; done) | (simp; omega) | (simp [*]; done)))))
    clear hb1
    go_wp2
    exact bodyPost_ret (v := .tuple #[.agg #[.slice none 0 0], .bool false]) (by simp [results, Try.results95, go_sem, r1]) rfl ⟨rfl, BB1.out.setCell (by simp) _⟩

set_option maxHeartbeats 1000000 in
theorem iGrow (A : Option Addr) (n c B m : Nat) (zs : List Int) (w : World) (h : Rd w B A n zs) (hB : B ≤ w.heap.size) (hn : n + m ≤ 64) :
    Calls Try.prog 95 #[.agg #[.slice A n c], .int .i64 m] w fun e w' => ∃ A' c', e = .returned (.tuple #[.agg #[.slice A' (n + m) c'], .bool true]) ∧ Own w' w.heap.size A' (n + m) c' (zs ++ List.replicate m 0) ∧ Below w.heap.size w w' := by
  have H := Lib.hid h
  clear h
  have h1 : n ≤ 64 := by omega
  have hc := memOkI_any A n c ((w.alloc (.cells #[.slice A n c] 48)).alloc (.cells #[.slice none 0 0] 48))
  simp only [h1, decide_true] at hc
  have HC := Lib.hid hc
  clear hc
  have d2 : decide ((m : Int) < 0) = false := by simp
  have d3 : decide (64 - (n : Int) < (m : Int)) = false := by simp; omega
  go_enter Try.func95, Try.ntmps95
  go_wp2_with fail
  refine HC.out.mono ?_
  rintro e w1 ⟨rfl, hb1⟩
  have a1 : w1.cell? ⟨w.heap.size, 0, none⟩ = some (.slice A n c) := later hb1 (by simp)
  have r1 : w1.cell? ⟨w.heap.size + 1, 0, none⟩ = some (.slice none 0 0) := later hb1 (by simp)
  have f1 : w1.frozen? ⟨w.heap.size + 1, 0, none⟩ = false := later_free hb1 (by simp) (by simp)
  have z1 : w.heap.size + 1 < w1.heap.size := by have := hb1.size; simp at this; omega
  have z0 : w.heap.size < w1.heap.size := by omega
  have BB1 : Hid (Below w.heap.size w w1) := (by repeat (first | exact Below.refl _ _ | refine Below.drew ?_ | refine Below.setCell ?_ (by first | omega | (simp; done) | (simp; omega) | (simp [*]; done)) _ | refine Below.alloc ?_ (by first | omega | (simp; done) | (simp; omega) | (simp [*]; done)) _ | refine Below.trans ?_ (Below.mono (hb1) (by first | omega | (simp; done) | (simp; omega) | (simp [*]; done)))))
  have H1 : Hid (Rd w1 B A n zs) := H.out.below (BB1.out.mono hB)
  clear hb1
  go_wp2_with fail
  refine (copyToBank_any A n c B zs _ H1.out (by omega) h1).mono ?_
  rintro e w2 ⟨b, g, rfl, hbb, hk2, ho2, hb2⟩
  have r2 := later hb2 r1
  have f2 := later_free hb2 f1 z1
  have BB2 := Lib.hid (BB1.out.trans (hb2.mono (by omega)))
  have K2 := Lib.hid hk2
  have O2 := Lib.hid ho2
  have z2 := hb2.size
  clear hb2 hk2 ho2 a1 r1 f1 BB1 H1
  go_wp2_with fail
  refine (bgrow b _ g n n m zs _ K2.out O2.out hbb hn z2).mono ?_
  rintro e w3 ⟨rfl, A', c', hk3, ho3, hb3⟩
  have r3 := later_at hb3 r2 z1
  have f3 := later_free hb3 f2 z1
  have k3 := hk3.cell2
  have O3 := Lib.hid ho3
  have BB3 := Lib.hid (BB2.out.trans (hb3.mono (by omega)))
  have z3 := hb3.size
  clear hb3 hk3 ho3 K2 O2 BB2 r2 f2
  go_wp2
  refine bodyPost_ret (v := .tuple #[.agg #[.slice A' (n + m) c'], .bool true]) (by simp [results, Try.results95, go_sem, r3]) rfl ⟨A', c', rfl, ?_, BB3.out.setCell (by simp) _⟩
  exact (O3.out.low (by simpa using z1) _).from_ (by omega)

set_option maxHeartbeats 1000000 in
theorem iNew (m : Nat) (w : World) (hm : m ≤ 64) :
    Calls Try.prog 61 #[.int .i64 m] w fun e w' => ∃ A' c', e = .returned (.tuple #[.agg #[.slice A' m c'], .bool true]) ∧ Own w' w.heap.size A' m c' (List.replicate m 0) ∧ Below w.heap.size w w' := by
  have hc := iGrow none 0 0 0 m [] (w.alloc (.cells #[.slice none 0 0] 48)) Rd.zero (Nat.zero_le _) (by omega)
  simp only [Nat.zero_add, List.nil_append] at hc
  have HC := Lib.hid hc
  clear hc
  go_enter Try.func61, Try.ntmps61
  go_wp2_with fail
  refine HC.out.mono ?_
  rintro e w1 ⟨A', c', rfl, ho, hb⟩
  have r1 : w1.cell? ⟨w.heap.size, 0, none⟩ = some (.slice none 0 0) := later hb (by simp)
  have f1 : w1.frozen? ⟨w.heap.size, 0, none⟩ = false := later_free hb (by simp) (by simp)
  have BB : Hid (Below w.heap.size w w1) := (by repeat (first | exact Below.refl _ _ | refine Below.drew ?_ | refine Below.setCell ?_ (by first | omega | (simp; done) | (simp; omega) | (simp [*]; done)) _ | refine Below.alloc ?_ (by first | omega | (simp; done) | (simp; omega) | (simp [*]; done)) _ | refine Below.trans ?_ (Below.mono (hb) (by first | omega | (simp; done) | (simp; omega) | (simp [*]; done)))))
  have O1 : Hid (Own w1 (w.heap.size + 1) A' m c' (List.replicate m 0)) := ho.from_ (by simp)
  clear ho hb HC
  go_wp2
  refine bodyPost_ret (v := .tuple #[.agg #[.slice A' m c'], .bool true]) (by simp [results, Try.results61, go_sem, r1]) rfl ⟨A', c', rfl, ?_, BB.out.setCell (by simp) _⟩
  exact (O1.out.low (by simp) _).from_ (by omega)

set_option maxHeartbeats 1000000 in
theorem iNew_no (k : Int) (w : World) (hk : ¬ (0 ≤ k ∧ k ≤ 64)) :
    Calls Try.prog 61 #[.int .i64 k] w fun e w' => e = .returned (.tuple #[.agg #[.slice none 0 0], .bool false]) ∧ Below w.heap.size w w' := by
  have HC := Lib.hid (iGrow_no none 0 0 k (w.alloc (.cells #[.slice none 0 0] 48)) (by unfold CanG; intro h; exact hk ⟨h.2.1, by have := h.2.2; omega⟩) (by omega))
  clear hk
  go_enter Try.func61, Try.ntmps61
  go_wp2_with fail
  refine HC.out.mono ?_
  rintro e w1 ⟨rfl, hb⟩
  have r1 : w1.cell? ⟨w.heap.size, 0, none⟩ = some (.slice none 0 0) := later hb (by simp)
  have f1 : w1.frozen? ⟨w.heap.size, 0, none⟩ = false := later_free hb (by simp) (by simp)
  have BB : Hid (Below w.heap.size w w1) := (by repeat (first | exact Below.refl _ _ | refine Below.drew ?_ | refine Below.setCell ?_ (by first | omega | (simp; done) | (simp; omega) | (simp [*]; done)) _ | refine Below.alloc ?_ (by first | omega | (simp; done) | (simp; omega) | (simp [*]; done)) _ | refine Below.trans ?_ (Below.mono (hb) (by first | omega | (simp; done) | (simp; omega) | (simp [*]; done)))))
  clear hb HC
  go_wp2
  exact bodyPost_ret (v := .tuple #[.agg #[.slice none 0 0], .bool false]) (by simp [results, Try.results61, go_sem, r1]) rfl ⟨rfl, BB.out.setCell (by simp) _⟩

set_option maxHeartbeats 1000000 in
theorem sNew (m : Nat) (w : World) (hm : m ≤ 64) :
    Calls Try.prog 60 #[.int .i64 m] w fun e w' => ∃ A' c', e = .returned (.tuple #[.agg #[.slice A' m c'], .bool true]) ∧ Own w' w.heap.size A' m c' (List.replicate m 0) ∧ Below w.heap.size w w' := by
  obtain ⟨i0, hi, hz0, hz1, hz2⟩ := info_parts info_u32
  have hb2 : i0.bytes * m ≤ 281474976710656 := by rw [hz2]; omega
  have hb3 : m ≤ maxLen := by unfold maxLen; omega
  have HI := Lib.hid hi
  have HZ0 := Lib.hid hz0
  have HZ1 := Lib.hid hz1
  clear hi hz0 hz1 hz2
  have d2 : decide ((m : Int) < 0) = false := by simp
  have d3 : decide (64 < (m : Int)) = false := by simp; omega
  go_enter Try.func60, Try.ntmps60
  go_wp2_with (at_make; refine wpList_make_full _ rfl _ _ 46 rfl (w.heap.size + 1) 28 i0 (.int .u32 0) 1 Try.underlying46 HI.out HZ0.out HZ1.out .i64 .i64 _ _ m rfl rfl rfl rfl hb2 hb3 (by simp) ?_)
  intro w1 hown hgr
  have O1 : Hid (Own w1 (w.heap.size + 1) (some ⟨w.heap.size + 1, 0, none⟩) m m (List.replicate m 0)) := by
    have := toList_madeCells_one (.int .u32 0) m
    have h3 : w1.ownsRow (w.heap.size + 1) 28 1 (.slice (some ⟨w.heap.size + 1, 0, none⟩) m m) m (List.replicate m (.int .u32 0)) := by simpa [this] using hown
    show w1.ownsRow _ _ _ _ _ ((List.replicate m (0 : Int)).map _)
    simpa using h3
  have B1 : Hid (Below (w.heap.size + 1) (w.alloc (.cells #[.slice none 0 0] 48)) w1) := (Below.refl _ _).grown hgr (by simp) (by simp)
  have r1 : w1.cell? ⟨w.heap.size, 0, none⟩ = some (.slice none 0 0) := later_at B1.out (by simp) (by omega)
  have f1 : w1.frozen? ⟨w.heap.size, 0, none⟩ = false := later_free B1.out (by simp) (by omega)
  clear hown hgr
  go_wp2
  refine bodyPost_ret (v := .tuple #[.agg #[.slice (some ⟨w.heap.size + 1, 0, none⟩) m m], .bool true]) (by simp [results, Try.results60, go_sem, r1]) rfl ⟨_, _, rfl, ?_, ?_⟩
  · exact (O1.out.low (by simp) _).from_ (by omega)
  · exact (((Below.refl _ _).alloc (Nat.le_refl _) _).trans (B1.out.mono (by omega))).setCell (by simp) _

set_option maxHeartbeats 1000000 in
theorem sNew_no (k : Int) (w : World) (hk : ¬ (0 ≤ k ∧ k ≤ 64)) :
    Calls Try.prog 60 #[.int .i64 k] w fun e w' => e = .returned (.tuple #[.agg #[.slice none 0 0], .bool false]) ∧ Below w.heap.size w w' := by
  by_cases h2 : 0 ≤ k
  · have h3 : ¬ k ≤ 64 := fun q => hk ⟨h2, q⟩
    have d2 : decide (k < 0) = false := by simp; omega
    have d3 : decide (64 < k) = true := by simp; omega
    clear hk
    go_enter Try.func60, Try.ntmps60
    go_wp2
    exact bodyPost_ret (v := .tuple #[.agg #[.slice none 0 0], .bool false]) (by simp [results, Try.results60, go_sem]) rfl ⟨rfl, (Below.refl _ _).alloc (Nat.le_refl _) _⟩
  · have d2 : decide (k < 0) = true := by simp; omega
    clear hk
    go_enter Try.func60, Try.ntmps60
    go_wp2
    exact bodyPost_ret (v := .tuple #[.agg #[.slice none 0 0], .bool false]) (by simp [results, Try.results60, go_sem]) rfl ⟨rfl, (Below.refl _ _).alloc (Nat.le_refl _) _⟩


end Go.Proofs.Ytooegpebimpjcaa.U


namespace Go.Proofs.Ytooegpebimpjcaa.U
open Go.RowKit


/-- 1, 2, .. in the first k places, then as it was. -/
def markTo (zs : List Int) (k : Nat) : List Int := (List.range k).map (fun i : Nat => 1 + (i : Int)) ++ zs.drop k
/-- 1, 2, .., n. -/
def marks (n : Nat) : List Int := (List.range n).map (fun i : Nat => 1 + (i : Int))
theorem mark_next {zs : List Int} {k : Nat} (h : k < zs.length) : (markTo zs k).set k (1 + (k : Int)) = markTo zs (k + 1) := by
  unfold markTo
  rw [List.range_succ, List.map_append, List.drop_eq_getElem_cons h, List.set_append]
  simp
  rw [List.drop_eq_getElem_cons h]
  rfl
theorem mark_all {zs : List Int} {k n : Nat} (h : zs.length = n) (hk : n ≤ k) (hk' : k ≤ n) : markTo zs k = marks n := by
  obtain rfl : k = n := by omega
  unfold markTo marks
  rw [List.drop_eq_nil_of_le (by omega)]; simp
theorem marks_at {n k : Nat} (h : k < n) : (marks n)[k]?.getD 0 = 1 + (k : Int) := by simp [marks, h]
theorem marks_len (n : Nat) : (marks n).length = n := by simp [marks]

theorem grown_far {w w' : World} {row : Option Nat} {b o : Nat} {v : Value} (hg : w.grownBy w' row) (h : w.cell? ⟨b, o, none⟩ = some v) (hne : some b ≠ row) : w'.cell? ⟨b, o, none⟩ = some v := hg.cell h hne

set_option maxHeartbeats 1000000 in
theorem markU_any (g n c b0 : Nat) (zs : List Int) (w : World) (h : Own w b0 (some ⟨g, 0, none⟩) n c zs) (hn : n ≤ 1048640) :
    Calls Try.prog 97 #[.slice (some ⟨g, 0, none⟩) n c, .int .i64 1] w fun e w' => e = .returned (.int .i64 (1 + n)) ∧ Own w' b0 (some ⟨g, 0, none⟩) n c (marks n) ∧ w.grownBy w' (some g) := by
  have H := Lib.hid h
  have HL := Lib.hid h.len
  clear h
  go_enter Try.func97, Try.ntmps97
  go_wp2
  go_loopw [1, 5] (fun q i wr => ∃ k : Nat, k ≤ n ∧ i = .int .i64 k ∧ q = .int .i64 (1 + k) ∧ Hid (Own wr b0 (some ⟨g, 0, none⟩) n c (markTo zs k)) ∧ Hid (w.grownBy wr (some g))) (fun _ i _ => n - (intOf i).toNat)
  case atStart => exact ⟨0, Nat.zero_le _, rfl, rfl, by simpa [markTo] using H, World.grownBy.refl _ _⟩
  case round =>
    obtain ⟨k, hk, rfl, rfl, HO, HG⟩ := hrel
    by_cases hlt : k < n
    · have c2 := HO.out.cell rfl hlt
      have f2 := HO.out.free rfl k
      have HN : Hid (Own (wr.setCell ⟨g, k, none⟩ (.int .u32 (1 + (k : Int)))) b0 (some ⟨g, 0, none⟩) n c (markTo zs (k + 1))) := by
        rw [← mark_next (by have := HL.out; omega)]; exact HO.out.store
      have HM : Hid (w.grownBy (wr.setCell ⟨g, k, none⟩ (.int .u32 (1 + (k : Int)))) (some g)) :=
        ⟨HG.out.os, HG.out.tape, HG.out.output, by simpa [World.setCell] using HG.out.size, fun i hi hne => (Below.heap_setCell wr ⟨g, k, none⟩ _ i (fun e => hne (by simp [e]))).trans (HG.out.block i hi hne)⟩
      clear HO HG
      go_wp2
      go_roundw
      case rel => exact ⟨k + 1, by omega, by go_num, by go_num, HN, HM⟩
      case measure => simp [intOf]; omega
    · go_wp2
      go_ret
      have e := mark_all HL.out (show n ≤ k by omega) hk
      refine ⟨?_, by rw [← e]; exact HO.out, HG.out⟩
      have : k = n := by omega
      rw [this]
      rfl

set_option maxHeartbeats 1000000 in
theorem heldU_any (A : Option Addr) (n c B : Nat) (w : World) (h : Rd w B A n (marks n)) (hn : n ≤ 1048640) :
    Calls Try.prog 98 #[.slice A n c, .int .i64 1] w fun e w' => e = .returned (.int .i64 (1 + n)) ∧ w = w' := by
  have H2 := Lib.hid h.2
  clear h
  go_enter Try.func98, Try.ntmps98
  go_wp2
  go_loop [1, 5] (fun q i => ∃ k : Nat, k ≤ n ∧ i = .int .i64 k ∧ q = .int .i64 (1 + k)) (fun _ i => n - (intOf i).toNat)
  case atStart => exact ⟨0, Nat.zero_le _, rfl, rfl⟩
  case round =>
    obtain ⟨k, hk, rfl, rfl⟩ := hrel
    by_cases hlt : k < n
    · obtain ⟨g, o, rfl, _, hc⟩ := H2.out (by omega)
      have c1 := hc k hlt
      rw [marks_at hlt] at c1
      clear hc
      go_wp2
      go_round
      case rel => exact ⟨k + 1, by omega, by go_num, by go_num⟩
      case measure => simp [intOf]; omega
    · go_wp2
      go_ret
      have : k = n := by omega
      rw [this]
      exact ⟨rfl, rfl⟩

set_option maxHeartbeats 1000000 in
theorem heldMem_any (A : Option Addr) (n c B : Nat) (w : World) (h : Rd w B A n (marks n)) (hB : B ≤ w.heap.size) (hn : n ≤ 1048640) :
    Calls Try.prog 66 #[.agg #[.slice A n c], .int .i64 1] w fun e w' => e = .returned (.int .i64 (1 + n)) ∧ Below w.heap.size w w' := by
  have H := Lib.hid h
  clear h
  go_enter Try.func66, Try.ntmps66
  go_wp2_with fail
  refine (heldU_any A n c B _ (H.out.alloc hB _) hn).mono ?_
  rintro e w1 ⟨rfl, rfl⟩
  go_wp2
  go_ret
  exact ⟨rfl, (by repeat (first | exact Below.refl _ _ | refine Below.drew ?_ | refine Below.setCell ?_ (by first | omega | (simp; done) | (simp; omega) | (simp [*]; done)) _ | refine Below.alloc ?_ (by first | omega | (simp; done) | (simp; omega) | (simp [*]; done)) _))⟩

/-- Nothing has turned but the row of this slice, and what is new. -/
theorem markU_zero (w : World) : Calls Try.prog 97 #[.slice none 0 0, .int .i64 1] w fun e w' => e = .returned (.int .i64 1) ∧ w = w' := by
  go_enter Try.func97, Try.ntmps97
  go_wp2
  refine wp_loop_rounds 1 ?_
  rw [rounds_succ]
  go_wp2
  go_ret
  exact ⟨rfl, rfl⟩

set_option maxHeartbeats 1000000 in
theorem markMem_any (A : Option Addr) (n c b0 : Nat) (zs : List Int) (w : World) (h : Own w b0 A n c zs) (hn : n ≤ 1048640) :
    Calls Try.prog 64 #[.agg #[.slice A n c], .int .i64 1] w fun e w' => e = .returned (.int .i64 (1 + n)) ∧ Own w' b0 A n c (marks n) ∧ w.grownBy w' (Value.slice A n c).ownBlock := by
  have H := Lib.hid h
  clear h
  rcases H.out.2 with ⟨hv, h0⟩ | ⟨g, cap, cur, hv, _⟩
  · injection hv with h1 h2 h3
    subst h1 h2 h3
    go_enter Try.func64, Try.ntmps64
    go_wp2_with fail
    refine (markU_zero _).mono ?_
    rintro e w1 ⟨rfl, rfl⟩
    go_wp2
    go_ret
    exact ⟨rfl, Own.zero, World.grownBy_alloc _ _ _⟩
  · injection hv with h1 h2 h3
    subst h1 h3
    go_enter Try.func64, Try.ntmps64
    go_wp2_with fail
    refine (markU_any g n c b0 zs _ (H.out.alloc _) hn).mono ?_
    rintro e w1 ⟨rfl, ho, hg⟩
    have O := Lib.hid ho
    have G := Lib.hid hg
    clear ho hg
    go_wp2
    go_ret
    refine ⟨rfl, O.out, ?_⟩
    exact ⟨G.out.os, G.out.tape, G.out.output, Nat.le_trans (by simp) G.out.size, fun i hi hne => (G.out.block i (by simp; omega) hne).trans (Below.heap_alloc w _ i hi)⟩


end Go.Proofs.Ytooegpebimpjcaa.U
