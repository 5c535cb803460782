/- What the model's draws hand out: a memory of at most 65 words, an index, words; nothing old has turned. -/
import Derived.Test.YtiliahmaolnfbaaCur
import Derived.Test.YtiliahmaolnfbaaImpl
import Derived.Test.YtiliahmaolnfbaaApp
import Derived.Deep.RegionLaw
namespace Go.Proofs.Ytiliahmaolnfbaa
open Go.RowKit

/-- 'append(s, x)' onto a slice of words that the call owns, as one step of a region that draws: x was laid in a block of its own first. -/
theorem step_push_u32 {w : World} {ops : Array Oper} {o : Oper} {a : Act} {K : Act → World → Prop} {Q : Exit → Act → World → Prop} {E : Prop} (hgd : o.guard = none) (s x : Operand)
    (ho : o.op = .call { callee := .builtin .append, args := #[s, x], argTypes := #[24, 24] })
    (b0 n c : Nat) (A : Option Addr) (zs : List Int) (z : Int) (hs : a.eval s = .slice A n c) (hx : a.eval x = .slice (some ⟨w.heap.size, 0, none⟩) 1 1)
    (hO : Own w b0 A n c zs) (hn : n ≤ 1000000) (hb : b0 ≤ w.heap.size)
    (h : ∀ A' c' w', Hid (Own w' b0 A' (n + 1) c' (zs ++ [z])) → Hid (Below b0 w w') → K (a.put o.dst (.slice A' (n + 1) c')) w') :
    if Region.wanted o (yielded ops a.tmps) = true then Oper.wp Try.prog o a (w.alloc (.cells #[.int .u32 z] 27)) K Q else E := by
  have hw : Region.wanted o (yielded ops a.tmps) = true := by simp [Region.wanted, hgd]
  rw [if_pos hw]
  obtain ⟨i0, hi, hz0, hz1, hz2⟩ := info_parts info_u32
  obtain ⟨v', w', hrun, h2, h3, _, _⟩ := run_append_own_at (P := Try.prog) (w.alloc (.cells #[.int .u32 z] 27)) b0 24 o.type 27 i0 (.int .u32 0) 1 4 Try.underlying24 hi hz0 hz1 hz2 rfl (by omega) (.slice A n c) n _ (hO.alloc _) ⟨w.heap.size, 0, none⟩ 1 1 [.int .u32 z] rfl
    (by
      intro j u hj
      match j, hj with
      | 0, hj => simp at hj; subst hj; simp [Addr.add]) (by simp [Value.oneCell']) (by unfold maxLen; omega) (by omega) (by simp; omega)
  have h4 : w'.ownsRow b0 27 1 v' (n + 1) ((zs ++ [z]).map (Value.int .u32)) := by simpa using h2
  obtain ⟨A', c', rfl, h5⟩ := own_shape h4
  unfold Oper.wp execOp
  simp only [ho, resolve, invoke, builtin, Sem.run_bind, Sem.run_pure, Result.andThen_ok, List.map_toArray, List.map_cons, List.map_nil, hs, hx, hrun]
  exact h A' c' w' h5 (((Below.refl _ _).alloc hb _).grown h3 (by simp; omega) (fun k hk => (World.ownsRow.lt hO k hk).1))

theorem free_blk {w : World} {g : Nat} {cs : Array Value} {t : TypeId} (h : w.heap[g]? = some (.cells cs t (0, 0))) (i : Nat) : w.frozen? ⟨g, i, none⟩ = false := by simp [World.frozen?, h]
theorem own_far' {w w' : World} {b b0 n c : Nat} {A : Option Addr} {zs : List Int} (h : Own w b0 A n c zs) (hg : w.drew.grownBy w' (some b)) (hb : b < b0) : Own w' b0 A n c zs := by
  refine World.ownsRow.kept (w := w.drew) h hg ?_
  cases hv : (Value.slice A n c).ownBlock with
  | none => exact .inl rfl
  | some g => exact .inr (fun e => by injection e with e; have := (World.ownsRow.lt h g hv).1; omega)

theorem own_farP {w w' : World} {b b0 n c : Nat} {A : Option Addr} {zs : List Int} (h : Own w b0 A n c zs) (hg : w.grownBy w' (some b)) (hb : b < b0) : Own w' b0 A n c zs := by
  refine World.ownsRow.kept h hg ?_
  cases hv : (Value.slice A n c).ownBlock with
  | none => exact .inl rfl
  | some g => exact .inr (fun e => by injection e with e; have := (World.ownsRow.lt h g hv).1; omega)
theorem gnew {w w' : World} {row : Option Nat} (h : w.grownBy w' row) {g o : Nat} (hg : w.heap.size ≤ g) (v : Value) : w.grownBy (w'.setCell ⟨g, o, none⟩ v) row :=
  ⟨h.os, h.tape, h.output, by simpa [World.setCell] using h.size, fun i hi hne => (Below.heap_setCell w' ⟨g, o, none⟩ v i (by show i ≠ g; omega)).trans (h.block i hi hne)⟩
theorem zeros_ok (n : Nat) : Hid (∀ z ∈ List.replicate n (0 : Int), 0 ≤ z ∧ z < 4294967296) := fun z hz => by rw [(List.mem_replicate.1 hz).2]; omega

theorem rdk_more {kd : IntKind} {w : World} {B B' n : Nat} {A : Option Addr} {zs : List Int} (h : RdK kd w B A n zs) (hB : B ≤ B') : RdK kd w B' A n zs :=
  ⟨h.1, fun hn => by
    obtain ⟨g, o, e, hg, hc⟩ := h.2 hn
    exact ⟨g, o, e, by omega, hc⟩⟩

/-- The loop that draws words: after j rounds. -/
def MemRel (w : World) (b : Nat) (A : Option Addr) (n c : Nat) (bs : List Int) (K j : Nat) (wr : World) : Prop :=
  ∃ Am m cm ws, m ≤ j ∧ (∀ z ∈ ws, 0 ≤ z ∧ z < 4294967296) ∧ wr.heap[w.heap.size]? = some (.cells #[.slice none 0 0] 26 (0, 0)) ∧ wr.heap[w.heap.size + 1]? = some (.cells #[.slice Am m cm] 26 (0, 0)) ∧
    Own wr (w.heap.size + 2) Am m cm ws ∧ Cur wr b A n c bs (K + 1 + 5 * j) ∧ w.grownBy wr (some b)

theorem mem_step {w wr w1 w2 : World} {b n c K j m cm c' : Nat} {A Am A' : Option Addr} {bs ws : List Int} {r : Int} (hb : b < w.heap.size) (hm : m ≤ j) (hf : ∀ z ∈ ws, 0 ≤ z ∧ z < 4294967296) (hr0 : 0 ≤ r) (hr1 : r < 4294967296)
    (k0 : wr.heap[w.heap.size]? = some (.cells #[.slice none 0 0] 26 (0, 0))) (k1 : wr.heap[w.heap.size + 1]? = some (.cells #[.slice Am m cm] 26 (0, 0)))
    (g : w.grownBy wr (some b)) (g1 : wr.drew.grownBy w1 (some b)) (c1 : Cur w1 b A n c bs (K + 1 + 5 * j + 5)) (o2 : Own w2 (w.heap.size + 2) A' (m + 1) c' (ws ++ [r])) (b2 : Below (w.heap.size + 2) w1 w2) :
    MemRel w b A n c bs K (j + 1) (w2.setCell ⟨w.heap.size + 1, 0, none⟩ (.slice A' (m + 1) c')) := by
  have hs0 : w.heap.size < wr.heap.size := (Array.getElem?_eq_some_iff.1 k0).1
  have hs1 : w.heap.size + 1 < wr.heap.size := (Array.getElem?_eq_some_iff.1 k1).1
  have q0 : w1.heap[w.heap.size]? = some (.cells #[.slice none 0 0] 26 (0, 0)) := (g1.block _ hs0 (by simp; omega)).trans k0
  have q1 : w1.heap[w.heap.size + 1]? = some (.cells #[.slice Am m cm] 26 (0, 0)) := (g1.block _ hs1 (by simp; omega)).trans k1
  have p0 := (b2.block _ (show w.heap.size < w.heap.size + 2 by omega)).trans q0
  have p1 := (b2.block _ (show w.heap.size + 1 < w.heap.size + 2 by omega)).trans q1
  refine ⟨A', m + 1, c', ws ++ [r], by omega, ?_, ?_, ?_, o2.low (by simp) _, ?_, ?_⟩
  · intro z hz
    rcases List.mem_append.1 hz with h | h
    · exact hf z h
    · simp at h; subst h; exact ⟨hr0, hr1⟩
  · rw [Below.heap_setCell _ _ _ _ (by simp)]; exact p0
  · simp [World.setCell, Array.getElem?_modify, p1]
  · have : Cur w2 b A n c bs (K + 1 + 5 * j + 5) := c1.keep fun k hk => b2.block k (by omega)
    refine (this.mono (by omega)).keep fun k hk => Below.heap_setCell _ _ _ _ (by show k ≠ w.heap.size + 1; omega)
  · have hsz : w.heap.size + 2 ≤ w1.heap.size := by have := g1.size; simp at this; omega
    have g2 : w.grownBy w1 (some b) := gtrans (gdrew g) g1
    refine ⟨b2.os.trans g2.os, b2.tape.trans g2.tape, b2.output.trans g2.output, Nat.le_trans g2.size (by simpa [World.setCell] using b2.size), fun i hi hne => ?_⟩
    rw [Below.heap_setCell _ _ _ _ (by show i ≠ w.heap.size + 1; omega)]
    exact (b2.block i (by omega)).trans (g2.block i hi hne)

set_option maxRecDepth 100000 in
set_option maxHeartbeats 4000000 in
theorem mem_any (b : Nat) (A : Option Addr) (n c : Nat) (bs : List Int) (K : Nat) (w : World) (h : Cur w b A n c bs K) (hK : K ≤ 100000) :
    Calls Try.prog 46 #[.pointer (some ⟨b, 0, none⟩)] w fun e w' => ∃ Am m cm ws, e = .returned (.agg #[.slice Am m cm]) ∧ m ≤ 65 ∧ Hid (∀ z ∈ ws, 0 ≤ z ∧ z < 4294967296) ∧ Hid (Own w' w.heap.size Am m cm ws) ∧ Hid (Cur w' b A n c bs (K + 60)) ∧ Hid (w.grownBy w' (some b)) := by
  have H := Lib.hid h
  have hlt := h.lt
  clear h
  go_enter Try.func46, Try.ntmps46
  go_wp2_with fail
  refine (size_any b A n c bs K 8 _ ((H.out.alloc _).alloc _) (by omega) (by omega) (by omega)).mono ?_
  rintro e w1 ⟨r1, rfl, ⟨p0, p1⟩, H1, G1⟩
  have k0 : Hid (w1.heap[w.heap.size]? = some (.cells #[.slice none 0 0] 26 (0, 0))) := (G1.out.block _ (by first | omega | (simp; done) | (simp; omega) | (simp [*]; done)) (by simp; omega)).trans ((Below.heap_alloc _ _ _ (by first | omega | (simp; done) | (simp; omega) | (simp [*]; done))).trans (heap_alloc_new w _))
  have k1 : Hid (w1.heap[w.heap.size + 1]? = some (.cells #[.slice none 0 0] 26 (0, 0))) := by
    have := heap_alloc_new (w.alloc (.cells #[.slice none 0 0] 26)) (.cells #[.slice none 0 0] 26)
    rw [World.size_alloc] at this
    exact (G1.out.block _ (by simp) (by simp; omega)).trans this
  have G : Hid (w.grownBy w1 (some b)) := gtrans (galloc (World.grownBy_alloc _ _ _) _) G1.out
  clear G1
  obtain ⟨k, rfl⟩ := Int.eq_ofNat_of_zero_le p0
  have hk8 : k ≤ 8 := by omega
  have R0 : Hid (MemRel w b A n c bs K 0 w1) := ⟨none, 0, 0, [], Nat.le_refl _, by simp, k0.out, k1.out, Own.zero, H1.out, G.out⟩
  clear k0 k1 G H1
  go_wp2
  go_loopw [4] (fun i wr => ∃ k j : Nat, k + j ≤ 8 ∧ i = .int .i64 k ∧ Hid (MemRel w b A n c bs K j wr)) (fun i _ => (intOf i).toNat)
  case atStart => exact ⟨k, 0, by omega, rfl, R0⟩
  case round =>
    obtain ⟨k, j, hkj, rfl, R⟩ := hrel
    obtain ⟨Am, m, cm, ws, hm, hf, k0, k1, ho, hc, hg⟩ := R.out
    have O := Lib.hid ho
    have C := Lib.hid hc
    have G := Lib.hid hg
    have HF := Lib.hid hf
    have K0 := Lib.hid k0
    have K1 := Lib.hid k1
    have c1 : wr.cell? ⟨w.heap.size + 1, 0, none⟩ = some (.slice Am m cm) := (cell_of_row wr _ 0 _ _ (0, 0) k1).trans rfl
    have s1 : w.heap.size + 1 < wr.heap.size := (Array.getElem?_eq_some_iff.1 k1).1
    clear ho hc hg hf k0 k1
    by_cases hk0 : 0 < k
    · have hbn : some (w.heap.size + 1) ≠ some b := by simp; omega
      have F1 : Hid (∀ w1, wr.drew.grownBy w1 (some b) → w1.cell? ⟨w.heap.size + 1, 0, none⟩ = some (.slice Am m cm) ∧ w1.frozen? ⟨w.heap.size + 1, 0, none⟩ = false ∧ w.heap.size + 2 ≤ w1.heap.size ∧ w.heap.size + 1 < w1.heap.size ∧ Hid (Own w1 (w.heap.size + 2) Am m cm ws)) := by
        intro w1 g1
        have q1 := (g1.block _ s1 hbn).trans K1.out
        have h9 : wr.heap.size ≤ w1.heap.size := g1.size
        exact ⟨(cell_of_row w1 _ 0 _ _ (0, 0) q1).trans rfl, free_blk q1 0, by omega, by omega, own_far' O.out g1 (by omega)⟩
      have F2 : Hid (∀ w1 w2, w1.cell? ⟨w.heap.size + 1, 0, none⟩ = some (.slice Am m cm) → w1.frozen? ⟨w.heap.size + 1, 0, none⟩ = false → Below (w.heap.size + 2) w1 w2 → w2.cell? ⟨w.heap.size + 1, 0, none⟩ = some (.slice Am m cm) ∧ w2.frozen? ⟨w.heap.size + 1, 0, none⟩ = false) :=
        fun w1 w2 h1 h2 hb => ⟨later_at hb h1 (by omega), later_free hb h2 (by omega)⟩
      have CW : Hid (Calls Try.prog 48 #[.pointer (some ⟨b, 0, none⟩)] wr.drew (Picked (fun r => 0 ≤ r ∧ r < 4294967296) .u32 b A n c bs (K + 1 + 5 * j + 5) wr.drew)) := cword_any b A n c bs (K + 1 + 5 * j) wr.drew C.out (by omega)
      go_wp2
      go_region_law (first
        | (refine step_push_u32 rfl (.tmp 13) (.tmp 16) rfl (w.heap.size + 2) m cm Am ws _ (by rfl) (by rfl) O1.out (by omega) s2 ?_; intro A' c' w2 O2 B2; obtain ⟨d2, e2⟩ := F2.out w1 w2 d1 e1 B2.out)
        | (go_simp; go_at_call 48; refine CW.out.mono ?_; rintro e w1 ⟨r, rfl, ⟨q0, q1⟩, C1, G1⟩; obtain ⟨d1, e1, s2, s3, O1⟩ := F1.out w1 G1.out))
      all_goals
        have R1 := Lib.hid (mem_step hlt hm HF.out q0 q1 K0.out K1.out G.out G1.out C1.out O2.out B2.out)
        have k1' : 0 ≤ (k : Int) - 1 := by omega
        clear d2 e2 d1 e1 c1
        go_wp2
        go_roundw
        case rel => exact ⟨k - 1, j + 1, by omega, by congr 1; omega, R1⟩
        case measure => simp [intOf]; omega
    · obtain rfl : k = 0 := by omega
      have s0 : w.heap.size < wr.heap.size := by omega
      have hb0 : ¬ w.heap.size = b := by omega
      have hb1 : ¬ w.heap.size + 1 = b := by omega
      go_wp2_with fail
      refine (once_any b A n c bs (K + 1 + 5 * j) 20 _ C.out (by omega) (by omega) (by omega)).mono ?_
      rintro e w1 ⟨r, rfl, C1, G1⟩
      have p0 : w1.heap[w.heap.size]? = some (.cells #[.slice none 0 0] 26 (0, 0)) := (G1.out.block _ s0 (by simpa using hb0)).trans K0.out
      have p1 : w1.heap[w.heap.size + 1]? = some (.cells #[.slice Am m cm] 26 (0, 0)) := (G1.out.block _ s1 (by simpa using hb1)).trans K1.out
      have z1 : wr.heap.size ≤ w1.heap.size := G1.out.size
      have O1 : Hid (Own w1 (w.heap.size + 2) Am m cm ws) := own_farP O.out G1.out (by omega)
      have GG1 : Hid (w.grownBy w1 (some b)) := gtrans G.out G1.out
      have P0 := Lib.hid p0
      have P1 := Lib.hid p1
      cases r
      · have d0 : w1.cell? ⟨w.heap.size, 0, none⟩ = some (.slice none 0 0) := (cell_of_row w1 _ 0 _ _ (0, 0) p0).trans rfl
        have d1 : w1.cell? ⟨w.heap.size + 1, 0, none⟩ = some (.slice Am m cm) := (cell_of_row w1 _ 0 _ _ (0, 0) p1).trans rfl
        have e0 := free_blk p0 0
        clear p0 p1 c1
        go_wp2
        refine bodyPost_ret (v := .agg #[.slice Am m cm]) (by simp [results, Try.results46, go_sem, d0]) rfl ⟨Am, m, cm, ws, rfl, by omega, HF, ?_, ?_, ?_⟩
        · exact (O1.out.low (by simp) _).from_ (by omega)
        · exact (C1.out.mono (by omega)).keep fun q hq => Below.heap_setCell _ _ _ _ (by show q ≠ w.heap.size; omega)
        · exact gnew GG1.out (by omega) _
      · go_wp2_with fail
        refine (pick_any b A n c bs (K + 1 + 5 * j + 1) 2 _ C1.out (by omega) (by omega)).mono ?_
        rintro e w2 ⟨r2, rfl, ⟨q0, q1⟩, C2, G2⟩
        have t0 : w2.heap[w.heap.size]? = some (.cells #[.slice none 0 0] 26 (0, 0)) := (G2.out.block _ (by omega) (by simpa using hb0)).trans p0
        have t1 : w2.heap[w.heap.size + 1]? = some (.cells #[.slice Am m cm] 26 (0, 0)) := (G2.out.block _ (by omega) (by simpa using hb1)).trans p1
        have z2 : w1.heap.size ≤ w2.heap.size := G2.out.size
        have GG2 : Hid (w.grownBy w2 (some b)) := gtrans GG1.out G2.out
        have T0 := Lib.hid t0
        have T1 := Lib.hid t1
        obtain ⟨M, rfl⟩ := Int.eq_ofNat_of_zero_le q0
        have hM : M ≤ 1 := by omega
        clear q1 p0 p1 c1 t0 t1
        obtain ⟨i0, hi, hz0, hz1, hz2⟩ := info_parts info_u32
        have hb2 : i0.bytes * (64 + M) ≤ 281474976710656 := by rw [hz2]; omega
        have hb3 : 64 + M ≤ maxLen := by unfold maxLen; omega
        have HI := Lib.hid hi
        have HZ0 := Lib.hid hz0
        have HZ1 := Lib.hid hz1
        clear hi hz0 hz1 hz2
        go_wp2_with (at_make; refine wpList_make_full _ rfl _ _ 24 rfl (w.heap.size + 2) 27 i0 (.int .u32 0) 1 Try.underlying24 HI.out HZ0.out HZ1.out .i64 .i64 _ _ (64 + M) rfl rfl (by omega) (by omega) hb2 hb3 (by omega) ?_)
        intro w3 hown hgr
        have O3 : Hid (Own w3 (w.heap.size + 2) (some ⟨w2.heap.size, 0, none⟩) (64 + M) (64 + M) (List.replicate (64 + M) 0)) := by
          have := toList_madeCells_one (.int .u32 0) (64 + M)
          have h3 : w3.ownsRow (w.heap.size + 2) 27 1 (.slice (some ⟨w2.heap.size, 0, none⟩) (64 + M) (64 + M)) (64 + M) (List.replicate (64 + M) (.int .u32 0)) := by simpa [this] using hown
          show w3.ownsRow _ _ _ _ _ ((List.replicate (64 + M) (0 : Int)).map _)
          simpa using h3
        have B3 : Hid (Below w2.heap.size w2 w3) := (Below.refl _ _).grown hgr (Nat.le_refl _) (by simp)
        have u0 : w3.heap[w.heap.size]? = some (.cells #[.slice none 0 0] 26 (0, 0)) := (B3.out.block _ (by omega)).trans T0.out
        have u1 : w3.heap[w.heap.size + 1]? = some (.cells #[.slice Am m cm] 26 (0, 0)) := (B3.out.block _ (by omega)).trans T1.out
        have d0 : w3.cell? ⟨w.heap.size, 0, none⟩ = some (.slice none 0 0) := (cell_of_row w3 _ 0 _ _ (0, 0) u0).trans rfl
        have d1 : w3.cell? ⟨w.heap.size + 1, 0, none⟩ = some (.slice Am m cm) := (cell_of_row w3 _ 0 _ _ (0, 0) u1).trans rfl
        have e0 := free_blk u0 0
        have e1 := free_blk u1 0
        have z3 := B3.out.size
        have GG3 : Hid (w.grownBy w3 (some b)) := gtrans GG2.out (gbelow B3.out)
        have C3 := Lib.hid (C2.out.below B3.out)
        clear hown hgr u0 u1
        go_wp2
        refine bodyPost_ret (v := .agg #[.slice (some ⟨w2.heap.size, 0, none⟩) (64 + M) (64 + M)]) (by simp [results, Try.results46, go_sem, d0]) rfl ⟨some ⟨w2.heap.size, 0, none⟩, 64 + M, 64 + M, List.replicate (64 + M) 0, rfl, by omega, zeros_ok _, ?_, ?_, ?_⟩
        · exact ((O3.out.low (by simp) _).low (by simp) _).from_ (by omega)
        · exact ((C3.out.mono (by omega)).keep fun q hq => Below.heap_setCell _ _ _ _ (by show q ≠ w.heap.size + 1; omega)).keep fun q hq => Below.heap_setCell _ _ _ _ (by show q ≠ w.heap.size; omega)
        · exact gnew (gnew GG3.out (by omega) _) (by omega) _

set_option maxHeartbeats 1000000 in
theorem open_cur (A : Option Addr) (n c : Nat) (bs : List Int) (w : World) (h : RdK .u8 w w.heap.size A n bs) (hf : ∀ z ∈ bs, 0 ≤ z ∧ z < 256) (hn : n ≤ 1048576) :
    Calls Try.prog 45 #[.slice A n c] w fun e w' => e = .returned (.pointer (some ⟨w.heap.size, 0, none⟩)) ∧ Hid (Cur w' w.heap.size A n c bs 0) ∧ Hid (Below w.heap.size w w') := by
  have H := Lib.hid h
  have HF := Lib.hid hf
  clear h hf
  have n0 : (0 : Int) ≤ (n : Int) := by omega
  have n1 : (n : Int) ≤ 1048576 := by omega
  go_enter Try.func45, Try.ntmps45
  go_wp2
  go_ret
  refine ⟨rfl, ⟨⟨0, _, heap_alloc_new w _, by omega, by omega, ?_, ?_⟩, H.out.alloc (Nat.le_refl _) _, HF.out, hn⟩, (Below.refl _ _).alloc (Nat.le_refl _) _⟩
  all_goals omega

/-- What a draw hands out: a memory, an index, a word. -/
def Drawn3 (w : World) (e : Ending) (w' : World) : Prop :=
  ∃ Am m cm ws, ∃ at_ x : Int, e = .returned (.tuple #[.agg #[.slice Am m cm], .int .i64 at_, .int .u32 x]) ∧ m ≤ 65 ∧ (∀ z ∈ ws, 0 ≤ z ∧ z < 4294967296) ∧ (Lit.int .i64 at_).wf = true ∧ 0 ≤ x ∧ x < 4294967296 ∧ Own w' w.heap.size Am m cm ws ∧ Below w.heap.size w w'

theorem below_of_grown {w w1 w' : World} {b B : Nat} (h : Below B w w1) (g : w1.grownBy w' (some b)) (hb : B ≤ b) (hs : B ≤ w1.heap.size) : Below B w w' :=
  h.grown g hs (fun k hk => by injection hk; omega)

set_option maxRecDepth 100000 in
set_option maxHeartbeats 4000000 in
theorem drawAdd (A : Option Addr) (n c : Nat) (bs : List Int) (w : World) (h : RdK .u8 w w.heap.size A n bs) (hf : ∀ z ∈ bs, 0 ≤ z ∧ z < 256) (hn : n ≤ 1048576) :
    Calls Try.prog 17 #[.slice A n c] w (Drawn3 w) := by
  have H := Lib.hid h
  have HF := Lib.hid hf
  clear h hf
  go_enter Try.func17, Try.ntmps17
  go_wp2_with fail
  refine (open_cur A n c bs _ (rdk_more (H.out.alloc (Nat.le_refl _) _) (by simp)) HF.out hn).mono ?_
  rintro e w1 ⟨rfl, C1, B1⟩
  have r1 : Hid (w1.heap[w.heap.size]? = some (.cells #[.slice none 0 0] 26 (0, 0))) := (B1.out.block _ (by simp)).trans (heap_alloc_new w _)
  have z1 : w.heap.size + 1 ≤ w1.heap.size := by have := B1.out.size; simp at this; omega
  have BB1 : Hid (Below w.heap.size w w1) := ((Below.refl _ _).alloc (Nat.le_refl _) _).trans (B1.out.mono (by simp))
  clear B1
  rw [World.size_alloc] at C1 ⊢
  have l1 := C1.out.lt
  go_wp2_with fail
  refine (mem_any (w.heap.size + 1) A n c bs 0 _ C1.out (by omega)).mono ?_
  rintro e w2 ⟨Am, m, cm, ws, rfl, hm, W2, O2, C2, G2⟩
  have r2 : Hid (w2.heap[w.heap.size]? = some (.cells #[.slice none 0 0] 26 (0, 0))) := (G2.out.block _ (by omega) (by simp)).trans r1.out
  have z2 : w1.heap.size ≤ w2.heap.size := G2.out.size
  have BB2 : Hid (Below w.heap.size w w2) := below_of_grown BB1.out G2.out (by omega) (by omega)
  have U2 := Lib.hid (World.ownsRow.lt O2.out)
  clear r1 BB1 C1 G2
  have l2 := C2.out.lt
  have W0 : Hid ((w2.alloc (.cells #[.slice Am m cm] 26)).heap[w2.heap.size]? = some (.cells #[.slice Am m cm] 26 (0, 0))) := heap_alloc_new w2 _
  have R0 : Hid ((w2.alloc (.cells #[.slice Am m cm] 26)).heap[w.heap.size]? = some (.cells #[.slice none 0 0] 26 (0, 0))) := (Below.heap_alloc w2 _ _ (by omega)).trans r2.out
  have x0 : (w2.alloc (.cells #[.slice Am m cm] 26)).cell? ⟨w2.heap.size, 0, none⟩ = some (.slice Am m cm) := (cell_of_row _ _ 0 _ _ (0, 0) W0.out).trans rfl
  have CS : Hid (Calls Try.prog 47 #[.pointer (some ⟨w.heap.size + 1, 0, none⟩), .int .i64 m] (w2.alloc (.cells #[.slice Am m cm] 26)).drew (Picked (fun r => (Lit.int .i64 r).wf = true) .i64 (w.heap.size + 1) A n c bs (0 + 60 + 5) (w2.alloc (.cells #[.slice Am m cm] 26)).drew)) :=
    spot_any (w.heap.size + 1) A n c bs (0 + 60) m _ (C2.out.alloc _) (by omega) (by omega) (by omega)
  have CW : Hid (∀ w3, Cur w3 (w.heap.size + 1) A n c bs (0 + 60 + 5) → Calls Try.prog 48 #[.pointer (some ⟨w.heap.size + 1, 0, none⟩)] w3 (Picked (fun r => 0 ≤ r ∧ r < 4294967296) .u32 (w.heap.size + 1) A n c bs (0 + 60 + 5 + 5) w3)) :=
    fun w3 h3 => cword_any (w.heap.size + 1) A n c bs (0 + 60 + 5) w3 h3 (by omega)
  have F3 : Hid (∀ w3, (w2.alloc (.cells #[.slice Am m cm] 26)).drew.grownBy w3 (some (w.heap.size + 1)) → w3.cell? ⟨w2.heap.size, 0, none⟩ = some (.slice Am m cm) ∧ Hid (w3.heap[w2.heap.size]? = some (.cells #[.slice Am m cm] 26 (0, 0))) ∧ Hid (w3.heap[w.heap.size]? = some (.cells #[.slice none 0 0] 26 (0, 0)))) := by
    intro w3 g3
    have q1 := (g3.block w2.heap.size (by simp) (by simp; omega)).trans W0.out
    have q0 := (g3.block w.heap.size (by simp; omega) (by simp)).trans R0.out
    exact ⟨(cell_of_row w3 _ 0 _ _ (0, 0) q1).trans rfl, q1, q0⟩
  have F4 : Hid (∀ w3 w4 : World, w3.heap[w2.heap.size]? = some (.cells #[.slice Am m cm] 26 (0, 0)) → w3.heap[w.heap.size]? = some (.cells #[.slice none 0 0] 26 (0, 0)) → w3.grownBy w4 (some (w.heap.size + 1)) →
      w4.cell? ⟨w2.heap.size, 0, none⟩ = some (.slice Am m cm) ∧ w4.cell? ⟨w.heap.size, 0, none⟩ = some (.slice none 0 0) ∧ w4.frozen? ⟨w.heap.size, 0, none⟩ = false ∧ (∀ v, (w4.setCell ⟨w.heap.size, 0, none⟩ v).cell? ⟨w2.heap.size, 0, none⟩ = some (.slice Am m cm))) := by
    intro w3 w4 h1 h0 g4
    have l1 := (Array.getElem?_eq_some_iff.1 h1).1
    have q1 := (g4.block _ l1 (by simp; omega)).trans h1
    have q0 := (g4.block w.heap.size (by omega) (by simp)).trans h0
    have c1 : w4.cell? ⟨w2.heap.size, 0, none⟩ = some (.slice Am m cm) := (cell_of_row w4 _ 0 _ _ (0, 0) q1).trans rfl
    exact ⟨c1, (cell_of_row w4 _ 0 _ _ (0, 0) q0).trans rfl, free_blk q0 0, fun v => (World.cell?_setCell_other w4 ⟨w.heap.size, 0, none⟩ ⟨w2.heap.size, 0, none⟩ v (fun e => by injection e; omega)).trans c1⟩
  go_wp2_with fail
  go_region_held3 (fun w' => w'.cell? ⟨w2.heap.size, 0, none⟩ = some (.slice Am m cm))
    (first | exact x0 | exact x3 | exact x4 | exact s4 _)
    (first | (go_at_call 47; refine CS.out.mono ?_; rintro e w3 ⟨at_, rfl, hat, C3, G3⟩; obtain ⟨x3, Q1, Q0⟩ := F3.out w3 G3.out; have HAT := Lib.hid hat; clear hat)
           | (go_at_call 48; refine (CW.out w3 C3.out).mono ?_; rintro e w4 ⟨x, rfl, ⟨hx0, hx1⟩, C4, G4⟩; obtain ⟨x4, d4, f4, s4⟩ := F4.out w3 w4 Q1.out Q0.out G4.out))
  go_wp2
  refine bodyPost_ret (v := .tuple #[.agg #[.slice Am m cm], .int .i64 at_, .int .u32 x]) (by simp [results, Try.results17, go_sem, d4]) rfl ⟨Am, m, cm, ws, at_, x, rfl, hm, W2.out, HAT.out, hx0, hx1, ?_, ?_⟩
  · have o4 := own_farP (own_far' (O2.out.alloc _) G3.out (by omega)) G4.out (by omega)
    exact (o4.low (by simp; omega) _).from_ (by omega)
  · have b3 := below_of_grown (BB2.out.alloc (by omega) (.cells #[.slice Am m cm] 26)).drew G3.out (by omega) (by simp; omega)
    have z3 := b3.size
    exact (below_of_grown b3 G4.out (by omega) (by omega)).setCell (by simp) _

set_option maxRecDepth 100000 in
set_option maxHeartbeats 4000000 in
theorem drawStore (A : Option Addr) (n c : Nat) (bs : List Int) (w : World) (h : RdK .u8 w w.heap.size A n bs) (hf : ∀ z ∈ bs, 0 ≤ z ∧ z < 256) (hn : n ≤ 1048576) :
    Calls Try.prog 32 #[.slice A n c] w (Drawn3 w) := by
  have H := Lib.hid h
  have HF := Lib.hid hf
  clear h hf
  go_enter Try.func32, Try.ntmps32
  go_wp2_with fail
  refine (open_cur A n c bs _ (rdk_more (H.out.alloc (Nat.le_refl _) _) (by simp)) HF.out hn).mono ?_
  rintro e w1 ⟨rfl, C1, B1⟩
  have r1 : Hid (w1.heap[w.heap.size]? = some (.cells #[.slice none 0 0] 26 (0, 0))) := (B1.out.block _ (by simp)).trans (heap_alloc_new w _)
  have z1 : w.heap.size + 1 ≤ w1.heap.size := by have := B1.out.size; simp at this; omega
  have BB1 : Hid (Below w.heap.size w w1) := ((Below.refl _ _).alloc (Nat.le_refl _) _).trans (B1.out.mono (by simp))
  clear B1
  rw [World.size_alloc] at C1 ⊢
  have l1 := C1.out.lt
  go_wp2_with fail
  refine (mem_any (w.heap.size + 1) A n c bs 0 _ C1.out (by omega)).mono ?_
  rintro e w2 ⟨Am, m, cm, ws, rfl, hm, W2, O2, C2, G2⟩
  have r2 : Hid (w2.heap[w.heap.size]? = some (.cells #[.slice none 0 0] 26 (0, 0))) := (G2.out.block _ (by omega) (by simp)).trans r1.out
  have z2 : w1.heap.size ≤ w2.heap.size := G2.out.size
  have BB2 : Hid (Below w.heap.size w w2) := below_of_grown BB1.out G2.out (by omega) (by omega)
  have U2 := Lib.hid (World.ownsRow.lt O2.out)
  clear r1 BB1 C1 G2
  have l2 := C2.out.lt
  have W0 : Hid ((w2.alloc (.cells #[.slice Am m cm] 26)).heap[w2.heap.size]? = some (.cells #[.slice Am m cm] 26 (0, 0))) := heap_alloc_new w2 _
  have R0 : Hid ((w2.alloc (.cells #[.slice Am m cm] 26)).heap[w.heap.size]? = some (.cells #[.slice none 0 0] 26 (0, 0))) := (Below.heap_alloc w2 _ _ (by omega)).trans r2.out
  have x0 : (w2.alloc (.cells #[.slice Am m cm] 26)).cell? ⟨w2.heap.size, 0, none⟩ = some (.slice Am m cm) := (cell_of_row _ _ 0 _ _ (0, 0) W0.out).trans rfl
  have CS : Hid (Calls Try.prog 47 #[.pointer (some ⟨w.heap.size + 1, 0, none⟩), .int .i64 m] (w2.alloc (.cells #[.slice Am m cm] 26)).drew (Picked (fun r => (Lit.int .i64 r).wf = true) .i64 (w.heap.size + 1) A n c bs (0 + 60 + 5) (w2.alloc (.cells #[.slice Am m cm] 26)).drew)) :=
    spot_any (w.heap.size + 1) A n c bs (0 + 60) m _ (C2.out.alloc _) (by omega) (by omega) (by omega)
  have CW : Hid (∀ w3, Cur w3 (w.heap.size + 1) A n c bs (0 + 60 + 5) → Calls Try.prog 48 #[.pointer (some ⟨w.heap.size + 1, 0, none⟩)] w3 (Picked (fun r => 0 ≤ r ∧ r < 4294967296) .u32 (w.heap.size + 1) A n c bs (0 + 60 + 5 + 5) w3)) :=
    fun w3 h3 => cword_any (w.heap.size + 1) A n c bs (0 + 60 + 5) w3 h3 (by omega)
  have F3 : Hid (∀ w3, (w2.alloc (.cells #[.slice Am m cm] 26)).drew.grownBy w3 (some (w.heap.size + 1)) → w3.cell? ⟨w2.heap.size, 0, none⟩ = some (.slice Am m cm) ∧ Hid (w3.heap[w2.heap.size]? = some (.cells #[.slice Am m cm] 26 (0, 0))) ∧ Hid (w3.heap[w.heap.size]? = some (.cells #[.slice none 0 0] 26 (0, 0)))) := by
    intro w3 g3
    have q1 := (g3.block w2.heap.size (by simp) (by simp; omega)).trans W0.out
    have q0 := (g3.block w.heap.size (by simp; omega) (by simp)).trans R0.out
    exact ⟨(cell_of_row w3 _ 0 _ _ (0, 0) q1).trans rfl, q1, q0⟩
  have F4 : Hid (∀ w3 w4 : World, w3.heap[w2.heap.size]? = some (.cells #[.slice Am m cm] 26 (0, 0)) → w3.heap[w.heap.size]? = some (.cells #[.slice none 0 0] 26 (0, 0)) → w3.grownBy w4 (some (w.heap.size + 1)) →
      w4.cell? ⟨w2.heap.size, 0, none⟩ = some (.slice Am m cm) ∧ w4.cell? ⟨w.heap.size, 0, none⟩ = some (.slice none 0 0) ∧ w4.frozen? ⟨w.heap.size, 0, none⟩ = false ∧ (∀ v, (w4.setCell ⟨w.heap.size, 0, none⟩ v).cell? ⟨w2.heap.size, 0, none⟩ = some (.slice Am m cm))) := by
    intro w3 w4 h1 h0 g4
    have l1 := (Array.getElem?_eq_some_iff.1 h1).1
    have q1 := (g4.block _ l1 (by simp; omega)).trans h1
    have q0 := (g4.block w.heap.size (by omega) (by simp)).trans h0
    have c1 : w4.cell? ⟨w2.heap.size, 0, none⟩ = some (.slice Am m cm) := (cell_of_row w4 _ 0 _ _ (0, 0) q1).trans rfl
    exact ⟨c1, (cell_of_row w4 _ 0 _ _ (0, 0) q0).trans rfl, free_blk q0 0, fun v => (World.cell?_setCell_other w4 ⟨w.heap.size, 0, none⟩ ⟨w2.heap.size, 0, none⟩ v (fun e => by injection e; omega)).trans c1⟩
  go_wp2_with fail
  go_region_held3 (fun w' => w'.cell? ⟨w2.heap.size, 0, none⟩ = some (.slice Am m cm))
    (first | exact x0 | exact x3 | exact x4 | exact s4 _)
    (first | (go_at_call 47; refine CS.out.mono ?_; rintro e w3 ⟨at_, rfl, hat, C3, G3⟩; obtain ⟨x3, Q1, Q0⟩ := F3.out w3 G3.out; have HAT := Lib.hid hat; clear hat)
           | (go_at_call 48; refine (CW.out w3 C3.out).mono ?_; rintro e w4 ⟨x, rfl, ⟨hx0, hx1⟩, C4, G4⟩; obtain ⟨x4, d4, f4, s4⟩ := F4.out w3 w4 Q1.out Q0.out G4.out))
  go_wp2
  refine bodyPost_ret (v := .tuple #[.agg #[.slice Am m cm], .int .i64 at_, .int .u32 x]) (by simp [results, Try.results32, go_sem, d4]) rfl ⟨Am, m, cm, ws, at_, x, rfl, hm, W2.out, HAT.out, hx0, hx1, ?_, ?_⟩
  · have o4 := own_farP (own_far' (O2.out.alloc _) G3.out (by omega)) G4.out (by omega)
    exact (o4.low (by simp; omega) _).from_ (by omega)
  · have b3 := below_of_grown (BB2.out.alloc (by omega) (.cells #[.slice Am m cm] 26)).drew G3.out (by omega) (by simp; omega)
    have z3 := b3.size
    exact (below_of_grown b3 G4.out (by omega) (by omega)).setCell (by simp) _

end Go.Proofs.Ytiliahmaolnfbaa
