/- The model's cursor, which hands out numbers from a row of bytes: what pick, size, once, wide, raw, word and spot leave. Conditions: few numbers were handed out. -/
import Derived.Test.YtibkjnfbpgohbaaOwnK
import Derived.Deep.RegionHeld3
namespace Go.Proofs.Ytibkjnfbpgohbaa
open Go.RowKit

/-- Block b is a cursor over the bytes bs at A; it has handed out at most K numbers. -/
def Cur (w : World) (b : Nat) (A : Option Addr) (n c : Nat) (bs : List Int) (K : Nat) : Prop :=
  (∃ at_ seed : Int, w.heap[b]? = some (.cells #[.slice A n c, .int .i64 at_, .int .i64 seed] 34 (0, 0)) ∧ 0 ≤ at_ ∧ at_ ≤ K ∧ 0 ≤ seed ∧ seed < 65521) ∧
  RdK .u8 w b A n bs ∧ (∀ z ∈ bs, 0 ≤ z ∧ z < 256) ∧ n ≤ 1048576

section
variable {w w' w'' : World} {b n c K K' : Nat} {A : Option Addr} {bs : List Int} {row : Option Nat}
theorem gtrans (h : w.grownBy w' row) (k : w'.grownBy w'' row) : w.grownBy w'' row :=
  ⟨k.os.trans h.os, k.tape.trans h.tape, k.output.trans h.output, Nat.le_trans h.size k.size, fun i hi hne => (k.block i (Nat.lt_of_lt_of_le hi h.size) hne).trans (h.block i hi hne)⟩
theorem gbelow (h : Below w.heap.size w w') : w.grownBy w' row := ⟨h.os, h.tape, h.output, h.size, fun i hi _ => h.block i hi⟩
theorem gset (b o : Nat) (v : Value) (w : World) : w.grownBy (w.setCell ⟨b, o, none⟩ v) (some b) :=
  ⟨rfl, rfl, rfl, by simp [World.setCell], fun i _ hne => Below.heap_setCell w ⟨b, o, none⟩ v i (fun e => hne (by simp [e]))⟩
theorem gdrewN (k : Nat) (h : w.grownBy w' row) : w.grownBy (w'.drewN k) row := ⟨h.os, h.tape, h.output, h.size, h.block⟩
theorem gdrew (h : w.grownBy w' row) : w.grownBy w'.drew row := ⟨h.os, h.tape, h.output, h.size, h.block⟩
theorem galloc (h : w.grownBy w' row) (o : Obj) : w.grownBy (w'.alloc o) row := gtrans h (World.grownBy_alloc w' o row)
theorem Cur.lt (h : Cur w b A n c bs K) : b < w.heap.size := by obtain ⟨⟨_, _, hb, _⟩, _⟩ := h; exact (Array.getElem?_eq_some_iff.1 hb).1
theorem Cur.mono (h : Cur w b A n c bs K) (hk : K ≤ K') : Cur w b A n c bs K' := by
  obtain ⟨⟨a, s, hb, h1, h2, h3⟩, r⟩ := h
  exact ⟨⟨a, s, hb, h1, by omega, h3⟩, r⟩
/-- The cursor is kept where its block and what lies below are. -/
theorem Cur.keep (h : Cur w b A n c bs K) (hk : ∀ k, k ≤ b → w'.heap[k]? = w.heap[k]?) : Cur w' b A n c bs K := by
  obtain ⟨⟨a, s, hb, h1⟩, r, f⟩ := h
  exact ⟨⟨a, s, (hk b (Nat.le_refl _)).trans hb, h1⟩, r.keep (fun p hp => World.cell?_of_block (hk p.block (by omega))), f⟩
theorem Cur.below (h : Cur w b A n c bs K) (hb : Below w.heap.size w w') : Cur w' b A n c bs K := h.keep fun k hk => hb.block k (by have := h.lt; omega)
theorem Cur.alloc (h : Cur w b A n c bs K) (o : Obj) : Cur (w.alloc o) b A n c bs K := h.keep fun k hk => Below.heap_alloc w o k (by have := h.lt; omega)
theorem Cur.drew (h : Cur w b A n c bs K) : Cur w.drew b A n c bs K := h
theorem Cur.drewN (h : Cur w b A n c bs K) (k : Nat) : Cur (w.drewN k) b A n c bs K := h
theorem Cur.set1 {a s : Int} (hb : w.heap[b]? = some (.cells #[.slice A n c, .int .i64 a, .int .i64 s] 34 (0, 0))) (hr : RdK .u8 w b A n bs) (hf : ∀ z ∈ bs, 0 ≤ z ∧ z < 256) (hn : n ≤ 1048576)
    (h1 : 0 ≤ a) (h2 : a ≤ K) (h3 : 0 ≤ s) (h4 : s < 65521) : Cur (w.setCell ⟨b, 1, none⟩ (.int .i64 (a + 1))) b A n c bs (K + 1) := by
  refine ⟨⟨a + 1, s, ?_, by omega, by omega, h3, h4⟩, hr.keep (fun p hp => World.cell?_of_block (Below.heap_setCell w _ _ _ (by show p.block ≠ b; omega))), hf, hn⟩
  simp [World.setCell, Array.getElem?_modify, hb]
theorem Cur.set2 {a s s' : Int} (hb : w.heap[b]? = some (.cells #[.slice A n c, .int .i64 a, .int .i64 s] 34 (0, 0))) (hr : RdK .u8 w b A n bs) (hf : ∀ z ∈ bs, 0 ≤ z ∧ z < 256) (hn : n ≤ 1048576)
    (h1 : 0 ≤ a) (h2 : a ≤ K) (h3 : 0 ≤ s') (h4 : s' < 65521) : Cur ((w.setCell ⟨b, 2, none⟩ (.int .i64 s')).setCell ⟨b, 1, none⟩ (.int .i64 (a + 1))) b A n c bs (K + 1) := by
  refine Cur.set1 (s := s') ?_ (hr.keep (fun p hp => World.cell?_of_block (Below.heap_setCell w _ _ _ (by show p.block ≠ b; omega)))) hf hn h1 h2 h3 h4
  simp [World.setCell, Array.getElem?_modify, hb]
end

/-- What a call on the cursor leaves: some number with P, the cursor, and nothing else turned. -/
def Picked (P : Int → Prop) (kd : IntKind) (b : Nat) (A : Option Addr) (n c : Nat) (bs : List Int) (K : Nat) (w : World) (e : Ending) (w' : World) : Prop :=
  ∃ r : Int, e = .returned (.int kd r) ∧ P r ∧ Hid (Cur w' b A n c bs K) ∧ Hid (w.grownBy w' (some b))

theorem byte_at {bs : List Int} (hf : ∀ z ∈ bs, 0 ≤ z ∧ z < 256) (k : Nat) : 0 ≤ bs[k]?.getD 0 ∧ bs[k]?.getD 0 < 256 := by
  by_cases h : k < bs.length
  · rw [List.getElem?_eq_getElem h, Option.getD_some]; exact hf _ (List.getElem_mem h)
  · rw [List.getElem?_eq_none (by omega)]; simp

set_option maxRecDepth 100000 in
set_option maxHeartbeats 4000000 in
theorem pick_any (b : Nat) (A : Option Addr) (n c : Nat) (bs : List Int) (K : Nat) (N : Int) (w : World) (h : Cur w b A n c bs K) (hK : K ≤ 1000000) (hN : N ≤ 1000000000000) :
    Calls Try.prog 9 #[.pointer (some ⟨b, 0, none⟩), .int .i64 N] w (Picked (fun r => 0 ≤ r ∧ (r < N ∨ r = 0)) .i64 b A n c bs (K + 1) w) := by
  by_cases h2 : N < 2
  · have H := Lib.hid (h.mono (Nat.le_succ K))
    clear h
    go_enter Try.func9, Try.ntmps9
    go_wp2
    go_ret
    exact ⟨0, rfl, ⟨by omega, Or.inr rfl⟩, H, World.grownBy.refl _ _⟩
  · obtain ⟨⟨a, s, hb, ha0, haK, hs0, hs1⟩, hr, hf, hn⟩ := h
    have c0 : w.cell? ⟨b, 0, none⟩ = some (.slice A n c) := (cell_of_row w b 0 _ _ (0, 0) hb).trans rfl
    have c1 : w.cell? ⟨b, 1, none⟩ = some (.int .i64 a) := (cell_of_row w b 1 _ _ (0, 0) hb).trans rfl
    have c2 : w.cell? ⟨b, 2, none⟩ = some (.int .i64 s) := (cell_of_row w b 2 _ _ (0, 0) hb).trans rfl
    have f1 : w.frozen? ⟨b, 1, none⟩ = false := by simp [World.frozen?, hb]
    have f2 : w.frozen? ⟨b, 2, none⟩ = false := by simp [World.frozen?, hb]
    have HB := Lib.hid hb
    have HR := Lib.hid hr
    have HF := Lib.hid hf
    clear hb hr hf
    obtain ⟨j, rfl⟩ := Int.eq_ofNat_of_zero_le ha0
    by_cases hlt : j < n
    · obtain ⟨g, o, rfl, hg, hc⟩ := HR.out.2 (by omega)
      have cj := hc j hlt
      have by1 := (byte_at HF.out j).1
      have by2 := (byte_at HF.out j).2
      generalize bs[j]?.getD 0 = z at *
      have hgb : ¬ g = b := by omega
      have d1 : decide ((j : Int) < (n : Int)) = true := by simp; omega
      clear hc
      go_enter Try.func9, Try.ntmps9
      go_wp2
      go_quiet (fail)
      go_wp2
      go_quiet (fail)
      go_wp2
      go_ret
      exact ⟨z % N, rfl, ⟨Int.emod_nonneg _ (by omega), Or.inl (Int.emod_lt_of_pos _ (by omega))⟩, Cur.set1 (w := w.drewN _) HB.out HR.out HF.out hn (by omega) haK hs0 hs1, gtrans (gdrewN _ (World.grownBy.refl w _)) (gset b 1 _ _)⟩
    · have d1 : decide ((j : Int) < (n : Int)) = false := by simp; omega
      have q0 : 0 ≤ (s * 1103 + 12345) % 65521 := Int.emod_nonneg _ (by omega)
      have q1 : (s * 1103 + 12345) % 65521 < 65521 := Int.emod_lt_of_pos _ (by omega)
      by_cases hn0 : n = 0
      · subst hn0
        go_enter Try.func9, Try.ntmps9
        go_wp2
        go_quiet (fail)
        go_wp2
        go_ret
        exact ⟨0, by simp, ⟨by omega, Or.inr rfl⟩, Cur.set2 (w := w.drewN _) HB.out HR.out HF.out hn (by omega) haK q0 q1, gtrans (gtrans (gdrewN _ (World.grownBy.refl w _)) (gset b 2 _ _)) (gset b 1 _ _)⟩
      · obtain ⟨g, o, rfl, hg, hc⟩ := HR.out.2 (by omega)
        obtain ⟨m, hm⟩ : ∃ m, m = j % n := ⟨_, rfl⟩
        have ml : m < n := by rw [hm]; exact Nat.mod_lt _ (by omega)
        have cj := hc m ml
        have by1 := (byte_at HF.out m).1
        have by2 := (byte_at HF.out m).2
        generalize bs[m]?.getD 0 = z at *
        have hgb : ¬ g = b := by omega
        have hgb' : ¬ b = g := by omega
        have hp : (0 : Int) < (n : Int) := by omega
        have em : (j : Int) % (n : Int) = (m : Int) := by rw [hm]; omega
        have et : (j : Int).tmod (n : Int) = (m : Int) := by rw [Int.tmod_eq_emod_of_nonneg (by omega)]; exact em
        have ew : IntKind.i64.wrap (m : Int) = (m : Int) := IntWalk.i64_in _ (by omega)
        have ml1 : (0 : Int) ≤ (m : Int) := by omega
        have ml2 : (m : Int) < (n : Int) := by omega
        have HQ : ∀ q : Int, 0 ≤ q → q < 65521 → 0 ≤ q / 7 ∧ q / 7 ≤ 10000 := fun q h1 h2 => by omega
        have HQ' := Lib.hid HQ
        clear hm HQ
        clear hc
        go_enter Try.func9, Try.ntmps9
        go_wp2
        go_quiet (fail)
        go_wp2
        generalize (s * 1103 + 12345) % 65521 = q at *
        have qd : q.tdiv 7 = q / 7 := Int.tdiv_eq_ediv_of_nonneg q0
        have q7 := (HQ'.out q q0 q1).1
        have q8 := (HQ'.out q q0 q1).2
        have qw : IntKind.i64.wrap (q / 7) = q / 7 := IntWalk.i64_in _ (by omega)
        have qz : IntKind.i64.wrap (q / 7 + z) = q / 7 + z := IntWalk.i64_in _ (by omega)
        have zw : IntKind.i64.wrap z = z := IntWalk.i64_in _ (by omega)
        go_quiet (fail)
        go_wp2
        go_ret
        exact ⟨(q / 7 + z) % N, rfl, ⟨Int.emod_nonneg _ (by omega), Or.inl (Int.emod_lt_of_pos _ (by omega))⟩, (Cur.set2 (w := w.drewN _) HB.out HR.out HF.out hn (by omega) haK q0 q1).keep (fun _ _ => rfl), gtrans (gdrewN _ (gtrans (gdrewN _ (World.grownBy.refl w _)) (gset b 2 _ _))) (gset b 1 _ _)⟩

/-- A cell of a block that stands apart from the cursor's. -/
theorem lit_cell {w w' : World} {b g : Nat} {cs : Array Value} {t : TypeId} (h : w.grownBy w' (some b)) (hg : w.heap[g]? = some (.cells cs t (0, 0))) (hne : g ≠ b) : ∀ k, w'.cell? ⟨g, k, none⟩ = cs[k]? := fun k =>
  cell_of_row w' g k cs t (0, 0) ((h.block g (Array.getElem?_eq_some_iff.1 hg).1 (by simp [hne])).trans hg)
theorem wf_i64 {r : Int} (h0 : -1000000000 ≤ r) (h1 : r ≤ 1000000000) : (Lit.int .i64 r).wf = true := by
  simp [Lit.wf, IntKind.min, IntKind.max, IntKind.bits, IntKind.signed]; omega
theorem seven {r : Int} (h0 : 0 ≤ r) (h : r < 7 ∨ r = 0) : r = 0 ∨ r = 1 ∨ r = 2 ∨ r = 3 ∨ r = 4 ∨ r = 5 ∨ r = 6 := by omega
theorem eightC {r : Int} (h0 : 0 ≤ r) (h : r < 8 ∨ r = 0) : r = 0 ∨ r = 1 ∨ r = 2 ∨ r = 3 ∨ r = 4 ∨ r = 5 ∨ r = 6 ∨ r = 7 := by omega
theorem four {r : Int} (h0 : 0 ≤ r) (h : r < 4 ∨ r = 0) : r = 0 ∨ r = 1 ∨ r = 2 ∨ r = 3 := by omega

set_option maxRecDepth 100000 in
set_option maxHeartbeats 4000000 in
theorem raw_any (b : Nat) (A : Option Addr) (n c : Nat) (bs : List Int) (K : Nat) (w : World) (h : Cur w b A n c bs K) (hK : K ≤ 800000) :
    Calls Try.prog 10 #[.pointer (some ⟨b, 0, none⟩)] w (Picked (fun r => (Lit.int .i64 r).wf = true) .i64 b A n c bs (K + 2) w) := by
  have H := Lib.hid h
  clear h
  go_enter Try.func10, Try.ntmps10
  go_wp2_with fail
  refine (pick_any b A n c bs K 8 _ H.out (by omega) (by omega)).mono ?_
  rintro e w1 ⟨r1, rfl, ⟨p0, p1⟩, H1, G1⟩
  by_cases e0 : r1 = 0
  · subst e0
    go_wp2_with fail
    refine (pick_any b A n c bs (K + 1) 256 _ H1.out (by omega) (by omega)).mono ?_
    rintro e w2 ⟨r2, rfl, ⟨s0, s1⟩, H2, G2⟩
    have s2 : r2 < 256 := by omega
    clear s1
    go_wp2
    go_ret
    exact ⟨_, rfl, wf_i64 (by omega) (by omega), H2, gtrans G1.out G2.out⟩
  · have b0 : (r1 == 0) = false := by simp [e0]
    by_cases e1 : r1 = 1
    · subst e1
      go_wp2_with fail
      have hlt := H1.out.lt
      refine (pick_any b A n c bs (K + 1) 8 _ (H1.out.alloc _) (by omega) (by omega)).mono ?_
      rintro e w2 ⟨r2, rfl, ⟨s0, s1⟩, H2, G2⟩
      obtain ⟨v, hv, hc⟩ : ∃ v : Int, Hid ((Lit.int .i64 v).wf = true) ∧ w2.cell? ⟨w1.heap.size, r2.toNat, none⟩ = some (.int .i64 v) := by
        have hcell := lit_cell (g := w1.heap.size) G2.out (heap_alloc_new w1 _) (by omega)
        rcases eightC s0 s1 with rfl | rfl | rfl | rfl | rfl | rfl | rfl | rfl
        · exact ⟨9223372036854775807, (show (Lit.int .i64 (9223372036854775807)).wf = true by kernel_rfl), hcell 0⟩
        · exact ⟨-9223372036854775808, (show (Lit.int .i64 (-9223372036854775808)).wf = true by kernel_rfl), hcell 1⟩
        · exact ⟨4611686018427387904, (show (Lit.int .i64 (4611686018427387904)).wf = true by kernel_rfl), hcell 2⟩
        · exact ⟨4294967295, (show (Lit.int .i64 (4294967295)).wf = true by kernel_rfl), hcell 3⟩
        · exact ⟨4294967296, (show (Lit.int .i64 (4294967296)).wf = true by kernel_rfl), hcell 4⟩
        · exact ⟨-1000, (show (Lit.int .i64 (-1000)).wf = true by kernel_rfl), hcell 5⟩
        · exact ⟨1000, (show (Lit.int .i64 (1000)).wf = true by kernel_rfl), hcell 6⟩
        · exact ⟨64, (show (Lit.int .i64 (64)).wf = true by kernel_rfl), hcell 7⟩
      have s2 : r2 < 8 := by omega
      clear s1
      go_wp2
      go_ret
      exact ⟨v, rfl, hv.out, H2, gtrans (gtrans G1.out (World.grownBy_alloc _ _ _)) G2.out⟩
    · have b1 : (r1 == 1) = false := by simp [e1]
      clear e0 e1
      go_wp2_with fail
      refine (pick_any b A n c bs (K + 1) 14 _ H1.out (by omega) (by omega)).mono ?_
      rintro e w2 ⟨r2, rfl, ⟨s0, s1⟩, H2, G2⟩
      have s2 : r2 < 14 := by omega
      clear s1
      go_wp2
      go_ret
      exact ⟨_, rfl, wf_i64 (by omega) (by omega), H2, gtrans G1.out G2.out⟩

end Go.Proofs.Ytibkjnfbpgohbaa
