/- DrawWarpStart: three numbers are drawn, whatever the order of its one region; nothing old has turned. One lemma a state of the region, not one walk an order. -/
import Derived.Test.YtibkjnfbpgohbaaCurOpen
import Derived.Deep.RegionHeld3
import Derived.OpenShut
namespace Go.Proofs.Ytibkjnfbpgohbaa
open Go.RowKit
set_option linter.unusedVariables false
set_option linter.unusedSimpArgs false

theorem by_states {P : Program} {md : Region.Mode} {ops : Array Oper} {Q : Exit → Act → World → Prop} {S : World → Prop} {fuel : Nat} {listed : Array Bool} {a : Act} {w : World}
    (hN : ∀ c a a' w, Q (.panic c) a w → Q (.panic c) a' w)
    (h : ∀ (ops' : Array Oper) (Q' : Exit → Act → World → Prop), Hid (ops' = ops) → Hid (Q' = Q) → Hid (∀ c a a' w, Q' (.panic c) a w → Q' (.panic c) a' w) → wpAnyH P md ops' Q' S fuel listed a w) : wpAnyH P md ops Q S fuel listed a w := h ops Q rfl rfl hN
theorem of_ops {P : Program} {md : Region.Mode} {ops ops' : Array Oper} {Q : Exit → Act → World → Prop} {S : World → Prop} {fuel : Nat} {listed : Array Bool} {a : Act} {w : World} (h : ops' = ops)
    (k : wpAnyH P md ops Q S fuel listed a w) : wpAnyH P md ops' Q S fuel listed a w := h ▸ k
theorem to_ops {P : Program} {md : Region.Mode} {ops ops' : Array Oper} {Q : Exit → Act → World → Prop} {S : World → Prop} {fuel : Nat} {listed : Array Bool} {a : Act} {w : World} (h : ops' = ops)
    (k : wpAnyH P md ops' Q S fuel listed a w) : wpAnyH P md ops Q S fuel listed a w := h ▸ k
theorem of_post {P : Program} {md : Region.Mode} {ops : Array Oper} {Q Q' : Exit → Act → World → Prop} {S : World → Prop} {fuel : Nat} {listed : Array Bool} {a : Act} {w : World} (h : Q' = Q)
    (k : wpAnyH P md ops Q S fuel listed a w) : wpAnyH P md ops Q' S fuel listed a w := h ▸ k
/-- Where the cursor lies. -/
abbrev pv (w : World) : Value := .pointer (some ⟨w.heap.size, 0, none⟩)
def Any3 (w : World) (e : Ending) (w' : World) : Prop := ∃ a b c : Int, e = .returned (.tuple #[.int .i64 a, .int .i64 b, .int .i64 c]) ∧ Below w.heap.size w w'
/-- k calls are done: the cursor stands in the first new block, nothing old has turned. -/
def CS (w : World) (A : Option Addr) (n c : Nat) (bs : List Int) (k : Nat) (wr : World) : Prop := Cur wr w.heap.size A n c bs (2 * k) ∧ Below w.heap.size w wr
/-- A literal of three, of four numbers, of which nothing is told. -/
def Lt3 (w wr : World) (g : Nat) : Prop := w.heap.size < g ∧ ∃ a b c : Int, wr.heap[g]? = some (.cells #[.int .i64 a, .int .i64 b, .int .i64 c] 3 (0, 0))
def Lt4 (w wr : World) (g : Nat) : Prop := w.heap.size < g ∧ ∃ a b c d : Int, wr.heap[g]? = some (.cells #[.int .i64 a, .int .i64 b, .int .i64 c, .int .i64 d] 3 (0, 0))
section
variable {w wr w' : World} {A : Option Addr} {n c k g : Nat} {bs : List Int}
theorem CS.lt (h : CS w A n c bs k wr) : w.heap.size < wr.heap.size := h.1.lt
theorem CS.alloc (h : CS w A n c bs k wr) (o : Obj) : CS w A n c bs k (wr.alloc o) := ⟨h.1.alloc o, h.2.alloc h.2.size o⟩
theorem cs_pick (h : CS w A n c bs k wr) (N : Int) (hk : k ≤ 20) (hN : N ≤ 1000) :
    Calls Try.prog 9 #[.pointer (some ⟨w.heap.size, 0, none⟩), .int .i64 N] wr fun e w' => ∃ r : Int, e = .returned (.int .i64 r) ∧ 0 ≤ r ∧ (r < N ∨ r = 0) ∧ Hid (CS w A n c bs (k + 1) w') ∧ Hid (wr.grownBy w' (some w.heap.size)) :=
  (pick_any w.heap.size A n c bs (2 * k) N wr h.1 (by omega) (by omega)).mono fun _ _ ⟨x, he, hx, hc, hg⟩ => ⟨x, he, hx.1, hx.2, ⟨hc.out.mono (by omega), below_of_grown h.2 hg.out (Nat.le_refl _) h.2.size⟩, hg⟩
theorem cs_raw {N : Nat} (h : CS w A n c bs k wr) (hk : k ≤ 20) :
    Calls Try.prog 10 #[.pointer (some ⟨w.heap.size, 0, none⟩)] wr fun e w' => ∃ r : Int, e = .returned (.int .i64 r) ∧ Hid (CS w A n c bs (k + 1) w') ∧ Hid (wr.grownBy w' (some w.heap.size)) :=
  (raw_any w.heap.size A n c bs (2 * k) wr h.1 (by omega)).mono fun _ _ ⟨x, he, hx, hc, hg⟩ => ⟨x, he, ⟨hc.out.mono (by omega), below_of_grown h.2 hg.out (Nat.le_refl _) h.2.size⟩, hg⟩
theorem blk_call {o : Obj} (L : wr.heap[g]? = some o) (hg : wr.grownBy w' (some w.heap.size)) (hne : w.heap.size < g) : w'.heap[g]? = some o := (hg.block g (Array.getElem?_eq_some_iff.1 L).1 (by simp; omega)).trans L
theorem blk_alloc {o : Obj} (L : wr.heap[g]? = some o) (o' : Obj) : (wr.alloc o').heap[g]? = some o := (Below.heap_alloc wr o' g (Array.getElem?_eq_some_iff.1 L).1).trans L
theorem Lt3.call (h : Lt3 w wr g) (hg : wr.grownBy w' (some w.heap.size)) : Lt3 w w' g := ⟨h.1, h.2.imp fun _ h2 => h2.imp fun _ h3 => h3.imp fun _ h4 => blk_call h4 hg h.1⟩
theorem Lt4.call (h : Lt4 w wr g) (hg : wr.grownBy w' (some w.heap.size)) : Lt4 w w' g := ⟨h.1, h.2.imp fun _ h2 => h2.imp fun _ h3 => h3.imp fun _ h4 => h4.imp fun _ h5 => blk_call h5 hg h.1⟩
theorem Lt3.alloc (h : Lt3 w wr g) (o : Obj) : Lt3 w (wr.alloc o) g := ⟨h.1, h.2.imp fun _ h2 => h2.imp fun _ h3 => h3.imp fun _ h4 => blk_alloc h4 o⟩
theorem Lt4.alloc (h : Lt4 w wr g) (o : Obj) : Lt4 w (wr.alloc o) g := ⟨h.1, h.2.imp fun _ h2 => h2.imp fun _ h3 => h3.imp fun _ h4 => h4.imp fun _ h5 => blk_alloc h5 o⟩
theorem Lt3.new (wr : World) (h : w.heap.size < wr.heap.size) (a b c : Int) : Lt3 w (wr.alloc (.cells #[.int .i64 a, .int .i64 b, .int .i64 c] 3)) wr.heap.size := ⟨h, a, b, c, heap_alloc_new wr _⟩
theorem Lt4.new (wr : World) (h : w.heap.size < wr.heap.size) (a b c d : Int) : Lt4 w (wr.alloc (.cells #[.int .i64 a, .int .i64 b, .int .i64 c, .int .i64 d] 3)) wr.heap.size := ⟨h, a, b, c, d, heap_alloc_new wr _⟩
theorem Lt3.cell (h : Lt3 w wr g) {r : Int} (h0 : 0 ≤ r) (h1 : r < 3) : ∃ v : Int, wr.cell? ⟨g, r.toNat, none⟩ = some (.int .i64 v) := by
  obtain ⟨_, a, b, c, L⟩ := h
  have hcell := fun k => cell_of_row wr g k _ _ (0, 0) L
  rcases (show r = 0 ∨ r = 1 ∨ r = 2 by omega) with rfl | rfl | rfl
  · exact ⟨a, hcell 0⟩
  · exact ⟨b, hcell 1⟩
  · exact ⟨c, hcell 2⟩
theorem Lt4.cell (h : Lt4 w wr g) {r : Int} (h0 : 0 ≤ r) (h1 : r < 4) : ∃ v : Int, wr.cell? ⟨g, r.toNat, none⟩ = some (.int .i64 v) := by
  obtain ⟨_, a, b, c, d, L⟩ := h
  have hcell := fun k => cell_of_row wr g k _ _ (0, 0) L
  rcases (show r = 0 ∨ r = 1 ∨ r = 2 ∨ r = 3 by omega) with rfl | rfl | rfl | rfl
  · exact ⟨a, hcell 0⟩
  · exact ⟨b, hcell 1⟩
  · exact ⟨c, hcell 2⟩
  · exact ⟨d, hcell 3⟩
end

set_option maxRecDepth 100000 in
set_option maxHeartbeats 40000000 in
theorem drawStart (A : Option Addr) (n c : Nat) (bs : List Int) (w : World) (h : RdK .u8 w w.heap.size A n bs) (hf : ∀ z ∈ bs, 0 ≤ z ∧ z < 256) (hn : n ≤ 1048576) :
    Calls Try.prog 5 #[.slice A n c] w (Any3 w) := by
  have H := Lib.hid h
  have HF := Lib.hid hf
  clear h hf
  go_enter Try.func5, Try.ntmps5
  go_wp2_with fail
  refine (open_cur A n c bs _ H.out HF.out hn).mono ?_
  rintro e w1 ⟨rfl, C1, B1⟩
  have hC0 : Hid (CS w A n c bs 0 w1.drew) := ⟨C1.out.drew, B1.out.drew⟩
  clear H HF C1 B1
  go_wp2_with fail
  refine wp_region_noPanic ?_
  refine wp_region_held_drew (S := fun _ => True) (by kernel_rfl) trivial (fun hHeld => ?_)
  refine wpAnyH_take (i := 0) (v := ?v1) rfl (by kernel_rfl) (by kernel_rfl) (by kernel_rfl) (fun _ _ _ h => h) (Or.inl ⟨by rfl, ?hy1⟩) (by assumption) ?rest1
  case hy1 =>
    intro wz hSw
    clear hSw
    go_simp <;> with_reducible rfl
  try simp only [List.getElem_toArray, List.getElem_cons_zero, List.getElem_cons_succ, Act.put, List.setIfInBounds_toArray, List.set_cons_zero, List.set_cons_succ]
  refine wpAnyH_take (i := 2) (v := ?v2) rfl (by kernel_rfl) (by kernel_rfl) (by kernel_rfl) (fun _ _ _ h => h) (Or.inl ⟨by rfl, ?hy2⟩) (by assumption) ?rest2
  case hy2 =>
    intro wz hSw
    clear hSw
    go_simp <;> with_reducible rfl
  try simp only [List.getElem_toArray, List.getElem_cons_zero, List.getElem_cons_succ, Act.put, List.setIfInBounds_toArray, List.set_cons_zero, List.set_cons_succ]
  refine wpAnyH_take (i := 4) (v := ?v3) rfl (by kernel_rfl) (by kernel_rfl) (by kernel_rfl) (fun _ _ _ h => h) (Or.inl ⟨by rfl, ?hy3⟩) (by assumption) ?rest3
  case hy3 =>
    intro wz hSw
    clear hSw
    go_simp <;> with_reducible rfl
  try simp only [List.getElem_toArray, List.getElem_cons_zero, List.getElem_cons_succ, Act.put, List.setIfInBounds_toArray, List.set_cons_zero, List.set_cons_succ]
  refine wpAnyH_take (i := 7) (v := ?v4) rfl (by kernel_rfl) (by kernel_rfl) (by kernel_rfl) (fun _ _ _ h => h) (Or.inl ⟨by rfl, ?hy4⟩) (by assumption) ?rest4
  case hy4 =>
    intro wz hSw
    clear hSw
    go_simp <;> with_reducible rfl
  try simp only [List.getElem_toArray, List.getElem_cons_zero, List.getElem_cons_succ, Act.put, List.setIfInBounds_toArray, List.set_cons_zero, List.set_cons_succ]
  refine wpAnyH_take (i := 11) (v := ?v5) rfl (by kernel_rfl) (by kernel_rfl) (by kernel_rfl) (fun _ _ _ h => h) (Or.inl ⟨by rfl, ?hy5⟩) (by assumption) ?rest5
  case hy5 =>
    intro wz hSw
    clear hSw
    go_simp <;> with_reducible rfl
  try simp only [List.getElem_toArray, List.getElem_cons_zero, List.getElem_cons_succ, Act.put, List.setIfInBounds_toArray, List.set_cons_zero, List.set_cons_succ]
  refine wpAnyH_take (i := 13) (v := ?v6) rfl (by kernel_rfl) (by kernel_rfl) (by kernel_rfl) (fun _ _ _ h => h) (Or.inl ⟨by rfl, ?hy6⟩) (by assumption) ?rest6
  case hy6 =>
    intro wz hSw
    clear hSw
    go_simp <;> with_reducible rfl
  try simp only [List.getElem_toArray, List.getElem_cons_zero, List.getElem_cons_succ, Act.put, List.setIfInBounds_toArray, List.set_cons_zero, List.set_cons_succ]
  refine wpAnyH_take (i := 15) (v := ?v7) rfl (by kernel_rfl) (by kernel_rfl) (by kernel_rfl) (fun _ _ _ h => h) (Or.inl ⟨by rfl, ?hy7⟩) (by assumption) ?rest7
  case hy7 =>
    intro wz hSw
    clear hSw
    go_simp <;> with_reducible rfl
  try simp only [List.getElem_toArray, List.getElem_cons_zero, List.getElem_cons_succ, Act.put, List.setIfInBounds_toArray, List.set_cons_zero, List.set_cons_succ]
  refine wpAnyH_take (i := 18) (v := ?v8) rfl (by kernel_rfl) (by kernel_rfl) (by kernel_rfl) (fun _ _ _ h => h) (Or.inl ⟨by rfl, ?hy8⟩) (by assumption) ?rest8
  case hy8 =>
    intro wz hSw
    clear hSw
    go_simp <;> with_reducible rfl
  try simp only [List.getElem_toArray, List.getElem_cons_zero, List.getElem_cons_succ, Act.put, List.setIfInBounds_toArray, List.set_cons_zero, List.set_cons_succ]
  refine wpAnyH_take (i := 22) (v := ?v9) rfl (by kernel_rfl) (by kernel_rfl) (by kernel_rfl) (fun _ _ _ h => h) (Or.inl ⟨by rfl, ?hy9⟩) (by assumption) ?rest9
  case hy9 =>
    intro wz hSw
    clear hSw
    go_simp <;> with_reducible rfl
  try simp only [List.getElem_toArray, List.getElem_cons_zero, List.getElem_cons_succ, Act.put, List.setIfInBounds_toArray, List.set_cons_zero, List.set_cons_succ]
  refine wpAnyH_take (i := 25) (v := ?v10) rfl (by kernel_rfl) (by kernel_rfl) (by kernel_rfl) (fun _ _ _ h => h) (Or.inl ⟨by rfl, ?hy10⟩) (by assumption) ?rest10
  case hy10 =>
    intro wz hSw
    clear hSw
    go_simp <;> with_reducible rfl
  try simp only [List.getElem_toArray, List.getElem_cons_zero, List.getElem_cons_succ, Act.put, List.setIfInBounds_toArray, List.set_cons_zero, List.set_cons_succ]
  refine wpAnyH_take (i := 28) (v := ?v11) rfl (by kernel_rfl) (by kernel_rfl) (by kernel_rfl) (fun _ _ _ h => h) (Or.inl ⟨by rfl, ?hy11⟩) (by assumption) ?rest11
  case hy11 =>
    intro wz hSw
    clear hSw
    go_simp <;> with_reducible rfl
  try simp only [List.getElem_toArray, List.getElem_cons_zero, List.getElem_cons_succ, Act.put, List.setIfInBounds_toArray, List.set_cons_zero, List.set_cons_succ]
  refine by_states (fun _ _ _ _ h => h) (fun ops Q hops hQ hPan => ?_)
  generalize w1.drew = w2 at *
  have st_11_222 : Hid (∀ (wr : World) (r1 : Int) (r2 : Int) (r3 : Int) (r4 : Int) (r5 : Int) (r6 : Int) (r7 : Int) (r8 : Int) (r9 : Int) (r10 : Int) (r11 : Int) (g1 : Nat) (g2 : Nat) (g3 : Nat) (v1 : Int) (v2 : Int) (v3 : Int), Hid (CS w A n c bs 11 wr) → wpAnyH Try.prog .any ops Q (fun _ => True) 1 #[true, true, true, true, true, true, true, true, true, true, true, true, true, true, true, true, true, true, true, true, true, true, true, true, true, true, true, true, true, true, true, true, true, true, false] { tmps := #[.slice A n c, undef, .int .i64 v1, .int .i64 v2, .int .i64 0, pv w, .slice A n c, pv w, pv w, .int .i64 r1, pv w, .int .i64 r2, pv w, .int .i64 r3, .slice (some ⟨g1, 0, none⟩) 3 3, pv w, .int .i64 r4, .pointer (some ⟨g1, Int.toNat r4, none⟩), .int .i64 v1, pv w, .int .i64 r5, pv w, .int .i64 r6, pv w, .int .i64 r7, .slice (some ⟨g2, 0, none⟩) 3 3, pv w, .int .i64 r8, .pointer (some ⟨g2, Int.toNat r8, none⟩), .int .i64 v2, pv w, .int .i64 r9, .int .i64 (1 + r9), pv w, .int .i64 r10, .slice (some ⟨g3, 0, none⟩) 4 4, pv w, .int .i64 r11, .pointer (some ⟨g3, Int.toNat r11, none⟩), .int .i64 v3], defers := [] } wr) := by
    clear hC0
    refine Lib.hid ?_
    intro wr r1 r2 r3 r4 r5 r6 r7 r8 r9 r10 r11 g1 g2 g3 v1 v2 v3 hC
    have hHeld : True := trivial
    refine of_ops hops.out ?_
    refine of_post hQ.out ?_
    clear hops hQ
    refine wpAnyH_take (i := 34) (v := ?v12) rfl (by kernel_rfl) (by kernel_rfl) (by kernel_rfl) (fun _ _ _ h => h) (Or.inl ⟨by rfl, ?hy12⟩) (by assumption) ?rest12
    case hy12 =>
      intro wz hSw
      clear hSw
      go_simp <;> with_reducible rfl
    try simp only [List.getElem_toArray, List.getElem_cons_zero, List.getElem_cons_succ, Act.put, List.setIfInBounds_toArray, List.set_cons_zero, List.set_cons_succ]
    refine wpAnyH_done (by kernel_rfl) ?_ _
    refine NoPanic.normal ?_
    go_wp2
    refine bodyPost_ret (v := .tuple #[.int .i64 v1, .int .i64 v2, .int .i64 v3]) (by simp [results, Try.results5, go_sem, *]) rfl ⟨v1, v2, v3, rfl, hC.out.2⟩
  have st_11_221 : Hid (∀ (wr : World) (r1 : Int) (r2 : Int) (r3 : Int) (r4 : Int) (r5 : Int) (r6 : Int) (r7 : Int) (r8 : Int) (r9 : Int) (r10 : Int) (r11 : Int) (g1 : Nat) (g2 : Nat) (g3 : Nat) (v1 : Int) (v2 : Int), Hid (CS w A n c bs 11 wr) → Hid (Lt4 w wr g3) → Hid (0 ≤ r11 ∧ r11 < 4) → wpAnyH Try.prog .any ops Q (fun _ => True) 2 #[true, true, true, true, true, true, true, true, true, true, true, true, true, true, true, true, true, true, true, true, true, true, true, true, true, true, true, true, true, true, true, false, true, true, false] { tmps := #[.slice A n c, undef, .int .i64 v1, .int .i64 v2, .int .i64 0, pv w, .slice A n c, pv w, pv w, .int .i64 r1, pv w, .int .i64 r2, pv w, .int .i64 r3, .slice (some ⟨g1, 0, none⟩) 3 3, pv w, .int .i64 r4, .pointer (some ⟨g1, Int.toNat r4, none⟩), .int .i64 v1, pv w, .int .i64 r5, pv w, .int .i64 r6, pv w, .int .i64 r7, .slice (some ⟨g2, 0, none⟩) 3 3, pv w, .int .i64 r8, .pointer (some ⟨g2, Int.toNat r8, none⟩), .int .i64 v2, pv w, .int .i64 r9, .int .i64 (1 + r9), pv w, .int .i64 r10, .slice (some ⟨g3, 0, none⟩) 4 4, pv w, .int .i64 r11, .pointer (some ⟨g3, Int.toNat r11, none⟩), undef], defers := [] } wr) := by
    clear hC0
    refine Lib.hid ?_
    intro wr r1 r2 r3 r4 r5 r6 r7 r8 r9 r10 r11 g1 g2 g3 v1 v2 hC hL3 hI3
    have hHeld : True := trivial
    refine of_ops hops.out ?_
    refine wpAnyH_ready (rs := [31]) (by kernel_rfl) (by simp) (AllReadyH.cons rfl (fun K hK => ?_) AllReadyH.nil)
    obtain ⟨v3, hc⟩ := hL3.out.cell hI3.out.1 hI3.out.2
    go_simp
    clear hHeld
    refine hK.out _ _ trivial (fun hHeld => ?_)
    clear hK K
    try simp only [List.getElem_toArray, List.getElem_cons_zero, List.getElem_cons_succ, Act.put, List.setIfInBounds_toArray, List.set_cons_zero, List.set_cons_succ]
    exact to_ops hops.out (st_11_222.out wr r1 r2 r3 r4 r5 r6 r7 r8 r9 r10 r11 g1 g2 g3 v1 v2 v3 hC)
  have st_10_221 : Hid (∀ (wr : World) (r1 : Int) (r2 : Int) (r3 : Int) (r4 : Int) (r5 : Int) (r6 : Int) (r7 : Int) (r8 : Int) (r9 : Int) (r10 : Int) (g1 : Nat) (g2 : Nat) (g3 : Nat) (v1 : Int) (v2 : Int), Hid (CS w A n c bs 10 wr) → Hid (Lt4 w wr g3) → wpAnyH Try.prog .any ops Q (fun _ => True) 6 #[true, true, true, true, true, true, true, true, true, true, true, true, true, true, true, true, true, true, true, true, true, true, true, true, true, true, true, true, true, false, false, false, false, false, false] { tmps := #[.slice A n c, undef, .int .i64 0, .int .i64 0, .int .i64 0, pv w, .slice A n c, pv w, pv w, .int .i64 r1, pv w, .int .i64 r2, pv w, .int .i64 r3, .slice (some ⟨g1, 0, none⟩) 3 3, pv w, .int .i64 r4, .pointer (some ⟨g1, Int.toNat r4, none⟩), .int .i64 v1, pv w, .int .i64 r5, pv w, .int .i64 r6, pv w, .int .i64 r7, .slice (some ⟨g2, 0, none⟩) 3 3, pv w, .int .i64 r8, .pointer (some ⟨g2, Int.toNat r8, none⟩), .int .i64 v2, pv w, .int .i64 r9, .int .i64 (1 + r9), pv w, .int .i64 r10, .slice (some ⟨g3, 0, none⟩) 4 4, pv w, undef, undef, undef], defers := [] } wr) := by
    clear hC0
    clear st_11_222
    refine Lib.hid ?_
    intro wr r1 r2 r3 r4 r5 r6 r7 r8 r9 r10 g1 g2 g3 v1 v2 hC hL3
    have hHeld : True := trivial
    refine of_ops hops.out ?_
    refine wpAnyH_ready (rs := [29]) (by kernel_rfl) (by simp) (AllReadyH.cons rfl (fun K hK => ?_) AllReadyH.nil)
    go_simp
    refine (cs_pick hC.out 4 (by omega) (by omega)).mono ?_
    rintro e w2 ⟨r11, rfl, p0, p1, hC2, hG⟩
    have p2 : r11 < 4 := by omega
    go_wp2_with fail
    clear hHeld
    refine hK.out _ _ trivial (fun hHeld => ?_)
    clear hK K
    try simp only [List.getElem_toArray, List.getElem_cons_zero, List.getElem_cons_succ, Act.put, List.setIfInBounds_toArray, List.set_cons_zero, List.set_cons_succ]
    refine wpAnyH_take (i := 30) (v := ?v13) rfl (by kernel_rfl) (by kernel_rfl) (by kernel_rfl) (fun _ _ _ h => hPan.out _ _ _ _ h) (Or.inl ⟨by rfl, ?hy13⟩) (by assumption) ?rest13
    case hy13 =>
      intro wz hSw
      clear hSw
      go_simp <;> with_reducible rfl
    try simp only [List.getElem_toArray, List.getElem_cons_zero, List.getElem_cons_succ, Act.put, List.setIfInBounds_toArray, List.set_cons_zero, List.set_cons_succ]
    have hL3' := Lib.hid (hL3.out.call hG.out)
    refine wpAnyH_take (i := 32) (v := ?v14) rfl (by kernel_rfl) (by kernel_rfl) (by kernel_rfl) (fun _ _ _ h => hPan.out _ _ _ _ h) (Or.inl ⟨by rfl, ?hy14⟩) (by assumption) ?rest14
    case hy14 =>
      intro wz hSw
      clear hSw
      go_simp <;> with_reducible rfl
    try simp only [List.getElem_toArray, List.getElem_cons_zero, List.getElem_cons_succ, Act.put, List.setIfInBounds_toArray, List.set_cons_zero, List.set_cons_succ]
    refine wpAnyH_take (i := 33) (v := ?v15) rfl (by kernel_rfl) (by kernel_rfl) (by kernel_rfl) (fun _ _ _ h => hPan.out _ _ _ _ h) (Or.inl ⟨by rfl, ?hy15⟩) (by assumption) ?rest15
    case hy15 =>
      intro wz hSw
      clear hSw
      go_simp <;> with_reducible rfl
    try simp only [List.getElem_toArray, List.getElem_cons_zero, List.getElem_cons_succ, Act.put, List.setIfInBounds_toArray, List.set_cons_zero, List.set_cons_succ]
    exact to_ops hops.out (st_11_221.out w2 r1 r2 r3 r4 r5 r6 r7 r8 r9 r10 r11 g1 g2 g3 v1 v2 hC2 hL3' ⟨p0, p2⟩)
  have st_11_220 : Hid (∀ (wr : World) (r1 : Int) (r2 : Int) (r3 : Int) (r4 : Int) (r5 : Int) (r6 : Int) (r7 : Int) (r8 : Int) (r9 : Int) (r10 : Int) (r11 : Int) (g1 : Nat) (g2 : Nat) (v1 : Int) (v2 : Int), Hid (CS w A n c bs 11 wr) → Hid (0 ≤ r11 ∧ r11 < 4) → wpAnyH Try.prog .any ops Q (fun _ => True) 4 #[true, true, true, true, true, true, true, true, true, true, true, true, true, true, true, true, true, true, true, true, true, true, true, true, true, true, true, false, true, true, false, false, true, true, false] { tmps := #[.slice A n c, undef, .int .i64 v1, .int .i64 v2, .int .i64 0, pv w, .slice A n c, pv w, pv w, .int .i64 r1, pv w, .int .i64 r2, pv w, .int .i64 r3, .slice (some ⟨g1, 0, none⟩) 3 3, pv w, .int .i64 r4, .pointer (some ⟨g1, Int.toNat r4, none⟩), .int .i64 v1, pv w, .int .i64 r5, pv w, .int .i64 r6, pv w, .int .i64 r7, .slice (some ⟨g2, 0, none⟩) 3 3, pv w, .int .i64 r8, .pointer (some ⟨g2, Int.toNat r8, none⟩), .int .i64 v2, pv w, .int .i64 r9, .int .i64 (1 + r9), pv w, .int .i64 r10, undef, pv w, .int .i64 r11, undef, undef], defers := [] } wr) := by
    clear hC0
    clear st_11_222 st_10_221
    refine Lib.hid ?_
    intro wr r1 r2 r3 r4 r5 r6 r7 r8 r9 r10 r11 g1 g2 v1 v2 hC hI3
    have hHeld : True := trivial
    refine of_ops hops.out ?_
    refine wpAnyH_ready (rs := [27]) (by kernel_rfl) (by simp) (AllReadyH.cons rfl (fun K hK => ?_) AllReadyH.nil)
    go_simp
    clear hHeld
    refine hK.out _ _ trivial (fun hHeld => ?_)
    clear hK K
    try simp only [List.getElem_toArray, List.getElem_cons_zero, List.getElem_cons_succ, Act.put, List.setIfInBounds_toArray, List.set_cons_zero, List.set_cons_succ]
    obtain ⟨i0, i1⟩ := hI3.out
    refine wpAnyH_take (i := 30) (v := ?v16) rfl (by kernel_rfl) (by kernel_rfl) (by kernel_rfl) (fun _ _ _ h => hPan.out _ _ _ _ h) (Or.inl ⟨by rfl, ?hy16⟩) (by assumption) ?rest16
    case hy16 =>
      intro wz hSw
      clear hSw
      go_simp <;> with_reducible rfl
    try simp only [List.getElem_toArray, List.getElem_cons_zero, List.getElem_cons_succ, Act.put, List.setIfInBounds_toArray, List.set_cons_zero, List.set_cons_succ]
    exact to_ops hops.out (st_11_221.out (wr.alloc (.cells #[.int .i64 (1 + r9), .int .i64 0, .int .i64 17, .int .i64 r10] 3)) r1 r2 r3 r4 r5 r6 r7 r8 r9 r10 r11 g1 g2 wr.heap.size v1 v2 (hC.out.alloc _) (Lt4.new _ hC.out.lt _ _ _ _) hI3)
  have st_10_220 : Hid (∀ (wr : World) (r1 : Int) (r2 : Int) (r3 : Int) (r4 : Int) (r5 : Int) (r6 : Int) (r7 : Int) (r8 : Int) (r9 : Int) (r10 : Int) (g1 : Nat) (g2 : Nat) (v1 : Int) (v2 : Int), Hid (CS w A n c bs 10 wr) → wpAnyH Try.prog .any ops Q (fun _ => True) 7 #[true, true, true, true, true, true, true, true, true, true, true, true, true, true, true, true, true, true, true, true, true, true, true, true, true, true, true, false, true, false, false, false, false, false, false] { tmps := #[.slice A n c, undef, .int .i64 0, .int .i64 0, .int .i64 0, pv w, .slice A n c, pv w, pv w, .int .i64 r1, pv w, .int .i64 r2, pv w, .int .i64 r3, .slice (some ⟨g1, 0, none⟩) 3 3, pv w, .int .i64 r4, .pointer (some ⟨g1, Int.toNat r4, none⟩), .int .i64 v1, pv w, .int .i64 r5, pv w, .int .i64 r6, pv w, .int .i64 r7, .slice (some ⟨g2, 0, none⟩) 3 3, pv w, .int .i64 r8, .pointer (some ⟨g2, Int.toNat r8, none⟩), .int .i64 v2, pv w, .int .i64 r9, .int .i64 (1 + r9), pv w, .int .i64 r10, undef, pv w, undef, undef, undef], defers := [] } wr) := by
    clear hC0
    clear st_11_222 st_11_221
    refine Lib.hid ?_
    intro wr r1 r2 r3 r4 r5 r6 r7 r8 r9 r10 g1 g2 v1 v2 hC
    have hHeld : True := trivial
    refine of_ops hops.out ?_
    refine wpAnyH_ready (rs := [27, 29]) (by kernel_rfl) (by simp) (AllReadyH.cons rfl (fun K hK => ?_) (AllReadyH.cons rfl (fun K hK => ?_) AllReadyH.nil))
    · go_simp
      clear hHeld
      refine hK.out _ _ trivial (fun hHeld => ?_)
      clear hK K
      try simp only [List.getElem_toArray, List.getElem_cons_zero, List.getElem_cons_succ, Act.put, List.setIfInBounds_toArray, List.set_cons_zero, List.set_cons_succ]
      exact to_ops hops.out (st_10_221.out (wr.alloc (.cells #[.int .i64 (1 + r9), .int .i64 0, .int .i64 17, .int .i64 r10] 3)) r1 r2 r3 r4 r5 r6 r7 r8 r9 r10 g1 g2 wr.heap.size v1 v2 (hC.out.alloc _) (Lt4.new _ hC.out.lt _ _ _ _))
    · go_simp
      refine (cs_pick hC.out 4 (by omega) (by omega)).mono ?_
      rintro e w2 ⟨r11, rfl, p0, p1, hC2, hG⟩
      have p2 : r11 < 4 := by omega
      go_wp2_with fail
      clear hHeld
      refine hK.out _ _ trivial (fun hHeld => ?_)
      clear hK K
      try simp only [List.getElem_toArray, List.getElem_cons_zero, List.getElem_cons_succ, Act.put, List.setIfInBounds_toArray, List.set_cons_zero, List.set_cons_succ]
      refine wpAnyH_take (i := 32) (v := ?v17) rfl (by kernel_rfl) (by kernel_rfl) (by kernel_rfl) (fun _ _ _ h => hPan.out _ _ _ _ h) (Or.inl ⟨by rfl, ?hy17⟩) (by assumption) ?rest17
      case hy17 =>
        intro wz hSw
        clear hSw
        go_simp <;> with_reducible rfl
      try simp only [List.getElem_toArray, List.getElem_cons_zero, List.getElem_cons_succ, Act.put, List.setIfInBounds_toArray, List.set_cons_zero, List.set_cons_succ]
      refine wpAnyH_take (i := 33) (v := ?v18) rfl (by kernel_rfl) (by kernel_rfl) (by kernel_rfl) (fun _ _ _ h => hPan.out _ _ _ _ h) (Or.inl ⟨by rfl, ?hy18⟩) (by assumption) ?rest18
      case hy18 =>
        intro wz hSw
        clear hSw
        go_simp <;> with_reducible rfl
      try simp only [List.getElem_toArray, List.getElem_cons_zero, List.getElem_cons_succ, Act.put, List.setIfInBounds_toArray, List.set_cons_zero, List.set_cons_succ]
      exact to_ops hops.out (st_11_220.out w2 r1 r2 r3 r4 r5 r6 r7 r8 r9 r10 r11 g1 g2 v1 v2 hC2 ⟨p0, p2⟩)
  have st_9_220 : Hid (∀ (wr : World) (r1 : Int) (r2 : Int) (r3 : Int) (r4 : Int) (r5 : Int) (r6 : Int) (r7 : Int) (r8 : Int) (r9 : Int) (g1 : Nat) (g2 : Nat) (v1 : Int) (v2 : Int), Hid (CS w A n c bs 9 wr) → wpAnyH Try.prog .any ops Q (fun _ => True) 8 #[true, true, true, true, true, true, true, true, true, true, true, true, true, true, true, true, true, true, true, true, true, true, true, true, true, true, false, false, true, false, false, false, false, false, false] { tmps := #[.slice A n c, undef, .int .i64 0, .int .i64 0, .int .i64 0, pv w, .slice A n c, pv w, pv w, .int .i64 r1, pv w, .int .i64 r2, pv w, .int .i64 r3, .slice (some ⟨g1, 0, none⟩) 3 3, pv w, .int .i64 r4, .pointer (some ⟨g1, Int.toNat r4, none⟩), .int .i64 v1, pv w, .int .i64 r5, pv w, .int .i64 r6, pv w, .int .i64 r7, .slice (some ⟨g2, 0, none⟩) 3 3, pv w, .int .i64 r8, .pointer (some ⟨g2, Int.toNat r8, none⟩), .int .i64 v2, pv w, .int .i64 r9, .int .i64 (1 + r9), pv w, undef, undef, pv w, undef, undef, undef], defers := [] } wr) := by
    clear hC0
    clear st_11_222 st_11_221 st_10_221 st_11_220
    refine Lib.hid ?_
    intro wr r1 r2 r3 r4 r5 r6 r7 r8 r9 g1 g2 v1 v2 hC
    have hHeld : True := trivial
    refine of_ops hops.out ?_
    refine wpAnyH_ready (rs := [26]) (by kernel_rfl) (by simp) (AllReadyH.cons rfl (fun K hK => ?_) AllReadyH.nil)
    go_simp
    refine (cs_raw (N := 0) hC.out (by omega)).mono ?_
    rintro e w2 ⟨r10, rfl, hC2, hG⟩
    go_wp2_with fail
    clear hHeld
    refine hK.out _ _ trivial (fun hHeld => ?_)
    clear hK K
    try simp only [List.getElem_toArray, List.getElem_cons_zero, List.getElem_cons_succ, Act.put, List.setIfInBounds_toArray, List.set_cons_zero, List.set_cons_succ]
    exact to_ops hops.out (st_10_220.out w2 r1 r2 r3 r4 r5 r6 r7 r8 r9 r10 g1 g2 v1 v2 hC2)
  have st_8_220 : Hid (∀ (wr : World) (r1 : Int) (r2 : Int) (r3 : Int) (r4 : Int) (r5 : Int) (r6 : Int) (r7 : Int) (r8 : Int) (g1 : Nat) (g2 : Nat) (v1 : Int) (v2 : Int), Hid (CS w A n c bs 8 wr) → wpAnyH Try.prog .any ops Q (fun _ => True) 10 #[true, true, true, true, true, true, true, true, true, true, true, true, true, true, true, true, true, true, true, true, true, true, true, false, false, true, false, false, true, false, false, false, false, false, false] { tmps := #[.slice A n c, undef, .int .i64 0, .int .i64 0, .int .i64 0, pv w, .slice A n c, pv w, pv w, .int .i64 r1, pv w, .int .i64 r2, pv w, .int .i64 r3, .slice (some ⟨g1, 0, none⟩) 3 3, pv w, .int .i64 r4, .pointer (some ⟨g1, Int.toNat r4, none⟩), .int .i64 v1, pv w, .int .i64 r5, pv w, .int .i64 r6, pv w, .int .i64 r7, .slice (some ⟨g2, 0, none⟩) 3 3, pv w, .int .i64 r8, .pointer (some ⟨g2, Int.toNat r8, none⟩), .int .i64 v2, pv w, undef, undef, pv w, undef, undef, pv w, undef, undef, undef], defers := [] } wr) := by
    clear hC0
    clear st_11_222 st_11_221 st_10_221 st_11_220 st_10_220
    refine Lib.hid ?_
    intro wr r1 r2 r3 r4 r5 r6 r7 r8 g1 g2 v1 v2 hC
    have hHeld : True := trivial
    refine of_ops hops.out ?_
    refine wpAnyH_ready (rs := [23]) (by kernel_rfl) (by simp) (AllReadyH.cons rfl (fun K hK => ?_) AllReadyH.nil)
    go_simp
    refine (cs_pick hC.out 16 (by omega) (by omega)).mono ?_
    rintro e w2 ⟨r9, rfl, p0, p1, hC2, hG⟩
    have p2 : r9 < 16 := by omega
    go_wp2_with fail
    clear hHeld
    refine hK.out _ _ trivial (fun hHeld => ?_)
    clear hK K
    try simp only [List.getElem_toArray, List.getElem_cons_zero, List.getElem_cons_succ, Act.put, List.setIfInBounds_toArray, List.set_cons_zero, List.set_cons_succ]
    have ew : IntKind.i64.wrap (1 + r9) = 1 + r9 := IntWalk.i64_in _ (by omega)
    refine wpAnyH_take (i := 24) (v := .int .i64 (1 + r9)) rfl (by kernel_rfl) (by kernel_rfl) (by kernel_rfl) (fun _ _ _ h => hPan.out _ _ _ _ h) (Or.inl ⟨by rfl, ?hy19⟩) (by assumption) ?rest19
    case hy19 =>
      intro wz hSw
      clear hSw
      first
        | (go_simp; done)
        | (go_simp <;> with_reducible rfl)
        | (go_simp; rw [ew])
    try simp only [List.getElem_toArray, List.getElem_cons_zero, List.getElem_cons_succ, Act.put, List.setIfInBounds_toArray, List.set_cons_zero, List.set_cons_succ]
    exact to_ops hops.out (st_9_220.out w2 r1 r2 r3 r4 r5 r6 r7 r8 r9 g1 g2 v1 v2 hC2)
  have st_11_212 : Hid (∀ (wr : World) (r1 : Int) (r2 : Int) (r3 : Int) (r4 : Int) (r5 : Int) (r6 : Int) (r7 : Int) (r8 : Int) (r9 : Int) (r10 : Int) (r11 : Int) (g1 : Nat) (g2 : Nat) (g3 : Nat) (v1 : Int) (v3 : Int), Hid (CS w A n c bs 11 wr) → Hid (Lt3 w wr g2) → Hid (0 ≤ r8 ∧ r8 < 3) → wpAnyH Try.prog .any ops Q (fun _ => True) 3 #[true, true, true, true, true, true, true, true, true, true, true, true, true, true, true, true, true, true, true, true, true, false, true, true, true, true, true, true, true, true, true, true, true, false, false] { tmps := #[.slice A n c, undef, .int .i64 v1, .int .i64 0, .int .i64 0, pv w, .slice A n c, pv w, pv w, .int .i64 r1, pv w, .int .i64 r2, pv w, .int .i64 r3, .slice (some ⟨g1, 0, none⟩) 3 3, pv w, .int .i64 r4, .pointer (some ⟨g1, Int.toNat r4, none⟩), .int .i64 v1, pv w, .int .i64 r5, pv w, .int .i64 r6, pv w, .int .i64 r7, .slice (some ⟨g2, 0, none⟩) 3 3, pv w, .int .i64 r8, .pointer (some ⟨g2, Int.toNat r8, none⟩), undef, pv w, .int .i64 r9, .int .i64 (1 + r9), pv w, .int .i64 r10, .slice (some ⟨g3, 0, none⟩) 4 4, pv w, .int .i64 r11, .pointer (some ⟨g3, Int.toNat r11, none⟩), .int .i64 v3], defers := [] } wr) := by
    clear hC0
    clear st_11_221 st_10_221 st_11_220 st_10_220 st_9_220 st_8_220
    refine Lib.hid ?_
    intro wr r1 r2 r3 r4 r5 r6 r7 r8 r9 r10 r11 g1 g2 g3 v1 v3 hC hL2 hI2
    have hHeld : True := trivial
    refine of_ops hops.out ?_
    refine wpAnyH_ready (rs := [21]) (by kernel_rfl) (by simp) (AllReadyH.cons rfl (fun K hK => ?_) AllReadyH.nil)
    obtain ⟨v2, hc⟩ := hL2.out.cell hI2.out.1 hI2.out.2
    go_simp
    clear hHeld
    refine hK.out _ _ trivial (fun hHeld => ?_)
    clear hK K
    try simp only [List.getElem_toArray, List.getElem_cons_zero, List.getElem_cons_succ, Act.put, List.setIfInBounds_toArray, List.set_cons_zero, List.set_cons_succ]
    refine wpAnyH_take (i := 33) (v := ?v20) rfl (by kernel_rfl) (by kernel_rfl) (by kernel_rfl) (fun _ _ _ h => hPan.out _ _ _ _ h) (Or.inl ⟨by rfl, ?hy20⟩) (by assumption) ?rest20
    case hy20 =>
      intro wz hSw
      clear hSw
      go_simp <;> with_reducible rfl
    try simp only [List.getElem_toArray, List.getElem_cons_zero, List.getElem_cons_succ, Act.put, List.setIfInBounds_toArray, List.set_cons_zero, List.set_cons_succ]
    exact to_ops hops.out (st_11_222.out wr r1 r2 r3 r4 r5 r6 r7 r8 r9 r10 r11 g1 g2 g3 v1 v2 v3 hC)
  have st_11_211 : Hid (∀ (wr : World) (r1 : Int) (r2 : Int) (r3 : Int) (r4 : Int) (r5 : Int) (r6 : Int) (r7 : Int) (r8 : Int) (r9 : Int) (r10 : Int) (r11 : Int) (g1 : Nat) (g2 : Nat) (g3 : Nat) (v1 : Int), Hid (CS w A n c bs 11 wr) → Hid (Lt3 w wr g2) → Hid (0 ≤ r8 ∧ r8 < 3) → Hid (Lt4 w wr g3) → Hid (0 ≤ r11 ∧ r11 < 4) → wpAnyH Try.prog .any ops Q (fun _ => True) 4 #[true, true, true, true, true, true, true, true, true, true, true, true, true, true, true, true, true, true, true, true, true, false, true, true, true, true, true, true, true, true, true, false, true, false, false] { tmps := #[.slice A n c, undef, .int .i64 v1, .int .i64 0, .int .i64 0, pv w, .slice A n c, pv w, pv w, .int .i64 r1, pv w, .int .i64 r2, pv w, .int .i64 r3, .slice (some ⟨g1, 0, none⟩) 3 3, pv w, .int .i64 r4, .pointer (some ⟨g1, Int.toNat r4, none⟩), .int .i64 v1, pv w, .int .i64 r5, pv w, .int .i64 r6, pv w, .int .i64 r7, .slice (some ⟨g2, 0, none⟩) 3 3, pv w, .int .i64 r8, .pointer (some ⟨g2, Int.toNat r8, none⟩), undef, pv w, .int .i64 r9, .int .i64 (1 + r9), pv w, .int .i64 r10, .slice (some ⟨g3, 0, none⟩) 4 4, pv w, .int .i64 r11, .pointer (some ⟨g3, Int.toNat r11, none⟩), undef], defers := [] } wr) := by
    clear hC0
    clear st_11_222 st_10_221 st_11_220 st_10_220 st_9_220 st_8_220
    refine Lib.hid ?_
    intro wr r1 r2 r3 r4 r5 r6 r7 r8 r9 r10 r11 g1 g2 g3 v1 hC hL2 hI2 hL3 hI3
    have hHeld : True := trivial
    refine of_ops hops.out ?_
    refine wpAnyH_ready (rs := [21, 31]) (by kernel_rfl) (by simp) (AllReadyH.cons rfl (fun K hK => ?_) (AllReadyH.cons rfl (fun K hK => ?_) AllReadyH.nil))
    · obtain ⟨v2, hc⟩ := hL2.out.cell hI2.out.1 hI2.out.2
      go_simp
      clear hHeld
      refine hK.out _ _ trivial (fun hHeld => ?_)
      clear hK K
      try simp only [List.getElem_toArray, List.getElem_cons_zero, List.getElem_cons_succ, Act.put, List.setIfInBounds_toArray, List.set_cons_zero, List.set_cons_succ]
      refine wpAnyH_take (i := 33) (v := ?v21) rfl (by kernel_rfl) (by kernel_rfl) (by kernel_rfl) (fun _ _ _ h => hPan.out _ _ _ _ h) (Or.inl ⟨by rfl, ?hy21⟩) (by assumption) ?rest21
      case hy21 =>
        intro wz hSw
        clear hSw
        go_simp <;> with_reducible rfl
      try simp only [List.getElem_toArray, List.getElem_cons_zero, List.getElem_cons_succ, Act.put, List.setIfInBounds_toArray, List.set_cons_zero, List.set_cons_succ]
      exact to_ops hops.out (st_11_221.out wr r1 r2 r3 r4 r5 r6 r7 r8 r9 r10 r11 g1 g2 g3 v1 v2 hC hL3 hI3)
    · obtain ⟨v3, hc⟩ := hL3.out.cell hI3.out.1 hI3.out.2
      go_simp
      clear hHeld
      refine hK.out _ _ trivial (fun hHeld => ?_)
      clear hK K
      try simp only [List.getElem_toArray, List.getElem_cons_zero, List.getElem_cons_succ, Act.put, List.setIfInBounds_toArray, List.set_cons_zero, List.set_cons_succ]
      exact to_ops hops.out (st_11_212.out wr r1 r2 r3 r4 r5 r6 r7 r8 r9 r10 r11 g1 g2 g3 v1 v3 hC hL2 hI2)
  have st_10_211 : Hid (∀ (wr : World) (r1 : Int) (r2 : Int) (r3 : Int) (r4 : Int) (r5 : Int) (r6 : Int) (r7 : Int) (r8 : Int) (r9 : Int) (r10 : Int) (g1 : Nat) (g2 : Nat) (g3 : Nat) (v1 : Int), Hid (CS w A n c bs 10 wr) → Hid (Lt3 w wr g2) → Hid (0 ≤ r8 ∧ r8 < 3) → Hid (Lt4 w wr g3) → wpAnyH Try.prog .any ops Q (fun _ => True) 7 #[true, true, true, true, true, true, true, true, true, true, true, true, true, true, true, true, true, true, true, true, true, false, true, true, true, true, true, true, true, false, false, false, false, false, false] { tmps := #[.slice A n c, undef, .int .i64 0, .int .i64 0, .int .i64 0, pv w, .slice A n c, pv w, pv w, .int .i64 r1, pv w, .int .i64 r2, pv w, .int .i64 r3, .slice (some ⟨g1, 0, none⟩) 3 3, pv w, .int .i64 r4, .pointer (some ⟨g1, Int.toNat r4, none⟩), .int .i64 v1, pv w, .int .i64 r5, pv w, .int .i64 r6, pv w, .int .i64 r7, .slice (some ⟨g2, 0, none⟩) 3 3, pv w, .int .i64 r8, .pointer (some ⟨g2, Int.toNat r8, none⟩), undef, pv w, .int .i64 r9, .int .i64 (1 + r9), pv w, .int .i64 r10, .slice (some ⟨g3, 0, none⟩) 4 4, pv w, undef, undef, undef], defers := [] } wr) := by
    clear hC0
    clear st_11_222 st_11_221 st_11_220 st_10_220 st_9_220 st_8_220 st_11_212
    refine Lib.hid ?_
    intro wr r1 r2 r3 r4 r5 r6 r7 r8 r9 r10 g1 g2 g3 v1 hC hL2 hI2 hL3
    have hHeld : True := trivial
    refine of_ops hops.out ?_
    refine wpAnyH_ready (rs := [21, 29]) (by kernel_rfl) (by simp) (AllReadyH.cons rfl (fun K hK => ?_) (AllReadyH.cons rfl (fun K hK => ?_) AllReadyH.nil))
    · obtain ⟨v2, hc⟩ := hL2.out.cell hI2.out.1 hI2.out.2
      go_simp
      clear hHeld
      refine hK.out _ _ trivial (fun hHeld => ?_)
      clear hK K
      try simp only [List.getElem_toArray, List.getElem_cons_zero, List.getElem_cons_succ, Act.put, List.setIfInBounds_toArray, List.set_cons_zero, List.set_cons_succ]
      exact to_ops hops.out (st_10_221.out wr r1 r2 r3 r4 r5 r6 r7 r8 r9 r10 g1 g2 g3 v1 v2 hC hL3)
    · go_simp
      refine (cs_pick hC.out 4 (by omega) (by omega)).mono ?_
      rintro e w2 ⟨r11, rfl, p0, p1, hC2, hG⟩
      have p2 : r11 < 4 := by omega
      go_wp2_with fail
      clear hHeld
      refine hK.out _ _ trivial (fun hHeld => ?_)
      clear hK K
      try simp only [List.getElem_toArray, List.getElem_cons_zero, List.getElem_cons_succ, Act.put, List.setIfInBounds_toArray, List.set_cons_zero, List.set_cons_succ]
      have hL2' := Lib.hid (hL2.out.call hG.out)
      refine wpAnyH_take (i := 30) (v := ?v22) rfl (by kernel_rfl) (by kernel_rfl) (by kernel_rfl) (fun _ _ _ h => hPan.out _ _ _ _ h) (Or.inl ⟨by rfl, ?hy22⟩) (by assumption) ?rest22
      case hy22 =>
        intro wz hSw
        clear hSw
        go_simp <;> with_reducible rfl
      try simp only [List.getElem_toArray, List.getElem_cons_zero, List.getElem_cons_succ, Act.put, List.setIfInBounds_toArray, List.set_cons_zero, List.set_cons_succ]
      have hL3' := Lib.hid (hL3.out.call hG.out)
      refine wpAnyH_take (i := 32) (v := ?v23) rfl (by kernel_rfl) (by kernel_rfl) (by kernel_rfl) (fun _ _ _ h => hPan.out _ _ _ _ h) (Or.inl ⟨by rfl, ?hy23⟩) (by assumption) ?rest23
      case hy23 =>
        intro wz hSw
        clear hSw
        go_simp <;> with_reducible rfl
      try simp only [List.getElem_toArray, List.getElem_cons_zero, List.getElem_cons_succ, Act.put, List.setIfInBounds_toArray, List.set_cons_zero, List.set_cons_succ]
      exact to_ops hops.out (st_11_211.out w2 r1 r2 r3 r4 r5 r6 r7 r8 r9 r10 r11 g1 g2 g3 v1 hC2 hL2' hI2 hL3' ⟨p0, p2⟩)
  have st_11_210 : Hid (∀ (wr : World) (r1 : Int) (r2 : Int) (r3 : Int) (r4 : Int) (r5 : Int) (r6 : Int) (r7 : Int) (r8 : Int) (r9 : Int) (r10 : Int) (r11 : Int) (g1 : Nat) (g2 : Nat) (v1 : Int), Hid (CS w A n c bs 11 wr) → Hid (Lt3 w wr g2) → Hid (0 ≤ r8 ∧ r8 < 3) → Hid (0 ≤ r11 ∧ r11 < 4) → wpAnyH Try.prog .any ops Q (fun _ => True) 6 #[true, true, true, true, true, true, true, true, true, true, true, true, true, true, true, true, true, true, true, true, true, false, true, true, true, true, true, false, true, true, false, false, true, false, false] { tmps := #[.slice A n c, undef, .int .i64 v1, .int .i64 0, .int .i64 0, pv w, .slice A n c, pv w, pv w, .int .i64 r1, pv w, .int .i64 r2, pv w, .int .i64 r3, .slice (some ⟨g1, 0, none⟩) 3 3, pv w, .int .i64 r4, .pointer (some ⟨g1, Int.toNat r4, none⟩), .int .i64 v1, pv w, .int .i64 r5, pv w, .int .i64 r6, pv w, .int .i64 r7, .slice (some ⟨g2, 0, none⟩) 3 3, pv w, .int .i64 r8, .pointer (some ⟨g2, Int.toNat r8, none⟩), undef, pv w, .int .i64 r9, .int .i64 (1 + r9), pv w, .int .i64 r10, undef, pv w, .int .i64 r11, undef, undef], defers := [] } wr) := by
    clear hC0
    clear st_11_222 st_11_221 st_10_221 st_10_220 st_9_220 st_8_220 st_11_212 st_10_211
    refine Lib.hid ?_
    intro wr r1 r2 r3 r4 r5 r6 r7 r8 r9 r10 r11 g1 g2 v1 hC hL2 hI2 hI3
    have hHeld : True := trivial
    refine of_ops hops.out ?_
    refine wpAnyH_ready (rs := [21, 27]) (by kernel_rfl) (by simp) (AllReadyH.cons rfl (fun K hK => ?_) (AllReadyH.cons rfl (fun K hK => ?_) AllReadyH.nil))
    · obtain ⟨v2, hc⟩ := hL2.out.cell hI2.out.1 hI2.out.2
      go_simp
      clear hHeld
      refine hK.out _ _ trivial (fun hHeld => ?_)
      clear hK K
      try simp only [List.getElem_toArray, List.getElem_cons_zero, List.getElem_cons_succ, Act.put, List.setIfInBounds_toArray, List.set_cons_zero, List.set_cons_succ]
      refine wpAnyH_take (i := 33) (v := ?v24) rfl (by kernel_rfl) (by kernel_rfl) (by kernel_rfl) (fun _ _ _ h => hPan.out _ _ _ _ h) (Or.inl ⟨by rfl, ?hy24⟩) (by assumption) ?rest24
      case hy24 =>
        intro wz hSw
        clear hSw
        go_simp <;> with_reducible rfl
      try simp only [List.getElem_toArray, List.getElem_cons_zero, List.getElem_cons_succ, Act.put, List.setIfInBounds_toArray, List.set_cons_zero, List.set_cons_succ]
      exact to_ops hops.out (st_11_220.out wr r1 r2 r3 r4 r5 r6 r7 r8 r9 r10 r11 g1 g2 v1 v2 hC hI3)
    · go_simp
      clear hHeld
      refine hK.out _ _ trivial (fun hHeld => ?_)
      clear hK K
      try simp only [List.getElem_toArray, List.getElem_cons_zero, List.getElem_cons_succ, Act.put, List.setIfInBounds_toArray, List.set_cons_zero, List.set_cons_succ]
      obtain ⟨i0, i1⟩ := hI3.out
      refine wpAnyH_take (i := 30) (v := ?v25) rfl (by kernel_rfl) (by kernel_rfl) (by kernel_rfl) (fun _ _ _ h => hPan.out _ _ _ _ h) (Or.inl ⟨by rfl, ?hy25⟩) (by assumption) ?rest25
      case hy25 =>
        intro wz hSw
        clear hSw
        go_simp <;> with_reducible rfl
      try simp only [List.getElem_toArray, List.getElem_cons_zero, List.getElem_cons_succ, Act.put, List.setIfInBounds_toArray, List.set_cons_zero, List.set_cons_succ]
      exact to_ops hops.out (st_11_211.out (wr.alloc (.cells #[.int .i64 (1 + r9), .int .i64 0, .int .i64 17, .int .i64 r10] 3)) r1 r2 r3 r4 r5 r6 r7 r8 r9 r10 r11 g1 g2 wr.heap.size v1 (hC.out.alloc _) (hL2.out.alloc _) hI2 (Lt4.new _ hC.out.lt _ _ _ _) hI3)
  have st_10_210 : Hid (∀ (wr : World) (r1 : Int) (r2 : Int) (r3 : Int) (r4 : Int) (r5 : Int) (r6 : Int) (r7 : Int) (r8 : Int) (r9 : Int) (r10 : Int) (g1 : Nat) (g2 : Nat) (v1 : Int), Hid (CS w A n c bs 10 wr) → Hid (Lt3 w wr g2) → Hid (0 ≤ r8 ∧ r8 < 3) → wpAnyH Try.prog .any ops Q (fun _ => True) 8 #[true, true, true, true, true, true, true, true, true, true, true, true, true, true, true, true, true, true, true, true, true, false, true, true, true, true, true, false, true, false, false, false, false, false, false] { tmps := #[.slice A n c, undef, .int .i64 0, .int .i64 0, .int .i64 0, pv w, .slice A n c, pv w, pv w, .int .i64 r1, pv w, .int .i64 r2, pv w, .int .i64 r3, .slice (some ⟨g1, 0, none⟩) 3 3, pv w, .int .i64 r4, .pointer (some ⟨g1, Int.toNat r4, none⟩), .int .i64 v1, pv w, .int .i64 r5, pv w, .int .i64 r6, pv w, .int .i64 r7, .slice (some ⟨g2, 0, none⟩) 3 3, pv w, .int .i64 r8, .pointer (some ⟨g2, Int.toNat r8, none⟩), undef, pv w, .int .i64 r9, .int .i64 (1 + r9), pv w, .int .i64 r10, undef, pv w, undef, undef, undef], defers := [] } wr) := by
    clear hC0
    clear st_11_222 st_11_221 st_10_221 st_11_220 st_9_220 st_8_220 st_11_212 st_11_211
    refine Lib.hid ?_
    intro wr r1 r2 r3 r4 r5 r6 r7 r8 r9 r10 g1 g2 v1 hC hL2 hI2
    have hHeld : True := trivial
    refine of_ops hops.out ?_
    refine wpAnyH_ready (rs := [21, 27, 29]) (by kernel_rfl) (by simp) (AllReadyH.cons rfl (fun K hK => ?_) (AllReadyH.cons rfl (fun K hK => ?_) (AllReadyH.cons rfl (fun K hK => ?_) AllReadyH.nil)))
    · obtain ⟨v2, hc⟩ := hL2.out.cell hI2.out.1 hI2.out.2
      go_simp
      clear hHeld
      refine hK.out _ _ trivial (fun hHeld => ?_)
      clear hK K
      try simp only [List.getElem_toArray, List.getElem_cons_zero, List.getElem_cons_succ, Act.put, List.setIfInBounds_toArray, List.set_cons_zero, List.set_cons_succ]
      exact to_ops hops.out (st_10_220.out wr r1 r2 r3 r4 r5 r6 r7 r8 r9 r10 g1 g2 v1 v2 hC)
    · go_simp
      clear hHeld
      refine hK.out _ _ trivial (fun hHeld => ?_)
      clear hK K
      try simp only [List.getElem_toArray, List.getElem_cons_zero, List.getElem_cons_succ, Act.put, List.setIfInBounds_toArray, List.set_cons_zero, List.set_cons_succ]
      exact to_ops hops.out (st_10_211.out (wr.alloc (.cells #[.int .i64 (1 + r9), .int .i64 0, .int .i64 17, .int .i64 r10] 3)) r1 r2 r3 r4 r5 r6 r7 r8 r9 r10 g1 g2 wr.heap.size v1 (hC.out.alloc _) (hL2.out.alloc _) hI2 (Lt4.new _ hC.out.lt _ _ _ _))
    · go_simp
      refine (cs_pick hC.out 4 (by omega) (by omega)).mono ?_
      rintro e w2 ⟨r11, rfl, p0, p1, hC2, hG⟩
      have p2 : r11 < 4 := by omega
      go_wp2_with fail
      clear hHeld
      refine hK.out _ _ trivial (fun hHeld => ?_)
      clear hK K
      try simp only [List.getElem_toArray, List.getElem_cons_zero, List.getElem_cons_succ, Act.put, List.setIfInBounds_toArray, List.set_cons_zero, List.set_cons_succ]
      have hL2' := Lib.hid (hL2.out.call hG.out)
      refine wpAnyH_take (i := 32) (v := ?v26) rfl (by kernel_rfl) (by kernel_rfl) (by kernel_rfl) (fun _ _ _ h => hPan.out _ _ _ _ h) (Or.inl ⟨by rfl, ?hy26⟩) (by assumption) ?rest26
      case hy26 =>
        intro wz hSw
        clear hSw
        go_simp <;> with_reducible rfl
      try simp only [List.getElem_toArray, List.getElem_cons_zero, List.getElem_cons_succ, Act.put, List.setIfInBounds_toArray, List.set_cons_zero, List.set_cons_succ]
      exact to_ops hops.out (st_11_210.out w2 r1 r2 r3 r4 r5 r6 r7 r8 r9 r10 r11 g1 g2 v1 hC2 hL2' hI2 ⟨p0, p2⟩)
  have st_9_210 : Hid (∀ (wr : World) (r1 : Int) (r2 : Int) (r3 : Int) (r4 : Int) (r5 : Int) (r6 : Int) (r7 : Int) (r8 : Int) (r9 : Int) (g1 : Nat) (g2 : Nat) (v1 : Int), Hid (CS w A n c bs 9 wr) → Hid (Lt3 w wr g2) → Hid (0 ≤ r8 ∧ r8 < 3) → wpAnyH Try.prog .any ops Q (fun _ => True) 9 #[true, true, true, true, true, true, true, true, true, true, true, true, true, true, true, true, true, true, true, true, true, false, true, true, true, true, false, false, true, false, false, false, false, false, false] { tmps := #[.slice A n c, undef, .int .i64 0, .int .i64 0, .int .i64 0, pv w, .slice A n c, pv w, pv w, .int .i64 r1, pv w, .int .i64 r2, pv w, .int .i64 r3, .slice (some ⟨g1, 0, none⟩) 3 3, pv w, .int .i64 r4, .pointer (some ⟨g1, Int.toNat r4, none⟩), .int .i64 v1, pv w, .int .i64 r5, pv w, .int .i64 r6, pv w, .int .i64 r7, .slice (some ⟨g2, 0, none⟩) 3 3, pv w, .int .i64 r8, .pointer (some ⟨g2, Int.toNat r8, none⟩), undef, pv w, .int .i64 r9, .int .i64 (1 + r9), pv w, undef, undef, pv w, undef, undef, undef], defers := [] } wr) := by
    clear hC0
    clear st_11_222 st_11_221 st_10_221 st_11_220 st_10_220 st_8_220 st_11_212 st_11_211 st_10_211 st_11_210
    refine Lib.hid ?_
    intro wr r1 r2 r3 r4 r5 r6 r7 r8 r9 g1 g2 v1 hC hL2 hI2
    have hHeld : True := trivial
    refine of_ops hops.out ?_
    refine wpAnyH_ready (rs := [21, 26]) (by kernel_rfl) (by simp) (AllReadyH.cons rfl (fun K hK => ?_) (AllReadyH.cons rfl (fun K hK => ?_) AllReadyH.nil))
    · obtain ⟨v2, hc⟩ := hL2.out.cell hI2.out.1 hI2.out.2
      go_simp
      clear hHeld
      refine hK.out _ _ trivial (fun hHeld => ?_)
      clear hK K
      try simp only [List.getElem_toArray, List.getElem_cons_zero, List.getElem_cons_succ, Act.put, List.setIfInBounds_toArray, List.set_cons_zero, List.set_cons_succ]
      exact to_ops hops.out (st_9_220.out wr r1 r2 r3 r4 r5 r6 r7 r8 r9 g1 g2 v1 v2 hC)
    · go_simp
      refine (cs_raw (N := 0) hC.out (by omega)).mono ?_
      rintro e w2 ⟨r10, rfl, hC2, hG⟩
      go_wp2_with fail
      clear hHeld
      refine hK.out _ _ trivial (fun hHeld => ?_)
      clear hK K
      try simp only [List.getElem_toArray, List.getElem_cons_zero, List.getElem_cons_succ, Act.put, List.setIfInBounds_toArray, List.set_cons_zero, List.set_cons_succ]
      have hL2' := Lib.hid (hL2.out.call hG.out)
      exact to_ops hops.out (st_10_210.out w2 r1 r2 r3 r4 r5 r6 r7 r8 r9 r10 g1 g2 v1 hC2 hL2' hI2)
  have st_8_210 : Hid (∀ (wr : World) (r1 : Int) (r2 : Int) (r3 : Int) (r4 : Int) (r5 : Int) (r6 : Int) (r7 : Int) (r8 : Int) (g1 : Nat) (g2 : Nat) (v1 : Int), Hid (CS w A n c bs 8 wr) → Hid (Lt3 w wr g2) → Hid (0 ≤ r8 ∧ r8 < 3) → wpAnyH Try.prog .any ops Q (fun _ => True) 11 #[true, true, true, true, true, true, true, true, true, true, true, true, true, true, true, true, true, true, true, true, true, false, true, false, false, true, false, false, true, false, false, false, false, false, false] { tmps := #[.slice A n c, undef, .int .i64 0, .int .i64 0, .int .i64 0, pv w, .slice A n c, pv w, pv w, .int .i64 r1, pv w, .int .i64 r2, pv w, .int .i64 r3, .slice (some ⟨g1, 0, none⟩) 3 3, pv w, .int .i64 r4, .pointer (some ⟨g1, Int.toNat r4, none⟩), .int .i64 v1, pv w, .int .i64 r5, pv w, .int .i64 r6, pv w, .int .i64 r7, .slice (some ⟨g2, 0, none⟩) 3 3, pv w, .int .i64 r8, .pointer (some ⟨g2, Int.toNat r8, none⟩), undef, pv w, undef, undef, pv w, undef, undef, pv w, undef, undef, undef], defers := [] } wr) := by
    clear hC0
    clear st_11_222 st_11_221 st_10_221 st_11_220 st_10_220 st_9_220 st_11_212 st_11_211 st_10_211 st_11_210 st_10_210
    refine Lib.hid ?_
    intro wr r1 r2 r3 r4 r5 r6 r7 r8 g1 g2 v1 hC hL2 hI2
    have hHeld : True := trivial
    refine of_ops hops.out ?_
    refine wpAnyH_ready (rs := [21, 23]) (by kernel_rfl) (by simp) (AllReadyH.cons rfl (fun K hK => ?_) (AllReadyH.cons rfl (fun K hK => ?_) AllReadyH.nil))
    · obtain ⟨v2, hc⟩ := hL2.out.cell hI2.out.1 hI2.out.2
      go_simp
      clear hHeld
      refine hK.out _ _ trivial (fun hHeld => ?_)
      clear hK K
      try simp only [List.getElem_toArray, List.getElem_cons_zero, List.getElem_cons_succ, Act.put, List.setIfInBounds_toArray, List.set_cons_zero, List.set_cons_succ]
      exact to_ops hops.out (st_8_220.out wr r1 r2 r3 r4 r5 r6 r7 r8 g1 g2 v1 v2 hC)
    · go_simp
      refine (cs_pick hC.out 16 (by omega) (by omega)).mono ?_
      rintro e w2 ⟨r9, rfl, p0, p1, hC2, hG⟩
      have p2 : r9 < 16 := by omega
      go_wp2_with fail
      clear hHeld
      refine hK.out _ _ trivial (fun hHeld => ?_)
      clear hK K
      try simp only [List.getElem_toArray, List.getElem_cons_zero, List.getElem_cons_succ, Act.put, List.setIfInBounds_toArray, List.set_cons_zero, List.set_cons_succ]
      have ew : IntKind.i64.wrap (1 + r9) = 1 + r9 := IntWalk.i64_in _ (by omega)
      refine wpAnyH_take (i := 24) (v := .int .i64 (1 + r9)) rfl (by kernel_rfl) (by kernel_rfl) (by kernel_rfl) (fun _ _ _ h => hPan.out _ _ _ _ h) (Or.inl ⟨by rfl, ?hy27⟩) (by assumption) ?rest27
      case hy27 =>
        intro wz hSw
        clear hSw
        first
          | (go_simp; done)
          | (go_simp <;> with_reducible rfl)
          | (go_simp; rw [ew])
      try simp only [List.getElem_toArray, List.getElem_cons_zero, List.getElem_cons_succ, Act.put, List.setIfInBounds_toArray, List.set_cons_zero, List.set_cons_succ]
      have hL2' := Lib.hid (hL2.out.call hG.out)
      exact to_ops hops.out (st_9_210.out w2 r1 r2 r3 r4 r5 r6 r7 r8 r9 g1 g2 v1 hC2 hL2' hI2)
  have st_7_210 : Hid (∀ (wr : World) (r1 : Int) (r2 : Int) (r3 : Int) (r4 : Int) (r5 : Int) (r6 : Int) (r7 : Int) (g1 : Nat) (g2 : Nat) (v1 : Int), Hid (CS w A n c bs 7 wr) → Hid (Lt3 w wr g2) → wpAnyH Try.prog .any ops Q (fun _ => True) 13 #[true, true, true, true, true, true, true, true, true, true, true, true, true, true, true, true, true, true, true, false, false, false, true, false, false, true, false, false, true, false, false, false, false, false, false] { tmps := #[.slice A n c, undef, .int .i64 0, .int .i64 0, .int .i64 0, pv w, .slice A n c, pv w, pv w, .int .i64 r1, pv w, .int .i64 r2, pv w, .int .i64 r3, .slice (some ⟨g1, 0, none⟩) 3 3, pv w, .int .i64 r4, .pointer (some ⟨g1, Int.toNat r4, none⟩), .int .i64 v1, pv w, .int .i64 r5, pv w, .int .i64 r6, pv w, .int .i64 r7, .slice (some ⟨g2, 0, none⟩) 3 3, pv w, undef, undef, undef, pv w, undef, undef, pv w, undef, undef, pv w, undef, undef, undef], defers := [] } wr) := by
    clear hC0
    clear st_11_222 st_11_221 st_10_221 st_11_220 st_10_220 st_9_220 st_8_220 st_11_212 st_11_211 st_10_211 st_11_210 st_10_210 st_9_210
    refine Lib.hid ?_
    intro wr r1 r2 r3 r4 r5 r6 r7 g1 g2 v1 hC hL2
    have hHeld : True := trivial
    refine of_ops hops.out ?_
    refine wpAnyH_ready (rs := [19]) (by kernel_rfl) (by simp) (AllReadyH.cons rfl (fun K hK => ?_) AllReadyH.nil)
    go_simp
    refine (cs_pick hC.out 3 (by omega) (by omega)).mono ?_
    rintro e w2 ⟨r8, rfl, p0, p1, hC2, hG⟩
    have p2 : r8 < 3 := by omega
    go_wp2_with fail
    clear hHeld
    refine hK.out _ _ trivial (fun hHeld => ?_)
    clear hK K
    try simp only [List.getElem_toArray, List.getElem_cons_zero, List.getElem_cons_succ, Act.put, List.setIfInBounds_toArray, List.set_cons_zero, List.set_cons_succ]
    refine wpAnyH_take (i := 20) (v := ?v28) rfl (by kernel_rfl) (by kernel_rfl) (by kernel_rfl) (fun _ _ _ h => hPan.out _ _ _ _ h) (Or.inl ⟨by rfl, ?hy28⟩) (by assumption) ?rest28
    case hy28 =>
      intro wz hSw
      clear hSw
      go_simp <;> with_reducible rfl
    try simp only [List.getElem_toArray, List.getElem_cons_zero, List.getElem_cons_succ, Act.put, List.setIfInBounds_toArray, List.set_cons_zero, List.set_cons_succ]
    have hL2' := Lib.hid (hL2.out.call hG.out)
    exact to_ops hops.out (st_8_210.out w2 r1 r2 r3 r4 r5 r6 r7 r8 g1 g2 v1 hC2 hL2' ⟨p0, p2⟩)
  have st_11_202 : Hid (∀ (wr : World) (r1 : Int) (r2 : Int) (r3 : Int) (r4 : Int) (r5 : Int) (r6 : Int) (r7 : Int) (r8 : Int) (r9 : Int) (r10 : Int) (r11 : Int) (g1 : Nat) (g3 : Nat) (v1 : Int) (v3 : Int), Hid (CS w A n c bs 11 wr) → Hid (0 ≤ r8 ∧ r8 < 3) → wpAnyH Try.prog .any ops Q (fun _ => True) 5 #[true, true, true, true, true, true, true, true, true, true, true, true, true, true, true, true, true, false, true, true, false, false, true, true, true, true, true, true, true, true, true, true, true, false, false] { tmps := #[.slice A n c, undef, .int .i64 v1, .int .i64 0, .int .i64 0, pv w, .slice A n c, pv w, pv w, .int .i64 r1, pv w, .int .i64 r2, pv w, .int .i64 r3, .slice (some ⟨g1, 0, none⟩) 3 3, pv w, .int .i64 r4, .pointer (some ⟨g1, Int.toNat r4, none⟩), .int .i64 v1, pv w, .int .i64 r5, pv w, .int .i64 r6, pv w, .int .i64 r7, undef, pv w, .int .i64 r8, undef, undef, pv w, .int .i64 r9, .int .i64 (1 + r9), pv w, .int .i64 r10, .slice (some ⟨g3, 0, none⟩) 4 4, pv w, .int .i64 r11, .pointer (some ⟨g3, Int.toNat r11, none⟩), .int .i64 v3], defers := [] } wr) := by
    clear hC0
    clear st_11_222 st_11_221 st_10_221 st_11_220 st_10_220 st_9_220 st_8_220 st_11_211 st_10_211 st_11_210 st_10_210 st_9_210 st_8_210 st_7_210
    refine Lib.hid ?_
    intro wr r1 r2 r3 r4 r5 r6 r7 r8 r9 r10 r11 g1 g3 v1 v3 hC hI2
    have hHeld : True := trivial
    refine of_ops hops.out ?_
    refine wpAnyH_ready (rs := [17]) (by kernel_rfl) (by simp) (AllReadyH.cons rfl (fun K hK => ?_) AllReadyH.nil)
    go_simp
    clear hHeld
    refine hK.out _ _ trivial (fun hHeld => ?_)
    clear hK K
    try simp only [List.getElem_toArray, List.getElem_cons_zero, List.getElem_cons_succ, Act.put, List.setIfInBounds_toArray, List.set_cons_zero, List.set_cons_succ]
    obtain ⟨i0, i1⟩ := hI2.out
    refine wpAnyH_take (i := 20) (v := ?v29) rfl (by kernel_rfl) (by kernel_rfl) (by kernel_rfl) (fun _ _ _ h => hPan.out _ _ _ _ h) (Or.inl ⟨by rfl, ?hy29⟩) (by assumption) ?rest29
    case hy29 =>
      intro wz hSw
      clear hSw
      go_simp <;> with_reducible rfl
    try simp only [List.getElem_toArray, List.getElem_cons_zero, List.getElem_cons_succ, Act.put, List.setIfInBounds_toArray, List.set_cons_zero, List.set_cons_succ]
    exact to_ops hops.out (st_11_212.out (wr.alloc (.cells #[.int .i64 r5, .int .i64 r6, .int .i64 r7] 3)) r1 r2 r3 r4 r5 r6 r7 r8 r9 r10 r11 g1 wr.heap.size g3 v1 v3 (hC.out.alloc _) (Lt3.new _ hC.out.lt _ _ _) hI2)
  have st_11_201 : Hid (∀ (wr : World) (r1 : Int) (r2 : Int) (r3 : Int) (r4 : Int) (r5 : Int) (r6 : Int) (r7 : Int) (r8 : Int) (r9 : Int) (r10 : Int) (r11 : Int) (g1 : Nat) (g3 : Nat) (v1 : Int), Hid (CS w A n c bs 11 wr) → Hid (0 ≤ r8 ∧ r8 < 3) → Hid (Lt4 w wr g3) → Hid (0 ≤ r11 ∧ r11 < 4) → wpAnyH Try.prog .any ops Q (fun _ => True) 6 #[true, true, true, true, true, true, true, true, true, true, true, true, true, true, true, true, true, false, true, true, false, false, true, true, true, true, true, true, true, true, true, false, true, false, false] { tmps := #[.slice A n c, undef, .int .i64 v1, .int .i64 0, .int .i64 0, pv w, .slice A n c, pv w, pv w, .int .i64 r1, pv w, .int .i64 r2, pv w, .int .i64 r3, .slice (some ⟨g1, 0, none⟩) 3 3, pv w, .int .i64 r4, .pointer (some ⟨g1, Int.toNat r4, none⟩), .int .i64 v1, pv w, .int .i64 r5, pv w, .int .i64 r6, pv w, .int .i64 r7, undef, pv w, .int .i64 r8, undef, undef, pv w, .int .i64 r9, .int .i64 (1 + r9), pv w, .int .i64 r10, .slice (some ⟨g3, 0, none⟩) 4 4, pv w, .int .i64 r11, .pointer (some ⟨g3, Int.toNat r11, none⟩), undef], defers := [] } wr) := by
    clear hC0
    clear st_11_222 st_11_221 st_10_221 st_11_220 st_10_220 st_9_220 st_8_220 st_11_212 st_10_211 st_11_210 st_10_210 st_9_210 st_8_210 st_7_210
    refine Lib.hid ?_
    intro wr r1 r2 r3 r4 r5 r6 r7 r8 r9 r10 r11 g1 g3 v1 hC hI2 hL3 hI3
    have hHeld : True := trivial
    refine of_ops hops.out ?_
    refine wpAnyH_ready (rs := [17, 31]) (by kernel_rfl) (by simp) (AllReadyH.cons rfl (fun K hK => ?_) (AllReadyH.cons rfl (fun K hK => ?_) AllReadyH.nil))
    · go_simp
      clear hHeld
      refine hK.out _ _ trivial (fun hHeld => ?_)
      clear hK K
      try simp only [List.getElem_toArray, List.getElem_cons_zero, List.getElem_cons_succ, Act.put, List.setIfInBounds_toArray, List.set_cons_zero, List.set_cons_succ]
      obtain ⟨i0, i1⟩ := hI2.out
      refine wpAnyH_take (i := 20) (v := ?v30) rfl (by kernel_rfl) (by kernel_rfl) (by kernel_rfl) (fun _ _ _ h => hPan.out _ _ _ _ h) (Or.inl ⟨by rfl, ?hy30⟩) (by assumption) ?rest30
      case hy30 =>
        intro wz hSw
        clear hSw
        go_simp <;> with_reducible rfl
      try simp only [List.getElem_toArray, List.getElem_cons_zero, List.getElem_cons_succ, Act.put, List.setIfInBounds_toArray, List.set_cons_zero, List.set_cons_succ]
      exact to_ops hops.out (st_11_211.out (wr.alloc (.cells #[.int .i64 r5, .int .i64 r6, .int .i64 r7] 3)) r1 r2 r3 r4 r5 r6 r7 r8 r9 r10 r11 g1 wr.heap.size g3 v1 (hC.out.alloc _) (Lt3.new _ hC.out.lt _ _ _) hI2 (hL3.out.alloc _) hI3)
    · obtain ⟨v3, hc⟩ := hL3.out.cell hI3.out.1 hI3.out.2
      go_simp
      clear hHeld
      refine hK.out _ _ trivial (fun hHeld => ?_)
      clear hK K
      try simp only [List.getElem_toArray, List.getElem_cons_zero, List.getElem_cons_succ, Act.put, List.setIfInBounds_toArray, List.set_cons_zero, List.set_cons_succ]
      exact to_ops hops.out (st_11_202.out wr r1 r2 r3 r4 r5 r6 r7 r8 r9 r10 r11 g1 g3 v1 v3 hC hI2)
  have st_10_201 : Hid (∀ (wr : World) (r1 : Int) (r2 : Int) (r3 : Int) (r4 : Int) (r5 : Int) (r6 : Int) (r7 : Int) (r8 : Int) (r9 : Int) (r10 : Int) (g1 : Nat) (g3 : Nat) (v1 : Int), Hid (CS w A n c bs 10 wr) → Hid (0 ≤ r8 ∧ r8 < 3) → Hid (Lt4 w wr g3) → wpAnyH Try.prog .any ops Q (fun _ => True) 9 #[true, true, true, true, true, true, true, true, true, true, true, true, true, true, true, true, true, false, true, true, false, false, true, true, true, true, true, true, true, false, false, false, false, false, false] { tmps := #[.slice A n c, undef, .int .i64 0, .int .i64 0, .int .i64 0, pv w, .slice A n c, pv w, pv w, .int .i64 r1, pv w, .int .i64 r2, pv w, .int .i64 r3, .slice (some ⟨g1, 0, none⟩) 3 3, pv w, .int .i64 r4, .pointer (some ⟨g1, Int.toNat r4, none⟩), .int .i64 v1, pv w, .int .i64 r5, pv w, .int .i64 r6, pv w, .int .i64 r7, undef, pv w, .int .i64 r8, undef, undef, pv w, .int .i64 r9, .int .i64 (1 + r9), pv w, .int .i64 r10, .slice (some ⟨g3, 0, none⟩) 4 4, pv w, undef, undef, undef], defers := [] } wr) := by
    clear hC0
    clear st_11_222 st_11_221 st_10_221 st_11_220 st_10_220 st_9_220 st_8_220 st_11_212 st_11_211 st_11_210 st_10_210 st_9_210 st_8_210 st_7_210 st_11_202
    refine Lib.hid ?_
    intro wr r1 r2 r3 r4 r5 r6 r7 r8 r9 r10 g1 g3 v1 hC hI2 hL3
    have hHeld : True := trivial
    refine of_ops hops.out ?_
    refine wpAnyH_ready (rs := [17, 29]) (by kernel_rfl) (by simp) (AllReadyH.cons rfl (fun K hK => ?_) (AllReadyH.cons rfl (fun K hK => ?_) AllReadyH.nil))
    · go_simp
      clear hHeld
      refine hK.out _ _ trivial (fun hHeld => ?_)
      clear hK K
      try simp only [List.getElem_toArray, List.getElem_cons_zero, List.getElem_cons_succ, Act.put, List.setIfInBounds_toArray, List.set_cons_zero, List.set_cons_succ]
      obtain ⟨i0, i1⟩ := hI2.out
      refine wpAnyH_take (i := 20) (v := ?v31) rfl (by kernel_rfl) (by kernel_rfl) (by kernel_rfl) (fun _ _ _ h => hPan.out _ _ _ _ h) (Or.inl ⟨by rfl, ?hy31⟩) (by assumption) ?rest31
      case hy31 =>
        intro wz hSw
        clear hSw
        go_simp <;> with_reducible rfl
      try simp only [List.getElem_toArray, List.getElem_cons_zero, List.getElem_cons_succ, Act.put, List.setIfInBounds_toArray, List.set_cons_zero, List.set_cons_succ]
      exact to_ops hops.out (st_10_211.out (wr.alloc (.cells #[.int .i64 r5, .int .i64 r6, .int .i64 r7] 3)) r1 r2 r3 r4 r5 r6 r7 r8 r9 r10 g1 wr.heap.size g3 v1 (hC.out.alloc _) (Lt3.new _ hC.out.lt _ _ _) hI2 (hL3.out.alloc _))
    · go_simp
      refine (cs_pick hC.out 4 (by omega) (by omega)).mono ?_
      rintro e w2 ⟨r11, rfl, p0, p1, hC2, hG⟩
      have p2 : r11 < 4 := by omega
      go_wp2_with fail
      clear hHeld
      refine hK.out _ _ trivial (fun hHeld => ?_)
      clear hK K
      try simp only [List.getElem_toArray, List.getElem_cons_zero, List.getElem_cons_succ, Act.put, List.setIfInBounds_toArray, List.set_cons_zero, List.set_cons_succ]
      refine wpAnyH_take (i := 30) (v := ?v32) rfl (by kernel_rfl) (by kernel_rfl) (by kernel_rfl) (fun _ _ _ h => hPan.out _ _ _ _ h) (Or.inl ⟨by rfl, ?hy32⟩) (by assumption) ?rest32
      case hy32 =>
        intro wz hSw
        clear hSw
        go_simp <;> with_reducible rfl
      try simp only [List.getElem_toArray, List.getElem_cons_zero, List.getElem_cons_succ, Act.put, List.setIfInBounds_toArray, List.set_cons_zero, List.set_cons_succ]
      have hL3' := Lib.hid (hL3.out.call hG.out)
      refine wpAnyH_take (i := 32) (v := ?v33) rfl (by kernel_rfl) (by kernel_rfl) (by kernel_rfl) (fun _ _ _ h => hPan.out _ _ _ _ h) (Or.inl ⟨by rfl, ?hy33⟩) (by assumption) ?rest33
      case hy33 =>
        intro wz hSw
        clear hSw
        go_simp <;> with_reducible rfl
      try simp only [List.getElem_toArray, List.getElem_cons_zero, List.getElem_cons_succ, Act.put, List.setIfInBounds_toArray, List.set_cons_zero, List.set_cons_succ]
      exact to_ops hops.out (st_11_201.out w2 r1 r2 r3 r4 r5 r6 r7 r8 r9 r10 r11 g1 g3 v1 hC2 hI2 hL3' ⟨p0, p2⟩)
  have st_11_200 : Hid (∀ (wr : World) (r1 : Int) (r2 : Int) (r3 : Int) (r4 : Int) (r5 : Int) (r6 : Int) (r7 : Int) (r8 : Int) (r9 : Int) (r10 : Int) (r11 : Int) (g1 : Nat) (v1 : Int), Hid (CS w A n c bs 11 wr) → Hid (0 ≤ r8 ∧ r8 < 3) → Hid (0 ≤ r11 ∧ r11 < 4) → wpAnyH Try.prog .any ops Q (fun _ => True) 8 #[true, true, true, true, true, true, true, true, true, true, true, true, true, true, true, true, true, false, true, true, false, false, true, true, true, true, true, false, true, true, false, false, true, false, false] { tmps := #[.slice A n c, undef, .int .i64 v1, .int .i64 0, .int .i64 0, pv w, .slice A n c, pv w, pv w, .int .i64 r1, pv w, .int .i64 r2, pv w, .int .i64 r3, .slice (some ⟨g1, 0, none⟩) 3 3, pv w, .int .i64 r4, .pointer (some ⟨g1, Int.toNat r4, none⟩), .int .i64 v1, pv w, .int .i64 r5, pv w, .int .i64 r6, pv w, .int .i64 r7, undef, pv w, .int .i64 r8, undef, undef, pv w, .int .i64 r9, .int .i64 (1 + r9), pv w, .int .i64 r10, undef, pv w, .int .i64 r11, undef, undef], defers := [] } wr) := by
    clear hC0
    clear st_11_222 st_11_221 st_10_221 st_11_220 st_10_220 st_9_220 st_8_220 st_11_212 st_11_211 st_10_211 st_10_210 st_9_210 st_8_210 st_7_210 st_11_202 st_10_201
    refine Lib.hid ?_
    intro wr r1 r2 r3 r4 r5 r6 r7 r8 r9 r10 r11 g1 v1 hC hI2 hI3
    have hHeld : True := trivial
    refine of_ops hops.out ?_
    refine wpAnyH_ready (rs := [17, 27]) (by kernel_rfl) (by simp) (AllReadyH.cons rfl (fun K hK => ?_) (AllReadyH.cons rfl (fun K hK => ?_) AllReadyH.nil))
    · go_simp
      clear hHeld
      refine hK.out _ _ trivial (fun hHeld => ?_)
      clear hK K
      try simp only [List.getElem_toArray, List.getElem_cons_zero, List.getElem_cons_succ, Act.put, List.setIfInBounds_toArray, List.set_cons_zero, List.set_cons_succ]
      obtain ⟨i0, i1⟩ := hI2.out
      refine wpAnyH_take (i := 20) (v := ?v34) rfl (by kernel_rfl) (by kernel_rfl) (by kernel_rfl) (fun _ _ _ h => hPan.out _ _ _ _ h) (Or.inl ⟨by rfl, ?hy34⟩) (by assumption) ?rest34
      case hy34 =>
        intro wz hSw
        clear hSw
        go_simp <;> with_reducible rfl
      try simp only [List.getElem_toArray, List.getElem_cons_zero, List.getElem_cons_succ, Act.put, List.setIfInBounds_toArray, List.set_cons_zero, List.set_cons_succ]
      exact to_ops hops.out (st_11_210.out (wr.alloc (.cells #[.int .i64 r5, .int .i64 r6, .int .i64 r7] 3)) r1 r2 r3 r4 r5 r6 r7 r8 r9 r10 r11 g1 wr.heap.size v1 (hC.out.alloc _) (Lt3.new _ hC.out.lt _ _ _) hI2 hI3)
    · go_simp
      clear hHeld
      refine hK.out _ _ trivial (fun hHeld => ?_)
      clear hK K
      try simp only [List.getElem_toArray, List.getElem_cons_zero, List.getElem_cons_succ, Act.put, List.setIfInBounds_toArray, List.set_cons_zero, List.set_cons_succ]
      obtain ⟨i0, i1⟩ := hI3.out
      refine wpAnyH_take (i := 30) (v := ?v35) rfl (by kernel_rfl) (by kernel_rfl) (by kernel_rfl) (fun _ _ _ h => hPan.out _ _ _ _ h) (Or.inl ⟨by rfl, ?hy35⟩) (by assumption) ?rest35
      case hy35 =>
        intro wz hSw
        clear hSw
        go_simp <;> with_reducible rfl
      try simp only [List.getElem_toArray, List.getElem_cons_zero, List.getElem_cons_succ, Act.put, List.setIfInBounds_toArray, List.set_cons_zero, List.set_cons_succ]
      exact to_ops hops.out (st_11_201.out (wr.alloc (.cells #[.int .i64 (1 + r9), .int .i64 0, .int .i64 17, .int .i64 r10] 3)) r1 r2 r3 r4 r5 r6 r7 r8 r9 r10 r11 g1 wr.heap.size v1 (hC.out.alloc _) hI2 (Lt4.new _ hC.out.lt _ _ _ _) hI3)
  have st_10_200 : Hid (∀ (wr : World) (r1 : Int) (r2 : Int) (r3 : Int) (r4 : Int) (r5 : Int) (r6 : Int) (r7 : Int) (r8 : Int) (r9 : Int) (r10 : Int) (g1 : Nat) (v1 : Int), Hid (CS w A n c bs 10 wr) → Hid (0 ≤ r8 ∧ r8 < 3) → wpAnyH Try.prog .any ops Q (fun _ => True) 10 #[true, true, true, true, true, true, true, true, true, true, true, true, true, true, true, true, true, false, true, true, false, false, true, true, true, true, true, false, true, false, false, false, false, false, false] { tmps := #[.slice A n c, undef, .int .i64 0, .int .i64 0, .int .i64 0, pv w, .slice A n c, pv w, pv w, .int .i64 r1, pv w, .int .i64 r2, pv w, .int .i64 r3, .slice (some ⟨g1, 0, none⟩) 3 3, pv w, .int .i64 r4, .pointer (some ⟨g1, Int.toNat r4, none⟩), .int .i64 v1, pv w, .int .i64 r5, pv w, .int .i64 r6, pv w, .int .i64 r7, undef, pv w, .int .i64 r8, undef, undef, pv w, .int .i64 r9, .int .i64 (1 + r9), pv w, .int .i64 r10, undef, pv w, undef, undef, undef], defers := [] } wr) := by
    clear hC0
    clear st_11_222 st_11_221 st_10_221 st_11_220 st_10_220 st_9_220 st_8_220 st_11_212 st_11_211 st_10_211 st_11_210 st_9_210 st_8_210 st_7_210 st_11_202 st_11_201
    refine Lib.hid ?_
    intro wr r1 r2 r3 r4 r5 r6 r7 r8 r9 r10 g1 v1 hC hI2
    have hHeld : True := trivial
    refine of_ops hops.out ?_
    refine wpAnyH_ready (rs := [17, 27, 29]) (by kernel_rfl) (by simp) (AllReadyH.cons rfl (fun K hK => ?_) (AllReadyH.cons rfl (fun K hK => ?_) (AllReadyH.cons rfl (fun K hK => ?_) AllReadyH.nil)))
    · go_simp
      clear hHeld
      refine hK.out _ _ trivial (fun hHeld => ?_)
      clear hK K
      try simp only [List.getElem_toArray, List.getElem_cons_zero, List.getElem_cons_succ, Act.put, List.setIfInBounds_toArray, List.set_cons_zero, List.set_cons_succ]
      obtain ⟨i0, i1⟩ := hI2.out
      refine wpAnyH_take (i := 20) (v := ?v36) rfl (by kernel_rfl) (by kernel_rfl) (by kernel_rfl) (fun _ _ _ h => hPan.out _ _ _ _ h) (Or.inl ⟨by rfl, ?hy36⟩) (by assumption) ?rest36
      case hy36 =>
        intro wz hSw
        clear hSw
        go_simp <;> with_reducible rfl
      try simp only [List.getElem_toArray, List.getElem_cons_zero, List.getElem_cons_succ, Act.put, List.setIfInBounds_toArray, List.set_cons_zero, List.set_cons_succ]
      exact to_ops hops.out (st_10_210.out (wr.alloc (.cells #[.int .i64 r5, .int .i64 r6, .int .i64 r7] 3)) r1 r2 r3 r4 r5 r6 r7 r8 r9 r10 g1 wr.heap.size v1 (hC.out.alloc _) (Lt3.new _ hC.out.lt _ _ _) hI2)
    · go_simp
      clear hHeld
      refine hK.out _ _ trivial (fun hHeld => ?_)
      clear hK K
      try simp only [List.getElem_toArray, List.getElem_cons_zero, List.getElem_cons_succ, Act.put, List.setIfInBounds_toArray, List.set_cons_zero, List.set_cons_succ]
      exact to_ops hops.out (st_10_201.out (wr.alloc (.cells #[.int .i64 (1 + r9), .int .i64 0, .int .i64 17, .int .i64 r10] 3)) r1 r2 r3 r4 r5 r6 r7 r8 r9 r10 g1 wr.heap.size v1 (hC.out.alloc _) hI2 (Lt4.new _ hC.out.lt _ _ _ _))
    · go_simp
      refine (cs_pick hC.out 4 (by omega) (by omega)).mono ?_
      rintro e w2 ⟨r11, rfl, p0, p1, hC2, hG⟩
      have p2 : r11 < 4 := by omega
      go_wp2_with fail
      clear hHeld
      refine hK.out _ _ trivial (fun hHeld => ?_)
      clear hK K
      try simp only [List.getElem_toArray, List.getElem_cons_zero, List.getElem_cons_succ, Act.put, List.setIfInBounds_toArray, List.set_cons_zero, List.set_cons_succ]
      refine wpAnyH_take (i := 32) (v := ?v37) rfl (by kernel_rfl) (by kernel_rfl) (by kernel_rfl) (fun _ _ _ h => hPan.out _ _ _ _ h) (Or.inl ⟨by rfl, ?hy37⟩) (by assumption) ?rest37
      case hy37 =>
        intro wz hSw
        clear hSw
        go_simp <;> with_reducible rfl
      try simp only [List.getElem_toArray, List.getElem_cons_zero, List.getElem_cons_succ, Act.put, List.setIfInBounds_toArray, List.set_cons_zero, List.set_cons_succ]
      exact to_ops hops.out (st_11_200.out w2 r1 r2 r3 r4 r5 r6 r7 r8 r9 r10 r11 g1 v1 hC2 hI2 ⟨p0, p2⟩)
  have st_9_200 : Hid (∀ (wr : World) (r1 : Int) (r2 : Int) (r3 : Int) (r4 : Int) (r5 : Int) (r6 : Int) (r7 : Int) (r8 : Int) (r9 : Int) (g1 : Nat) (v1 : Int), Hid (CS w A n c bs 9 wr) → Hid (0 ≤ r8 ∧ r8 < 3) → wpAnyH Try.prog .any ops Q (fun _ => True) 11 #[true, true, true, true, true, true, true, true, true, true, true, true, true, true, true, true, true, false, true, true, false, false, true, true, true, true, false, false, true, false, false, false, false, false, false] { tmps := #[.slice A n c, undef, .int .i64 0, .int .i64 0, .int .i64 0, pv w, .slice A n c, pv w, pv w, .int .i64 r1, pv w, .int .i64 r2, pv w, .int .i64 r3, .slice (some ⟨g1, 0, none⟩) 3 3, pv w, .int .i64 r4, .pointer (some ⟨g1, Int.toNat r4, none⟩), .int .i64 v1, pv w, .int .i64 r5, pv w, .int .i64 r6, pv w, .int .i64 r7, undef, pv w, .int .i64 r8, undef, undef, pv w, .int .i64 r9, .int .i64 (1 + r9), pv w, undef, undef, pv w, undef, undef, undef], defers := [] } wr) := by
    clear hC0
    clear st_11_222 st_11_221 st_10_221 st_11_220 st_10_220 st_9_220 st_8_220 st_11_212 st_11_211 st_10_211 st_11_210 st_10_210 st_8_210 st_7_210 st_11_202 st_11_201 st_10_201 st_11_200
    refine Lib.hid ?_
    intro wr r1 r2 r3 r4 r5 r6 r7 r8 r9 g1 v1 hC hI2
    have hHeld : True := trivial
    refine of_ops hops.out ?_
    refine wpAnyH_ready (rs := [17, 26]) (by kernel_rfl) (by simp) (AllReadyH.cons rfl (fun K hK => ?_) (AllReadyH.cons rfl (fun K hK => ?_) AllReadyH.nil))
    · go_simp
      clear hHeld
      refine hK.out _ _ trivial (fun hHeld => ?_)
      clear hK K
      try simp only [List.getElem_toArray, List.getElem_cons_zero, List.getElem_cons_succ, Act.put, List.setIfInBounds_toArray, List.set_cons_zero, List.set_cons_succ]
      obtain ⟨i0, i1⟩ := hI2.out
      refine wpAnyH_take (i := 20) (v := ?v38) rfl (by kernel_rfl) (by kernel_rfl) (by kernel_rfl) (fun _ _ _ h => hPan.out _ _ _ _ h) (Or.inl ⟨by rfl, ?hy38⟩) (by assumption) ?rest38
      case hy38 =>
        intro wz hSw
        clear hSw
        go_simp <;> with_reducible rfl
      try simp only [List.getElem_toArray, List.getElem_cons_zero, List.getElem_cons_succ, Act.put, List.setIfInBounds_toArray, List.set_cons_zero, List.set_cons_succ]
      exact to_ops hops.out (st_9_210.out (wr.alloc (.cells #[.int .i64 r5, .int .i64 r6, .int .i64 r7] 3)) r1 r2 r3 r4 r5 r6 r7 r8 r9 g1 wr.heap.size v1 (hC.out.alloc _) (Lt3.new _ hC.out.lt _ _ _) hI2)
    · go_simp
      refine (cs_raw (N := 0) hC.out (by omega)).mono ?_
      rintro e w2 ⟨r10, rfl, hC2, hG⟩
      go_wp2_with fail
      clear hHeld
      refine hK.out _ _ trivial (fun hHeld => ?_)
      clear hK K
      try simp only [List.getElem_toArray, List.getElem_cons_zero, List.getElem_cons_succ, Act.put, List.setIfInBounds_toArray, List.set_cons_zero, List.set_cons_succ]
      exact to_ops hops.out (st_10_200.out w2 r1 r2 r3 r4 r5 r6 r7 r8 r9 r10 g1 v1 hC2 hI2)
  have st_8_200 : Hid (∀ (wr : World) (r1 : Int) (r2 : Int) (r3 : Int) (r4 : Int) (r5 : Int) (r6 : Int) (r7 : Int) (r8 : Int) (g1 : Nat) (v1 : Int), Hid (CS w A n c bs 8 wr) → Hid (0 ≤ r8 ∧ r8 < 3) → wpAnyH Try.prog .any ops Q (fun _ => True) 13 #[true, true, true, true, true, true, true, true, true, true, true, true, true, true, true, true, true, false, true, true, false, false, true, false, false, true, false, false, true, false, false, false, false, false, false] { tmps := #[.slice A n c, undef, .int .i64 0, .int .i64 0, .int .i64 0, pv w, .slice A n c, pv w, pv w, .int .i64 r1, pv w, .int .i64 r2, pv w, .int .i64 r3, .slice (some ⟨g1, 0, none⟩) 3 3, pv w, .int .i64 r4, .pointer (some ⟨g1, Int.toNat r4, none⟩), .int .i64 v1, pv w, .int .i64 r5, pv w, .int .i64 r6, pv w, .int .i64 r7, undef, pv w, .int .i64 r8, undef, undef, pv w, undef, undef, pv w, undef, undef, pv w, undef, undef, undef], defers := [] } wr) := by
    clear hC0
    clear st_11_222 st_11_221 st_10_221 st_11_220 st_10_220 st_9_220 st_8_220 st_11_212 st_11_211 st_10_211 st_11_210 st_10_210 st_9_210 st_7_210 st_11_202 st_11_201 st_10_201 st_11_200 st_10_200
    refine Lib.hid ?_
    intro wr r1 r2 r3 r4 r5 r6 r7 r8 g1 v1 hC hI2
    have hHeld : True := trivial
    refine of_ops hops.out ?_
    refine wpAnyH_ready (rs := [17, 23]) (by kernel_rfl) (by simp) (AllReadyH.cons rfl (fun K hK => ?_) (AllReadyH.cons rfl (fun K hK => ?_) AllReadyH.nil))
    · go_simp
      clear hHeld
      refine hK.out _ _ trivial (fun hHeld => ?_)
      clear hK K
      try simp only [List.getElem_toArray, List.getElem_cons_zero, List.getElem_cons_succ, Act.put, List.setIfInBounds_toArray, List.set_cons_zero, List.set_cons_succ]
      obtain ⟨i0, i1⟩ := hI2.out
      refine wpAnyH_take (i := 20) (v := ?v39) rfl (by kernel_rfl) (by kernel_rfl) (by kernel_rfl) (fun _ _ _ h => hPan.out _ _ _ _ h) (Or.inl ⟨by rfl, ?hy39⟩) (by assumption) ?rest39
      case hy39 =>
        intro wz hSw
        clear hSw
        go_simp <;> with_reducible rfl
      try simp only [List.getElem_toArray, List.getElem_cons_zero, List.getElem_cons_succ, Act.put, List.setIfInBounds_toArray, List.set_cons_zero, List.set_cons_succ]
      exact to_ops hops.out (st_8_210.out (wr.alloc (.cells #[.int .i64 r5, .int .i64 r6, .int .i64 r7] 3)) r1 r2 r3 r4 r5 r6 r7 r8 g1 wr.heap.size v1 (hC.out.alloc _) (Lt3.new _ hC.out.lt _ _ _) hI2)
    · go_simp
      refine (cs_pick hC.out 16 (by omega) (by omega)).mono ?_
      rintro e w2 ⟨r9, rfl, p0, p1, hC2, hG⟩
      have p2 : r9 < 16 := by omega
      go_wp2_with fail
      clear hHeld
      refine hK.out _ _ trivial (fun hHeld => ?_)
      clear hK K
      try simp only [List.getElem_toArray, List.getElem_cons_zero, List.getElem_cons_succ, Act.put, List.setIfInBounds_toArray, List.set_cons_zero, List.set_cons_succ]
      have ew : IntKind.i64.wrap (1 + r9) = 1 + r9 := IntWalk.i64_in _ (by omega)
      refine wpAnyH_take (i := 24) (v := .int .i64 (1 + r9)) rfl (by kernel_rfl) (by kernel_rfl) (by kernel_rfl) (fun _ _ _ h => hPan.out _ _ _ _ h) (Or.inl ⟨by rfl, ?hy40⟩) (by assumption) ?rest40
      case hy40 =>
        intro wz hSw
        clear hSw
        first
          | (go_simp; done)
          | (go_simp <;> with_reducible rfl)
          | (go_simp; rw [ew])
      try simp only [List.getElem_toArray, List.getElem_cons_zero, List.getElem_cons_succ, Act.put, List.setIfInBounds_toArray, List.set_cons_zero, List.set_cons_succ]
      exact to_ops hops.out (st_9_200.out w2 r1 r2 r3 r4 r5 r6 r7 r8 r9 g1 v1 hC2 hI2)
  have st_7_200 : Hid (∀ (wr : World) (r1 : Int) (r2 : Int) (r3 : Int) (r4 : Int) (r5 : Int) (r6 : Int) (r7 : Int) (g1 : Nat) (v1 : Int), Hid (CS w A n c bs 7 wr) → wpAnyH Try.prog .any ops Q (fun _ => True) 14 #[true, true, true, true, true, true, true, true, true, true, true, true, true, true, true, true, true, false, true, false, false, false, true, false, false, true, false, false, true, false, false, false, false, false, false] { tmps := #[.slice A n c, undef, .int .i64 0, .int .i64 0, .int .i64 0, pv w, .slice A n c, pv w, pv w, .int .i64 r1, pv w, .int .i64 r2, pv w, .int .i64 r3, .slice (some ⟨g1, 0, none⟩) 3 3, pv w, .int .i64 r4, .pointer (some ⟨g1, Int.toNat r4, none⟩), .int .i64 v1, pv w, .int .i64 r5, pv w, .int .i64 r6, pv w, .int .i64 r7, undef, pv w, undef, undef, undef, pv w, undef, undef, pv w, undef, undef, pv w, undef, undef, undef], defers := [] } wr) := by
    clear hC0
    clear st_11_222 st_11_221 st_10_221 st_11_220 st_10_220 st_9_220 st_8_220 st_11_212 st_11_211 st_10_211 st_11_210 st_10_210 st_9_210 st_8_210 st_11_202 st_11_201 st_10_201 st_11_200 st_10_200 st_9_200
    refine Lib.hid ?_
    intro wr r1 r2 r3 r4 r5 r6 r7 g1 v1 hC
    have hHeld : True := trivial
    refine of_ops hops.out ?_
    refine wpAnyH_ready (rs := [17, 19]) (by kernel_rfl) (by simp) (AllReadyH.cons rfl (fun K hK => ?_) (AllReadyH.cons rfl (fun K hK => ?_) AllReadyH.nil))
    · go_simp
      clear hHeld
      refine hK.out _ _ trivial (fun hHeld => ?_)
      clear hK K
      try simp only [List.getElem_toArray, List.getElem_cons_zero, List.getElem_cons_succ, Act.put, List.setIfInBounds_toArray, List.set_cons_zero, List.set_cons_succ]
      exact to_ops hops.out (st_7_210.out (wr.alloc (.cells #[.int .i64 r5, .int .i64 r6, .int .i64 r7] 3)) r1 r2 r3 r4 r5 r6 r7 g1 wr.heap.size v1 (hC.out.alloc _) (Lt3.new _ hC.out.lt _ _ _))
    · go_simp
      refine (cs_pick hC.out 3 (by omega) (by omega)).mono ?_
      rintro e w2 ⟨r8, rfl, p0, p1, hC2, hG⟩
      have p2 : r8 < 3 := by omega
      go_wp2_with fail
      clear hHeld
      refine hK.out _ _ trivial (fun hHeld => ?_)
      clear hK K
      try simp only [List.getElem_toArray, List.getElem_cons_zero, List.getElem_cons_succ, Act.put, List.setIfInBounds_toArray, List.set_cons_zero, List.set_cons_succ]
      exact to_ops hops.out (st_8_200.out w2 r1 r2 r3 r4 r5 r6 r7 r8 g1 v1 hC2 ⟨p0, p2⟩)
  have st_6_200 : Hid (∀ (wr : World) (r1 : Int) (r2 : Int) (r3 : Int) (r4 : Int) (r5 : Int) (r6 : Int) (g1 : Nat) (v1 : Int), Hid (CS w A n c bs 6 wr) → wpAnyH Try.prog .any ops Q (fun _ => True) 15 #[true, true, true, true, true, true, true, true, true, true, true, true, true, true, true, true, false, false, true, false, false, false, true, false, false, true, false, false, true, false, false, false, false, false, false] { tmps := #[.slice A n c, undef, .int .i64 0, .int .i64 0, .int .i64 0, pv w, .slice A n c, pv w, pv w, .int .i64 r1, pv w, .int .i64 r2, pv w, .int .i64 r3, .slice (some ⟨g1, 0, none⟩) 3 3, pv w, .int .i64 r4, .pointer (some ⟨g1, Int.toNat r4, none⟩), .int .i64 v1, pv w, .int .i64 r5, pv w, .int .i64 r6, pv w, undef, undef, pv w, undef, undef, undef, pv w, undef, undef, pv w, undef, undef, pv w, undef, undef, undef], defers := [] } wr) := by
    clear hC0
    clear st_11_222 st_11_221 st_10_221 st_11_220 st_10_220 st_9_220 st_8_220 st_11_212 st_11_211 st_10_211 st_11_210 st_10_210 st_9_210 st_8_210 st_7_210 st_11_202 st_11_201 st_10_201 st_11_200 st_10_200 st_9_200 st_8_200
    refine Lib.hid ?_
    intro wr r1 r2 r3 r4 r5 r6 g1 v1 hC
    have hHeld : True := trivial
    refine of_ops hops.out ?_
    refine wpAnyH_ready (rs := [16]) (by kernel_rfl) (by simp) (AllReadyH.cons rfl (fun K hK => ?_) AllReadyH.nil)
    go_simp
    refine (cs_raw (N := 0) hC.out (by omega)).mono ?_
    rintro e w2 ⟨r7, rfl, hC2, hG⟩
    go_wp2_with fail
    clear hHeld
    refine hK.out _ _ trivial (fun hHeld => ?_)
    clear hK K
    try simp only [List.getElem_toArray, List.getElem_cons_zero, List.getElem_cons_succ, Act.put, List.setIfInBounds_toArray, List.set_cons_zero, List.set_cons_succ]
    exact to_ops hops.out (st_7_200.out w2 r1 r2 r3 r4 r5 r6 r7 g1 v1 hC2)
  have st_5_200 : Hid (∀ (wr : World) (r1 : Int) (r2 : Int) (r3 : Int) (r4 : Int) (r5 : Int) (g1 : Nat) (v1 : Int), Hid (CS w A n c bs 5 wr) → wpAnyH Try.prog .any ops Q (fun _ => True) 16 #[true, true, true, true, true, true, true, true, true, true, true, true, true, true, false, true, false, false, true, false, false, false, true, false, false, true, false, false, true, false, false, false, false, false, false] { tmps := #[.slice A n c, undef, .int .i64 0, .int .i64 0, .int .i64 0, pv w, .slice A n c, pv w, pv w, .int .i64 r1, pv w, .int .i64 r2, pv w, .int .i64 r3, .slice (some ⟨g1, 0, none⟩) 3 3, pv w, .int .i64 r4, .pointer (some ⟨g1, Int.toNat r4, none⟩), .int .i64 v1, pv w, .int .i64 r5, pv w, undef, pv w, undef, undef, pv w, undef, undef, undef, pv w, undef, undef, pv w, undef, undef, pv w, undef, undef, undef], defers := [] } wr) := by
    clear hC0
    clear st_11_222 st_11_221 st_10_221 st_11_220 st_10_220 st_9_220 st_8_220 st_11_212 st_11_211 st_10_211 st_11_210 st_10_210 st_9_210 st_8_210 st_7_210 st_11_202 st_11_201 st_10_201 st_11_200 st_10_200 st_9_200 st_8_200 st_7_200
    refine Lib.hid ?_
    intro wr r1 r2 r3 r4 r5 g1 v1 hC
    have hHeld : True := trivial
    refine of_ops hops.out ?_
    refine wpAnyH_ready (rs := [14]) (by kernel_rfl) (by simp) (AllReadyH.cons rfl (fun K hK => ?_) AllReadyH.nil)
    go_simp
    refine (cs_pick hC.out 5 (by omega) (by omega)).mono ?_
    rintro e w2 ⟨r6, rfl, p0, p1, hC2, hG⟩
    have p2 : r6 < 5 := by omega
    go_wp2_with fail
    clear hHeld
    refine hK.out _ _ trivial (fun hHeld => ?_)
    clear hK K
    try simp only [List.getElem_toArray, List.getElem_cons_zero, List.getElem_cons_succ, Act.put, List.setIfInBounds_toArray, List.set_cons_zero, List.set_cons_succ]
    exact to_ops hops.out (st_6_200.out w2 r1 r2 r3 r4 r5 r6 g1 v1 hC2)
  have st_4_200 : Hid (∀ (wr : World) (r1 : Int) (r2 : Int) (r3 : Int) (r4 : Int) (g1 : Nat) (v1 : Int), Hid (CS w A n c bs 4 wr) → wpAnyH Try.prog .any ops Q (fun _ => True) 17 #[true, true, true, true, true, true, true, true, true, true, true, true, false, true, false, true, false, false, true, false, false, false, true, false, false, true, false, false, true, false, false, false, false, false, false] { tmps := #[.slice A n c, undef, .int .i64 0, .int .i64 0, .int .i64 0, pv w, .slice A n c, pv w, pv w, .int .i64 r1, pv w, .int .i64 r2, pv w, .int .i64 r3, .slice (some ⟨g1, 0, none⟩) 3 3, pv w, .int .i64 r4, .pointer (some ⟨g1, Int.toNat r4, none⟩), .int .i64 v1, pv w, undef, pv w, undef, pv w, undef, undef, pv w, undef, undef, undef, pv w, undef, undef, pv w, undef, undef, pv w, undef, undef, undef], defers := [] } wr) := by
    clear hC0
    clear st_11_222 st_11_221 st_10_221 st_11_220 st_10_220 st_9_220 st_8_220 st_11_212 st_11_211 st_10_211 st_11_210 st_10_210 st_9_210 st_8_210 st_7_210 st_11_202 st_11_201 st_10_201 st_11_200 st_10_200 st_9_200 st_8_200 st_7_200 st_6_200
    refine Lib.hid ?_
    intro wr r1 r2 r3 r4 g1 v1 hC
    have hHeld : True := trivial
    refine of_ops hops.out ?_
    refine wpAnyH_ready (rs := [12]) (by kernel_rfl) (by simp) (AllReadyH.cons rfl (fun K hK => ?_) AllReadyH.nil)
    go_simp
    refine (cs_pick hC.out 6 (by omega) (by omega)).mono ?_
    rintro e w2 ⟨r5, rfl, p0, p1, hC2, hG⟩
    have p2 : r5 < 6 := by omega
    go_wp2_with fail
    clear hHeld
    refine hK.out _ _ trivial (fun hHeld => ?_)
    clear hK K
    try simp only [List.getElem_toArray, List.getElem_cons_zero, List.getElem_cons_succ, Act.put, List.setIfInBounds_toArray, List.set_cons_zero, List.set_cons_succ]
    exact to_ops hops.out (st_5_200.out w2 r1 r2 r3 r4 r5 g1 v1 hC2)
  have st_11_122 : Hid (∀ (wr : World) (r1 : Int) (r2 : Int) (r3 : Int) (r4 : Int) (r5 : Int) (r6 : Int) (r7 : Int) (r8 : Int) (r9 : Int) (r10 : Int) (r11 : Int) (g1 : Nat) (g2 : Nat) (g3 : Nat) (v2 : Int) (v3 : Int), Hid (CS w A n c bs 11 wr) → Hid (Lt3 w wr g1) → Hid (0 ≤ r4 ∧ r4 < 3) → wpAnyH Try.prog .any ops Q (fun _ => True) 4 #[true, true, true, true, true, true, true, true, true, true, false, true, true, true, true, true, true, true, true, true, true, true, true, true, true, true, true, true, true, true, true, true, false, false, false] { tmps := #[.slice A n c, undef, .int .i64 0, .int .i64 0, .int .i64 0, pv w, .slice A n c, pv w, pv w, .int .i64 r1, pv w, .int .i64 r2, pv w, .int .i64 r3, .slice (some ⟨g1, 0, none⟩) 3 3, pv w, .int .i64 r4, .pointer (some ⟨g1, Int.toNat r4, none⟩), undef, pv w, .int .i64 r5, pv w, .int .i64 r6, pv w, .int .i64 r7, .slice (some ⟨g2, 0, none⟩) 3 3, pv w, .int .i64 r8, .pointer (some ⟨g2, Int.toNat r8, none⟩), .int .i64 v2, pv w, .int .i64 r9, .int .i64 (1 + r9), pv w, .int .i64 r10, .slice (some ⟨g3, 0, none⟩) 4 4, pv w, .int .i64 r11, .pointer (some ⟨g3, Int.toNat r11, none⟩), .int .i64 v3], defers := [] } wr) := by
    clear hC0
    clear st_11_221 st_10_221 st_11_220 st_10_220 st_9_220 st_8_220 st_11_212 st_11_211 st_10_211 st_11_210 st_10_210 st_9_210 st_8_210 st_7_210 st_11_202 st_11_201 st_10_201 st_11_200 st_10_200 st_9_200 st_8_200 st_7_200 st_6_200 st_5_200 st_4_200
    refine Lib.hid ?_
    intro wr r1 r2 r3 r4 r5 r6 r7 r8 r9 r10 r11 g1 g2 g3 v2 v3 hC hL1 hI1
    have hHeld : True := trivial
    refine of_ops hops.out ?_
    refine wpAnyH_ready (rs := [10]) (by kernel_rfl) (by simp) (AllReadyH.cons rfl (fun K hK => ?_) AllReadyH.nil)
    obtain ⟨v1, hc⟩ := hL1.out.cell hI1.out.1 hI1.out.2
    go_simp
    clear hHeld
    refine hK.out _ _ trivial (fun hHeld => ?_)
    clear hK K
    try simp only [List.getElem_toArray, List.getElem_cons_zero, List.getElem_cons_succ, Act.put, List.setIfInBounds_toArray, List.set_cons_zero, List.set_cons_succ]
    refine wpAnyH_take (i := 32) (v := ?v41) rfl (by kernel_rfl) (by kernel_rfl) (by kernel_rfl) (fun _ _ _ h => hPan.out _ _ _ _ h) (Or.inl ⟨by rfl, ?hy41⟩) (by assumption) ?rest41
    case hy41 =>
      intro wz hSw
      clear hSw
      go_simp <;> with_reducible rfl
    try simp only [List.getElem_toArray, List.getElem_cons_zero, List.getElem_cons_succ, Act.put, List.setIfInBounds_toArray, List.set_cons_zero, List.set_cons_succ]
    refine wpAnyH_take (i := 33) (v := ?v42) rfl (by kernel_rfl) (by kernel_rfl) (by kernel_rfl) (fun _ _ _ h => hPan.out _ _ _ _ h) (Or.inl ⟨by rfl, ?hy42⟩) (by assumption) ?rest42
    case hy42 =>
      intro wz hSw
      clear hSw
      go_simp <;> with_reducible rfl
    try simp only [List.getElem_toArray, List.getElem_cons_zero, List.getElem_cons_succ, Act.put, List.setIfInBounds_toArray, List.set_cons_zero, List.set_cons_succ]
    exact to_ops hops.out (st_11_222.out wr r1 r2 r3 r4 r5 r6 r7 r8 r9 r10 r11 g1 g2 g3 v1 v2 v3 hC)
  clear st_11_222
  have st_11_121 : Hid (∀ (wr : World) (r1 : Int) (r2 : Int) (r3 : Int) (r4 : Int) (r5 : Int) (r6 : Int) (r7 : Int) (r8 : Int) (r9 : Int) (r10 : Int) (r11 : Int) (g1 : Nat) (g2 : Nat) (g3 : Nat) (v2 : Int), Hid (CS w A n c bs 11 wr) → Hid (Lt3 w wr g1) → Hid (0 ≤ r4 ∧ r4 < 3) → Hid (Lt4 w wr g3) → Hid (0 ≤ r11 ∧ r11 < 4) → wpAnyH Try.prog .any ops Q (fun _ => True) 5 #[true, true, true, true, true, true, true, true, true, true, false, true, true, true, true, true, true, true, true, true, true, true, true, true, true, true, true, true, true, true, true, false, false, false, false] { tmps := #[.slice A n c, undef, .int .i64 0, .int .i64 0, .int .i64 0, pv w, .slice A n c, pv w, pv w, .int .i64 r1, pv w, .int .i64 r2, pv w, .int .i64 r3, .slice (some ⟨g1, 0, none⟩) 3 3, pv w, .int .i64 r4, .pointer (some ⟨g1, Int.toNat r4, none⟩), undef, pv w, .int .i64 r5, pv w, .int .i64 r6, pv w, .int .i64 r7, .slice (some ⟨g2, 0, none⟩) 3 3, pv w, .int .i64 r8, .pointer (some ⟨g2, Int.toNat r8, none⟩), .int .i64 v2, pv w, .int .i64 r9, .int .i64 (1 + r9), pv w, .int .i64 r10, .slice (some ⟨g3, 0, none⟩) 4 4, pv w, .int .i64 r11, .pointer (some ⟨g3, Int.toNat r11, none⟩), undef], defers := [] } wr) := by
    clear hC0
    clear st_10_221 st_11_220 st_10_220 st_9_220 st_8_220 st_11_212 st_11_211 st_10_211 st_11_210 st_10_210 st_9_210 st_8_210 st_7_210 st_11_202 st_11_201 st_10_201 st_11_200 st_10_200 st_9_200 st_8_200 st_7_200 st_6_200 st_5_200 st_4_200
    refine Lib.hid ?_
    intro wr r1 r2 r3 r4 r5 r6 r7 r8 r9 r10 r11 g1 g2 g3 v2 hC hL1 hI1 hL3 hI3
    have hHeld : True := trivial
    refine of_ops hops.out ?_
    refine wpAnyH_ready (rs := [10, 31]) (by kernel_rfl) (by simp) (AllReadyH.cons rfl (fun K hK => ?_) (AllReadyH.cons rfl (fun K hK => ?_) AllReadyH.nil))
    · obtain ⟨v1, hc⟩ := hL1.out.cell hI1.out.1 hI1.out.2
      go_simp
      clear hHeld
      refine hK.out _ _ trivial (fun hHeld => ?_)
      clear hK K
      try simp only [List.getElem_toArray, List.getElem_cons_zero, List.getElem_cons_succ, Act.put, List.setIfInBounds_toArray, List.set_cons_zero, List.set_cons_succ]
      refine wpAnyH_take (i := 32) (v := ?v43) rfl (by kernel_rfl) (by kernel_rfl) (by kernel_rfl) (fun _ _ _ h => hPan.out _ _ _ _ h) (Or.inl ⟨by rfl, ?hy43⟩) (by assumption) ?rest43
      case hy43 =>
        intro wz hSw
        clear hSw
        go_simp <;> with_reducible rfl
      try simp only [List.getElem_toArray, List.getElem_cons_zero, List.getElem_cons_succ, Act.put, List.setIfInBounds_toArray, List.set_cons_zero, List.set_cons_succ]
      refine wpAnyH_take (i := 33) (v := ?v44) rfl (by kernel_rfl) (by kernel_rfl) (by kernel_rfl) (fun _ _ _ h => hPan.out _ _ _ _ h) (Or.inl ⟨by rfl, ?hy44⟩) (by assumption) ?rest44
      case hy44 =>
        intro wz hSw
        clear hSw
        go_simp <;> with_reducible rfl
      try simp only [List.getElem_toArray, List.getElem_cons_zero, List.getElem_cons_succ, Act.put, List.setIfInBounds_toArray, List.set_cons_zero, List.set_cons_succ]
      exact to_ops hops.out (st_11_221.out wr r1 r2 r3 r4 r5 r6 r7 r8 r9 r10 r11 g1 g2 g3 v1 v2 hC hL3 hI3)
    · obtain ⟨v3, hc⟩ := hL3.out.cell hI3.out.1 hI3.out.2
      go_simp
      clear hHeld
      refine hK.out _ _ trivial (fun hHeld => ?_)
      clear hK K
      try simp only [List.getElem_toArray, List.getElem_cons_zero, List.getElem_cons_succ, Act.put, List.setIfInBounds_toArray, List.set_cons_zero, List.set_cons_succ]
      exact to_ops hops.out (st_11_122.out wr r1 r2 r3 r4 r5 r6 r7 r8 r9 r10 r11 g1 g2 g3 v2 v3 hC hL1 hI1)
  clear st_11_221
  have st_10_121 : Hid (∀ (wr : World) (r1 : Int) (r2 : Int) (r3 : Int) (r4 : Int) (r5 : Int) (r6 : Int) (r7 : Int) (r8 : Int) (r9 : Int) (r10 : Int) (g1 : Nat) (g2 : Nat) (g3 : Nat) (v2 : Int), Hid (CS w A n c bs 10 wr) → Hid (Lt3 w wr g1) → Hid (0 ≤ r4 ∧ r4 < 3) → Hid (Lt4 w wr g3) → wpAnyH Try.prog .any ops Q (fun _ => True) 7 #[true, true, true, true, true, true, true, true, true, true, false, true, true, true, true, true, true, true, true, true, true, true, true, true, true, true, true, true, true, false, false, false, false, false, false] { tmps := #[.slice A n c, undef, .int .i64 0, .int .i64 0, .int .i64 0, pv w, .slice A n c, pv w, pv w, .int .i64 r1, pv w, .int .i64 r2, pv w, .int .i64 r3, .slice (some ⟨g1, 0, none⟩) 3 3, pv w, .int .i64 r4, .pointer (some ⟨g1, Int.toNat r4, none⟩), undef, pv w, .int .i64 r5, pv w, .int .i64 r6, pv w, .int .i64 r7, .slice (some ⟨g2, 0, none⟩) 3 3, pv w, .int .i64 r8, .pointer (some ⟨g2, Int.toNat r8, none⟩), .int .i64 v2, pv w, .int .i64 r9, .int .i64 (1 + r9), pv w, .int .i64 r10, .slice (some ⟨g3, 0, none⟩) 4 4, pv w, undef, undef, undef], defers := [] } wr) := by
    clear hC0
    clear st_11_220 st_10_220 st_9_220 st_8_220 st_11_212 st_11_211 st_10_211 st_11_210 st_10_210 st_9_210 st_8_210 st_7_210 st_11_202 st_11_201 st_10_201 st_11_200 st_10_200 st_9_200 st_8_200 st_7_200 st_6_200 st_5_200 st_4_200 st_11_122
    refine Lib.hid ?_
    intro wr r1 r2 r3 r4 r5 r6 r7 r8 r9 r10 g1 g2 g3 v2 hC hL1 hI1 hL3
    have hHeld : True := trivial
    refine of_ops hops.out ?_
    refine wpAnyH_ready (rs := [10, 29]) (by kernel_rfl) (by simp) (AllReadyH.cons rfl (fun K hK => ?_) (AllReadyH.cons rfl (fun K hK => ?_) AllReadyH.nil))
    · obtain ⟨v1, hc⟩ := hL1.out.cell hI1.out.1 hI1.out.2
      go_simp
      clear hHeld
      refine hK.out _ _ trivial (fun hHeld => ?_)
      clear hK K
      try simp only [List.getElem_toArray, List.getElem_cons_zero, List.getElem_cons_succ, Act.put, List.setIfInBounds_toArray, List.set_cons_zero, List.set_cons_succ]
      exact to_ops hops.out (st_10_221.out wr r1 r2 r3 r4 r5 r6 r7 r8 r9 r10 g1 g2 g3 v1 v2 hC hL3)
    · go_simp
      refine (cs_pick hC.out 4 (by omega) (by omega)).mono ?_
      rintro e w2 ⟨r11, rfl, p0, p1, hC2, hG⟩
      have p2 : r11 < 4 := by omega
      go_wp2_with fail
      clear hHeld
      refine hK.out _ _ trivial (fun hHeld => ?_)
      clear hK K
      try simp only [List.getElem_toArray, List.getElem_cons_zero, List.getElem_cons_succ, Act.put, List.setIfInBounds_toArray, List.set_cons_zero, List.set_cons_succ]
      have hL1' := Lib.hid (hL1.out.call hG.out)
      refine wpAnyH_take (i := 30) (v := ?v45) rfl (by kernel_rfl) (by kernel_rfl) (by kernel_rfl) (fun _ _ _ h => hPan.out _ _ _ _ h) (Or.inl ⟨by rfl, ?hy45⟩) (by assumption) ?rest45
      case hy45 =>
        intro wz hSw
        clear hSw
        go_simp <;> with_reducible rfl
      try simp only [List.getElem_toArray, List.getElem_cons_zero, List.getElem_cons_succ, Act.put, List.setIfInBounds_toArray, List.set_cons_zero, List.set_cons_succ]
      have hL3' := Lib.hid (hL3.out.call hG.out)
      exact to_ops hops.out (st_11_121.out w2 r1 r2 r3 r4 r5 r6 r7 r8 r9 r10 r11 g1 g2 g3 v2 hC2 hL1' hI1 hL3' ⟨p0, p2⟩)
  clear st_10_221
  have st_11_120 : Hid (∀ (wr : World) (r1 : Int) (r2 : Int) (r3 : Int) (r4 : Int) (r5 : Int) (r6 : Int) (r7 : Int) (r8 : Int) (r9 : Int) (r10 : Int) (r11 : Int) (g1 : Nat) (g2 : Nat) (v2 : Int), Hid (CS w A n c bs 11 wr) → Hid (Lt3 w wr g1) → Hid (0 ≤ r4 ∧ r4 < 3) → Hid (0 ≤ r11 ∧ r11 < 4) → wpAnyH Try.prog .any ops Q (fun _ => True) 7 #[true, true, true, true, true, true, true, true, true, true, false, true, true, true, true, true, true, true, true, true, true, true, true, true, true, true, true, false, true, true, false, false, false, false, false] { tmps := #[.slice A n c, undef, .int .i64 0, .int .i64 0, .int .i64 0, pv w, .slice A n c, pv w, pv w, .int .i64 r1, pv w, .int .i64 r2, pv w, .int .i64 r3, .slice (some ⟨g1, 0, none⟩) 3 3, pv w, .int .i64 r4, .pointer (some ⟨g1, Int.toNat r4, none⟩), undef, pv w, .int .i64 r5, pv w, .int .i64 r6, pv w, .int .i64 r7, .slice (some ⟨g2, 0, none⟩) 3 3, pv w, .int .i64 r8, .pointer (some ⟨g2, Int.toNat r8, none⟩), .int .i64 v2, pv w, .int .i64 r9, .int .i64 (1 + r9), pv w, .int .i64 r10, undef, pv w, .int .i64 r11, undef, undef], defers := [] } wr) := by
    clear hC0
    clear st_10_220 st_9_220 st_8_220 st_11_212 st_11_211 st_10_211 st_11_210 st_10_210 st_9_210 st_8_210 st_7_210 st_11_202 st_11_201 st_10_201 st_11_200 st_10_200 st_9_200 st_8_200 st_7_200 st_6_200 st_5_200 st_4_200 st_11_122 st_10_121
    refine Lib.hid ?_
    intro wr r1 r2 r3 r4 r5 r6 r7 r8 r9 r10 r11 g1 g2 v2 hC hL1 hI1 hI3
    have hHeld : True := trivial
    refine of_ops hops.out ?_
    refine wpAnyH_ready (rs := [10, 27]) (by kernel_rfl) (by simp) (AllReadyH.cons rfl (fun K hK => ?_) (AllReadyH.cons rfl (fun K hK => ?_) AllReadyH.nil))
    · obtain ⟨v1, hc⟩ := hL1.out.cell hI1.out.1 hI1.out.2
      go_simp
      clear hHeld
      refine hK.out _ _ trivial (fun hHeld => ?_)
      clear hK K
      try simp only [List.getElem_toArray, List.getElem_cons_zero, List.getElem_cons_succ, Act.put, List.setIfInBounds_toArray, List.set_cons_zero, List.set_cons_succ]
      refine wpAnyH_take (i := 32) (v := ?v46) rfl (by kernel_rfl) (by kernel_rfl) (by kernel_rfl) (fun _ _ _ h => hPan.out _ _ _ _ h) (Or.inl ⟨by rfl, ?hy46⟩) (by assumption) ?rest46
      case hy46 =>
        intro wz hSw
        clear hSw
        go_simp <;> with_reducible rfl
      try simp only [List.getElem_toArray, List.getElem_cons_zero, List.getElem_cons_succ, Act.put, List.setIfInBounds_toArray, List.set_cons_zero, List.set_cons_succ]
      refine wpAnyH_take (i := 33) (v := ?v47) rfl (by kernel_rfl) (by kernel_rfl) (by kernel_rfl) (fun _ _ _ h => hPan.out _ _ _ _ h) (Or.inl ⟨by rfl, ?hy47⟩) (by assumption) ?rest47
      case hy47 =>
        intro wz hSw
        clear hSw
        go_simp <;> with_reducible rfl
      try simp only [List.getElem_toArray, List.getElem_cons_zero, List.getElem_cons_succ, Act.put, List.setIfInBounds_toArray, List.set_cons_zero, List.set_cons_succ]
      exact to_ops hops.out (st_11_220.out wr r1 r2 r3 r4 r5 r6 r7 r8 r9 r10 r11 g1 g2 v1 v2 hC hI3)
    · go_simp
      clear hHeld
      refine hK.out _ _ trivial (fun hHeld => ?_)
      clear hK K
      try simp only [List.getElem_toArray, List.getElem_cons_zero, List.getElem_cons_succ, Act.put, List.setIfInBounds_toArray, List.set_cons_zero, List.set_cons_succ]
      obtain ⟨i0, i1⟩ := hI3.out
      refine wpAnyH_take (i := 30) (v := ?v48) rfl (by kernel_rfl) (by kernel_rfl) (by kernel_rfl) (fun _ _ _ h => hPan.out _ _ _ _ h) (Or.inl ⟨by rfl, ?hy48⟩) (by assumption) ?rest48
      case hy48 =>
        intro wz hSw
        clear hSw
        go_simp <;> with_reducible rfl
      try simp only [List.getElem_toArray, List.getElem_cons_zero, List.getElem_cons_succ, Act.put, List.setIfInBounds_toArray, List.set_cons_zero, List.set_cons_succ]
      exact to_ops hops.out (st_11_121.out (wr.alloc (.cells #[.int .i64 (1 + r9), .int .i64 0, .int .i64 17, .int .i64 r10] 3)) r1 r2 r3 r4 r5 r6 r7 r8 r9 r10 r11 g1 g2 wr.heap.size v2 (hC.out.alloc _) (hL1.out.alloc _) hI1 (Lt4.new _ hC.out.lt _ _ _ _) hI3)
  clear st_11_220
  have st_10_120 : Hid (∀ (wr : World) (r1 : Int) (r2 : Int) (r3 : Int) (r4 : Int) (r5 : Int) (r6 : Int) (r7 : Int) (r8 : Int) (r9 : Int) (r10 : Int) (g1 : Nat) (g2 : Nat) (v2 : Int), Hid (CS w A n c bs 10 wr) → Hid (Lt3 w wr g1) → Hid (0 ≤ r4 ∧ r4 < 3) → wpAnyH Try.prog .any ops Q (fun _ => True) 8 #[true, true, true, true, true, true, true, true, true, true, false, true, true, true, true, true, true, true, true, true, true, true, true, true, true, true, true, false, true, false, false, false, false, false, false] { tmps := #[.slice A n c, undef, .int .i64 0, .int .i64 0, .int .i64 0, pv w, .slice A n c, pv w, pv w, .int .i64 r1, pv w, .int .i64 r2, pv w, .int .i64 r3, .slice (some ⟨g1, 0, none⟩) 3 3, pv w, .int .i64 r4, .pointer (some ⟨g1, Int.toNat r4, none⟩), undef, pv w, .int .i64 r5, pv w, .int .i64 r6, pv w, .int .i64 r7, .slice (some ⟨g2, 0, none⟩) 3 3, pv w, .int .i64 r8, .pointer (some ⟨g2, Int.toNat r8, none⟩), .int .i64 v2, pv w, .int .i64 r9, .int .i64 (1 + r9), pv w, .int .i64 r10, undef, pv w, undef, undef, undef], defers := [] } wr) := by
    clear hC0
    clear st_9_220 st_8_220 st_11_212 st_11_211 st_10_211 st_11_210 st_10_210 st_9_210 st_8_210 st_7_210 st_11_202 st_11_201 st_10_201 st_11_200 st_10_200 st_9_200 st_8_200 st_7_200 st_6_200 st_5_200 st_4_200 st_11_122 st_11_121
    refine Lib.hid ?_
    intro wr r1 r2 r3 r4 r5 r6 r7 r8 r9 r10 g1 g2 v2 hC hL1 hI1
    have hHeld : True := trivial
    refine of_ops hops.out ?_
    refine wpAnyH_ready (rs := [10, 27, 29]) (by kernel_rfl) (by simp) (AllReadyH.cons rfl (fun K hK => ?_) (AllReadyH.cons rfl (fun K hK => ?_) (AllReadyH.cons rfl (fun K hK => ?_) AllReadyH.nil)))
    · obtain ⟨v1, hc⟩ := hL1.out.cell hI1.out.1 hI1.out.2
      go_simp
      clear hHeld
      refine hK.out _ _ trivial (fun hHeld => ?_)
      clear hK K
      try simp only [List.getElem_toArray, List.getElem_cons_zero, List.getElem_cons_succ, Act.put, List.setIfInBounds_toArray, List.set_cons_zero, List.set_cons_succ]
      exact to_ops hops.out (st_10_220.out wr r1 r2 r3 r4 r5 r6 r7 r8 r9 r10 g1 g2 v1 v2 hC)
    · go_simp
      clear hHeld
      refine hK.out _ _ trivial (fun hHeld => ?_)
      clear hK K
      try simp only [List.getElem_toArray, List.getElem_cons_zero, List.getElem_cons_succ, Act.put, List.setIfInBounds_toArray, List.set_cons_zero, List.set_cons_succ]
      exact to_ops hops.out (st_10_121.out (wr.alloc (.cells #[.int .i64 (1 + r9), .int .i64 0, .int .i64 17, .int .i64 r10] 3)) r1 r2 r3 r4 r5 r6 r7 r8 r9 r10 g1 g2 wr.heap.size v2 (hC.out.alloc _) (hL1.out.alloc _) hI1 (Lt4.new _ hC.out.lt _ _ _ _))
    · go_simp
      refine (cs_pick hC.out 4 (by omega) (by omega)).mono ?_
      rintro e w2 ⟨r11, rfl, p0, p1, hC2, hG⟩
      have p2 : r11 < 4 := by omega
      go_wp2_with fail
      clear hHeld
      refine hK.out _ _ trivial (fun hHeld => ?_)
      clear hK K
      try simp only [List.getElem_toArray, List.getElem_cons_zero, List.getElem_cons_succ, Act.put, List.setIfInBounds_toArray, List.set_cons_zero, List.set_cons_succ]
      have hL1' := Lib.hid (hL1.out.call hG.out)
      exact to_ops hops.out (st_11_120.out w2 r1 r2 r3 r4 r5 r6 r7 r8 r9 r10 r11 g1 g2 v2 hC2 hL1' hI1 ⟨p0, p2⟩)
  clear st_10_220
  have st_9_120 : Hid (∀ (wr : World) (r1 : Int) (r2 : Int) (r3 : Int) (r4 : Int) (r5 : Int) (r6 : Int) (r7 : Int) (r8 : Int) (r9 : Int) (g1 : Nat) (g2 : Nat) (v2 : Int), Hid (CS w A n c bs 9 wr) → Hid (Lt3 w wr g1) → Hid (0 ≤ r4 ∧ r4 < 3) → wpAnyH Try.prog .any ops Q (fun _ => True) 9 #[true, true, true, true, true, true, true, true, true, true, false, true, true, true, true, true, true, true, true, true, true, true, true, true, true, true, false, false, true, false, false, false, false, false, false] { tmps := #[.slice A n c, undef, .int .i64 0, .int .i64 0, .int .i64 0, pv w, .slice A n c, pv w, pv w, .int .i64 r1, pv w, .int .i64 r2, pv w, .int .i64 r3, .slice (some ⟨g1, 0, none⟩) 3 3, pv w, .int .i64 r4, .pointer (some ⟨g1, Int.toNat r4, none⟩), undef, pv w, .int .i64 r5, pv w, .int .i64 r6, pv w, .int .i64 r7, .slice (some ⟨g2, 0, none⟩) 3 3, pv w, .int .i64 r8, .pointer (some ⟨g2, Int.toNat r8, none⟩), .int .i64 v2, pv w, .int .i64 r9, .int .i64 (1 + r9), pv w, undef, undef, pv w, undef, undef, undef], defers := [] } wr) := by
    clear hC0
    clear st_8_220 st_11_212 st_11_211 st_10_211 st_11_210 st_10_210 st_9_210 st_8_210 st_7_210 st_11_202 st_11_201 st_10_201 st_11_200 st_10_200 st_9_200 st_8_200 st_7_200 st_6_200 st_5_200 st_4_200 st_11_122 st_11_121 st_10_121 st_11_120
    refine Lib.hid ?_
    intro wr r1 r2 r3 r4 r5 r6 r7 r8 r9 g1 g2 v2 hC hL1 hI1
    have hHeld : True := trivial
    refine of_ops hops.out ?_
    refine wpAnyH_ready (rs := [10, 26]) (by kernel_rfl) (by simp) (AllReadyH.cons rfl (fun K hK => ?_) (AllReadyH.cons rfl (fun K hK => ?_) AllReadyH.nil))
    · obtain ⟨v1, hc⟩ := hL1.out.cell hI1.out.1 hI1.out.2
      go_simp
      clear hHeld
      refine hK.out _ _ trivial (fun hHeld => ?_)
      clear hK K
      try simp only [List.getElem_toArray, List.getElem_cons_zero, List.getElem_cons_succ, Act.put, List.setIfInBounds_toArray, List.set_cons_zero, List.set_cons_succ]
      exact to_ops hops.out (st_9_220.out wr r1 r2 r3 r4 r5 r6 r7 r8 r9 g1 g2 v1 v2 hC)
    · go_simp
      refine (cs_raw (N := 0) hC.out (by omega)).mono ?_
      rintro e w2 ⟨r10, rfl, hC2, hG⟩
      go_wp2_with fail
      clear hHeld
      refine hK.out _ _ trivial (fun hHeld => ?_)
      clear hK K
      try simp only [List.getElem_toArray, List.getElem_cons_zero, List.getElem_cons_succ, Act.put, List.setIfInBounds_toArray, List.set_cons_zero, List.set_cons_succ]
      have hL1' := Lib.hid (hL1.out.call hG.out)
      exact to_ops hops.out (st_10_120.out w2 r1 r2 r3 r4 r5 r6 r7 r8 r9 r10 g1 g2 v2 hC2 hL1' hI1)
  clear st_9_220
  have st_8_120 : Hid (∀ (wr : World) (r1 : Int) (r2 : Int) (r3 : Int) (r4 : Int) (r5 : Int) (r6 : Int) (r7 : Int) (r8 : Int) (g1 : Nat) (g2 : Nat) (v2 : Int), Hid (CS w A n c bs 8 wr) → Hid (Lt3 w wr g1) → Hid (0 ≤ r4 ∧ r4 < 3) → wpAnyH Try.prog .any ops Q (fun _ => True) 11 #[true, true, true, true, true, true, true, true, true, true, false, true, true, true, true, true, true, true, true, true, true, true, true, false, false, true, false, false, true, false, false, false, false, false, false] { tmps := #[.slice A n c, undef, .int .i64 0, .int .i64 0, .int .i64 0, pv w, .slice A n c, pv w, pv w, .int .i64 r1, pv w, .int .i64 r2, pv w, .int .i64 r3, .slice (some ⟨g1, 0, none⟩) 3 3, pv w, .int .i64 r4, .pointer (some ⟨g1, Int.toNat r4, none⟩), undef, pv w, .int .i64 r5, pv w, .int .i64 r6, pv w, .int .i64 r7, .slice (some ⟨g2, 0, none⟩) 3 3, pv w, .int .i64 r8, .pointer (some ⟨g2, Int.toNat r8, none⟩), .int .i64 v2, pv w, undef, undef, pv w, undef, undef, pv w, undef, undef, undef], defers := [] } wr) := by
    clear hC0
    clear st_11_212 st_11_211 st_10_211 st_11_210 st_10_210 st_9_210 st_8_210 st_7_210 st_11_202 st_11_201 st_10_201 st_11_200 st_10_200 st_9_200 st_8_200 st_7_200 st_6_200 st_5_200 st_4_200 st_11_122 st_11_121 st_10_121 st_11_120 st_10_120
    refine Lib.hid ?_
    intro wr r1 r2 r3 r4 r5 r6 r7 r8 g1 g2 v2 hC hL1 hI1
    have hHeld : True := trivial
    refine of_ops hops.out ?_
    refine wpAnyH_ready (rs := [10, 23]) (by kernel_rfl) (by simp) (AllReadyH.cons rfl (fun K hK => ?_) (AllReadyH.cons rfl (fun K hK => ?_) AllReadyH.nil))
    · obtain ⟨v1, hc⟩ := hL1.out.cell hI1.out.1 hI1.out.2
      go_simp
      clear hHeld
      refine hK.out _ _ trivial (fun hHeld => ?_)
      clear hK K
      try simp only [List.getElem_toArray, List.getElem_cons_zero, List.getElem_cons_succ, Act.put, List.setIfInBounds_toArray, List.set_cons_zero, List.set_cons_succ]
      exact to_ops hops.out (st_8_220.out wr r1 r2 r3 r4 r5 r6 r7 r8 g1 g2 v1 v2 hC)
    · go_simp
      refine (cs_pick hC.out 16 (by omega) (by omega)).mono ?_
      rintro e w2 ⟨r9, rfl, p0, p1, hC2, hG⟩
      have p2 : r9 < 16 := by omega
      go_wp2_with fail
      clear hHeld
      refine hK.out _ _ trivial (fun hHeld => ?_)
      clear hK K
      try simp only [List.getElem_toArray, List.getElem_cons_zero, List.getElem_cons_succ, Act.put, List.setIfInBounds_toArray, List.set_cons_zero, List.set_cons_succ]
      have ew : IntKind.i64.wrap (1 + r9) = 1 + r9 := IntWalk.i64_in _ (by omega)
      refine wpAnyH_take (i := 24) (v := .int .i64 (1 + r9)) rfl (by kernel_rfl) (by kernel_rfl) (by kernel_rfl) (fun _ _ _ h => hPan.out _ _ _ _ h) (Or.inl ⟨by rfl, ?hy49⟩) (by assumption) ?rest49
      case hy49 =>
        intro wz hSw
        clear hSw
        first
          | (go_simp; done)
          | (go_simp <;> with_reducible rfl)
          | (go_simp; rw [ew])
      try simp only [List.getElem_toArray, List.getElem_cons_zero, List.getElem_cons_succ, Act.put, List.setIfInBounds_toArray, List.set_cons_zero, List.set_cons_succ]
      have hL1' := Lib.hid (hL1.out.call hG.out)
      exact to_ops hops.out (st_9_120.out w2 r1 r2 r3 r4 r5 r6 r7 r8 r9 g1 g2 v2 hC2 hL1' hI1)
  clear st_8_220
  have st_11_112 : Hid (∀ (wr : World) (r1 : Int) (r2 : Int) (r3 : Int) (r4 : Int) (r5 : Int) (r6 : Int) (r7 : Int) (r8 : Int) (r9 : Int) (r10 : Int) (r11 : Int) (g1 : Nat) (g2 : Nat) (g3 : Nat) (v3 : Int), Hid (CS w A n c bs 11 wr) → Hid (Lt3 w wr g1) → Hid (0 ≤ r4 ∧ r4 < 3) → Hid (Lt3 w wr g2) → Hid (0 ≤ r8 ∧ r8 < 3) → wpAnyH Try.prog .any ops Q (fun _ => True) 5 #[true, true, true, true, true, true, true, true, true, true, false, true, true, true, true, true, true, true, true, true, true, false, true, true, true, true, true, true, true, true, true, true, false, false, false] { tmps := #[.slice A n c, undef, .int .i64 0, .int .i64 0, .int .i64 0, pv w, .slice A n c, pv w, pv w, .int .i64 r1, pv w, .int .i64 r2, pv w, .int .i64 r3, .slice (some ⟨g1, 0, none⟩) 3 3, pv w, .int .i64 r4, .pointer (some ⟨g1, Int.toNat r4, none⟩), undef, pv w, .int .i64 r5, pv w, .int .i64 r6, pv w, .int .i64 r7, .slice (some ⟨g2, 0, none⟩) 3 3, pv w, .int .i64 r8, .pointer (some ⟨g2, Int.toNat r8, none⟩), undef, pv w, .int .i64 r9, .int .i64 (1 + r9), pv w, .int .i64 r10, .slice (some ⟨g3, 0, none⟩) 4 4, pv w, .int .i64 r11, .pointer (some ⟨g3, Int.toNat r11, none⟩), .int .i64 v3], defers := [] } wr) := by
    clear hC0
    clear st_11_211 st_10_211 st_11_210 st_10_210 st_9_210 st_8_210 st_7_210 st_11_202 st_11_201 st_10_201 st_11_200 st_10_200 st_9_200 st_8_200 st_7_200 st_6_200 st_5_200 st_4_200 st_11_121 st_10_121 st_11_120 st_10_120 st_9_120 st_8_120
    refine Lib.hid ?_
    intro wr r1 r2 r3 r4 r5 r6 r7 r8 r9 r10 r11 g1 g2 g3 v3 hC hL1 hI1 hL2 hI2
    have hHeld : True := trivial
    refine of_ops hops.out ?_
    refine wpAnyH_ready (rs := [10, 21]) (by kernel_rfl) (by simp) (AllReadyH.cons rfl (fun K hK => ?_) (AllReadyH.cons rfl (fun K hK => ?_) AllReadyH.nil))
    · obtain ⟨v1, hc⟩ := hL1.out.cell hI1.out.1 hI1.out.2
      go_simp
      clear hHeld
      refine hK.out _ _ trivial (fun hHeld => ?_)
      clear hK K
      try simp only [List.getElem_toArray, List.getElem_cons_zero, List.getElem_cons_succ, Act.put, List.setIfInBounds_toArray, List.set_cons_zero, List.set_cons_succ]
      refine wpAnyH_take (i := 32) (v := ?v50) rfl (by kernel_rfl) (by kernel_rfl) (by kernel_rfl) (fun _ _ _ h => hPan.out _ _ _ _ h) (Or.inl ⟨by rfl, ?hy50⟩) (by assumption) ?rest50
      case hy50 =>
        intro wz hSw
        clear hSw
        go_simp <;> with_reducible rfl
      try simp only [List.getElem_toArray, List.getElem_cons_zero, List.getElem_cons_succ, Act.put, List.setIfInBounds_toArray, List.set_cons_zero, List.set_cons_succ]
      exact to_ops hops.out (st_11_212.out wr r1 r2 r3 r4 r5 r6 r7 r8 r9 r10 r11 g1 g2 g3 v1 v3 hC hL2 hI2)
    · obtain ⟨v2, hc⟩ := hL2.out.cell hI2.out.1 hI2.out.2
      go_simp
      clear hHeld
      refine hK.out _ _ trivial (fun hHeld => ?_)
      clear hK K
      try simp only [List.getElem_toArray, List.getElem_cons_zero, List.getElem_cons_succ, Act.put, List.setIfInBounds_toArray, List.set_cons_zero, List.set_cons_succ]
      exact to_ops hops.out (st_11_122.out wr r1 r2 r3 r4 r5 r6 r7 r8 r9 r10 r11 g1 g2 g3 v2 v3 hC hL1 hI1)
  clear st_11_212
  have st_11_111 : Hid (∀ (wr : World) (r1 : Int) (r2 : Int) (r3 : Int) (r4 : Int) (r5 : Int) (r6 : Int) (r7 : Int) (r8 : Int) (r9 : Int) (r10 : Int) (r11 : Int) (g1 : Nat) (g2 : Nat) (g3 : Nat), Hid (CS w A n c bs 11 wr) → Hid (Lt3 w wr g1) → Hid (0 ≤ r4 ∧ r4 < 3) → Hid (Lt3 w wr g2) → Hid (0 ≤ r8 ∧ r8 < 3) → Hid (Lt4 w wr g3) → Hid (0 ≤ r11 ∧ r11 < 4) → wpAnyH Try.prog .any ops Q (fun _ => True) 6 #[true, true, true, true, true, true, true, true, true, true, false, true, true, true, true, true, true, true, true, true, true, false, true, true, true, true, true, true, true, true, true, false, false, false, false] { tmps := #[.slice A n c, undef, .int .i64 0, .int .i64 0, .int .i64 0, pv w, .slice A n c, pv w, pv w, .int .i64 r1, pv w, .int .i64 r2, pv w, .int .i64 r3, .slice (some ⟨g1, 0, none⟩) 3 3, pv w, .int .i64 r4, .pointer (some ⟨g1, Int.toNat r4, none⟩), undef, pv w, .int .i64 r5, pv w, .int .i64 r6, pv w, .int .i64 r7, .slice (some ⟨g2, 0, none⟩) 3 3, pv w, .int .i64 r8, .pointer (some ⟨g2, Int.toNat r8, none⟩), undef, pv w, .int .i64 r9, .int .i64 (1 + r9), pv w, .int .i64 r10, .slice (some ⟨g3, 0, none⟩) 4 4, pv w, .int .i64 r11, .pointer (some ⟨g3, Int.toNat r11, none⟩), undef], defers := [] } wr) := by
    clear hC0
    clear st_10_211 st_11_210 st_10_210 st_9_210 st_8_210 st_7_210 st_11_202 st_11_201 st_10_201 st_11_200 st_10_200 st_9_200 st_8_200 st_7_200 st_6_200 st_5_200 st_4_200 st_11_122 st_10_121 st_11_120 st_10_120 st_9_120 st_8_120
    refine Lib.hid ?_
    intro wr r1 r2 r3 r4 r5 r6 r7 r8 r9 r10 r11 g1 g2 g3 hC hL1 hI1 hL2 hI2 hL3 hI3
    have hHeld : True := trivial
    refine of_ops hops.out ?_
    refine wpAnyH_ready (rs := [10, 21, 31]) (by kernel_rfl) (by simp) (AllReadyH.cons rfl (fun K hK => ?_) (AllReadyH.cons rfl (fun K hK => ?_) (AllReadyH.cons rfl (fun K hK => ?_) AllReadyH.nil)))
    · obtain ⟨v1, hc⟩ := hL1.out.cell hI1.out.1 hI1.out.2
      go_simp
      clear hHeld
      refine hK.out _ _ trivial (fun hHeld => ?_)
      clear hK K
      try simp only [List.getElem_toArray, List.getElem_cons_zero, List.getElem_cons_succ, Act.put, List.setIfInBounds_toArray, List.set_cons_zero, List.set_cons_succ]
      refine wpAnyH_take (i := 32) (v := ?v51) rfl (by kernel_rfl) (by kernel_rfl) (by kernel_rfl) (fun _ _ _ h => hPan.out _ _ _ _ h) (Or.inl ⟨by rfl, ?hy51⟩) (by assumption) ?rest51
      case hy51 =>
        intro wz hSw
        clear hSw
        go_simp <;> with_reducible rfl
      try simp only [List.getElem_toArray, List.getElem_cons_zero, List.getElem_cons_succ, Act.put, List.setIfInBounds_toArray, List.set_cons_zero, List.set_cons_succ]
      exact to_ops hops.out (st_11_211.out wr r1 r2 r3 r4 r5 r6 r7 r8 r9 r10 r11 g1 g2 g3 v1 hC hL2 hI2 hL3 hI3)
    · obtain ⟨v2, hc⟩ := hL2.out.cell hI2.out.1 hI2.out.2
      go_simp
      clear hHeld
      refine hK.out _ _ trivial (fun hHeld => ?_)
      clear hK K
      try simp only [List.getElem_toArray, List.getElem_cons_zero, List.getElem_cons_succ, Act.put, List.setIfInBounds_toArray, List.set_cons_zero, List.set_cons_succ]
      exact to_ops hops.out (st_11_121.out wr r1 r2 r3 r4 r5 r6 r7 r8 r9 r10 r11 g1 g2 g3 v2 hC hL1 hI1 hL3 hI3)
    · obtain ⟨v3, hc⟩ := hL3.out.cell hI3.out.1 hI3.out.2
      go_simp
      clear hHeld
      refine hK.out _ _ trivial (fun hHeld => ?_)
      clear hK K
      try simp only [List.getElem_toArray, List.getElem_cons_zero, List.getElem_cons_succ, Act.put, List.setIfInBounds_toArray, List.set_cons_zero, List.set_cons_succ]
      exact to_ops hops.out (st_11_112.out wr r1 r2 r3 r4 r5 r6 r7 r8 r9 r10 r11 g1 g2 g3 v3 hC hL1 hI1 hL2 hI2)
  clear st_11_211
  have st_10_111 : Hid (∀ (wr : World) (r1 : Int) (r2 : Int) (r3 : Int) (r4 : Int) (r5 : Int) (r6 : Int) (r7 : Int) (r8 : Int) (r9 : Int) (r10 : Int) (g1 : Nat) (g2 : Nat) (g3 : Nat), Hid (CS w A n c bs 10 wr) → Hid (Lt3 w wr g1) → Hid (0 ≤ r4 ∧ r4 < 3) → Hid (Lt3 w wr g2) → Hid (0 ≤ r8 ∧ r8 < 3) → Hid (Lt4 w wr g3) → wpAnyH Try.prog .any ops Q (fun _ => True) 8 #[true, true, true, true, true, true, true, true, true, true, false, true, true, true, true, true, true, true, true, true, true, false, true, true, true, true, true, true, true, false, false, false, false, false, false] { tmps := #[.slice A n c, undef, .int .i64 0, .int .i64 0, .int .i64 0, pv w, .slice A n c, pv w, pv w, .int .i64 r1, pv w, .int .i64 r2, pv w, .int .i64 r3, .slice (some ⟨g1, 0, none⟩) 3 3, pv w, .int .i64 r4, .pointer (some ⟨g1, Int.toNat r4, none⟩), undef, pv w, .int .i64 r5, pv w, .int .i64 r6, pv w, .int .i64 r7, .slice (some ⟨g2, 0, none⟩) 3 3, pv w, .int .i64 r8, .pointer (some ⟨g2, Int.toNat r8, none⟩), undef, pv w, .int .i64 r9, .int .i64 (1 + r9), pv w, .int .i64 r10, .slice (some ⟨g3, 0, none⟩) 4 4, pv w, undef, undef, undef], defers := [] } wr) := by
    clear hC0
    clear st_11_210 st_10_210 st_9_210 st_8_210 st_7_210 st_11_202 st_11_201 st_10_201 st_11_200 st_10_200 st_9_200 st_8_200 st_7_200 st_6_200 st_5_200 st_4_200 st_11_122 st_11_121 st_11_120 st_10_120 st_9_120 st_8_120 st_11_112
    refine Lib.hid ?_
    intro wr r1 r2 r3 r4 r5 r6 r7 r8 r9 r10 g1 g2 g3 hC hL1 hI1 hL2 hI2 hL3
    have hHeld : True := trivial
    refine of_ops hops.out ?_
    refine wpAnyH_ready (rs := [10, 21, 29]) (by kernel_rfl) (by simp) (AllReadyH.cons rfl (fun K hK => ?_) (AllReadyH.cons rfl (fun K hK => ?_) (AllReadyH.cons rfl (fun K hK => ?_) AllReadyH.nil)))
    · obtain ⟨v1, hc⟩ := hL1.out.cell hI1.out.1 hI1.out.2
      go_simp
      clear hHeld
      refine hK.out _ _ trivial (fun hHeld => ?_)
      clear hK K
      try simp only [List.getElem_toArray, List.getElem_cons_zero, List.getElem_cons_succ, Act.put, List.setIfInBounds_toArray, List.set_cons_zero, List.set_cons_succ]
      exact to_ops hops.out (st_10_211.out wr r1 r2 r3 r4 r5 r6 r7 r8 r9 r10 g1 g2 g3 v1 hC hL2 hI2 hL3)
    · obtain ⟨v2, hc⟩ := hL2.out.cell hI2.out.1 hI2.out.2
      go_simp
      clear hHeld
      refine hK.out _ _ trivial (fun hHeld => ?_)
      clear hK K
      try simp only [List.getElem_toArray, List.getElem_cons_zero, List.getElem_cons_succ, Act.put, List.setIfInBounds_toArray, List.set_cons_zero, List.set_cons_succ]
      exact to_ops hops.out (st_10_121.out wr r1 r2 r3 r4 r5 r6 r7 r8 r9 r10 g1 g2 g3 v2 hC hL1 hI1 hL3)
    · go_simp
      refine (cs_pick hC.out 4 (by omega) (by omega)).mono ?_
      rintro e w2 ⟨r11, rfl, p0, p1, hC2, hG⟩
      have p2 : r11 < 4 := by omega
      go_wp2_with fail
      clear hHeld
      refine hK.out _ _ trivial (fun hHeld => ?_)
      clear hK K
      try simp only [List.getElem_toArray, List.getElem_cons_zero, List.getElem_cons_succ, Act.put, List.setIfInBounds_toArray, List.set_cons_zero, List.set_cons_succ]
      have hL1' := Lib.hid (hL1.out.call hG.out)
      have hL2' := Lib.hid (hL2.out.call hG.out)
      refine wpAnyH_take (i := 30) (v := ?v52) rfl (by kernel_rfl) (by kernel_rfl) (by kernel_rfl) (fun _ _ _ h => hPan.out _ _ _ _ h) (Or.inl ⟨by rfl, ?hy52⟩) (by assumption) ?rest52
      case hy52 =>
        intro wz hSw
        clear hSw
        go_simp <;> with_reducible rfl
      try simp only [List.getElem_toArray, List.getElem_cons_zero, List.getElem_cons_succ, Act.put, List.setIfInBounds_toArray, List.set_cons_zero, List.set_cons_succ]
      have hL3' := Lib.hid (hL3.out.call hG.out)
      exact to_ops hops.out (st_11_111.out w2 r1 r2 r3 r4 r5 r6 r7 r8 r9 r10 r11 g1 g2 g3 hC2 hL1' hI1 hL2' hI2 hL3' ⟨p0, p2⟩)
  clear st_10_211
  have st_11_110 : Hid (∀ (wr : World) (r1 : Int) (r2 : Int) (r3 : Int) (r4 : Int) (r5 : Int) (r6 : Int) (r7 : Int) (r8 : Int) (r9 : Int) (r10 : Int) (r11 : Int) (g1 : Nat) (g2 : Nat), Hid (CS w A n c bs 11 wr) → Hid (Lt3 w wr g1) → Hid (0 ≤ r4 ∧ r4 < 3) → Hid (Lt3 w wr g2) → Hid (0 ≤ r8 ∧ r8 < 3) → Hid (0 ≤ r11 ∧ r11 < 4) → wpAnyH Try.prog .any ops Q (fun _ => True) 8 #[true, true, true, true, true, true, true, true, true, true, false, true, true, true, true, true, true, true, true, true, true, false, true, true, true, true, true, false, true, true, false, false, false, false, false] { tmps := #[.slice A n c, undef, .int .i64 0, .int .i64 0, .int .i64 0, pv w, .slice A n c, pv w, pv w, .int .i64 r1, pv w, .int .i64 r2, pv w, .int .i64 r3, .slice (some ⟨g1, 0, none⟩) 3 3, pv w, .int .i64 r4, .pointer (some ⟨g1, Int.toNat r4, none⟩), undef, pv w, .int .i64 r5, pv w, .int .i64 r6, pv w, .int .i64 r7, .slice (some ⟨g2, 0, none⟩) 3 3, pv w, .int .i64 r8, .pointer (some ⟨g2, Int.toNat r8, none⟩), undef, pv w, .int .i64 r9, .int .i64 (1 + r9), pv w, .int .i64 r10, undef, pv w, .int .i64 r11, undef, undef], defers := [] } wr) := by
    clear hC0
    clear st_10_210 st_9_210 st_8_210 st_7_210 st_11_202 st_11_201 st_10_201 st_11_200 st_10_200 st_9_200 st_8_200 st_7_200 st_6_200 st_5_200 st_4_200 st_11_122 st_11_121 st_10_121 st_10_120 st_9_120 st_8_120 st_11_112 st_10_111
    refine Lib.hid ?_
    intro wr r1 r2 r3 r4 r5 r6 r7 r8 r9 r10 r11 g1 g2 hC hL1 hI1 hL2 hI2 hI3
    have hHeld : True := trivial
    refine of_ops hops.out ?_
    refine wpAnyH_ready (rs := [10, 21, 27]) (by kernel_rfl) (by simp) (AllReadyH.cons rfl (fun K hK => ?_) (AllReadyH.cons rfl (fun K hK => ?_) (AllReadyH.cons rfl (fun K hK => ?_) AllReadyH.nil)))
    · obtain ⟨v1, hc⟩ := hL1.out.cell hI1.out.1 hI1.out.2
      go_simp
      clear hHeld
      refine hK.out _ _ trivial (fun hHeld => ?_)
      clear hK K
      try simp only [List.getElem_toArray, List.getElem_cons_zero, List.getElem_cons_succ, Act.put, List.setIfInBounds_toArray, List.set_cons_zero, List.set_cons_succ]
      refine wpAnyH_take (i := 32) (v := ?v53) rfl (by kernel_rfl) (by kernel_rfl) (by kernel_rfl) (fun _ _ _ h => hPan.out _ _ _ _ h) (Or.inl ⟨by rfl, ?hy53⟩) (by assumption) ?rest53
      case hy53 =>
        intro wz hSw
        clear hSw
        go_simp <;> with_reducible rfl
      try simp only [List.getElem_toArray, List.getElem_cons_zero, List.getElem_cons_succ, Act.put, List.setIfInBounds_toArray, List.set_cons_zero, List.set_cons_succ]
      exact to_ops hops.out (st_11_210.out wr r1 r2 r3 r4 r5 r6 r7 r8 r9 r10 r11 g1 g2 v1 hC hL2 hI2 hI3)
    · obtain ⟨v2, hc⟩ := hL2.out.cell hI2.out.1 hI2.out.2
      go_simp
      clear hHeld
      refine hK.out _ _ trivial (fun hHeld => ?_)
      clear hK K
      try simp only [List.getElem_toArray, List.getElem_cons_zero, List.getElem_cons_succ, Act.put, List.setIfInBounds_toArray, List.set_cons_zero, List.set_cons_succ]
      exact to_ops hops.out (st_11_120.out wr r1 r2 r3 r4 r5 r6 r7 r8 r9 r10 r11 g1 g2 v2 hC hL1 hI1 hI3)
    · go_simp
      clear hHeld
      refine hK.out _ _ trivial (fun hHeld => ?_)
      clear hK K
      try simp only [List.getElem_toArray, List.getElem_cons_zero, List.getElem_cons_succ, Act.put, List.setIfInBounds_toArray, List.set_cons_zero, List.set_cons_succ]
      obtain ⟨i0, i1⟩ := hI3.out
      refine wpAnyH_take (i := 30) (v := ?v54) rfl (by kernel_rfl) (by kernel_rfl) (by kernel_rfl) (fun _ _ _ h => hPan.out _ _ _ _ h) (Or.inl ⟨by rfl, ?hy54⟩) (by assumption) ?rest54
      case hy54 =>
        intro wz hSw
        clear hSw
        go_simp <;> with_reducible rfl
      try simp only [List.getElem_toArray, List.getElem_cons_zero, List.getElem_cons_succ, Act.put, List.setIfInBounds_toArray, List.set_cons_zero, List.set_cons_succ]
      exact to_ops hops.out (st_11_111.out (wr.alloc (.cells #[.int .i64 (1 + r9), .int .i64 0, .int .i64 17, .int .i64 r10] 3)) r1 r2 r3 r4 r5 r6 r7 r8 r9 r10 r11 g1 g2 wr.heap.size (hC.out.alloc _) (hL1.out.alloc _) hI1 (hL2.out.alloc _) hI2 (Lt4.new _ hC.out.lt _ _ _ _) hI3)
  clear st_11_210
  have st_10_110 : Hid (∀ (wr : World) (r1 : Int) (r2 : Int) (r3 : Int) (r4 : Int) (r5 : Int) (r6 : Int) (r7 : Int) (r8 : Int) (r9 : Int) (r10 : Int) (g1 : Nat) (g2 : Nat), Hid (CS w A n c bs 10 wr) → Hid (Lt3 w wr g1) → Hid (0 ≤ r4 ∧ r4 < 3) → Hid (Lt3 w wr g2) → Hid (0 ≤ r8 ∧ r8 < 3) → wpAnyH Try.prog .any ops Q (fun _ => True) 9 #[true, true, true, true, true, true, true, true, true, true, false, true, true, true, true, true, true, true, true, true, true, false, true, true, true, true, true, false, true, false, false, false, false, false, false] { tmps := #[.slice A n c, undef, .int .i64 0, .int .i64 0, .int .i64 0, pv w, .slice A n c, pv w, pv w, .int .i64 r1, pv w, .int .i64 r2, pv w, .int .i64 r3, .slice (some ⟨g1, 0, none⟩) 3 3, pv w, .int .i64 r4, .pointer (some ⟨g1, Int.toNat r4, none⟩), undef, pv w, .int .i64 r5, pv w, .int .i64 r6, pv w, .int .i64 r7, .slice (some ⟨g2, 0, none⟩) 3 3, pv w, .int .i64 r8, .pointer (some ⟨g2, Int.toNat r8, none⟩), undef, pv w, .int .i64 r9, .int .i64 (1 + r9), pv w, .int .i64 r10, undef, pv w, undef, undef, undef], defers := [] } wr) := by
    clear hC0
    clear st_9_210 st_8_210 st_7_210 st_11_202 st_11_201 st_10_201 st_11_200 st_10_200 st_9_200 st_8_200 st_7_200 st_6_200 st_5_200 st_4_200 st_11_122 st_11_121 st_10_121 st_11_120 st_9_120 st_8_120 st_11_112 st_11_111
    refine Lib.hid ?_
    intro wr r1 r2 r3 r4 r5 r6 r7 r8 r9 r10 g1 g2 hC hL1 hI1 hL2 hI2
    have hHeld : True := trivial
    refine of_ops hops.out ?_
    refine wpAnyH_ready (rs := [10, 21, 27, 29]) (by kernel_rfl) (by simp) (AllReadyH.cons rfl (fun K hK => ?_) (AllReadyH.cons rfl (fun K hK => ?_) (AllReadyH.cons rfl (fun K hK => ?_) (AllReadyH.cons rfl (fun K hK => ?_) AllReadyH.nil))))
    · obtain ⟨v1, hc⟩ := hL1.out.cell hI1.out.1 hI1.out.2
      go_simp
      clear hHeld
      refine hK.out _ _ trivial (fun hHeld => ?_)
      clear hK K
      try simp only [List.getElem_toArray, List.getElem_cons_zero, List.getElem_cons_succ, Act.put, List.setIfInBounds_toArray, List.set_cons_zero, List.set_cons_succ]
      exact to_ops hops.out (st_10_210.out wr r1 r2 r3 r4 r5 r6 r7 r8 r9 r10 g1 g2 v1 hC hL2 hI2)
    · obtain ⟨v2, hc⟩ := hL2.out.cell hI2.out.1 hI2.out.2
      go_simp
      clear hHeld
      refine hK.out _ _ trivial (fun hHeld => ?_)
      clear hK K
      try simp only [List.getElem_toArray, List.getElem_cons_zero, List.getElem_cons_succ, Act.put, List.setIfInBounds_toArray, List.set_cons_zero, List.set_cons_succ]
      exact to_ops hops.out (st_10_120.out wr r1 r2 r3 r4 r5 r6 r7 r8 r9 r10 g1 g2 v2 hC hL1 hI1)
    · go_simp
      clear hHeld
      refine hK.out _ _ trivial (fun hHeld => ?_)
      clear hK K
      try simp only [List.getElem_toArray, List.getElem_cons_zero, List.getElem_cons_succ, Act.put, List.setIfInBounds_toArray, List.set_cons_zero, List.set_cons_succ]
      exact to_ops hops.out (st_10_111.out (wr.alloc (.cells #[.int .i64 (1 + r9), .int .i64 0, .int .i64 17, .int .i64 r10] 3)) r1 r2 r3 r4 r5 r6 r7 r8 r9 r10 g1 g2 wr.heap.size (hC.out.alloc _) (hL1.out.alloc _) hI1 (hL2.out.alloc _) hI2 (Lt4.new _ hC.out.lt _ _ _ _))
    · go_simp
      refine (cs_pick hC.out 4 (by omega) (by omega)).mono ?_
      rintro e w2 ⟨r11, rfl, p0, p1, hC2, hG⟩
      have p2 : r11 < 4 := by omega
      go_wp2_with fail
      clear hHeld
      refine hK.out _ _ trivial (fun hHeld => ?_)
      clear hK K
      try simp only [List.getElem_toArray, List.getElem_cons_zero, List.getElem_cons_succ, Act.put, List.setIfInBounds_toArray, List.set_cons_zero, List.set_cons_succ]
      have hL1' := Lib.hid (hL1.out.call hG.out)
      have hL2' := Lib.hid (hL2.out.call hG.out)
      exact to_ops hops.out (st_11_110.out w2 r1 r2 r3 r4 r5 r6 r7 r8 r9 r10 r11 g1 g2 hC2 hL1' hI1 hL2' hI2 ⟨p0, p2⟩)
  clear st_10_210
  have st_9_110 : Hid (∀ (wr : World) (r1 : Int) (r2 : Int) (r3 : Int) (r4 : Int) (r5 : Int) (r6 : Int) (r7 : Int) (r8 : Int) (r9 : Int) (g1 : Nat) (g2 : Nat), Hid (CS w A n c bs 9 wr) → Hid (Lt3 w wr g1) → Hid (0 ≤ r4 ∧ r4 < 3) → Hid (Lt3 w wr g2) → Hid (0 ≤ r8 ∧ r8 < 3) → wpAnyH Try.prog .any ops Q (fun _ => True) 10 #[true, true, true, true, true, true, true, true, true, true, false, true, true, true, true, true, true, true, true, true, true, false, true, true, true, true, false, false, true, false, false, false, false, false, false] { tmps := #[.slice A n c, undef, .int .i64 0, .int .i64 0, .int .i64 0, pv w, .slice A n c, pv w, pv w, .int .i64 r1, pv w, .int .i64 r2, pv w, .int .i64 r3, .slice (some ⟨g1, 0, none⟩) 3 3, pv w, .int .i64 r4, .pointer (some ⟨g1, Int.toNat r4, none⟩), undef, pv w, .int .i64 r5, pv w, .int .i64 r6, pv w, .int .i64 r7, .slice (some ⟨g2, 0, none⟩) 3 3, pv w, .int .i64 r8, .pointer (some ⟨g2, Int.toNat r8, none⟩), undef, pv w, .int .i64 r9, .int .i64 (1 + r9), pv w, undef, undef, pv w, undef, undef, undef], defers := [] } wr) := by
    clear hC0
    clear st_8_210 st_7_210 st_11_202 st_11_201 st_10_201 st_11_200 st_10_200 st_9_200 st_8_200 st_7_200 st_6_200 st_5_200 st_4_200 st_11_122 st_11_121 st_10_121 st_11_120 st_10_120 st_8_120 st_11_112 st_11_111 st_10_111 st_11_110
    refine Lib.hid ?_
    intro wr r1 r2 r3 r4 r5 r6 r7 r8 r9 g1 g2 hC hL1 hI1 hL2 hI2
    have hHeld : True := trivial
    refine of_ops hops.out ?_
    refine wpAnyH_ready (rs := [10, 21, 26]) (by kernel_rfl) (by simp) (AllReadyH.cons rfl (fun K hK => ?_) (AllReadyH.cons rfl (fun K hK => ?_) (AllReadyH.cons rfl (fun K hK => ?_) AllReadyH.nil)))
    · obtain ⟨v1, hc⟩ := hL1.out.cell hI1.out.1 hI1.out.2
      go_simp
      clear hHeld
      refine hK.out _ _ trivial (fun hHeld => ?_)
      clear hK K
      try simp only [List.getElem_toArray, List.getElem_cons_zero, List.getElem_cons_succ, Act.put, List.setIfInBounds_toArray, List.set_cons_zero, List.set_cons_succ]
      exact to_ops hops.out (st_9_210.out wr r1 r2 r3 r4 r5 r6 r7 r8 r9 g1 g2 v1 hC hL2 hI2)
    · obtain ⟨v2, hc⟩ := hL2.out.cell hI2.out.1 hI2.out.2
      go_simp
      clear hHeld
      refine hK.out _ _ trivial (fun hHeld => ?_)
      clear hK K
      try simp only [List.getElem_toArray, List.getElem_cons_zero, List.getElem_cons_succ, Act.put, List.setIfInBounds_toArray, List.set_cons_zero, List.set_cons_succ]
      exact to_ops hops.out (st_9_120.out wr r1 r2 r3 r4 r5 r6 r7 r8 r9 g1 g2 v2 hC hL1 hI1)
    · go_simp
      refine (cs_raw (N := 0) hC.out (by omega)).mono ?_
      rintro e w2 ⟨r10, rfl, hC2, hG⟩
      go_wp2_with fail
      clear hHeld
      refine hK.out _ _ trivial (fun hHeld => ?_)
      clear hK K
      try simp only [List.getElem_toArray, List.getElem_cons_zero, List.getElem_cons_succ, Act.put, List.setIfInBounds_toArray, List.set_cons_zero, List.set_cons_succ]
      have hL1' := Lib.hid (hL1.out.call hG.out)
      have hL2' := Lib.hid (hL2.out.call hG.out)
      exact to_ops hops.out (st_10_110.out w2 r1 r2 r3 r4 r5 r6 r7 r8 r9 r10 g1 g2 hC2 hL1' hI1 hL2' hI2)
  clear st_9_210
  have st_8_110 : Hid (∀ (wr : World) (r1 : Int) (r2 : Int) (r3 : Int) (r4 : Int) (r5 : Int) (r6 : Int) (r7 : Int) (r8 : Int) (g1 : Nat) (g2 : Nat), Hid (CS w A n c bs 8 wr) → Hid (Lt3 w wr g1) → Hid (0 ≤ r4 ∧ r4 < 3) → Hid (Lt3 w wr g2) → Hid (0 ≤ r8 ∧ r8 < 3) → wpAnyH Try.prog .any ops Q (fun _ => True) 12 #[true, true, true, true, true, true, true, true, true, true, false, true, true, true, true, true, true, true, true, true, true, false, true, false, false, true, false, false, true, false, false, false, false, false, false] { tmps := #[.slice A n c, undef, .int .i64 0, .int .i64 0, .int .i64 0, pv w, .slice A n c, pv w, pv w, .int .i64 r1, pv w, .int .i64 r2, pv w, .int .i64 r3, .slice (some ⟨g1, 0, none⟩) 3 3, pv w, .int .i64 r4, .pointer (some ⟨g1, Int.toNat r4, none⟩), undef, pv w, .int .i64 r5, pv w, .int .i64 r6, pv w, .int .i64 r7, .slice (some ⟨g2, 0, none⟩) 3 3, pv w, .int .i64 r8, .pointer (some ⟨g2, Int.toNat r8, none⟩), undef, pv w, undef, undef, pv w, undef, undef, pv w, undef, undef, undef], defers := [] } wr) := by
    clear hC0
    clear st_7_210 st_11_202 st_11_201 st_10_201 st_11_200 st_10_200 st_9_200 st_8_200 st_7_200 st_6_200 st_5_200 st_4_200 st_11_122 st_11_121 st_10_121 st_11_120 st_10_120 st_9_120 st_11_112 st_11_111 st_10_111 st_11_110 st_10_110
    refine Lib.hid ?_
    intro wr r1 r2 r3 r4 r5 r6 r7 r8 g1 g2 hC hL1 hI1 hL2 hI2
    have hHeld : True := trivial
    refine of_ops hops.out ?_
    refine wpAnyH_ready (rs := [10, 21, 23]) (by kernel_rfl) (by simp) (AllReadyH.cons rfl (fun K hK => ?_) (AllReadyH.cons rfl (fun K hK => ?_) (AllReadyH.cons rfl (fun K hK => ?_) AllReadyH.nil)))
    · obtain ⟨v1, hc⟩ := hL1.out.cell hI1.out.1 hI1.out.2
      go_simp
      clear hHeld
      refine hK.out _ _ trivial (fun hHeld => ?_)
      clear hK K
      try simp only [List.getElem_toArray, List.getElem_cons_zero, List.getElem_cons_succ, Act.put, List.setIfInBounds_toArray, List.set_cons_zero, List.set_cons_succ]
      exact to_ops hops.out (st_8_210.out wr r1 r2 r3 r4 r5 r6 r7 r8 g1 g2 v1 hC hL2 hI2)
    · obtain ⟨v2, hc⟩ := hL2.out.cell hI2.out.1 hI2.out.2
      go_simp
      clear hHeld
      refine hK.out _ _ trivial (fun hHeld => ?_)
      clear hK K
      try simp only [List.getElem_toArray, List.getElem_cons_zero, List.getElem_cons_succ, Act.put, List.setIfInBounds_toArray, List.set_cons_zero, List.set_cons_succ]
      exact to_ops hops.out (st_8_120.out wr r1 r2 r3 r4 r5 r6 r7 r8 g1 g2 v2 hC hL1 hI1)
    · go_simp
      refine (cs_pick hC.out 16 (by omega) (by omega)).mono ?_
      rintro e w2 ⟨r9, rfl, p0, p1, hC2, hG⟩
      have p2 : r9 < 16 := by omega
      go_wp2_with fail
      clear hHeld
      refine hK.out _ _ trivial (fun hHeld => ?_)
      clear hK K
      try simp only [List.getElem_toArray, List.getElem_cons_zero, List.getElem_cons_succ, Act.put, List.setIfInBounds_toArray, List.set_cons_zero, List.set_cons_succ]
      have ew : IntKind.i64.wrap (1 + r9) = 1 + r9 := IntWalk.i64_in _ (by omega)
      refine wpAnyH_take (i := 24) (v := .int .i64 (1 + r9)) rfl (by kernel_rfl) (by kernel_rfl) (by kernel_rfl) (fun _ _ _ h => hPan.out _ _ _ _ h) (Or.inl ⟨by rfl, ?hy55⟩) (by assumption) ?rest55
      case hy55 =>
        intro wz hSw
        clear hSw
        first
          | (go_simp; done)
          | (go_simp <;> with_reducible rfl)
          | (go_simp; rw [ew])
      try simp only [List.getElem_toArray, List.getElem_cons_zero, List.getElem_cons_succ, Act.put, List.setIfInBounds_toArray, List.set_cons_zero, List.set_cons_succ]
      have hL1' := Lib.hid (hL1.out.call hG.out)
      have hL2' := Lib.hid (hL2.out.call hG.out)
      exact to_ops hops.out (st_9_110.out w2 r1 r2 r3 r4 r5 r6 r7 r8 r9 g1 g2 hC2 hL1' hI1 hL2' hI2)
  clear st_8_210
  have st_7_110 : Hid (∀ (wr : World) (r1 : Int) (r2 : Int) (r3 : Int) (r4 : Int) (r5 : Int) (r6 : Int) (r7 : Int) (g1 : Nat) (g2 : Nat), Hid (CS w A n c bs 7 wr) → Hid (Lt3 w wr g1) → Hid (0 ≤ r4 ∧ r4 < 3) → Hid (Lt3 w wr g2) → wpAnyH Try.prog .any ops Q (fun _ => True) 14 #[true, true, true, true, true, true, true, true, true, true, false, true, true, true, true, true, true, true, true, false, false, false, true, false, false, true, false, false, true, false, false, false, false, false, false] { tmps := #[.slice A n c, undef, .int .i64 0, .int .i64 0, .int .i64 0, pv w, .slice A n c, pv w, pv w, .int .i64 r1, pv w, .int .i64 r2, pv w, .int .i64 r3, .slice (some ⟨g1, 0, none⟩) 3 3, pv w, .int .i64 r4, .pointer (some ⟨g1, Int.toNat r4, none⟩), undef, pv w, .int .i64 r5, pv w, .int .i64 r6, pv w, .int .i64 r7, .slice (some ⟨g2, 0, none⟩) 3 3, pv w, undef, undef, undef, pv w, undef, undef, pv w, undef, undef, pv w, undef, undef, undef], defers := [] } wr) := by
    clear hC0
    clear st_11_202 st_11_201 st_10_201 st_11_200 st_10_200 st_9_200 st_8_200 st_7_200 st_6_200 st_5_200 st_4_200 st_11_122 st_11_121 st_10_121 st_11_120 st_10_120 st_9_120 st_8_120 st_11_112 st_11_111 st_10_111 st_11_110 st_10_110 st_9_110
    refine Lib.hid ?_
    intro wr r1 r2 r3 r4 r5 r6 r7 g1 g2 hC hL1 hI1 hL2
    have hHeld : True := trivial
    refine of_ops hops.out ?_
    refine wpAnyH_ready (rs := [10, 19]) (by kernel_rfl) (by simp) (AllReadyH.cons rfl (fun K hK => ?_) (AllReadyH.cons rfl (fun K hK => ?_) AllReadyH.nil))
    · obtain ⟨v1, hc⟩ := hL1.out.cell hI1.out.1 hI1.out.2
      go_simp
      clear hHeld
      refine hK.out _ _ trivial (fun hHeld => ?_)
      clear hK K
      try simp only [List.getElem_toArray, List.getElem_cons_zero, List.getElem_cons_succ, Act.put, List.setIfInBounds_toArray, List.set_cons_zero, List.set_cons_succ]
      exact to_ops hops.out (st_7_210.out wr r1 r2 r3 r4 r5 r6 r7 g1 g2 v1 hC hL2)
    · go_simp
      refine (cs_pick hC.out 3 (by omega) (by omega)).mono ?_
      rintro e w2 ⟨r8, rfl, p0, p1, hC2, hG⟩
      have p2 : r8 < 3 := by omega
      go_wp2_with fail
      clear hHeld
      refine hK.out _ _ trivial (fun hHeld => ?_)
      clear hK K
      try simp only [List.getElem_toArray, List.getElem_cons_zero, List.getElem_cons_succ, Act.put, List.setIfInBounds_toArray, List.set_cons_zero, List.set_cons_succ]
      have hL1' := Lib.hid (hL1.out.call hG.out)
      refine wpAnyH_take (i := 20) (v := ?v56) rfl (by kernel_rfl) (by kernel_rfl) (by kernel_rfl) (fun _ _ _ h => hPan.out _ _ _ _ h) (Or.inl ⟨by rfl, ?hy56⟩) (by assumption) ?rest56
      case hy56 =>
        intro wz hSw
        clear hSw
        go_simp <;> with_reducible rfl
      try simp only [List.getElem_toArray, List.getElem_cons_zero, List.getElem_cons_succ, Act.put, List.setIfInBounds_toArray, List.set_cons_zero, List.set_cons_succ]
      have hL2' := Lib.hid (hL2.out.call hG.out)
      exact to_ops hops.out (st_8_110.out w2 r1 r2 r3 r4 r5 r6 r7 r8 g1 g2 hC2 hL1' hI1 hL2' ⟨p0, p2⟩)
  clear st_7_210
  have st_11_102 : Hid (∀ (wr : World) (r1 : Int) (r2 : Int) (r3 : Int) (r4 : Int) (r5 : Int) (r6 : Int) (r7 : Int) (r8 : Int) (r9 : Int) (r10 : Int) (r11 : Int) (g1 : Nat) (g3 : Nat) (v3 : Int), Hid (CS w A n c bs 11 wr) → Hid (Lt3 w wr g1) → Hid (0 ≤ r4 ∧ r4 < 3) → Hid (0 ≤ r8 ∧ r8 < 3) → wpAnyH Try.prog .any ops Q (fun _ => True) 7 #[true, true, true, true, true, true, true, true, true, true, false, true, true, true, true, true, true, false, true, true, false, false, true, true, true, true, true, true, true, true, true, true, false, false, false] { tmps := #[.slice A n c, undef, .int .i64 0, .int .i64 0, .int .i64 0, pv w, .slice A n c, pv w, pv w, .int .i64 r1, pv w, .int .i64 r2, pv w, .int .i64 r3, .slice (some ⟨g1, 0, none⟩) 3 3, pv w, .int .i64 r4, .pointer (some ⟨g1, Int.toNat r4, none⟩), undef, pv w, .int .i64 r5, pv w, .int .i64 r6, pv w, .int .i64 r7, undef, pv w, .int .i64 r8, undef, undef, pv w, .int .i64 r9, .int .i64 (1 + r9), pv w, .int .i64 r10, .slice (some ⟨g3, 0, none⟩) 4 4, pv w, .int .i64 r11, .pointer (some ⟨g3, Int.toNat r11, none⟩), .int .i64 v3], defers := [] } wr) := by
    clear hC0
    clear st_11_201 st_10_201 st_11_200 st_10_200 st_9_200 st_8_200 st_7_200 st_6_200 st_5_200 st_4_200 st_11_122 st_11_121 st_10_121 st_11_120 st_10_120 st_9_120 st_8_120 st_11_111 st_10_111 st_11_110 st_10_110 st_9_110 st_8_110 st_7_110
    refine Lib.hid ?_
    intro wr r1 r2 r3 r4 r5 r6 r7 r8 r9 r10 r11 g1 g3 v3 hC hL1 hI1 hI2
    have hHeld : True := trivial
    refine of_ops hops.out ?_
    refine wpAnyH_ready (rs := [10, 17]) (by kernel_rfl) (by simp) (AllReadyH.cons rfl (fun K hK => ?_) (AllReadyH.cons rfl (fun K hK => ?_) AllReadyH.nil))
    · obtain ⟨v1, hc⟩ := hL1.out.cell hI1.out.1 hI1.out.2
      go_simp
      clear hHeld
      refine hK.out _ _ trivial (fun hHeld => ?_)
      clear hK K
      try simp only [List.getElem_toArray, List.getElem_cons_zero, List.getElem_cons_succ, Act.put, List.setIfInBounds_toArray, List.set_cons_zero, List.set_cons_succ]
      refine wpAnyH_take (i := 32) (v := ?v57) rfl (by kernel_rfl) (by kernel_rfl) (by kernel_rfl) (fun _ _ _ h => hPan.out _ _ _ _ h) (Or.inl ⟨by rfl, ?hy57⟩) (by assumption) ?rest57
      case hy57 =>
        intro wz hSw
        clear hSw
        go_simp <;> with_reducible rfl
      try simp only [List.getElem_toArray, List.getElem_cons_zero, List.getElem_cons_succ, Act.put, List.setIfInBounds_toArray, List.set_cons_zero, List.set_cons_succ]
      exact to_ops hops.out (st_11_202.out wr r1 r2 r3 r4 r5 r6 r7 r8 r9 r10 r11 g1 g3 v1 v3 hC hI2)
    · go_simp
      clear hHeld
      refine hK.out _ _ trivial (fun hHeld => ?_)
      clear hK K
      try simp only [List.getElem_toArray, List.getElem_cons_zero, List.getElem_cons_succ, Act.put, List.setIfInBounds_toArray, List.set_cons_zero, List.set_cons_succ]
      obtain ⟨i0, i1⟩ := hI2.out
      refine wpAnyH_take (i := 20) (v := ?v58) rfl (by kernel_rfl) (by kernel_rfl) (by kernel_rfl) (fun _ _ _ h => hPan.out _ _ _ _ h) (Or.inl ⟨by rfl, ?hy58⟩) (by assumption) ?rest58
      case hy58 =>
        intro wz hSw
        clear hSw
        go_simp <;> with_reducible rfl
      try simp only [List.getElem_toArray, List.getElem_cons_zero, List.getElem_cons_succ, Act.put, List.setIfInBounds_toArray, List.set_cons_zero, List.set_cons_succ]
      exact to_ops hops.out (st_11_112.out (wr.alloc (.cells #[.int .i64 r5, .int .i64 r6, .int .i64 r7] 3)) r1 r2 r3 r4 r5 r6 r7 r8 r9 r10 r11 g1 wr.heap.size g3 v3 (hC.out.alloc _) (hL1.out.alloc _) hI1 (Lt3.new _ hC.out.lt _ _ _) hI2)
  clear st_11_202
  have st_11_101 : Hid (∀ (wr : World) (r1 : Int) (r2 : Int) (r3 : Int) (r4 : Int) (r5 : Int) (r6 : Int) (r7 : Int) (r8 : Int) (r9 : Int) (r10 : Int) (r11 : Int) (g1 : Nat) (g3 : Nat), Hid (CS w A n c bs 11 wr) → Hid (Lt3 w wr g1) → Hid (0 ≤ r4 ∧ r4 < 3) → Hid (0 ≤ r8 ∧ r8 < 3) → Hid (Lt4 w wr g3) → Hid (0 ≤ r11 ∧ r11 < 4) → wpAnyH Try.prog .any ops Q (fun _ => True) 8 #[true, true, true, true, true, true, true, true, true, true, false, true, true, true, true, true, true, false, true, true, false, false, true, true, true, true, true, true, true, true, true, false, false, false, false] { tmps := #[.slice A n c, undef, .int .i64 0, .int .i64 0, .int .i64 0, pv w, .slice A n c, pv w, pv w, .int .i64 r1, pv w, .int .i64 r2, pv w, .int .i64 r3, .slice (some ⟨g1, 0, none⟩) 3 3, pv w, .int .i64 r4, .pointer (some ⟨g1, Int.toNat r4, none⟩), undef, pv w, .int .i64 r5, pv w, .int .i64 r6, pv w, .int .i64 r7, undef, pv w, .int .i64 r8, undef, undef, pv w, .int .i64 r9, .int .i64 (1 + r9), pv w, .int .i64 r10, .slice (some ⟨g3, 0, none⟩) 4 4, pv w, .int .i64 r11, .pointer (some ⟨g3, Int.toNat r11, none⟩), undef], defers := [] } wr) := by
    clear hC0
    clear st_10_201 st_11_200 st_10_200 st_9_200 st_8_200 st_7_200 st_6_200 st_5_200 st_4_200 st_11_122 st_11_121 st_10_121 st_11_120 st_10_120 st_9_120 st_8_120 st_11_112 st_10_111 st_11_110 st_10_110 st_9_110 st_8_110 st_7_110
    refine Lib.hid ?_
    intro wr r1 r2 r3 r4 r5 r6 r7 r8 r9 r10 r11 g1 g3 hC hL1 hI1 hI2 hL3 hI3
    have hHeld : True := trivial
    refine of_ops hops.out ?_
    refine wpAnyH_ready (rs := [10, 17, 31]) (by kernel_rfl) (by simp) (AllReadyH.cons rfl (fun K hK => ?_) (AllReadyH.cons rfl (fun K hK => ?_) (AllReadyH.cons rfl (fun K hK => ?_) AllReadyH.nil)))
    · obtain ⟨v1, hc⟩ := hL1.out.cell hI1.out.1 hI1.out.2
      go_simp
      clear hHeld
      refine hK.out _ _ trivial (fun hHeld => ?_)
      clear hK K
      try simp only [List.getElem_toArray, List.getElem_cons_zero, List.getElem_cons_succ, Act.put, List.setIfInBounds_toArray, List.set_cons_zero, List.set_cons_succ]
      refine wpAnyH_take (i := 32) (v := ?v59) rfl (by kernel_rfl) (by kernel_rfl) (by kernel_rfl) (fun _ _ _ h => hPan.out _ _ _ _ h) (Or.inl ⟨by rfl, ?hy59⟩) (by assumption) ?rest59
      case hy59 =>
        intro wz hSw
        clear hSw
        go_simp <;> with_reducible rfl
      try simp only [List.getElem_toArray, List.getElem_cons_zero, List.getElem_cons_succ, Act.put, List.setIfInBounds_toArray, List.set_cons_zero, List.set_cons_succ]
      exact to_ops hops.out (st_11_201.out wr r1 r2 r3 r4 r5 r6 r7 r8 r9 r10 r11 g1 g3 v1 hC hI2 hL3 hI3)
    · go_simp
      clear hHeld
      refine hK.out _ _ trivial (fun hHeld => ?_)
      clear hK K
      try simp only [List.getElem_toArray, List.getElem_cons_zero, List.getElem_cons_succ, Act.put, List.setIfInBounds_toArray, List.set_cons_zero, List.set_cons_succ]
      obtain ⟨i0, i1⟩ := hI2.out
      refine wpAnyH_take (i := 20) (v := ?v60) rfl (by kernel_rfl) (by kernel_rfl) (by kernel_rfl) (fun _ _ _ h => hPan.out _ _ _ _ h) (Or.inl ⟨by rfl, ?hy60⟩) (by assumption) ?rest60
      case hy60 =>
        intro wz hSw
        clear hSw
        go_simp <;> with_reducible rfl
      try simp only [List.getElem_toArray, List.getElem_cons_zero, List.getElem_cons_succ, Act.put, List.setIfInBounds_toArray, List.set_cons_zero, List.set_cons_succ]
      exact to_ops hops.out (st_11_111.out (wr.alloc (.cells #[.int .i64 r5, .int .i64 r6, .int .i64 r7] 3)) r1 r2 r3 r4 r5 r6 r7 r8 r9 r10 r11 g1 wr.heap.size g3 (hC.out.alloc _) (hL1.out.alloc _) hI1 (Lt3.new _ hC.out.lt _ _ _) hI2 (hL3.out.alloc _) hI3)
    · obtain ⟨v3, hc⟩ := hL3.out.cell hI3.out.1 hI3.out.2
      go_simp
      clear hHeld
      refine hK.out _ _ trivial (fun hHeld => ?_)
      clear hK K
      try simp only [List.getElem_toArray, List.getElem_cons_zero, List.getElem_cons_succ, Act.put, List.setIfInBounds_toArray, List.set_cons_zero, List.set_cons_succ]
      exact to_ops hops.out (st_11_102.out wr r1 r2 r3 r4 r5 r6 r7 r8 r9 r10 r11 g1 g3 v3 hC hL1 hI1 hI2)
  clear st_11_201
  have st_10_101 : Hid (∀ (wr : World) (r1 : Int) (r2 : Int) (r3 : Int) (r4 : Int) (r5 : Int) (r6 : Int) (r7 : Int) (r8 : Int) (r9 : Int) (r10 : Int) (g1 : Nat) (g3 : Nat), Hid (CS w A n c bs 10 wr) → Hid (Lt3 w wr g1) → Hid (0 ≤ r4 ∧ r4 < 3) → Hid (0 ≤ r8 ∧ r8 < 3) → Hid (Lt4 w wr g3) → wpAnyH Try.prog .any ops Q (fun _ => True) 10 #[true, true, true, true, true, true, true, true, true, true, false, true, true, true, true, true, true, false, true, true, false, false, true, true, true, true, true, true, true, false, false, false, false, false, false] { tmps := #[.slice A n c, undef, .int .i64 0, .int .i64 0, .int .i64 0, pv w, .slice A n c, pv w, pv w, .int .i64 r1, pv w, .int .i64 r2, pv w, .int .i64 r3, .slice (some ⟨g1, 0, none⟩) 3 3, pv w, .int .i64 r4, .pointer (some ⟨g1, Int.toNat r4, none⟩), undef, pv w, .int .i64 r5, pv w, .int .i64 r6, pv w, .int .i64 r7, undef, pv w, .int .i64 r8, undef, undef, pv w, .int .i64 r9, .int .i64 (1 + r9), pv w, .int .i64 r10, .slice (some ⟨g3, 0, none⟩) 4 4, pv w, undef, undef, undef], defers := [] } wr) := by
    clear hC0
    clear st_11_200 st_10_200 st_9_200 st_8_200 st_7_200 st_6_200 st_5_200 st_4_200 st_11_122 st_11_121 st_10_121 st_11_120 st_10_120 st_9_120 st_8_120 st_11_112 st_11_111 st_11_110 st_10_110 st_9_110 st_8_110 st_7_110 st_11_102
    refine Lib.hid ?_
    intro wr r1 r2 r3 r4 r5 r6 r7 r8 r9 r10 g1 g3 hC hL1 hI1 hI2 hL3
    have hHeld : True := trivial
    refine of_ops hops.out ?_
    refine wpAnyH_ready (rs := [10, 17, 29]) (by kernel_rfl) (by simp) (AllReadyH.cons rfl (fun K hK => ?_) (AllReadyH.cons rfl (fun K hK => ?_) (AllReadyH.cons rfl (fun K hK => ?_) AllReadyH.nil)))
    · obtain ⟨v1, hc⟩ := hL1.out.cell hI1.out.1 hI1.out.2
      go_simp
      clear hHeld
      refine hK.out _ _ trivial (fun hHeld => ?_)
      clear hK K
      try simp only [List.getElem_toArray, List.getElem_cons_zero, List.getElem_cons_succ, Act.put, List.setIfInBounds_toArray, List.set_cons_zero, List.set_cons_succ]
      exact to_ops hops.out (st_10_201.out wr r1 r2 r3 r4 r5 r6 r7 r8 r9 r10 g1 g3 v1 hC hI2 hL3)
    · go_simp
      clear hHeld
      refine hK.out _ _ trivial (fun hHeld => ?_)
      clear hK K
      try simp only [List.getElem_toArray, List.getElem_cons_zero, List.getElem_cons_succ, Act.put, List.setIfInBounds_toArray, List.set_cons_zero, List.set_cons_succ]
      obtain ⟨i0, i1⟩ := hI2.out
      refine wpAnyH_take (i := 20) (v := ?v61) rfl (by kernel_rfl) (by kernel_rfl) (by kernel_rfl) (fun _ _ _ h => hPan.out _ _ _ _ h) (Or.inl ⟨by rfl, ?hy61⟩) (by assumption) ?rest61
      case hy61 =>
        intro wz hSw
        clear hSw
        go_simp <;> with_reducible rfl
      try simp only [List.getElem_toArray, List.getElem_cons_zero, List.getElem_cons_succ, Act.put, List.setIfInBounds_toArray, List.set_cons_zero, List.set_cons_succ]
      exact to_ops hops.out (st_10_111.out (wr.alloc (.cells #[.int .i64 r5, .int .i64 r6, .int .i64 r7] 3)) r1 r2 r3 r4 r5 r6 r7 r8 r9 r10 g1 wr.heap.size g3 (hC.out.alloc _) (hL1.out.alloc _) hI1 (Lt3.new _ hC.out.lt _ _ _) hI2 (hL3.out.alloc _))
    · go_simp
      refine (cs_pick hC.out 4 (by omega) (by omega)).mono ?_
      rintro e w2 ⟨r11, rfl, p0, p1, hC2, hG⟩
      have p2 : r11 < 4 := by omega
      go_wp2_with fail
      clear hHeld
      refine hK.out _ _ trivial (fun hHeld => ?_)
      clear hK K
      try simp only [List.getElem_toArray, List.getElem_cons_zero, List.getElem_cons_succ, Act.put, List.setIfInBounds_toArray, List.set_cons_zero, List.set_cons_succ]
      have hL1' := Lib.hid (hL1.out.call hG.out)
      refine wpAnyH_take (i := 30) (v := ?v62) rfl (by kernel_rfl) (by kernel_rfl) (by kernel_rfl) (fun _ _ _ h => hPan.out _ _ _ _ h) (Or.inl ⟨by rfl, ?hy62⟩) (by assumption) ?rest62
      case hy62 =>
        intro wz hSw
        clear hSw
        go_simp <;> with_reducible rfl
      try simp only [List.getElem_toArray, List.getElem_cons_zero, List.getElem_cons_succ, Act.put, List.setIfInBounds_toArray, List.set_cons_zero, List.set_cons_succ]
      have hL3' := Lib.hid (hL3.out.call hG.out)
      exact to_ops hops.out (st_11_101.out w2 r1 r2 r3 r4 r5 r6 r7 r8 r9 r10 r11 g1 g3 hC2 hL1' hI1 hI2 hL3' ⟨p0, p2⟩)
  clear st_10_201
  have st_11_100 : Hid (∀ (wr : World) (r1 : Int) (r2 : Int) (r3 : Int) (r4 : Int) (r5 : Int) (r6 : Int) (r7 : Int) (r8 : Int) (r9 : Int) (r10 : Int) (r11 : Int) (g1 : Nat), Hid (CS w A n c bs 11 wr) → Hid (Lt3 w wr g1) → Hid (0 ≤ r4 ∧ r4 < 3) → Hid (0 ≤ r8 ∧ r8 < 3) → Hid (0 ≤ r11 ∧ r11 < 4) → wpAnyH Try.prog .any ops Q (fun _ => True) 10 #[true, true, true, true, true, true, true, true, true, true, false, true, true, true, true, true, true, false, true, true, false, false, true, true, true, true, true, false, true, true, false, false, false, false, false] { tmps := #[.slice A n c, undef, .int .i64 0, .int .i64 0, .int .i64 0, pv w, .slice A n c, pv w, pv w, .int .i64 r1, pv w, .int .i64 r2, pv w, .int .i64 r3, .slice (some ⟨g1, 0, none⟩) 3 3, pv w, .int .i64 r4, .pointer (some ⟨g1, Int.toNat r4, none⟩), undef, pv w, .int .i64 r5, pv w, .int .i64 r6, pv w, .int .i64 r7, undef, pv w, .int .i64 r8, undef, undef, pv w, .int .i64 r9, .int .i64 (1 + r9), pv w, .int .i64 r10, undef, pv w, .int .i64 r11, undef, undef], defers := [] } wr) := by
    clear hC0
    clear st_10_200 st_9_200 st_8_200 st_7_200 st_6_200 st_5_200 st_4_200 st_11_122 st_11_121 st_10_121 st_11_120 st_10_120 st_9_120 st_8_120 st_11_112 st_11_111 st_10_111 st_10_110 st_9_110 st_8_110 st_7_110 st_11_102 st_10_101
    refine Lib.hid ?_
    intro wr r1 r2 r3 r4 r5 r6 r7 r8 r9 r10 r11 g1 hC hL1 hI1 hI2 hI3
    have hHeld : True := trivial
    refine of_ops hops.out ?_
    refine wpAnyH_ready (rs := [10, 17, 27]) (by kernel_rfl) (by simp) (AllReadyH.cons rfl (fun K hK => ?_) (AllReadyH.cons rfl (fun K hK => ?_) (AllReadyH.cons rfl (fun K hK => ?_) AllReadyH.nil)))
    · obtain ⟨v1, hc⟩ := hL1.out.cell hI1.out.1 hI1.out.2
      go_simp
      clear hHeld
      refine hK.out _ _ trivial (fun hHeld => ?_)
      clear hK K
      try simp only [List.getElem_toArray, List.getElem_cons_zero, List.getElem_cons_succ, Act.put, List.setIfInBounds_toArray, List.set_cons_zero, List.set_cons_succ]
      refine wpAnyH_take (i := 32) (v := ?v63) rfl (by kernel_rfl) (by kernel_rfl) (by kernel_rfl) (fun _ _ _ h => hPan.out _ _ _ _ h) (Or.inl ⟨by rfl, ?hy63⟩) (by assumption) ?rest63
      case hy63 =>
        intro wz hSw
        clear hSw
        go_simp <;> with_reducible rfl
      try simp only [List.getElem_toArray, List.getElem_cons_zero, List.getElem_cons_succ, Act.put, List.setIfInBounds_toArray, List.set_cons_zero, List.set_cons_succ]
      exact to_ops hops.out (st_11_200.out wr r1 r2 r3 r4 r5 r6 r7 r8 r9 r10 r11 g1 v1 hC hI2 hI3)
    · go_simp
      clear hHeld
      refine hK.out _ _ trivial (fun hHeld => ?_)
      clear hK K
      try simp only [List.getElem_toArray, List.getElem_cons_zero, List.getElem_cons_succ, Act.put, List.setIfInBounds_toArray, List.set_cons_zero, List.set_cons_succ]
      obtain ⟨i0, i1⟩ := hI2.out
      refine wpAnyH_take (i := 20) (v := ?v64) rfl (by kernel_rfl) (by kernel_rfl) (by kernel_rfl) (fun _ _ _ h => hPan.out _ _ _ _ h) (Or.inl ⟨by rfl, ?hy64⟩) (by assumption) ?rest64
      case hy64 =>
        intro wz hSw
        clear hSw
        go_simp <;> with_reducible rfl
      try simp only [List.getElem_toArray, List.getElem_cons_zero, List.getElem_cons_succ, Act.put, List.setIfInBounds_toArray, List.set_cons_zero, List.set_cons_succ]
      exact to_ops hops.out (st_11_110.out (wr.alloc (.cells #[.int .i64 r5, .int .i64 r6, .int .i64 r7] 3)) r1 r2 r3 r4 r5 r6 r7 r8 r9 r10 r11 g1 wr.heap.size (hC.out.alloc _) (hL1.out.alloc _) hI1 (Lt3.new _ hC.out.lt _ _ _) hI2 hI3)
    · go_simp
      clear hHeld
      refine hK.out _ _ trivial (fun hHeld => ?_)
      clear hK K
      try simp only [List.getElem_toArray, List.getElem_cons_zero, List.getElem_cons_succ, Act.put, List.setIfInBounds_toArray, List.set_cons_zero, List.set_cons_succ]
      obtain ⟨i0, i1⟩ := hI3.out
      refine wpAnyH_take (i := 30) (v := ?v65) rfl (by kernel_rfl) (by kernel_rfl) (by kernel_rfl) (fun _ _ _ h => hPan.out _ _ _ _ h) (Or.inl ⟨by rfl, ?hy65⟩) (by assumption) ?rest65
      case hy65 =>
        intro wz hSw
        clear hSw
        go_simp <;> with_reducible rfl
      try simp only [List.getElem_toArray, List.getElem_cons_zero, List.getElem_cons_succ, Act.put, List.setIfInBounds_toArray, List.set_cons_zero, List.set_cons_succ]
      exact to_ops hops.out (st_11_101.out (wr.alloc (.cells #[.int .i64 (1 + r9), .int .i64 0, .int .i64 17, .int .i64 r10] 3)) r1 r2 r3 r4 r5 r6 r7 r8 r9 r10 r11 g1 wr.heap.size (hC.out.alloc _) (hL1.out.alloc _) hI1 hI2 (Lt4.new _ hC.out.lt _ _ _ _) hI3)
  clear st_11_200
  have st_10_100 : Hid (∀ (wr : World) (r1 : Int) (r2 : Int) (r3 : Int) (r4 : Int) (r5 : Int) (r6 : Int) (r7 : Int) (r8 : Int) (r9 : Int) (r10 : Int) (g1 : Nat), Hid (CS w A n c bs 10 wr) → Hid (Lt3 w wr g1) → Hid (0 ≤ r4 ∧ r4 < 3) → Hid (0 ≤ r8 ∧ r8 < 3) → wpAnyH Try.prog .any ops Q (fun _ => True) 11 #[true, true, true, true, true, true, true, true, true, true, false, true, true, true, true, true, true, false, true, true, false, false, true, true, true, true, true, false, true, false, false, false, false, false, false] { tmps := #[.slice A n c, undef, .int .i64 0, .int .i64 0, .int .i64 0, pv w, .slice A n c, pv w, pv w, .int .i64 r1, pv w, .int .i64 r2, pv w, .int .i64 r3, .slice (some ⟨g1, 0, none⟩) 3 3, pv w, .int .i64 r4, .pointer (some ⟨g1, Int.toNat r4, none⟩), undef, pv w, .int .i64 r5, pv w, .int .i64 r6, pv w, .int .i64 r7, undef, pv w, .int .i64 r8, undef, undef, pv w, .int .i64 r9, .int .i64 (1 + r9), pv w, .int .i64 r10, undef, pv w, undef, undef, undef], defers := [] } wr) := by
    clear hC0
    clear st_9_200 st_8_200 st_7_200 st_6_200 st_5_200 st_4_200 st_11_122 st_11_121 st_10_121 st_11_120 st_10_120 st_9_120 st_8_120 st_11_112 st_11_111 st_10_111 st_11_110 st_9_110 st_8_110 st_7_110 st_11_102 st_11_101
    refine Lib.hid ?_
    intro wr r1 r2 r3 r4 r5 r6 r7 r8 r9 r10 g1 hC hL1 hI1 hI2
    have hHeld : True := trivial
    refine of_ops hops.out ?_
    refine wpAnyH_ready (rs := [10, 17, 27, 29]) (by kernel_rfl) (by simp) (AllReadyH.cons rfl (fun K hK => ?_) (AllReadyH.cons rfl (fun K hK => ?_) (AllReadyH.cons rfl (fun K hK => ?_) (AllReadyH.cons rfl (fun K hK => ?_) AllReadyH.nil))))
    · obtain ⟨v1, hc⟩ := hL1.out.cell hI1.out.1 hI1.out.2
      go_simp
      clear hHeld
      refine hK.out _ _ trivial (fun hHeld => ?_)
      clear hK K
      try simp only [List.getElem_toArray, List.getElem_cons_zero, List.getElem_cons_succ, Act.put, List.setIfInBounds_toArray, List.set_cons_zero, List.set_cons_succ]
      exact to_ops hops.out (st_10_200.out wr r1 r2 r3 r4 r5 r6 r7 r8 r9 r10 g1 v1 hC hI2)
    · go_simp
      clear hHeld
      refine hK.out _ _ trivial (fun hHeld => ?_)
      clear hK K
      try simp only [List.getElem_toArray, List.getElem_cons_zero, List.getElem_cons_succ, Act.put, List.setIfInBounds_toArray, List.set_cons_zero, List.set_cons_succ]
      obtain ⟨i0, i1⟩ := hI2.out
      refine wpAnyH_take (i := 20) (v := ?v66) rfl (by kernel_rfl) (by kernel_rfl) (by kernel_rfl) (fun _ _ _ h => hPan.out _ _ _ _ h) (Or.inl ⟨by rfl, ?hy66⟩) (by assumption) ?rest66
      case hy66 =>
        intro wz hSw
        clear hSw
        go_simp <;> with_reducible rfl
      try simp only [List.getElem_toArray, List.getElem_cons_zero, List.getElem_cons_succ, Act.put, List.setIfInBounds_toArray, List.set_cons_zero, List.set_cons_succ]
      exact to_ops hops.out (st_10_110.out (wr.alloc (.cells #[.int .i64 r5, .int .i64 r6, .int .i64 r7] 3)) r1 r2 r3 r4 r5 r6 r7 r8 r9 r10 g1 wr.heap.size (hC.out.alloc _) (hL1.out.alloc _) hI1 (Lt3.new _ hC.out.lt _ _ _) hI2)
    · go_simp
      clear hHeld
      refine hK.out _ _ trivial (fun hHeld => ?_)
      clear hK K
      try simp only [List.getElem_toArray, List.getElem_cons_zero, List.getElem_cons_succ, Act.put, List.setIfInBounds_toArray, List.set_cons_zero, List.set_cons_succ]
      exact to_ops hops.out (st_10_101.out (wr.alloc (.cells #[.int .i64 (1 + r9), .int .i64 0, .int .i64 17, .int .i64 r10] 3)) r1 r2 r3 r4 r5 r6 r7 r8 r9 r10 g1 wr.heap.size (hC.out.alloc _) (hL1.out.alloc _) hI1 hI2 (Lt4.new _ hC.out.lt _ _ _ _))
    · go_simp
      refine (cs_pick hC.out 4 (by omega) (by omega)).mono ?_
      rintro e w2 ⟨r11, rfl, p0, p1, hC2, hG⟩
      have p2 : r11 < 4 := by omega
      go_wp2_with fail
      clear hHeld
      refine hK.out _ _ trivial (fun hHeld => ?_)
      clear hK K
      try simp only [List.getElem_toArray, List.getElem_cons_zero, List.getElem_cons_succ, Act.put, List.setIfInBounds_toArray, List.set_cons_zero, List.set_cons_succ]
      have hL1' := Lib.hid (hL1.out.call hG.out)
      exact to_ops hops.out (st_11_100.out w2 r1 r2 r3 r4 r5 r6 r7 r8 r9 r10 r11 g1 hC2 hL1' hI1 hI2 ⟨p0, p2⟩)
  clear st_10_200
  have st_9_100 : Hid (∀ (wr : World) (r1 : Int) (r2 : Int) (r3 : Int) (r4 : Int) (r5 : Int) (r6 : Int) (r7 : Int) (r8 : Int) (r9 : Int) (g1 : Nat), Hid (CS w A n c bs 9 wr) → Hid (Lt3 w wr g1) → Hid (0 ≤ r4 ∧ r4 < 3) → Hid (0 ≤ r8 ∧ r8 < 3) → wpAnyH Try.prog .any ops Q (fun _ => True) 12 #[true, true, true, true, true, true, true, true, true, true, false, true, true, true, true, true, true, false, true, true, false, false, true, true, true, true, false, false, true, false, false, false, false, false, false] { tmps := #[.slice A n c, undef, .int .i64 0, .int .i64 0, .int .i64 0, pv w, .slice A n c, pv w, pv w, .int .i64 r1, pv w, .int .i64 r2, pv w, .int .i64 r3, .slice (some ⟨g1, 0, none⟩) 3 3, pv w, .int .i64 r4, .pointer (some ⟨g1, Int.toNat r4, none⟩), undef, pv w, .int .i64 r5, pv w, .int .i64 r6, pv w, .int .i64 r7, undef, pv w, .int .i64 r8, undef, undef, pv w, .int .i64 r9, .int .i64 (1 + r9), pv w, undef, undef, pv w, undef, undef, undef], defers := [] } wr) := by
    clear hC0
    clear st_8_200 st_7_200 st_6_200 st_5_200 st_4_200 st_11_122 st_11_121 st_10_121 st_11_120 st_10_120 st_9_120 st_8_120 st_11_112 st_11_111 st_10_111 st_11_110 st_10_110 st_8_110 st_7_110 st_11_102 st_11_101 st_10_101 st_11_100
    refine Lib.hid ?_
    intro wr r1 r2 r3 r4 r5 r6 r7 r8 r9 g1 hC hL1 hI1 hI2
    have hHeld : True := trivial
    refine of_ops hops.out ?_
    refine wpAnyH_ready (rs := [10, 17, 26]) (by kernel_rfl) (by simp) (AllReadyH.cons rfl (fun K hK => ?_) (AllReadyH.cons rfl (fun K hK => ?_) (AllReadyH.cons rfl (fun K hK => ?_) AllReadyH.nil)))
    · obtain ⟨v1, hc⟩ := hL1.out.cell hI1.out.1 hI1.out.2
      go_simp
      clear hHeld
      refine hK.out _ _ trivial (fun hHeld => ?_)
      clear hK K
      try simp only [List.getElem_toArray, List.getElem_cons_zero, List.getElem_cons_succ, Act.put, List.setIfInBounds_toArray, List.set_cons_zero, List.set_cons_succ]
      exact to_ops hops.out (st_9_200.out wr r1 r2 r3 r4 r5 r6 r7 r8 r9 g1 v1 hC hI2)
    · go_simp
      clear hHeld
      refine hK.out _ _ trivial (fun hHeld => ?_)
      clear hK K
      try simp only [List.getElem_toArray, List.getElem_cons_zero, List.getElem_cons_succ, Act.put, List.setIfInBounds_toArray, List.set_cons_zero, List.set_cons_succ]
      obtain ⟨i0, i1⟩ := hI2.out
      refine wpAnyH_take (i := 20) (v := ?v67) rfl (by kernel_rfl) (by kernel_rfl) (by kernel_rfl) (fun _ _ _ h => hPan.out _ _ _ _ h) (Or.inl ⟨by rfl, ?hy67⟩) (by assumption) ?rest67
      case hy67 =>
        intro wz hSw
        clear hSw
        go_simp <;> with_reducible rfl
      try simp only [List.getElem_toArray, List.getElem_cons_zero, List.getElem_cons_succ, Act.put, List.setIfInBounds_toArray, List.set_cons_zero, List.set_cons_succ]
      exact to_ops hops.out (st_9_110.out (wr.alloc (.cells #[.int .i64 r5, .int .i64 r6, .int .i64 r7] 3)) r1 r2 r3 r4 r5 r6 r7 r8 r9 g1 wr.heap.size (hC.out.alloc _) (hL1.out.alloc _) hI1 (Lt3.new _ hC.out.lt _ _ _) hI2)
    · go_simp
      refine (cs_raw (N := 0) hC.out (by omega)).mono ?_
      rintro e w2 ⟨r10, rfl, hC2, hG⟩
      go_wp2_with fail
      clear hHeld
      refine hK.out _ _ trivial (fun hHeld => ?_)
      clear hK K
      try simp only [List.getElem_toArray, List.getElem_cons_zero, List.getElem_cons_succ, Act.put, List.setIfInBounds_toArray, List.set_cons_zero, List.set_cons_succ]
      have hL1' := Lib.hid (hL1.out.call hG.out)
      exact to_ops hops.out (st_10_100.out w2 r1 r2 r3 r4 r5 r6 r7 r8 r9 r10 g1 hC2 hL1' hI1 hI2)
  clear st_9_200
  have st_8_100 : Hid (∀ (wr : World) (r1 : Int) (r2 : Int) (r3 : Int) (r4 : Int) (r5 : Int) (r6 : Int) (r7 : Int) (r8 : Int) (g1 : Nat), Hid (CS w A n c bs 8 wr) → Hid (Lt3 w wr g1) → Hid (0 ≤ r4 ∧ r4 < 3) → Hid (0 ≤ r8 ∧ r8 < 3) → wpAnyH Try.prog .any ops Q (fun _ => True) 14 #[true, true, true, true, true, true, true, true, true, true, false, true, true, true, true, true, true, false, true, true, false, false, true, false, false, true, false, false, true, false, false, false, false, false, false] { tmps := #[.slice A n c, undef, .int .i64 0, .int .i64 0, .int .i64 0, pv w, .slice A n c, pv w, pv w, .int .i64 r1, pv w, .int .i64 r2, pv w, .int .i64 r3, .slice (some ⟨g1, 0, none⟩) 3 3, pv w, .int .i64 r4, .pointer (some ⟨g1, Int.toNat r4, none⟩), undef, pv w, .int .i64 r5, pv w, .int .i64 r6, pv w, .int .i64 r7, undef, pv w, .int .i64 r8, undef, undef, pv w, undef, undef, pv w, undef, undef, pv w, undef, undef, undef], defers := [] } wr) := by
    clear hC0
    clear st_7_200 st_6_200 st_5_200 st_4_200 st_11_122 st_11_121 st_10_121 st_11_120 st_10_120 st_9_120 st_8_120 st_11_112 st_11_111 st_10_111 st_11_110 st_10_110 st_9_110 st_7_110 st_11_102 st_11_101 st_10_101 st_11_100 st_10_100
    refine Lib.hid ?_
    intro wr r1 r2 r3 r4 r5 r6 r7 r8 g1 hC hL1 hI1 hI2
    have hHeld : True := trivial
    refine of_ops hops.out ?_
    refine wpAnyH_ready (rs := [10, 17, 23]) (by kernel_rfl) (by simp) (AllReadyH.cons rfl (fun K hK => ?_) (AllReadyH.cons rfl (fun K hK => ?_) (AllReadyH.cons rfl (fun K hK => ?_) AllReadyH.nil)))
    · obtain ⟨v1, hc⟩ := hL1.out.cell hI1.out.1 hI1.out.2
      go_simp
      clear hHeld
      refine hK.out _ _ trivial (fun hHeld => ?_)
      clear hK K
      try simp only [List.getElem_toArray, List.getElem_cons_zero, List.getElem_cons_succ, Act.put, List.setIfInBounds_toArray, List.set_cons_zero, List.set_cons_succ]
      exact to_ops hops.out (st_8_200.out wr r1 r2 r3 r4 r5 r6 r7 r8 g1 v1 hC hI2)
    · go_simp
      clear hHeld
      refine hK.out _ _ trivial (fun hHeld => ?_)
      clear hK K
      try simp only [List.getElem_toArray, List.getElem_cons_zero, List.getElem_cons_succ, Act.put, List.setIfInBounds_toArray, List.set_cons_zero, List.set_cons_succ]
      obtain ⟨i0, i1⟩ := hI2.out
      refine wpAnyH_take (i := 20) (v := ?v68) rfl (by kernel_rfl) (by kernel_rfl) (by kernel_rfl) (fun _ _ _ h => hPan.out _ _ _ _ h) (Or.inl ⟨by rfl, ?hy68⟩) (by assumption) ?rest68
      case hy68 =>
        intro wz hSw
        clear hSw
        go_simp <;> with_reducible rfl
      try simp only [List.getElem_toArray, List.getElem_cons_zero, List.getElem_cons_succ, Act.put, List.setIfInBounds_toArray, List.set_cons_zero, List.set_cons_succ]
      exact to_ops hops.out (st_8_110.out (wr.alloc (.cells #[.int .i64 r5, .int .i64 r6, .int .i64 r7] 3)) r1 r2 r3 r4 r5 r6 r7 r8 g1 wr.heap.size (hC.out.alloc _) (hL1.out.alloc _) hI1 (Lt3.new _ hC.out.lt _ _ _) hI2)
    · go_simp
      refine (cs_pick hC.out 16 (by omega) (by omega)).mono ?_
      rintro e w2 ⟨r9, rfl, p0, p1, hC2, hG⟩
      have p2 : r9 < 16 := by omega
      go_wp2_with fail
      clear hHeld
      refine hK.out _ _ trivial (fun hHeld => ?_)
      clear hK K
      try simp only [List.getElem_toArray, List.getElem_cons_zero, List.getElem_cons_succ, Act.put, List.setIfInBounds_toArray, List.set_cons_zero, List.set_cons_succ]
      have ew : IntKind.i64.wrap (1 + r9) = 1 + r9 := IntWalk.i64_in _ (by omega)
      refine wpAnyH_take (i := 24) (v := .int .i64 (1 + r9)) rfl (by kernel_rfl) (by kernel_rfl) (by kernel_rfl) (fun _ _ _ h => hPan.out _ _ _ _ h) (Or.inl ⟨by rfl, ?hy69⟩) (by assumption) ?rest69
      case hy69 =>
        intro wz hSw
        clear hSw
        first
          | (go_simp; done)
          | (go_simp <;> with_reducible rfl)
          | (go_simp; rw [ew])
      try simp only [List.getElem_toArray, List.getElem_cons_zero, List.getElem_cons_succ, Act.put, List.setIfInBounds_toArray, List.set_cons_zero, List.set_cons_succ]
      have hL1' := Lib.hid (hL1.out.call hG.out)
      exact to_ops hops.out (st_9_100.out w2 r1 r2 r3 r4 r5 r6 r7 r8 r9 g1 hC2 hL1' hI1 hI2)
  clear st_8_200
  have st_7_100 : Hid (∀ (wr : World) (r1 : Int) (r2 : Int) (r3 : Int) (r4 : Int) (r5 : Int) (r6 : Int) (r7 : Int) (g1 : Nat), Hid (CS w A n c bs 7 wr) → Hid (Lt3 w wr g1) → Hid (0 ≤ r4 ∧ r4 < 3) → wpAnyH Try.prog .any ops Q (fun _ => True) 15 #[true, true, true, true, true, true, true, true, true, true, false, true, true, true, true, true, true, false, true, false, false, false, true, false, false, true, false, false, true, false, false, false, false, false, false] { tmps := #[.slice A n c, undef, .int .i64 0, .int .i64 0, .int .i64 0, pv w, .slice A n c, pv w, pv w, .int .i64 r1, pv w, .int .i64 r2, pv w, .int .i64 r3, .slice (some ⟨g1, 0, none⟩) 3 3, pv w, .int .i64 r4, .pointer (some ⟨g1, Int.toNat r4, none⟩), undef, pv w, .int .i64 r5, pv w, .int .i64 r6, pv w, .int .i64 r7, undef, pv w, undef, undef, undef, pv w, undef, undef, pv w, undef, undef, pv w, undef, undef, undef], defers := [] } wr) := by
    clear hC0
    clear st_6_200 st_5_200 st_4_200 st_11_122 st_11_121 st_10_121 st_11_120 st_10_120 st_9_120 st_8_120 st_11_112 st_11_111 st_10_111 st_11_110 st_10_110 st_9_110 st_8_110 st_11_102 st_11_101 st_10_101 st_11_100 st_10_100 st_9_100
    refine Lib.hid ?_
    intro wr r1 r2 r3 r4 r5 r6 r7 g1 hC hL1 hI1
    have hHeld : True := trivial
    refine of_ops hops.out ?_
    refine wpAnyH_ready (rs := [10, 17, 19]) (by kernel_rfl) (by simp) (AllReadyH.cons rfl (fun K hK => ?_) (AllReadyH.cons rfl (fun K hK => ?_) (AllReadyH.cons rfl (fun K hK => ?_) AllReadyH.nil)))
    · obtain ⟨v1, hc⟩ := hL1.out.cell hI1.out.1 hI1.out.2
      go_simp
      clear hHeld
      refine hK.out _ _ trivial (fun hHeld => ?_)
      clear hK K
      try simp only [List.getElem_toArray, List.getElem_cons_zero, List.getElem_cons_succ, Act.put, List.setIfInBounds_toArray, List.set_cons_zero, List.set_cons_succ]
      exact to_ops hops.out (st_7_200.out wr r1 r2 r3 r4 r5 r6 r7 g1 v1 hC)
    · go_simp
      clear hHeld
      refine hK.out _ _ trivial (fun hHeld => ?_)
      clear hK K
      try simp only [List.getElem_toArray, List.getElem_cons_zero, List.getElem_cons_succ, Act.put, List.setIfInBounds_toArray, List.set_cons_zero, List.set_cons_succ]
      exact to_ops hops.out (st_7_110.out (wr.alloc (.cells #[.int .i64 r5, .int .i64 r6, .int .i64 r7] 3)) r1 r2 r3 r4 r5 r6 r7 g1 wr.heap.size (hC.out.alloc _) (hL1.out.alloc _) hI1 (Lt3.new _ hC.out.lt _ _ _))
    · go_simp
      refine (cs_pick hC.out 3 (by omega) (by omega)).mono ?_
      rintro e w2 ⟨r8, rfl, p0, p1, hC2, hG⟩
      have p2 : r8 < 3 := by omega
      go_wp2_with fail
      clear hHeld
      refine hK.out _ _ trivial (fun hHeld => ?_)
      clear hK K
      try simp only [List.getElem_toArray, List.getElem_cons_zero, List.getElem_cons_succ, Act.put, List.setIfInBounds_toArray, List.set_cons_zero, List.set_cons_succ]
      have hL1' := Lib.hid (hL1.out.call hG.out)
      exact to_ops hops.out (st_8_100.out w2 r1 r2 r3 r4 r5 r6 r7 r8 g1 hC2 hL1' hI1 ⟨p0, p2⟩)
  clear st_7_200
  have st_6_100 : Hid (∀ (wr : World) (r1 : Int) (r2 : Int) (r3 : Int) (r4 : Int) (r5 : Int) (r6 : Int) (g1 : Nat), Hid (CS w A n c bs 6 wr) → Hid (Lt3 w wr g1) → Hid (0 ≤ r4 ∧ r4 < 3) → wpAnyH Try.prog .any ops Q (fun _ => True) 16 #[true, true, true, true, true, true, true, true, true, true, false, true, true, true, true, true, false, false, true, false, false, false, true, false, false, true, false, false, true, false, false, false, false, false, false] { tmps := #[.slice A n c, undef, .int .i64 0, .int .i64 0, .int .i64 0, pv w, .slice A n c, pv w, pv w, .int .i64 r1, pv w, .int .i64 r2, pv w, .int .i64 r3, .slice (some ⟨g1, 0, none⟩) 3 3, pv w, .int .i64 r4, .pointer (some ⟨g1, Int.toNat r4, none⟩), undef, pv w, .int .i64 r5, pv w, .int .i64 r6, pv w, undef, undef, pv w, undef, undef, undef, pv w, undef, undef, pv w, undef, undef, pv w, undef, undef, undef], defers := [] } wr) := by
    clear hC0
    clear st_5_200 st_4_200 st_11_122 st_11_121 st_10_121 st_11_120 st_10_120 st_9_120 st_8_120 st_11_112 st_11_111 st_10_111 st_11_110 st_10_110 st_9_110 st_8_110 st_7_110 st_11_102 st_11_101 st_10_101 st_11_100 st_10_100 st_9_100 st_8_100
    refine Lib.hid ?_
    intro wr r1 r2 r3 r4 r5 r6 g1 hC hL1 hI1
    have hHeld : True := trivial
    refine of_ops hops.out ?_
    refine wpAnyH_ready (rs := [10, 16]) (by kernel_rfl) (by simp) (AllReadyH.cons rfl (fun K hK => ?_) (AllReadyH.cons rfl (fun K hK => ?_) AllReadyH.nil))
    · obtain ⟨v1, hc⟩ := hL1.out.cell hI1.out.1 hI1.out.2
      go_simp
      clear hHeld
      refine hK.out _ _ trivial (fun hHeld => ?_)
      clear hK K
      try simp only [List.getElem_toArray, List.getElem_cons_zero, List.getElem_cons_succ, Act.put, List.setIfInBounds_toArray, List.set_cons_zero, List.set_cons_succ]
      exact to_ops hops.out (st_6_200.out wr r1 r2 r3 r4 r5 r6 g1 v1 hC)
    · go_simp
      refine (cs_raw (N := 0) hC.out (by omega)).mono ?_
      rintro e w2 ⟨r7, rfl, hC2, hG⟩
      go_wp2_with fail
      clear hHeld
      refine hK.out _ _ trivial (fun hHeld => ?_)
      clear hK K
      try simp only [List.getElem_toArray, List.getElem_cons_zero, List.getElem_cons_succ, Act.put, List.setIfInBounds_toArray, List.set_cons_zero, List.set_cons_succ]
      have hL1' := Lib.hid (hL1.out.call hG.out)
      exact to_ops hops.out (st_7_100.out w2 r1 r2 r3 r4 r5 r6 r7 g1 hC2 hL1' hI1)
  clear st_6_200
  have st_5_100 : Hid (∀ (wr : World) (r1 : Int) (r2 : Int) (r3 : Int) (r4 : Int) (r5 : Int) (g1 : Nat), Hid (CS w A n c bs 5 wr) → Hid (Lt3 w wr g1) → Hid (0 ≤ r4 ∧ r4 < 3) → wpAnyH Try.prog .any ops Q (fun _ => True) 17 #[true, true, true, true, true, true, true, true, true, true, false, true, true, true, false, true, false, false, true, false, false, false, true, false, false, true, false, false, true, false, false, false, false, false, false] { tmps := #[.slice A n c, undef, .int .i64 0, .int .i64 0, .int .i64 0, pv w, .slice A n c, pv w, pv w, .int .i64 r1, pv w, .int .i64 r2, pv w, .int .i64 r3, .slice (some ⟨g1, 0, none⟩) 3 3, pv w, .int .i64 r4, .pointer (some ⟨g1, Int.toNat r4, none⟩), undef, pv w, .int .i64 r5, pv w, undef, pv w, undef, undef, pv w, undef, undef, undef, pv w, undef, undef, pv w, undef, undef, pv w, undef, undef, undef], defers := [] } wr) := by
    clear hC0
    clear st_4_200 st_11_122 st_11_121 st_10_121 st_11_120 st_10_120 st_9_120 st_8_120 st_11_112 st_11_111 st_10_111 st_11_110 st_10_110 st_9_110 st_8_110 st_7_110 st_11_102 st_11_101 st_10_101 st_11_100 st_10_100 st_9_100 st_8_100 st_7_100
    refine Lib.hid ?_
    intro wr r1 r2 r3 r4 r5 g1 hC hL1 hI1
    have hHeld : True := trivial
    refine of_ops hops.out ?_
    refine wpAnyH_ready (rs := [10, 14]) (by kernel_rfl) (by simp) (AllReadyH.cons rfl (fun K hK => ?_) (AllReadyH.cons rfl (fun K hK => ?_) AllReadyH.nil))
    · obtain ⟨v1, hc⟩ := hL1.out.cell hI1.out.1 hI1.out.2
      go_simp
      clear hHeld
      refine hK.out _ _ trivial (fun hHeld => ?_)
      clear hK K
      try simp only [List.getElem_toArray, List.getElem_cons_zero, List.getElem_cons_succ, Act.put, List.setIfInBounds_toArray, List.set_cons_zero, List.set_cons_succ]
      exact to_ops hops.out (st_5_200.out wr r1 r2 r3 r4 r5 g1 v1 hC)
    · go_simp
      refine (cs_pick hC.out 5 (by omega) (by omega)).mono ?_
      rintro e w2 ⟨r6, rfl, p0, p1, hC2, hG⟩
      have p2 : r6 < 5 := by omega
      go_wp2_with fail
      clear hHeld
      refine hK.out _ _ trivial (fun hHeld => ?_)
      clear hK K
      try simp only [List.getElem_toArray, List.getElem_cons_zero, List.getElem_cons_succ, Act.put, List.setIfInBounds_toArray, List.set_cons_zero, List.set_cons_succ]
      have hL1' := Lib.hid (hL1.out.call hG.out)
      exact to_ops hops.out (st_6_100.out w2 r1 r2 r3 r4 r5 r6 g1 hC2 hL1' hI1)
  clear st_5_200
  have st_4_100 : Hid (∀ (wr : World) (r1 : Int) (r2 : Int) (r3 : Int) (r4 : Int) (g1 : Nat), Hid (CS w A n c bs 4 wr) → Hid (Lt3 w wr g1) → Hid (0 ≤ r4 ∧ r4 < 3) → wpAnyH Try.prog .any ops Q (fun _ => True) 18 #[true, true, true, true, true, true, true, true, true, true, false, true, false, true, false, true, false, false, true, false, false, false, true, false, false, true, false, false, true, false, false, false, false, false, false] { tmps := #[.slice A n c, undef, .int .i64 0, .int .i64 0, .int .i64 0, pv w, .slice A n c, pv w, pv w, .int .i64 r1, pv w, .int .i64 r2, pv w, .int .i64 r3, .slice (some ⟨g1, 0, none⟩) 3 3, pv w, .int .i64 r4, .pointer (some ⟨g1, Int.toNat r4, none⟩), undef, pv w, undef, pv w, undef, pv w, undef, undef, pv w, undef, undef, undef, pv w, undef, undef, pv w, undef, undef, pv w, undef, undef, undef], defers := [] } wr) := by
    clear hC0
    clear st_11_122 st_11_121 st_10_121 st_11_120 st_10_120 st_9_120 st_8_120 st_11_112 st_11_111 st_10_111 st_11_110 st_10_110 st_9_110 st_8_110 st_7_110 st_11_102 st_11_101 st_10_101 st_11_100 st_10_100 st_9_100 st_8_100 st_7_100 st_6_100
    refine Lib.hid ?_
    intro wr r1 r2 r3 r4 g1 hC hL1 hI1
    have hHeld : True := trivial
    refine of_ops hops.out ?_
    refine wpAnyH_ready (rs := [10, 12]) (by kernel_rfl) (by simp) (AllReadyH.cons rfl (fun K hK => ?_) (AllReadyH.cons rfl (fun K hK => ?_) AllReadyH.nil))
    · obtain ⟨v1, hc⟩ := hL1.out.cell hI1.out.1 hI1.out.2
      go_simp
      clear hHeld
      refine hK.out _ _ trivial (fun hHeld => ?_)
      clear hK K
      try simp only [List.getElem_toArray, List.getElem_cons_zero, List.getElem_cons_succ, Act.put, List.setIfInBounds_toArray, List.set_cons_zero, List.set_cons_succ]
      exact to_ops hops.out (st_4_200.out wr r1 r2 r3 r4 g1 v1 hC)
    · go_simp
      refine (cs_pick hC.out 6 (by omega) (by omega)).mono ?_
      rintro e w2 ⟨r5, rfl, p0, p1, hC2, hG⟩
      have p2 : r5 < 6 := by omega
      go_wp2_with fail
      clear hHeld
      refine hK.out _ _ trivial (fun hHeld => ?_)
      clear hK K
      try simp only [List.getElem_toArray, List.getElem_cons_zero, List.getElem_cons_succ, Act.put, List.setIfInBounds_toArray, List.set_cons_zero, List.set_cons_succ]
      have hL1' := Lib.hid (hL1.out.call hG.out)
      exact to_ops hops.out (st_5_100.out w2 r1 r2 r3 r4 r5 g1 hC2 hL1' hI1)
  clear st_4_200
  have st_3_100 : Hid (∀ (wr : World) (r1 : Int) (r2 : Int) (r3 : Int) (g1 : Nat), Hid (CS w A n c bs 3 wr) → Hid (Lt3 w wr g1) → wpAnyH Try.prog .any ops Q (fun _ => True) 20 #[true, true, true, true, true, true, true, true, false, false, false, true, false, true, false, true, false, false, true, false, false, false, true, false, false, true, false, false, true, false, false, false, false, false, false] { tmps := #[.slice A n c, undef, .int .i64 0, .int .i64 0, .int .i64 0, pv w, .slice A n c, pv w, pv w, .int .i64 r1, pv w, .int .i64 r2, pv w, .int .i64 r3, .slice (some ⟨g1, 0, none⟩) 3 3, pv w, undef, undef, undef, pv w, undef, pv w, undef, pv w, undef, undef, pv w, undef, undef, undef, pv w, undef, undef, pv w, undef, undef, pv w, undef, undef, undef], defers := [] } wr) := by
    clear hC0
    clear st_11_122 st_11_121 st_10_121 st_11_120 st_10_120 st_9_120 st_8_120 st_11_112 st_11_111 st_10_111 st_11_110 st_10_110 st_9_110 st_8_110 st_7_110 st_11_102 st_11_101 st_10_101 st_11_100 st_10_100 st_9_100 st_8_100 st_7_100 st_6_100 st_5_100
    refine Lib.hid ?_
    intro wr r1 r2 r3 g1 hC hL1
    have hHeld : True := trivial
    refine of_ops hops.out ?_
    refine wpAnyH_ready (rs := [8]) (by kernel_rfl) (by simp) (AllReadyH.cons rfl (fun K hK => ?_) AllReadyH.nil)
    go_simp
    refine (cs_pick hC.out 3 (by omega) (by omega)).mono ?_
    rintro e w2 ⟨r4, rfl, p0, p1, hC2, hG⟩
    have p2 : r4 < 3 := by omega
    go_wp2_with fail
    clear hHeld
    refine hK.out _ _ trivial (fun hHeld => ?_)
    clear hK K
    try simp only [List.getElem_toArray, List.getElem_cons_zero, List.getElem_cons_succ, Act.put, List.setIfInBounds_toArray, List.set_cons_zero, List.set_cons_succ]
    refine wpAnyH_take (i := 9) (v := ?v70) rfl (by kernel_rfl) (by kernel_rfl) (by kernel_rfl) (fun _ _ _ h => hPan.out _ _ _ _ h) (Or.inl ⟨by rfl, ?hy70⟩) (by assumption) ?rest70
    case hy70 =>
      intro wz hSw
      clear hSw
      go_simp <;> with_reducible rfl
    try simp only [List.getElem_toArray, List.getElem_cons_zero, List.getElem_cons_succ, Act.put, List.setIfInBounds_toArray, List.set_cons_zero, List.set_cons_succ]
    have hL1' := Lib.hid (hL1.out.call hG.out)
    exact to_ops hops.out (st_4_100.out w2 r1 r2 r3 r4 g1 hC2 hL1' ⟨p0, p2⟩)
  have st_11_022 : Hid (∀ (wr : World) (r1 : Int) (r2 : Int) (r3 : Int) (r4 : Int) (r5 : Int) (r6 : Int) (r7 : Int) (r8 : Int) (r9 : Int) (r10 : Int) (r11 : Int) (g2 : Nat) (g3 : Nat) (v2 : Int) (v3 : Int), Hid (CS w A n c bs 11 wr) → Hid (0 ≤ r4 ∧ r4 < 3) → wpAnyH Try.prog .any ops Q (fun _ => True) 6 #[true, true, true, true, true, true, false, true, true, false, false, true, true, true, true, true, true, true, true, true, true, true, true, true, true, true, true, true, true, true, true, true, false, false, false] { tmps := #[.slice A n c, undef, .int .i64 0, .int .i64 0, .int .i64 0, pv w, .slice A n c, pv w, pv w, .int .i64 r1, pv w, .int .i64 r2, pv w, .int .i64 r3, undef, pv w, .int .i64 r4, undef, undef, pv w, .int .i64 r5, pv w, .int .i64 r6, pv w, .int .i64 r7, .slice (some ⟨g2, 0, none⟩) 3 3, pv w, .int .i64 r8, .pointer (some ⟨g2, Int.toNat r8, none⟩), .int .i64 v2, pv w, .int .i64 r9, .int .i64 (1 + r9), pv w, .int .i64 r10, .slice (some ⟨g3, 0, none⟩) 4 4, pv w, .int .i64 r11, .pointer (some ⟨g3, Int.toNat r11, none⟩), .int .i64 v3], defers := [] } wr) := by
    clear hC0
    clear st_11_121 st_10_121 st_11_120 st_10_120 st_9_120 st_8_120 st_11_112 st_11_111 st_10_111 st_11_110 st_10_110 st_9_110 st_8_110 st_7_110 st_11_102 st_11_101 st_10_101 st_11_100 st_10_100 st_9_100 st_8_100 st_7_100 st_6_100 st_5_100 st_4_100 st_3_100
    refine Lib.hid ?_
    intro wr r1 r2 r3 r4 r5 r6 r7 r8 r9 r10 r11 g2 g3 v2 v3 hC hI1
    have hHeld : True := trivial
    refine of_ops hops.out ?_
    refine wpAnyH_ready (rs := [6]) (by kernel_rfl) (by simp) (AllReadyH.cons rfl (fun K hK => ?_) AllReadyH.nil)
    go_simp
    clear hHeld
    refine hK.out _ _ trivial (fun hHeld => ?_)
    clear hK K
    try simp only [List.getElem_toArray, List.getElem_cons_zero, List.getElem_cons_succ, Act.put, List.setIfInBounds_toArray, List.set_cons_zero, List.set_cons_succ]
    obtain ⟨i0, i1⟩ := hI1.out
    refine wpAnyH_take (i := 9) (v := ?v71) rfl (by kernel_rfl) (by kernel_rfl) (by kernel_rfl) (fun _ _ _ h => hPan.out _ _ _ _ h) (Or.inl ⟨by rfl, ?hy71⟩) (by assumption) ?rest71
    case hy71 =>
      intro wz hSw
      clear hSw
      go_simp <;> with_reducible rfl
    try simp only [List.getElem_toArray, List.getElem_cons_zero, List.getElem_cons_succ, Act.put, List.setIfInBounds_toArray, List.set_cons_zero, List.set_cons_succ]
    exact to_ops hops.out (st_11_122.out (wr.alloc (.cells #[.int .i64 r1, .int .i64 r2, .int .i64 r3] 3)) r1 r2 r3 r4 r5 r6 r7 r8 r9 r10 r11 wr.heap.size g2 g3 v2 v3 (hC.out.alloc _) (Lt3.new _ hC.out.lt _ _ _) hI1)
  clear st_11_122
  have st_11_021 : Hid (∀ (wr : World) (r1 : Int) (r2 : Int) (r3 : Int) (r4 : Int) (r5 : Int) (r6 : Int) (r7 : Int) (r8 : Int) (r9 : Int) (r10 : Int) (r11 : Int) (g2 : Nat) (g3 : Nat) (v2 : Int), Hid (CS w A n c bs 11 wr) → Hid (0 ≤ r4 ∧ r4 < 3) → Hid (Lt4 w wr g3) → Hid (0 ≤ r11 ∧ r11 < 4) → wpAnyH Try.prog .any ops Q (fun _ => True) 7 #[true, true, true, true, true, true, false, true, true, false, false, true, true, true, true, true, true, true, true, true, true, true, true, true, true, true, true, true, true, true, true, false, false, false, false] { tmps := #[.slice A n c, undef, .int .i64 0, .int .i64 0, .int .i64 0, pv w, .slice A n c, pv w, pv w, .int .i64 r1, pv w, .int .i64 r2, pv w, .int .i64 r3, undef, pv w, .int .i64 r4, undef, undef, pv w, .int .i64 r5, pv w, .int .i64 r6, pv w, .int .i64 r7, .slice (some ⟨g2, 0, none⟩) 3 3, pv w, .int .i64 r8, .pointer (some ⟨g2, Int.toNat r8, none⟩), .int .i64 v2, pv w, .int .i64 r9, .int .i64 (1 + r9), pv w, .int .i64 r10, .slice (some ⟨g3, 0, none⟩) 4 4, pv w, .int .i64 r11, .pointer (some ⟨g3, Int.toNat r11, none⟩), undef], defers := [] } wr) := by
    clear hC0
    clear st_10_121 st_11_120 st_10_120 st_9_120 st_8_120 st_11_112 st_11_111 st_10_111 st_11_110 st_10_110 st_9_110 st_8_110 st_7_110 st_11_102 st_11_101 st_10_101 st_11_100 st_10_100 st_9_100 st_8_100 st_7_100 st_6_100 st_5_100 st_4_100 st_3_100
    refine Lib.hid ?_
    intro wr r1 r2 r3 r4 r5 r6 r7 r8 r9 r10 r11 g2 g3 v2 hC hI1 hL3 hI3
    have hHeld : True := trivial
    refine of_ops hops.out ?_
    refine wpAnyH_ready (rs := [6, 31]) (by kernel_rfl) (by simp) (AllReadyH.cons rfl (fun K hK => ?_) (AllReadyH.cons rfl (fun K hK => ?_) AllReadyH.nil))
    · go_simp
      clear hHeld
      refine hK.out _ _ trivial (fun hHeld => ?_)
      clear hK K
      try simp only [List.getElem_toArray, List.getElem_cons_zero, List.getElem_cons_succ, Act.put, List.setIfInBounds_toArray, List.set_cons_zero, List.set_cons_succ]
      obtain ⟨i0, i1⟩ := hI1.out
      refine wpAnyH_take (i := 9) (v := ?v72) rfl (by kernel_rfl) (by kernel_rfl) (by kernel_rfl) (fun _ _ _ h => hPan.out _ _ _ _ h) (Or.inl ⟨by rfl, ?hy72⟩) (by assumption) ?rest72
      case hy72 =>
        intro wz hSw
        clear hSw
        go_simp <;> with_reducible rfl
      try simp only [List.getElem_toArray, List.getElem_cons_zero, List.getElem_cons_succ, Act.put, List.setIfInBounds_toArray, List.set_cons_zero, List.set_cons_succ]
      exact to_ops hops.out (st_11_121.out (wr.alloc (.cells #[.int .i64 r1, .int .i64 r2, .int .i64 r3] 3)) r1 r2 r3 r4 r5 r6 r7 r8 r9 r10 r11 wr.heap.size g2 g3 v2 (hC.out.alloc _) (Lt3.new _ hC.out.lt _ _ _) hI1 (hL3.out.alloc _) hI3)
    · obtain ⟨v3, hc⟩ := hL3.out.cell hI3.out.1 hI3.out.2
      go_simp
      clear hHeld
      refine hK.out _ _ trivial (fun hHeld => ?_)
      clear hK K
      try simp only [List.getElem_toArray, List.getElem_cons_zero, List.getElem_cons_succ, Act.put, List.setIfInBounds_toArray, List.set_cons_zero, List.set_cons_succ]
      exact to_ops hops.out (st_11_022.out wr r1 r2 r3 r4 r5 r6 r7 r8 r9 r10 r11 g2 g3 v2 v3 hC hI1)
  clear st_11_121
  have st_10_021 : Hid (∀ (wr : World) (r1 : Int) (r2 : Int) (r3 : Int) (r4 : Int) (r5 : Int) (r6 : Int) (r7 : Int) (r8 : Int) (r9 : Int) (r10 : Int) (g2 : Nat) (g3 : Nat) (v2 : Int), Hid (CS w A n c bs 10 wr) → Hid (0 ≤ r4 ∧ r4 < 3) → Hid (Lt4 w wr g3) → wpAnyH Try.prog .any ops Q (fun _ => True) 9 #[true, true, true, true, true, true, false, true, true, false, false, true, true, true, true, true, true, true, true, true, true, true, true, true, true, true, true, true, true, false, false, false, false, false, false] { tmps := #[.slice A n c, undef, .int .i64 0, .int .i64 0, .int .i64 0, pv w, .slice A n c, pv w, pv w, .int .i64 r1, pv w, .int .i64 r2, pv w, .int .i64 r3, undef, pv w, .int .i64 r4, undef, undef, pv w, .int .i64 r5, pv w, .int .i64 r6, pv w, .int .i64 r7, .slice (some ⟨g2, 0, none⟩) 3 3, pv w, .int .i64 r8, .pointer (some ⟨g2, Int.toNat r8, none⟩), .int .i64 v2, pv w, .int .i64 r9, .int .i64 (1 + r9), pv w, .int .i64 r10, .slice (some ⟨g3, 0, none⟩) 4 4, pv w, undef, undef, undef], defers := [] } wr) := by
    clear hC0
    clear st_11_120 st_10_120 st_9_120 st_8_120 st_11_112 st_11_111 st_10_111 st_11_110 st_10_110 st_9_110 st_8_110 st_7_110 st_11_102 st_11_101 st_10_101 st_11_100 st_10_100 st_9_100 st_8_100 st_7_100 st_6_100 st_5_100 st_4_100 st_3_100 st_11_022
    refine Lib.hid ?_
    intro wr r1 r2 r3 r4 r5 r6 r7 r8 r9 r10 g2 g3 v2 hC hI1 hL3
    have hHeld : True := trivial
    refine of_ops hops.out ?_
    refine wpAnyH_ready (rs := [6, 29]) (by kernel_rfl) (by simp) (AllReadyH.cons rfl (fun K hK => ?_) (AllReadyH.cons rfl (fun K hK => ?_) AllReadyH.nil))
    · go_simp
      clear hHeld
      refine hK.out _ _ trivial (fun hHeld => ?_)
      clear hK K
      try simp only [List.getElem_toArray, List.getElem_cons_zero, List.getElem_cons_succ, Act.put, List.setIfInBounds_toArray, List.set_cons_zero, List.set_cons_succ]
      obtain ⟨i0, i1⟩ := hI1.out
      refine wpAnyH_take (i := 9) (v := ?v73) rfl (by kernel_rfl) (by kernel_rfl) (by kernel_rfl) (fun _ _ _ h => hPan.out _ _ _ _ h) (Or.inl ⟨by rfl, ?hy73⟩) (by assumption) ?rest73
      case hy73 =>
        intro wz hSw
        clear hSw
        go_simp <;> with_reducible rfl
      try simp only [List.getElem_toArray, List.getElem_cons_zero, List.getElem_cons_succ, Act.put, List.setIfInBounds_toArray, List.set_cons_zero, List.set_cons_succ]
      exact to_ops hops.out (st_10_121.out (wr.alloc (.cells #[.int .i64 r1, .int .i64 r2, .int .i64 r3] 3)) r1 r2 r3 r4 r5 r6 r7 r8 r9 r10 wr.heap.size g2 g3 v2 (hC.out.alloc _) (Lt3.new _ hC.out.lt _ _ _) hI1 (hL3.out.alloc _))
    · go_simp
      refine (cs_pick hC.out 4 (by omega) (by omega)).mono ?_
      rintro e w2 ⟨r11, rfl, p0, p1, hC2, hG⟩
      have p2 : r11 < 4 := by omega
      go_wp2_with fail
      clear hHeld
      refine hK.out _ _ trivial (fun hHeld => ?_)
      clear hK K
      try simp only [List.getElem_toArray, List.getElem_cons_zero, List.getElem_cons_succ, Act.put, List.setIfInBounds_toArray, List.set_cons_zero, List.set_cons_succ]
      refine wpAnyH_take (i := 30) (v := ?v74) rfl (by kernel_rfl) (by kernel_rfl) (by kernel_rfl) (fun _ _ _ h => hPan.out _ _ _ _ h) (Or.inl ⟨by rfl, ?hy74⟩) (by assumption) ?rest74
      case hy74 =>
        intro wz hSw
        clear hSw
        go_simp <;> with_reducible rfl
      try simp only [List.getElem_toArray, List.getElem_cons_zero, List.getElem_cons_succ, Act.put, List.setIfInBounds_toArray, List.set_cons_zero, List.set_cons_succ]
      have hL3' := Lib.hid (hL3.out.call hG.out)
      exact to_ops hops.out (st_11_021.out w2 r1 r2 r3 r4 r5 r6 r7 r8 r9 r10 r11 g2 g3 v2 hC2 hI1 hL3' ⟨p0, p2⟩)
  clear st_10_121
  have st_11_020 : Hid (∀ (wr : World) (r1 : Int) (r2 : Int) (r3 : Int) (r4 : Int) (r5 : Int) (r6 : Int) (r7 : Int) (r8 : Int) (r9 : Int) (r10 : Int) (r11 : Int) (g2 : Nat) (v2 : Int), Hid (CS w A n c bs 11 wr) → Hid (0 ≤ r4 ∧ r4 < 3) → Hid (0 ≤ r11 ∧ r11 < 4) → wpAnyH Try.prog .any ops Q (fun _ => True) 9 #[true, true, true, true, true, true, false, true, true, false, false, true, true, true, true, true, true, true, true, true, true, true, true, true, true, true, true, false, true, true, false, false, false, false, false] { tmps := #[.slice A n c, undef, .int .i64 0, .int .i64 0, .int .i64 0, pv w, .slice A n c, pv w, pv w, .int .i64 r1, pv w, .int .i64 r2, pv w, .int .i64 r3, undef, pv w, .int .i64 r4, undef, undef, pv w, .int .i64 r5, pv w, .int .i64 r6, pv w, .int .i64 r7, .slice (some ⟨g2, 0, none⟩) 3 3, pv w, .int .i64 r8, .pointer (some ⟨g2, Int.toNat r8, none⟩), .int .i64 v2, pv w, .int .i64 r9, .int .i64 (1 + r9), pv w, .int .i64 r10, undef, pv w, .int .i64 r11, undef, undef], defers := [] } wr) := by
    clear hC0
    clear st_10_120 st_9_120 st_8_120 st_11_112 st_11_111 st_10_111 st_11_110 st_10_110 st_9_110 st_8_110 st_7_110 st_11_102 st_11_101 st_10_101 st_11_100 st_10_100 st_9_100 st_8_100 st_7_100 st_6_100 st_5_100 st_4_100 st_3_100 st_11_022 st_10_021
    refine Lib.hid ?_
    intro wr r1 r2 r3 r4 r5 r6 r7 r8 r9 r10 r11 g2 v2 hC hI1 hI3
    have hHeld : True := trivial
    refine of_ops hops.out ?_
    refine wpAnyH_ready (rs := [6, 27]) (by kernel_rfl) (by simp) (AllReadyH.cons rfl (fun K hK => ?_) (AllReadyH.cons rfl (fun K hK => ?_) AllReadyH.nil))
    · go_simp
      clear hHeld
      refine hK.out _ _ trivial (fun hHeld => ?_)
      clear hK K
      try simp only [List.getElem_toArray, List.getElem_cons_zero, List.getElem_cons_succ, Act.put, List.setIfInBounds_toArray, List.set_cons_zero, List.set_cons_succ]
      obtain ⟨i0, i1⟩ := hI1.out
      refine wpAnyH_take (i := 9) (v := ?v75) rfl (by kernel_rfl) (by kernel_rfl) (by kernel_rfl) (fun _ _ _ h => hPan.out _ _ _ _ h) (Or.inl ⟨by rfl, ?hy75⟩) (by assumption) ?rest75
      case hy75 =>
        intro wz hSw
        clear hSw
        go_simp <;> with_reducible rfl
      try simp only [List.getElem_toArray, List.getElem_cons_zero, List.getElem_cons_succ, Act.put, List.setIfInBounds_toArray, List.set_cons_zero, List.set_cons_succ]
      exact to_ops hops.out (st_11_120.out (wr.alloc (.cells #[.int .i64 r1, .int .i64 r2, .int .i64 r3] 3)) r1 r2 r3 r4 r5 r6 r7 r8 r9 r10 r11 wr.heap.size g2 v2 (hC.out.alloc _) (Lt3.new _ hC.out.lt _ _ _) hI1 hI3)
    · go_simp
      clear hHeld
      refine hK.out _ _ trivial (fun hHeld => ?_)
      clear hK K
      try simp only [List.getElem_toArray, List.getElem_cons_zero, List.getElem_cons_succ, Act.put, List.setIfInBounds_toArray, List.set_cons_zero, List.set_cons_succ]
      obtain ⟨i0, i1⟩ := hI3.out
      refine wpAnyH_take (i := 30) (v := ?v76) rfl (by kernel_rfl) (by kernel_rfl) (by kernel_rfl) (fun _ _ _ h => hPan.out _ _ _ _ h) (Or.inl ⟨by rfl, ?hy76⟩) (by assumption) ?rest76
      case hy76 =>
        intro wz hSw
        clear hSw
        go_simp <;> with_reducible rfl
      try simp only [List.getElem_toArray, List.getElem_cons_zero, List.getElem_cons_succ, Act.put, List.setIfInBounds_toArray, List.set_cons_zero, List.set_cons_succ]
      exact to_ops hops.out (st_11_021.out (wr.alloc (.cells #[.int .i64 (1 + r9), .int .i64 0, .int .i64 17, .int .i64 r10] 3)) r1 r2 r3 r4 r5 r6 r7 r8 r9 r10 r11 g2 wr.heap.size v2 (hC.out.alloc _) hI1 (Lt4.new _ hC.out.lt _ _ _ _) hI3)
  clear st_11_120
  have st_10_020 : Hid (∀ (wr : World) (r1 : Int) (r2 : Int) (r3 : Int) (r4 : Int) (r5 : Int) (r6 : Int) (r7 : Int) (r8 : Int) (r9 : Int) (r10 : Int) (g2 : Nat) (v2 : Int), Hid (CS w A n c bs 10 wr) → Hid (0 ≤ r4 ∧ r4 < 3) → wpAnyH Try.prog .any ops Q (fun _ => True) 10 #[true, true, true, true, true, true, false, true, true, false, false, true, true, true, true, true, true, true, true, true, true, true, true, true, true, true, true, false, true, false, false, false, false, false, false] { tmps := #[.slice A n c, undef, .int .i64 0, .int .i64 0, .int .i64 0, pv w, .slice A n c, pv w, pv w, .int .i64 r1, pv w, .int .i64 r2, pv w, .int .i64 r3, undef, pv w, .int .i64 r4, undef, undef, pv w, .int .i64 r5, pv w, .int .i64 r6, pv w, .int .i64 r7, .slice (some ⟨g2, 0, none⟩) 3 3, pv w, .int .i64 r8, .pointer (some ⟨g2, Int.toNat r8, none⟩), .int .i64 v2, pv w, .int .i64 r9, .int .i64 (1 + r9), pv w, .int .i64 r10, undef, pv w, undef, undef, undef], defers := [] } wr) := by
    clear hC0
    clear st_9_120 st_8_120 st_11_112 st_11_111 st_10_111 st_11_110 st_10_110 st_9_110 st_8_110 st_7_110 st_11_102 st_11_101 st_10_101 st_11_100 st_10_100 st_9_100 st_8_100 st_7_100 st_6_100 st_5_100 st_4_100 st_3_100 st_11_022 st_11_021
    refine Lib.hid ?_
    intro wr r1 r2 r3 r4 r5 r6 r7 r8 r9 r10 g2 v2 hC hI1
    have hHeld : True := trivial
    refine of_ops hops.out ?_
    refine wpAnyH_ready (rs := [6, 27, 29]) (by kernel_rfl) (by simp) (AllReadyH.cons rfl (fun K hK => ?_) (AllReadyH.cons rfl (fun K hK => ?_) (AllReadyH.cons rfl (fun K hK => ?_) AllReadyH.nil)))
    · go_simp
      clear hHeld
      refine hK.out _ _ trivial (fun hHeld => ?_)
      clear hK K
      try simp only [List.getElem_toArray, List.getElem_cons_zero, List.getElem_cons_succ, Act.put, List.setIfInBounds_toArray, List.set_cons_zero, List.set_cons_succ]
      obtain ⟨i0, i1⟩ := hI1.out
      refine wpAnyH_take (i := 9) (v := ?v77) rfl (by kernel_rfl) (by kernel_rfl) (by kernel_rfl) (fun _ _ _ h => hPan.out _ _ _ _ h) (Or.inl ⟨by rfl, ?hy77⟩) (by assumption) ?rest77
      case hy77 =>
        intro wz hSw
        clear hSw
        go_simp <;> with_reducible rfl
      try simp only [List.getElem_toArray, List.getElem_cons_zero, List.getElem_cons_succ, Act.put, List.setIfInBounds_toArray, List.set_cons_zero, List.set_cons_succ]
      exact to_ops hops.out (st_10_120.out (wr.alloc (.cells #[.int .i64 r1, .int .i64 r2, .int .i64 r3] 3)) r1 r2 r3 r4 r5 r6 r7 r8 r9 r10 wr.heap.size g2 v2 (hC.out.alloc _) (Lt3.new _ hC.out.lt _ _ _) hI1)
    · go_simp
      clear hHeld
      refine hK.out _ _ trivial (fun hHeld => ?_)
      clear hK K
      try simp only [List.getElem_toArray, List.getElem_cons_zero, List.getElem_cons_succ, Act.put, List.setIfInBounds_toArray, List.set_cons_zero, List.set_cons_succ]
      exact to_ops hops.out (st_10_021.out (wr.alloc (.cells #[.int .i64 (1 + r9), .int .i64 0, .int .i64 17, .int .i64 r10] 3)) r1 r2 r3 r4 r5 r6 r7 r8 r9 r10 g2 wr.heap.size v2 (hC.out.alloc _) hI1 (Lt4.new _ hC.out.lt _ _ _ _))
    · go_simp
      refine (cs_pick hC.out 4 (by omega) (by omega)).mono ?_
      rintro e w2 ⟨r11, rfl, p0, p1, hC2, hG⟩
      have p2 : r11 < 4 := by omega
      go_wp2_with fail
      clear hHeld
      refine hK.out _ _ trivial (fun hHeld => ?_)
      clear hK K
      try simp only [List.getElem_toArray, List.getElem_cons_zero, List.getElem_cons_succ, Act.put, List.setIfInBounds_toArray, List.set_cons_zero, List.set_cons_succ]
      exact to_ops hops.out (st_11_020.out w2 r1 r2 r3 r4 r5 r6 r7 r8 r9 r10 r11 g2 v2 hC2 hI1 ⟨p0, p2⟩)
  clear st_10_120
  have st_9_020 : Hid (∀ (wr : World) (r1 : Int) (r2 : Int) (r3 : Int) (r4 : Int) (r5 : Int) (r6 : Int) (r7 : Int) (r8 : Int) (r9 : Int) (g2 : Nat) (v2 : Int), Hid (CS w A n c bs 9 wr) → Hid (0 ≤ r4 ∧ r4 < 3) → wpAnyH Try.prog .any ops Q (fun _ => True) 11 #[true, true, true, true, true, true, false, true, true, false, false, true, true, true, true, true, true, true, true, true, true, true, true, true, true, true, false, false, true, false, false, false, false, false, false] { tmps := #[.slice A n c, undef, .int .i64 0, .int .i64 0, .int .i64 0, pv w, .slice A n c, pv w, pv w, .int .i64 r1, pv w, .int .i64 r2, pv w, .int .i64 r3, undef, pv w, .int .i64 r4, undef, undef, pv w, .int .i64 r5, pv w, .int .i64 r6, pv w, .int .i64 r7, .slice (some ⟨g2, 0, none⟩) 3 3, pv w, .int .i64 r8, .pointer (some ⟨g2, Int.toNat r8, none⟩), .int .i64 v2, pv w, .int .i64 r9, .int .i64 (1 + r9), pv w, undef, undef, pv w, undef, undef, undef], defers := [] } wr) := by
    clear hC0
    clear st_8_120 st_11_112 st_11_111 st_10_111 st_11_110 st_10_110 st_9_110 st_8_110 st_7_110 st_11_102 st_11_101 st_10_101 st_11_100 st_10_100 st_9_100 st_8_100 st_7_100 st_6_100 st_5_100 st_4_100 st_3_100 st_11_022 st_11_021 st_10_021 st_11_020
    refine Lib.hid ?_
    intro wr r1 r2 r3 r4 r5 r6 r7 r8 r9 g2 v2 hC hI1
    have hHeld : True := trivial
    refine of_ops hops.out ?_
    refine wpAnyH_ready (rs := [6, 26]) (by kernel_rfl) (by simp) (AllReadyH.cons rfl (fun K hK => ?_) (AllReadyH.cons rfl (fun K hK => ?_) AllReadyH.nil))
    · go_simp
      clear hHeld
      refine hK.out _ _ trivial (fun hHeld => ?_)
      clear hK K
      try simp only [List.getElem_toArray, List.getElem_cons_zero, List.getElem_cons_succ, Act.put, List.setIfInBounds_toArray, List.set_cons_zero, List.set_cons_succ]
      obtain ⟨i0, i1⟩ := hI1.out
      refine wpAnyH_take (i := 9) (v := ?v78) rfl (by kernel_rfl) (by kernel_rfl) (by kernel_rfl) (fun _ _ _ h => hPan.out _ _ _ _ h) (Or.inl ⟨by rfl, ?hy78⟩) (by assumption) ?rest78
      case hy78 =>
        intro wz hSw
        clear hSw
        go_simp <;> with_reducible rfl
      try simp only [List.getElem_toArray, List.getElem_cons_zero, List.getElem_cons_succ, Act.put, List.setIfInBounds_toArray, List.set_cons_zero, List.set_cons_succ]
      exact to_ops hops.out (st_9_120.out (wr.alloc (.cells #[.int .i64 r1, .int .i64 r2, .int .i64 r3] 3)) r1 r2 r3 r4 r5 r6 r7 r8 r9 wr.heap.size g2 v2 (hC.out.alloc _) (Lt3.new _ hC.out.lt _ _ _) hI1)
    · go_simp
      refine (cs_raw (N := 0) hC.out (by omega)).mono ?_
      rintro e w2 ⟨r10, rfl, hC2, hG⟩
      go_wp2_with fail
      clear hHeld
      refine hK.out _ _ trivial (fun hHeld => ?_)
      clear hK K
      try simp only [List.getElem_toArray, List.getElem_cons_zero, List.getElem_cons_succ, Act.put, List.setIfInBounds_toArray, List.set_cons_zero, List.set_cons_succ]
      exact to_ops hops.out (st_10_020.out w2 r1 r2 r3 r4 r5 r6 r7 r8 r9 r10 g2 v2 hC2 hI1)
  clear st_9_120
  have st_8_020 : Hid (∀ (wr : World) (r1 : Int) (r2 : Int) (r3 : Int) (r4 : Int) (r5 : Int) (r6 : Int) (r7 : Int) (r8 : Int) (g2 : Nat) (v2 : Int), Hid (CS w A n c bs 8 wr) → Hid (0 ≤ r4 ∧ r4 < 3) → wpAnyH Try.prog .any ops Q (fun _ => True) 13 #[true, true, true, true, true, true, false, true, true, false, false, true, true, true, true, true, true, true, true, true, true, true, true, false, false, true, false, false, true, false, false, false, false, false, false] { tmps := #[.slice A n c, undef, .int .i64 0, .int .i64 0, .int .i64 0, pv w, .slice A n c, pv w, pv w, .int .i64 r1, pv w, .int .i64 r2, pv w, .int .i64 r3, undef, pv w, .int .i64 r4, undef, undef, pv w, .int .i64 r5, pv w, .int .i64 r6, pv w, .int .i64 r7, .slice (some ⟨g2, 0, none⟩) 3 3, pv w, .int .i64 r8, .pointer (some ⟨g2, Int.toNat r8, none⟩), .int .i64 v2, pv w, undef, undef, pv w, undef, undef, pv w, undef, undef, undef], defers := [] } wr) := by
    clear hC0
    clear st_11_112 st_11_111 st_10_111 st_11_110 st_10_110 st_9_110 st_8_110 st_7_110 st_11_102 st_11_101 st_10_101 st_11_100 st_10_100 st_9_100 st_8_100 st_7_100 st_6_100 st_5_100 st_4_100 st_3_100 st_11_022 st_11_021 st_10_021 st_11_020 st_10_020
    refine Lib.hid ?_
    intro wr r1 r2 r3 r4 r5 r6 r7 r8 g2 v2 hC hI1
    have hHeld : True := trivial
    refine of_ops hops.out ?_
    refine wpAnyH_ready (rs := [6, 23]) (by kernel_rfl) (by simp) (AllReadyH.cons rfl (fun K hK => ?_) (AllReadyH.cons rfl (fun K hK => ?_) AllReadyH.nil))
    · go_simp
      clear hHeld
      refine hK.out _ _ trivial (fun hHeld => ?_)
      clear hK K
      try simp only [List.getElem_toArray, List.getElem_cons_zero, List.getElem_cons_succ, Act.put, List.setIfInBounds_toArray, List.set_cons_zero, List.set_cons_succ]
      obtain ⟨i0, i1⟩ := hI1.out
      refine wpAnyH_take (i := 9) (v := ?v79) rfl (by kernel_rfl) (by kernel_rfl) (by kernel_rfl) (fun _ _ _ h => hPan.out _ _ _ _ h) (Or.inl ⟨by rfl, ?hy79⟩) (by assumption) ?rest79
      case hy79 =>
        intro wz hSw
        clear hSw
        go_simp <;> with_reducible rfl
      try simp only [List.getElem_toArray, List.getElem_cons_zero, List.getElem_cons_succ, Act.put, List.setIfInBounds_toArray, List.set_cons_zero, List.set_cons_succ]
      exact to_ops hops.out (st_8_120.out (wr.alloc (.cells #[.int .i64 r1, .int .i64 r2, .int .i64 r3] 3)) r1 r2 r3 r4 r5 r6 r7 r8 wr.heap.size g2 v2 (hC.out.alloc _) (Lt3.new _ hC.out.lt _ _ _) hI1)
    · go_simp
      refine (cs_pick hC.out 16 (by omega) (by omega)).mono ?_
      rintro e w2 ⟨r9, rfl, p0, p1, hC2, hG⟩
      have p2 : r9 < 16 := by omega
      go_wp2_with fail
      clear hHeld
      refine hK.out _ _ trivial (fun hHeld => ?_)
      clear hK K
      try simp only [List.getElem_toArray, List.getElem_cons_zero, List.getElem_cons_succ, Act.put, List.setIfInBounds_toArray, List.set_cons_zero, List.set_cons_succ]
      have ew : IntKind.i64.wrap (1 + r9) = 1 + r9 := IntWalk.i64_in _ (by omega)
      refine wpAnyH_take (i := 24) (v := .int .i64 (1 + r9)) rfl (by kernel_rfl) (by kernel_rfl) (by kernel_rfl) (fun _ _ _ h => hPan.out _ _ _ _ h) (Or.inl ⟨by rfl, ?hy80⟩) (by assumption) ?rest80
      case hy80 =>
        intro wz hSw
        clear hSw
        first
          | (go_simp; done)
          | (go_simp <;> with_reducible rfl)
          | (go_simp; rw [ew])
      try simp only [List.getElem_toArray, List.getElem_cons_zero, List.getElem_cons_succ, Act.put, List.setIfInBounds_toArray, List.set_cons_zero, List.set_cons_succ]
      exact to_ops hops.out (st_9_020.out w2 r1 r2 r3 r4 r5 r6 r7 r8 r9 g2 v2 hC2 hI1)
  clear st_8_120
  have st_11_012 : Hid (∀ (wr : World) (r1 : Int) (r2 : Int) (r3 : Int) (r4 : Int) (r5 : Int) (r6 : Int) (r7 : Int) (r8 : Int) (r9 : Int) (r10 : Int) (r11 : Int) (g2 : Nat) (g3 : Nat) (v3 : Int), Hid (CS w A n c bs 11 wr) → Hid (0 ≤ r4 ∧ r4 < 3) → Hid (Lt3 w wr g2) → Hid (0 ≤ r8 ∧ r8 < 3) → wpAnyH Try.prog .any ops Q (fun _ => True) 7 #[true, true, true, true, true, true, false, true, true, false, false, true, true, true, true, true, true, true, true, true, true, false, true, true, true, true, true, true, true, true, true, true, false, false, false] { tmps := #[.slice A n c, undef, .int .i64 0, .int .i64 0, .int .i64 0, pv w, .slice A n c, pv w, pv w, .int .i64 r1, pv w, .int .i64 r2, pv w, .int .i64 r3, undef, pv w, .int .i64 r4, undef, undef, pv w, .int .i64 r5, pv w, .int .i64 r6, pv w, .int .i64 r7, .slice (some ⟨g2, 0, none⟩) 3 3, pv w, .int .i64 r8, .pointer (some ⟨g2, Int.toNat r8, none⟩), undef, pv w, .int .i64 r9, .int .i64 (1 + r9), pv w, .int .i64 r10, .slice (some ⟨g3, 0, none⟩) 4 4, pv w, .int .i64 r11, .pointer (some ⟨g3, Int.toNat r11, none⟩), .int .i64 v3], defers := [] } wr) := by
    clear hC0
    clear st_11_111 st_10_111 st_11_110 st_10_110 st_9_110 st_8_110 st_7_110 st_11_102 st_11_101 st_10_101 st_11_100 st_10_100 st_9_100 st_8_100 st_7_100 st_6_100 st_5_100 st_4_100 st_3_100 st_11_021 st_10_021 st_11_020 st_10_020 st_9_020 st_8_020
    refine Lib.hid ?_
    intro wr r1 r2 r3 r4 r5 r6 r7 r8 r9 r10 r11 g2 g3 v3 hC hI1 hL2 hI2
    have hHeld : True := trivial
    refine of_ops hops.out ?_
    refine wpAnyH_ready (rs := [6, 21]) (by kernel_rfl) (by simp) (AllReadyH.cons rfl (fun K hK => ?_) (AllReadyH.cons rfl (fun K hK => ?_) AllReadyH.nil))
    · go_simp
      clear hHeld
      refine hK.out _ _ trivial (fun hHeld => ?_)
      clear hK K
      try simp only [List.getElem_toArray, List.getElem_cons_zero, List.getElem_cons_succ, Act.put, List.setIfInBounds_toArray, List.set_cons_zero, List.set_cons_succ]
      obtain ⟨i0, i1⟩ := hI1.out
      refine wpAnyH_take (i := 9) (v := ?v81) rfl (by kernel_rfl) (by kernel_rfl) (by kernel_rfl) (fun _ _ _ h => hPan.out _ _ _ _ h) (Or.inl ⟨by rfl, ?hy81⟩) (by assumption) ?rest81
      case hy81 =>
        intro wz hSw
        clear hSw
        go_simp <;> with_reducible rfl
      try simp only [List.getElem_toArray, List.getElem_cons_zero, List.getElem_cons_succ, Act.put, List.setIfInBounds_toArray, List.set_cons_zero, List.set_cons_succ]
      exact to_ops hops.out (st_11_112.out (wr.alloc (.cells #[.int .i64 r1, .int .i64 r2, .int .i64 r3] 3)) r1 r2 r3 r4 r5 r6 r7 r8 r9 r10 r11 wr.heap.size g2 g3 v3 (hC.out.alloc _) (Lt3.new _ hC.out.lt _ _ _) hI1 (hL2.out.alloc _) hI2)
    · obtain ⟨v2, hc⟩ := hL2.out.cell hI2.out.1 hI2.out.2
      go_simp
      clear hHeld
      refine hK.out _ _ trivial (fun hHeld => ?_)
      clear hK K
      try simp only [List.getElem_toArray, List.getElem_cons_zero, List.getElem_cons_succ, Act.put, List.setIfInBounds_toArray, List.set_cons_zero, List.set_cons_succ]
      exact to_ops hops.out (st_11_022.out wr r1 r2 r3 r4 r5 r6 r7 r8 r9 r10 r11 g2 g3 v2 v3 hC hI1)
  clear st_11_112 st_11_022
  have st_11_011 : Hid (∀ (wr : World) (r1 : Int) (r2 : Int) (r3 : Int) (r4 : Int) (r5 : Int) (r6 : Int) (r7 : Int) (r8 : Int) (r9 : Int) (r10 : Int) (r11 : Int) (g2 : Nat) (g3 : Nat), Hid (CS w A n c bs 11 wr) → Hid (0 ≤ r4 ∧ r4 < 3) → Hid (Lt3 w wr g2) → Hid (0 ≤ r8 ∧ r8 < 3) → Hid (Lt4 w wr g3) → Hid (0 ≤ r11 ∧ r11 < 4) → wpAnyH Try.prog .any ops Q (fun _ => True) 8 #[true, true, true, true, true, true, false, true, true, false, false, true, true, true, true, true, true, true, true, true, true, false, true, true, true, true, true, true, true, true, true, false, false, false, false] { tmps := #[.slice A n c, undef, .int .i64 0, .int .i64 0, .int .i64 0, pv w, .slice A n c, pv w, pv w, .int .i64 r1, pv w, .int .i64 r2, pv w, .int .i64 r3, undef, pv w, .int .i64 r4, undef, undef, pv w, .int .i64 r5, pv w, .int .i64 r6, pv w, .int .i64 r7, .slice (some ⟨g2, 0, none⟩) 3 3, pv w, .int .i64 r8, .pointer (some ⟨g2, Int.toNat r8, none⟩), undef, pv w, .int .i64 r9, .int .i64 (1 + r9), pv w, .int .i64 r10, .slice (some ⟨g3, 0, none⟩) 4 4, pv w, .int .i64 r11, .pointer (some ⟨g3, Int.toNat r11, none⟩), undef], defers := [] } wr) := by
    clear hC0
    clear st_10_111 st_11_110 st_10_110 st_9_110 st_8_110 st_7_110 st_11_102 st_11_101 st_10_101 st_11_100 st_10_100 st_9_100 st_8_100 st_7_100 st_6_100 st_5_100 st_4_100 st_3_100 st_10_021 st_11_020 st_10_020 st_9_020 st_8_020
    refine Lib.hid ?_
    intro wr r1 r2 r3 r4 r5 r6 r7 r8 r9 r10 r11 g2 g3 hC hI1 hL2 hI2 hL3 hI3
    have hHeld : True := trivial
    refine of_ops hops.out ?_
    refine wpAnyH_ready (rs := [6, 21, 31]) (by kernel_rfl) (by simp) (AllReadyH.cons rfl (fun K hK => ?_) (AllReadyH.cons rfl (fun K hK => ?_) (AllReadyH.cons rfl (fun K hK => ?_) AllReadyH.nil)))
    · go_simp
      clear hHeld
      refine hK.out _ _ trivial (fun hHeld => ?_)
      clear hK K
      try simp only [List.getElem_toArray, List.getElem_cons_zero, List.getElem_cons_succ, Act.put, List.setIfInBounds_toArray, List.set_cons_zero, List.set_cons_succ]
      obtain ⟨i0, i1⟩ := hI1.out
      refine wpAnyH_take (i := 9) (v := ?v82) rfl (by kernel_rfl) (by kernel_rfl) (by kernel_rfl) (fun _ _ _ h => hPan.out _ _ _ _ h) (Or.inl ⟨by rfl, ?hy82⟩) (by assumption) ?rest82
      case hy82 =>
        intro wz hSw
        clear hSw
        go_simp <;> with_reducible rfl
      try simp only [List.getElem_toArray, List.getElem_cons_zero, List.getElem_cons_succ, Act.put, List.setIfInBounds_toArray, List.set_cons_zero, List.set_cons_succ]
      exact to_ops hops.out (st_11_111.out (wr.alloc (.cells #[.int .i64 r1, .int .i64 r2, .int .i64 r3] 3)) r1 r2 r3 r4 r5 r6 r7 r8 r9 r10 r11 wr.heap.size g2 g3 (hC.out.alloc _) (Lt3.new _ hC.out.lt _ _ _) hI1 (hL2.out.alloc _) hI2 (hL3.out.alloc _) hI3)
    · obtain ⟨v2, hc⟩ := hL2.out.cell hI2.out.1 hI2.out.2
      go_simp
      clear hHeld
      refine hK.out _ _ trivial (fun hHeld => ?_)
      clear hK K
      try simp only [List.getElem_toArray, List.getElem_cons_zero, List.getElem_cons_succ, Act.put, List.setIfInBounds_toArray, List.set_cons_zero, List.set_cons_succ]
      exact to_ops hops.out (st_11_021.out wr r1 r2 r3 r4 r5 r6 r7 r8 r9 r10 r11 g2 g3 v2 hC hI1 hL3 hI3)
    · obtain ⟨v3, hc⟩ := hL3.out.cell hI3.out.1 hI3.out.2
      go_simp
      clear hHeld
      refine hK.out _ _ trivial (fun hHeld => ?_)
      clear hK K
      try simp only [List.getElem_toArray, List.getElem_cons_zero, List.getElem_cons_succ, Act.put, List.setIfInBounds_toArray, List.set_cons_zero, List.set_cons_succ]
      exact to_ops hops.out (st_11_012.out wr r1 r2 r3 r4 r5 r6 r7 r8 r9 r10 r11 g2 g3 v3 hC hI1 hL2 hI2)
  clear st_11_111 st_11_021
  have st_10_011 : Hid (∀ (wr : World) (r1 : Int) (r2 : Int) (r3 : Int) (r4 : Int) (r5 : Int) (r6 : Int) (r7 : Int) (r8 : Int) (r9 : Int) (r10 : Int) (g2 : Nat) (g3 : Nat), Hid (CS w A n c bs 10 wr) → Hid (0 ≤ r4 ∧ r4 < 3) → Hid (Lt3 w wr g2) → Hid (0 ≤ r8 ∧ r8 < 3) → Hid (Lt4 w wr g3) → wpAnyH Try.prog .any ops Q (fun _ => True) 10 #[true, true, true, true, true, true, false, true, true, false, false, true, true, true, true, true, true, true, true, true, true, false, true, true, true, true, true, true, true, false, false, false, false, false, false] { tmps := #[.slice A n c, undef, .int .i64 0, .int .i64 0, .int .i64 0, pv w, .slice A n c, pv w, pv w, .int .i64 r1, pv w, .int .i64 r2, pv w, .int .i64 r3, undef, pv w, .int .i64 r4, undef, undef, pv w, .int .i64 r5, pv w, .int .i64 r6, pv w, .int .i64 r7, .slice (some ⟨g2, 0, none⟩) 3 3, pv w, .int .i64 r8, .pointer (some ⟨g2, Int.toNat r8, none⟩), undef, pv w, .int .i64 r9, .int .i64 (1 + r9), pv w, .int .i64 r10, .slice (some ⟨g3, 0, none⟩) 4 4, pv w, undef, undef, undef], defers := [] } wr) := by
    clear hC0
    clear st_11_110 st_10_110 st_9_110 st_8_110 st_7_110 st_11_102 st_11_101 st_10_101 st_11_100 st_10_100 st_9_100 st_8_100 st_7_100 st_6_100 st_5_100 st_4_100 st_3_100 st_11_020 st_10_020 st_9_020 st_8_020 st_11_012
    refine Lib.hid ?_
    intro wr r1 r2 r3 r4 r5 r6 r7 r8 r9 r10 g2 g3 hC hI1 hL2 hI2 hL3
    have hHeld : True := trivial
    refine of_ops hops.out ?_
    refine wpAnyH_ready (rs := [6, 21, 29]) (by kernel_rfl) (by simp) (AllReadyH.cons rfl (fun K hK => ?_) (AllReadyH.cons rfl (fun K hK => ?_) (AllReadyH.cons rfl (fun K hK => ?_) AllReadyH.nil)))
    · go_simp
      clear hHeld
      refine hK.out _ _ trivial (fun hHeld => ?_)
      clear hK K
      try simp only [List.getElem_toArray, List.getElem_cons_zero, List.getElem_cons_succ, Act.put, List.setIfInBounds_toArray, List.set_cons_zero, List.set_cons_succ]
      obtain ⟨i0, i1⟩ := hI1.out
      refine wpAnyH_take (i := 9) (v := ?v83) rfl (by kernel_rfl) (by kernel_rfl) (by kernel_rfl) (fun _ _ _ h => hPan.out _ _ _ _ h) (Or.inl ⟨by rfl, ?hy83⟩) (by assumption) ?rest83
      case hy83 =>
        intro wz hSw
        clear hSw
        go_simp <;> with_reducible rfl
      try simp only [List.getElem_toArray, List.getElem_cons_zero, List.getElem_cons_succ, Act.put, List.setIfInBounds_toArray, List.set_cons_zero, List.set_cons_succ]
      exact to_ops hops.out (st_10_111.out (wr.alloc (.cells #[.int .i64 r1, .int .i64 r2, .int .i64 r3] 3)) r1 r2 r3 r4 r5 r6 r7 r8 r9 r10 wr.heap.size g2 g3 (hC.out.alloc _) (Lt3.new _ hC.out.lt _ _ _) hI1 (hL2.out.alloc _) hI2 (hL3.out.alloc _))
    · obtain ⟨v2, hc⟩ := hL2.out.cell hI2.out.1 hI2.out.2
      go_simp
      clear hHeld
      refine hK.out _ _ trivial (fun hHeld => ?_)
      clear hK K
      try simp only [List.getElem_toArray, List.getElem_cons_zero, List.getElem_cons_succ, Act.put, List.setIfInBounds_toArray, List.set_cons_zero, List.set_cons_succ]
      exact to_ops hops.out (st_10_021.out wr r1 r2 r3 r4 r5 r6 r7 r8 r9 r10 g2 g3 v2 hC hI1 hL3)
    · go_simp
      refine (cs_pick hC.out 4 (by omega) (by omega)).mono ?_
      rintro e w2 ⟨r11, rfl, p0, p1, hC2, hG⟩
      have p2 : r11 < 4 := by omega
      go_wp2_with fail
      clear hHeld
      refine hK.out _ _ trivial (fun hHeld => ?_)
      clear hK K
      try simp only [List.getElem_toArray, List.getElem_cons_zero, List.getElem_cons_succ, Act.put, List.setIfInBounds_toArray, List.set_cons_zero, List.set_cons_succ]
      have hL2' := Lib.hid (hL2.out.call hG.out)
      refine wpAnyH_take (i := 30) (v := ?v84) rfl (by kernel_rfl) (by kernel_rfl) (by kernel_rfl) (fun _ _ _ h => hPan.out _ _ _ _ h) (Or.inl ⟨by rfl, ?hy84⟩) (by assumption) ?rest84
      case hy84 =>
        intro wz hSw
        clear hSw
        go_simp <;> with_reducible rfl
      try simp only [List.getElem_toArray, List.getElem_cons_zero, List.getElem_cons_succ, Act.put, List.setIfInBounds_toArray, List.set_cons_zero, List.set_cons_succ]
      have hL3' := Lib.hid (hL3.out.call hG.out)
      exact to_ops hops.out (st_11_011.out w2 r1 r2 r3 r4 r5 r6 r7 r8 r9 r10 r11 g2 g3 hC2 hI1 hL2' hI2 hL3' ⟨p0, p2⟩)
  clear st_10_111 st_10_021
  have st_11_010 : Hid (∀ (wr : World) (r1 : Int) (r2 : Int) (r3 : Int) (r4 : Int) (r5 : Int) (r6 : Int) (r7 : Int) (r8 : Int) (r9 : Int) (r10 : Int) (r11 : Int) (g2 : Nat), Hid (CS w A n c bs 11 wr) → Hid (0 ≤ r4 ∧ r4 < 3) → Hid (Lt3 w wr g2) → Hid (0 ≤ r8 ∧ r8 < 3) → Hid (0 ≤ r11 ∧ r11 < 4) → wpAnyH Try.prog .any ops Q (fun _ => True) 10 #[true, true, true, true, true, true, false, true, true, false, false, true, true, true, true, true, true, true, true, true, true, false, true, true, true, true, true, false, true, true, false, false, false, false, false] { tmps := #[.slice A n c, undef, .int .i64 0, .int .i64 0, .int .i64 0, pv w, .slice A n c, pv w, pv w, .int .i64 r1, pv w, .int .i64 r2, pv w, .int .i64 r3, undef, pv w, .int .i64 r4, undef, undef, pv w, .int .i64 r5, pv w, .int .i64 r6, pv w, .int .i64 r7, .slice (some ⟨g2, 0, none⟩) 3 3, pv w, .int .i64 r8, .pointer (some ⟨g2, Int.toNat r8, none⟩), undef, pv w, .int .i64 r9, .int .i64 (1 + r9), pv w, .int .i64 r10, undef, pv w, .int .i64 r11, undef, undef], defers := [] } wr) := by
    clear hC0
    clear st_10_110 st_9_110 st_8_110 st_7_110 st_11_102 st_11_101 st_10_101 st_11_100 st_10_100 st_9_100 st_8_100 st_7_100 st_6_100 st_5_100 st_4_100 st_3_100 st_10_020 st_9_020 st_8_020 st_11_012 st_10_011
    refine Lib.hid ?_
    intro wr r1 r2 r3 r4 r5 r6 r7 r8 r9 r10 r11 g2 hC hI1 hL2 hI2 hI3
    have hHeld : True := trivial
    refine of_ops hops.out ?_
    refine wpAnyH_ready (rs := [6, 21, 27]) (by kernel_rfl) (by simp) (AllReadyH.cons rfl (fun K hK => ?_) (AllReadyH.cons rfl (fun K hK => ?_) (AllReadyH.cons rfl (fun K hK => ?_) AllReadyH.nil)))
    · go_simp
      clear hHeld
      refine hK.out _ _ trivial (fun hHeld => ?_)
      clear hK K
      try simp only [List.getElem_toArray, List.getElem_cons_zero, List.getElem_cons_succ, Act.put, List.setIfInBounds_toArray, List.set_cons_zero, List.set_cons_succ]
      obtain ⟨i0, i1⟩ := hI1.out
      refine wpAnyH_take (i := 9) (v := ?v85) rfl (by kernel_rfl) (by kernel_rfl) (by kernel_rfl) (fun _ _ _ h => hPan.out _ _ _ _ h) (Or.inl ⟨by rfl, ?hy85⟩) (by assumption) ?rest85
      case hy85 =>
        intro wz hSw
        clear hSw
        go_simp <;> with_reducible rfl
      try simp only [List.getElem_toArray, List.getElem_cons_zero, List.getElem_cons_succ, Act.put, List.setIfInBounds_toArray, List.set_cons_zero, List.set_cons_succ]
      exact to_ops hops.out (st_11_110.out (wr.alloc (.cells #[.int .i64 r1, .int .i64 r2, .int .i64 r3] 3)) r1 r2 r3 r4 r5 r6 r7 r8 r9 r10 r11 wr.heap.size g2 (hC.out.alloc _) (Lt3.new _ hC.out.lt _ _ _) hI1 (hL2.out.alloc _) hI2 hI3)
    · obtain ⟨v2, hc⟩ := hL2.out.cell hI2.out.1 hI2.out.2
      go_simp
      clear hHeld
      refine hK.out _ _ trivial (fun hHeld => ?_)
      clear hK K
      try simp only [List.getElem_toArray, List.getElem_cons_zero, List.getElem_cons_succ, Act.put, List.setIfInBounds_toArray, List.set_cons_zero, List.set_cons_succ]
      exact to_ops hops.out (st_11_020.out wr r1 r2 r3 r4 r5 r6 r7 r8 r9 r10 r11 g2 v2 hC hI1 hI3)
    · go_simp
      clear hHeld
      refine hK.out _ _ trivial (fun hHeld => ?_)
      clear hK K
      try simp only [List.getElem_toArray, List.getElem_cons_zero, List.getElem_cons_succ, Act.put, List.setIfInBounds_toArray, List.set_cons_zero, List.set_cons_succ]
      obtain ⟨i0, i1⟩ := hI3.out
      refine wpAnyH_take (i := 30) (v := ?v86) rfl (by kernel_rfl) (by kernel_rfl) (by kernel_rfl) (fun _ _ _ h => hPan.out _ _ _ _ h) (Or.inl ⟨by rfl, ?hy86⟩) (by assumption) ?rest86
      case hy86 =>
        intro wz hSw
        clear hSw
        go_simp <;> with_reducible rfl
      try simp only [List.getElem_toArray, List.getElem_cons_zero, List.getElem_cons_succ, Act.put, List.setIfInBounds_toArray, List.set_cons_zero, List.set_cons_succ]
      exact to_ops hops.out (st_11_011.out (wr.alloc (.cells #[.int .i64 (1 + r9), .int .i64 0, .int .i64 17, .int .i64 r10] 3)) r1 r2 r3 r4 r5 r6 r7 r8 r9 r10 r11 g2 wr.heap.size (hC.out.alloc _) hI1 (hL2.out.alloc _) hI2 (Lt4.new _ hC.out.lt _ _ _ _) hI3)
  clear st_11_110 st_11_020
  have st_10_010 : Hid (∀ (wr : World) (r1 : Int) (r2 : Int) (r3 : Int) (r4 : Int) (r5 : Int) (r6 : Int) (r7 : Int) (r8 : Int) (r9 : Int) (r10 : Int) (g2 : Nat), Hid (CS w A n c bs 10 wr) → Hid (0 ≤ r4 ∧ r4 < 3) → Hid (Lt3 w wr g2) → Hid (0 ≤ r8 ∧ r8 < 3) → wpAnyH Try.prog .any ops Q (fun _ => True) 11 #[true, true, true, true, true, true, false, true, true, false, false, true, true, true, true, true, true, true, true, true, true, false, true, true, true, true, true, false, true, false, false, false, false, false, false] { tmps := #[.slice A n c, undef, .int .i64 0, .int .i64 0, .int .i64 0, pv w, .slice A n c, pv w, pv w, .int .i64 r1, pv w, .int .i64 r2, pv w, .int .i64 r3, undef, pv w, .int .i64 r4, undef, undef, pv w, .int .i64 r5, pv w, .int .i64 r6, pv w, .int .i64 r7, .slice (some ⟨g2, 0, none⟩) 3 3, pv w, .int .i64 r8, .pointer (some ⟨g2, Int.toNat r8, none⟩), undef, pv w, .int .i64 r9, .int .i64 (1 + r9), pv w, .int .i64 r10, undef, pv w, undef, undef, undef], defers := [] } wr) := by
    clear hC0
    clear st_9_110 st_8_110 st_7_110 st_11_102 st_11_101 st_10_101 st_11_100 st_10_100 st_9_100 st_8_100 st_7_100 st_6_100 st_5_100 st_4_100 st_3_100 st_9_020 st_8_020 st_11_012 st_11_011
    refine Lib.hid ?_
    intro wr r1 r2 r3 r4 r5 r6 r7 r8 r9 r10 g2 hC hI1 hL2 hI2
    have hHeld : True := trivial
    refine of_ops hops.out ?_
    refine wpAnyH_ready (rs := [6, 21, 27, 29]) (by kernel_rfl) (by simp) (AllReadyH.cons rfl (fun K hK => ?_) (AllReadyH.cons rfl (fun K hK => ?_) (AllReadyH.cons rfl (fun K hK => ?_) (AllReadyH.cons rfl (fun K hK => ?_) AllReadyH.nil))))
    · go_simp
      clear hHeld
      refine hK.out _ _ trivial (fun hHeld => ?_)
      clear hK K
      try simp only [List.getElem_toArray, List.getElem_cons_zero, List.getElem_cons_succ, Act.put, List.setIfInBounds_toArray, List.set_cons_zero, List.set_cons_succ]
      obtain ⟨i0, i1⟩ := hI1.out
      refine wpAnyH_take (i := 9) (v := ?v87) rfl (by kernel_rfl) (by kernel_rfl) (by kernel_rfl) (fun _ _ _ h => hPan.out _ _ _ _ h) (Or.inl ⟨by rfl, ?hy87⟩) (by assumption) ?rest87
      case hy87 =>
        intro wz hSw
        clear hSw
        go_simp <;> with_reducible rfl
      try simp only [List.getElem_toArray, List.getElem_cons_zero, List.getElem_cons_succ, Act.put, List.setIfInBounds_toArray, List.set_cons_zero, List.set_cons_succ]
      exact to_ops hops.out (st_10_110.out (wr.alloc (.cells #[.int .i64 r1, .int .i64 r2, .int .i64 r3] 3)) r1 r2 r3 r4 r5 r6 r7 r8 r9 r10 wr.heap.size g2 (hC.out.alloc _) (Lt3.new _ hC.out.lt _ _ _) hI1 (hL2.out.alloc _) hI2)
    · obtain ⟨v2, hc⟩ := hL2.out.cell hI2.out.1 hI2.out.2
      go_simp
      clear hHeld
      refine hK.out _ _ trivial (fun hHeld => ?_)
      clear hK K
      try simp only [List.getElem_toArray, List.getElem_cons_zero, List.getElem_cons_succ, Act.put, List.setIfInBounds_toArray, List.set_cons_zero, List.set_cons_succ]
      exact to_ops hops.out (st_10_020.out wr r1 r2 r3 r4 r5 r6 r7 r8 r9 r10 g2 v2 hC hI1)
    · go_simp
      clear hHeld
      refine hK.out _ _ trivial (fun hHeld => ?_)
      clear hK K
      try simp only [List.getElem_toArray, List.getElem_cons_zero, List.getElem_cons_succ, Act.put, List.setIfInBounds_toArray, List.set_cons_zero, List.set_cons_succ]
      exact to_ops hops.out (st_10_011.out (wr.alloc (.cells #[.int .i64 (1 + r9), .int .i64 0, .int .i64 17, .int .i64 r10] 3)) r1 r2 r3 r4 r5 r6 r7 r8 r9 r10 g2 wr.heap.size (hC.out.alloc _) hI1 (hL2.out.alloc _) hI2 (Lt4.new _ hC.out.lt _ _ _ _))
    · go_simp
      refine (cs_pick hC.out 4 (by omega) (by omega)).mono ?_
      rintro e w2 ⟨r11, rfl, p0, p1, hC2, hG⟩
      have p2 : r11 < 4 := by omega
      go_wp2_with fail
      clear hHeld
      refine hK.out _ _ trivial (fun hHeld => ?_)
      clear hK K
      try simp only [List.getElem_toArray, List.getElem_cons_zero, List.getElem_cons_succ, Act.put, List.setIfInBounds_toArray, List.set_cons_zero, List.set_cons_succ]
      have hL2' := Lib.hid (hL2.out.call hG.out)
      exact to_ops hops.out (st_11_010.out w2 r1 r2 r3 r4 r5 r6 r7 r8 r9 r10 r11 g2 hC2 hI1 hL2' hI2 ⟨p0, p2⟩)
  clear st_10_110 st_10_020
  have st_9_010 : Hid (∀ (wr : World) (r1 : Int) (r2 : Int) (r3 : Int) (r4 : Int) (r5 : Int) (r6 : Int) (r7 : Int) (r8 : Int) (r9 : Int) (g2 : Nat), Hid (CS w A n c bs 9 wr) → Hid (0 ≤ r4 ∧ r4 < 3) → Hid (Lt3 w wr g2) → Hid (0 ≤ r8 ∧ r8 < 3) → wpAnyH Try.prog .any ops Q (fun _ => True) 12 #[true, true, true, true, true, true, false, true, true, false, false, true, true, true, true, true, true, true, true, true, true, false, true, true, true, true, false, false, true, false, false, false, false, false, false] { tmps := #[.slice A n c, undef, .int .i64 0, .int .i64 0, .int .i64 0, pv w, .slice A n c, pv w, pv w, .int .i64 r1, pv w, .int .i64 r2, pv w, .int .i64 r3, undef, pv w, .int .i64 r4, undef, undef, pv w, .int .i64 r5, pv w, .int .i64 r6, pv w, .int .i64 r7, .slice (some ⟨g2, 0, none⟩) 3 3, pv w, .int .i64 r8, .pointer (some ⟨g2, Int.toNat r8, none⟩), undef, pv w, .int .i64 r9, .int .i64 (1 + r9), pv w, undef, undef, pv w, undef, undef, undef], defers := [] } wr) := by
    clear hC0
    clear st_8_110 st_7_110 st_11_102 st_11_101 st_10_101 st_11_100 st_10_100 st_9_100 st_8_100 st_7_100 st_6_100 st_5_100 st_4_100 st_3_100 st_8_020 st_11_012 st_11_011 st_10_011 st_11_010
    refine Lib.hid ?_
    intro wr r1 r2 r3 r4 r5 r6 r7 r8 r9 g2 hC hI1 hL2 hI2
    have hHeld : True := trivial
    refine of_ops hops.out ?_
    refine wpAnyH_ready (rs := [6, 21, 26]) (by kernel_rfl) (by simp) (AllReadyH.cons rfl (fun K hK => ?_) (AllReadyH.cons rfl (fun K hK => ?_) (AllReadyH.cons rfl (fun K hK => ?_) AllReadyH.nil)))
    · go_simp
      clear hHeld
      refine hK.out _ _ trivial (fun hHeld => ?_)
      clear hK K
      try simp only [List.getElem_toArray, List.getElem_cons_zero, List.getElem_cons_succ, Act.put, List.setIfInBounds_toArray, List.set_cons_zero, List.set_cons_succ]
      obtain ⟨i0, i1⟩ := hI1.out
      refine wpAnyH_take (i := 9) (v := ?v88) rfl (by kernel_rfl) (by kernel_rfl) (by kernel_rfl) (fun _ _ _ h => hPan.out _ _ _ _ h) (Or.inl ⟨by rfl, ?hy88⟩) (by assumption) ?rest88
      case hy88 =>
        intro wz hSw
        clear hSw
        go_simp <;> with_reducible rfl
      try simp only [List.getElem_toArray, List.getElem_cons_zero, List.getElem_cons_succ, Act.put, List.setIfInBounds_toArray, List.set_cons_zero, List.set_cons_succ]
      exact to_ops hops.out (st_9_110.out (wr.alloc (.cells #[.int .i64 r1, .int .i64 r2, .int .i64 r3] 3)) r1 r2 r3 r4 r5 r6 r7 r8 r9 wr.heap.size g2 (hC.out.alloc _) (Lt3.new _ hC.out.lt _ _ _) hI1 (hL2.out.alloc _) hI2)
    · obtain ⟨v2, hc⟩ := hL2.out.cell hI2.out.1 hI2.out.2
      go_simp
      clear hHeld
      refine hK.out _ _ trivial (fun hHeld => ?_)
      clear hK K
      try simp only [List.getElem_toArray, List.getElem_cons_zero, List.getElem_cons_succ, Act.put, List.setIfInBounds_toArray, List.set_cons_zero, List.set_cons_succ]
      exact to_ops hops.out (st_9_020.out wr r1 r2 r3 r4 r5 r6 r7 r8 r9 g2 v2 hC hI1)
    · go_simp
      refine (cs_raw (N := 0) hC.out (by omega)).mono ?_
      rintro e w2 ⟨r10, rfl, hC2, hG⟩
      go_wp2_with fail
      clear hHeld
      refine hK.out _ _ trivial (fun hHeld => ?_)
      clear hK K
      try simp only [List.getElem_toArray, List.getElem_cons_zero, List.getElem_cons_succ, Act.put, List.setIfInBounds_toArray, List.set_cons_zero, List.set_cons_succ]
      have hL2' := Lib.hid (hL2.out.call hG.out)
      exact to_ops hops.out (st_10_010.out w2 r1 r2 r3 r4 r5 r6 r7 r8 r9 r10 g2 hC2 hI1 hL2' hI2)
  clear st_9_110 st_9_020
  have st_8_010 : Hid (∀ (wr : World) (r1 : Int) (r2 : Int) (r3 : Int) (r4 : Int) (r5 : Int) (r6 : Int) (r7 : Int) (r8 : Int) (g2 : Nat), Hid (CS w A n c bs 8 wr) → Hid (0 ≤ r4 ∧ r4 < 3) → Hid (Lt3 w wr g2) → Hid (0 ≤ r8 ∧ r8 < 3) → wpAnyH Try.prog .any ops Q (fun _ => True) 14 #[true, true, true, true, true, true, false, true, true, false, false, true, true, true, true, true, true, true, true, true, true, false, true, false, false, true, false, false, true, false, false, false, false, false, false] { tmps := #[.slice A n c, undef, .int .i64 0, .int .i64 0, .int .i64 0, pv w, .slice A n c, pv w, pv w, .int .i64 r1, pv w, .int .i64 r2, pv w, .int .i64 r3, undef, pv w, .int .i64 r4, undef, undef, pv w, .int .i64 r5, pv w, .int .i64 r6, pv w, .int .i64 r7, .slice (some ⟨g2, 0, none⟩) 3 3, pv w, .int .i64 r8, .pointer (some ⟨g2, Int.toNat r8, none⟩), undef, pv w, undef, undef, pv w, undef, undef, pv w, undef, undef, undef], defers := [] } wr) := by
    clear hC0
    clear st_7_110 st_11_102 st_11_101 st_10_101 st_11_100 st_10_100 st_9_100 st_8_100 st_7_100 st_6_100 st_5_100 st_4_100 st_3_100 st_11_012 st_11_011 st_10_011 st_11_010 st_10_010
    refine Lib.hid ?_
    intro wr r1 r2 r3 r4 r5 r6 r7 r8 g2 hC hI1 hL2 hI2
    have hHeld : True := trivial
    refine of_ops hops.out ?_
    refine wpAnyH_ready (rs := [6, 21, 23]) (by kernel_rfl) (by simp) (AllReadyH.cons rfl (fun K hK => ?_) (AllReadyH.cons rfl (fun K hK => ?_) (AllReadyH.cons rfl (fun K hK => ?_) AllReadyH.nil)))
    · go_simp
      clear hHeld
      refine hK.out _ _ trivial (fun hHeld => ?_)
      clear hK K
      try simp only [List.getElem_toArray, List.getElem_cons_zero, List.getElem_cons_succ, Act.put, List.setIfInBounds_toArray, List.set_cons_zero, List.set_cons_succ]
      obtain ⟨i0, i1⟩ := hI1.out
      refine wpAnyH_take (i := 9) (v := ?v89) rfl (by kernel_rfl) (by kernel_rfl) (by kernel_rfl) (fun _ _ _ h => hPan.out _ _ _ _ h) (Or.inl ⟨by rfl, ?hy89⟩) (by assumption) ?rest89
      case hy89 =>
        intro wz hSw
        clear hSw
        go_simp <;> with_reducible rfl
      try simp only [List.getElem_toArray, List.getElem_cons_zero, List.getElem_cons_succ, Act.put, List.setIfInBounds_toArray, List.set_cons_zero, List.set_cons_succ]
      exact to_ops hops.out (st_8_110.out (wr.alloc (.cells #[.int .i64 r1, .int .i64 r2, .int .i64 r3] 3)) r1 r2 r3 r4 r5 r6 r7 r8 wr.heap.size g2 (hC.out.alloc _) (Lt3.new _ hC.out.lt _ _ _) hI1 (hL2.out.alloc _) hI2)
    · obtain ⟨v2, hc⟩ := hL2.out.cell hI2.out.1 hI2.out.2
      go_simp
      clear hHeld
      refine hK.out _ _ trivial (fun hHeld => ?_)
      clear hK K
      try simp only [List.getElem_toArray, List.getElem_cons_zero, List.getElem_cons_succ, Act.put, List.setIfInBounds_toArray, List.set_cons_zero, List.set_cons_succ]
      exact to_ops hops.out (st_8_020.out wr r1 r2 r3 r4 r5 r6 r7 r8 g2 v2 hC hI1)
    · go_simp
      refine (cs_pick hC.out 16 (by omega) (by omega)).mono ?_
      rintro e w2 ⟨r9, rfl, p0, p1, hC2, hG⟩
      have p2 : r9 < 16 := by omega
      go_wp2_with fail
      clear hHeld
      refine hK.out _ _ trivial (fun hHeld => ?_)
      clear hK K
      try simp only [List.getElem_toArray, List.getElem_cons_zero, List.getElem_cons_succ, Act.put, List.setIfInBounds_toArray, List.set_cons_zero, List.set_cons_succ]
      have ew : IntKind.i64.wrap (1 + r9) = 1 + r9 := IntWalk.i64_in _ (by omega)
      refine wpAnyH_take (i := 24) (v := .int .i64 (1 + r9)) rfl (by kernel_rfl) (by kernel_rfl) (by kernel_rfl) (fun _ _ _ h => hPan.out _ _ _ _ h) (Or.inl ⟨by rfl, ?hy90⟩) (by assumption) ?rest90
      case hy90 =>
        intro wz hSw
        clear hSw
        first
          | (go_simp; done)
          | (go_simp <;> with_reducible rfl)
          | (go_simp; rw [ew])
      try simp only [List.getElem_toArray, List.getElem_cons_zero, List.getElem_cons_succ, Act.put, List.setIfInBounds_toArray, List.set_cons_zero, List.set_cons_succ]
      have hL2' := Lib.hid (hL2.out.call hG.out)
      exact to_ops hops.out (st_9_010.out w2 r1 r2 r3 r4 r5 r6 r7 r8 r9 g2 hC2 hI1 hL2' hI2)
  clear st_8_110 st_8_020
  have st_7_010 : Hid (∀ (wr : World) (r1 : Int) (r2 : Int) (r3 : Int) (r4 : Int) (r5 : Int) (r6 : Int) (r7 : Int) (g2 : Nat), Hid (CS w A n c bs 7 wr) → Hid (0 ≤ r4 ∧ r4 < 3) → Hid (Lt3 w wr g2) → wpAnyH Try.prog .any ops Q (fun _ => True) 16 #[true, true, true, true, true, true, false, true, true, false, false, true, true, true, true, true, true, true, true, false, false, false, true, false, false, true, false, false, true, false, false, false, false, false, false] { tmps := #[.slice A n c, undef, .int .i64 0, .int .i64 0, .int .i64 0, pv w, .slice A n c, pv w, pv w, .int .i64 r1, pv w, .int .i64 r2, pv w, .int .i64 r3, undef, pv w, .int .i64 r4, undef, undef, pv w, .int .i64 r5, pv w, .int .i64 r6, pv w, .int .i64 r7, .slice (some ⟨g2, 0, none⟩) 3 3, pv w, undef, undef, undef, pv w, undef, undef, pv w, undef, undef, pv w, undef, undef, undef], defers := [] } wr) := by
    clear hC0
    clear st_11_102 st_11_101 st_10_101 st_11_100 st_10_100 st_9_100 st_8_100 st_7_100 st_6_100 st_5_100 st_4_100 st_3_100 st_11_012 st_11_011 st_10_011 st_11_010 st_10_010 st_9_010
    refine Lib.hid ?_
    intro wr r1 r2 r3 r4 r5 r6 r7 g2 hC hI1 hL2
    have hHeld : True := trivial
    refine of_ops hops.out ?_
    refine wpAnyH_ready (rs := [6, 19]) (by kernel_rfl) (by simp) (AllReadyH.cons rfl (fun K hK => ?_) (AllReadyH.cons rfl (fun K hK => ?_) AllReadyH.nil))
    · go_simp
      clear hHeld
      refine hK.out _ _ trivial (fun hHeld => ?_)
      clear hK K
      try simp only [List.getElem_toArray, List.getElem_cons_zero, List.getElem_cons_succ, Act.put, List.setIfInBounds_toArray, List.set_cons_zero, List.set_cons_succ]
      obtain ⟨i0, i1⟩ := hI1.out
      refine wpAnyH_take (i := 9) (v := ?v91) rfl (by kernel_rfl) (by kernel_rfl) (by kernel_rfl) (fun _ _ _ h => hPan.out _ _ _ _ h) (Or.inl ⟨by rfl, ?hy91⟩) (by assumption) ?rest91
      case hy91 =>
        intro wz hSw
        clear hSw
        go_simp <;> with_reducible rfl
      try simp only [List.getElem_toArray, List.getElem_cons_zero, List.getElem_cons_succ, Act.put, List.setIfInBounds_toArray, List.set_cons_zero, List.set_cons_succ]
      exact to_ops hops.out (st_7_110.out (wr.alloc (.cells #[.int .i64 r1, .int .i64 r2, .int .i64 r3] 3)) r1 r2 r3 r4 r5 r6 r7 wr.heap.size g2 (hC.out.alloc _) (Lt3.new _ hC.out.lt _ _ _) hI1 (hL2.out.alloc _))
    · go_simp
      refine (cs_pick hC.out 3 (by omega) (by omega)).mono ?_
      rintro e w2 ⟨r8, rfl, p0, p1, hC2, hG⟩
      have p2 : r8 < 3 := by omega
      go_wp2_with fail
      clear hHeld
      refine hK.out _ _ trivial (fun hHeld => ?_)
      clear hK K
      try simp only [List.getElem_toArray, List.getElem_cons_zero, List.getElem_cons_succ, Act.put, List.setIfInBounds_toArray, List.set_cons_zero, List.set_cons_succ]
      refine wpAnyH_take (i := 20) (v := ?v92) rfl (by kernel_rfl) (by kernel_rfl) (by kernel_rfl) (fun _ _ _ h => hPan.out _ _ _ _ h) (Or.inl ⟨by rfl, ?hy92⟩) (by assumption) ?rest92
      case hy92 =>
        intro wz hSw
        clear hSw
        go_simp <;> with_reducible rfl
      try simp only [List.getElem_toArray, List.getElem_cons_zero, List.getElem_cons_succ, Act.put, List.setIfInBounds_toArray, List.set_cons_zero, List.set_cons_succ]
      have hL2' := Lib.hid (hL2.out.call hG.out)
      exact to_ops hops.out (st_8_010.out w2 r1 r2 r3 r4 r5 r6 r7 r8 g2 hC2 hI1 hL2' ⟨p0, p2⟩)
  clear st_7_110
  have st_11_002 : Hid (∀ (wr : World) (r1 : Int) (r2 : Int) (r3 : Int) (r4 : Int) (r5 : Int) (r6 : Int) (r7 : Int) (r8 : Int) (r9 : Int) (r10 : Int) (r11 : Int) (g3 : Nat) (v3 : Int), Hid (CS w A n c bs 11 wr) → Hid (0 ≤ r4 ∧ r4 < 3) → Hid (0 ≤ r8 ∧ r8 < 3) → wpAnyH Try.prog .any ops Q (fun _ => True) 9 #[true, true, true, true, true, true, false, true, true, false, false, true, true, true, true, true, true, false, true, true, false, false, true, true, true, true, true, true, true, true, true, true, false, false, false] { tmps := #[.slice A n c, undef, .int .i64 0, .int .i64 0, .int .i64 0, pv w, .slice A n c, pv w, pv w, .int .i64 r1, pv w, .int .i64 r2, pv w, .int .i64 r3, undef, pv w, .int .i64 r4, undef, undef, pv w, .int .i64 r5, pv w, .int .i64 r6, pv w, .int .i64 r7, undef, pv w, .int .i64 r8, undef, undef, pv w, .int .i64 r9, .int .i64 (1 + r9), pv w, .int .i64 r10, .slice (some ⟨g3, 0, none⟩) 4 4, pv w, .int .i64 r11, .pointer (some ⟨g3, Int.toNat r11, none⟩), .int .i64 v3], defers := [] } wr) := by
    clear hC0
    clear st_11_101 st_10_101 st_11_100 st_10_100 st_9_100 st_8_100 st_7_100 st_6_100 st_5_100 st_4_100 st_3_100 st_11_011 st_10_011 st_11_010 st_10_010 st_9_010 st_8_010 st_7_010
    refine Lib.hid ?_
    intro wr r1 r2 r3 r4 r5 r6 r7 r8 r9 r10 r11 g3 v3 hC hI1 hI2
    have hHeld : True := trivial
    refine of_ops hops.out ?_
    refine wpAnyH_ready (rs := [6, 17]) (by kernel_rfl) (by simp) (AllReadyH.cons rfl (fun K hK => ?_) (AllReadyH.cons rfl (fun K hK => ?_) AllReadyH.nil))
    · go_simp
      clear hHeld
      refine hK.out _ _ trivial (fun hHeld => ?_)
      clear hK K
      try simp only [List.getElem_toArray, List.getElem_cons_zero, List.getElem_cons_succ, Act.put, List.setIfInBounds_toArray, List.set_cons_zero, List.set_cons_succ]
      obtain ⟨i0, i1⟩ := hI1.out
      refine wpAnyH_take (i := 9) (v := ?v93) rfl (by kernel_rfl) (by kernel_rfl) (by kernel_rfl) (fun _ _ _ h => hPan.out _ _ _ _ h) (Or.inl ⟨by rfl, ?hy93⟩) (by assumption) ?rest93
      case hy93 =>
        intro wz hSw
        clear hSw
        go_simp <;> with_reducible rfl
      try simp only [List.getElem_toArray, List.getElem_cons_zero, List.getElem_cons_succ, Act.put, List.setIfInBounds_toArray, List.set_cons_zero, List.set_cons_succ]
      exact to_ops hops.out (st_11_102.out (wr.alloc (.cells #[.int .i64 r1, .int .i64 r2, .int .i64 r3] 3)) r1 r2 r3 r4 r5 r6 r7 r8 r9 r10 r11 wr.heap.size g3 v3 (hC.out.alloc _) (Lt3.new _ hC.out.lt _ _ _) hI1 hI2)
    · go_simp
      clear hHeld
      refine hK.out _ _ trivial (fun hHeld => ?_)
      clear hK K
      try simp only [List.getElem_toArray, List.getElem_cons_zero, List.getElem_cons_succ, Act.put, List.setIfInBounds_toArray, List.set_cons_zero, List.set_cons_succ]
      obtain ⟨i0, i1⟩ := hI2.out
      refine wpAnyH_take (i := 20) (v := ?v94) rfl (by kernel_rfl) (by kernel_rfl) (by kernel_rfl) (fun _ _ _ h => hPan.out _ _ _ _ h) (Or.inl ⟨by rfl, ?hy94⟩) (by assumption) ?rest94
      case hy94 =>
        intro wz hSw
        clear hSw
        go_simp <;> with_reducible rfl
      try simp only [List.getElem_toArray, List.getElem_cons_zero, List.getElem_cons_succ, Act.put, List.setIfInBounds_toArray, List.set_cons_zero, List.set_cons_succ]
      exact to_ops hops.out (st_11_012.out (wr.alloc (.cells #[.int .i64 r5, .int .i64 r6, .int .i64 r7] 3)) r1 r2 r3 r4 r5 r6 r7 r8 r9 r10 r11 wr.heap.size g3 v3 (hC.out.alloc _) hI1 (Lt3.new _ hC.out.lt _ _ _) hI2)
  clear st_11_102 st_11_012
  have st_11_001 : Hid (∀ (wr : World) (r1 : Int) (r2 : Int) (r3 : Int) (r4 : Int) (r5 : Int) (r6 : Int) (r7 : Int) (r8 : Int) (r9 : Int) (r10 : Int) (r11 : Int) (g3 : Nat), Hid (CS w A n c bs 11 wr) → Hid (0 ≤ r4 ∧ r4 < 3) → Hid (0 ≤ r8 ∧ r8 < 3) → Hid (Lt4 w wr g3) → Hid (0 ≤ r11 ∧ r11 < 4) → wpAnyH Try.prog .any ops Q (fun _ => True) 10 #[true, true, true, true, true, true, false, true, true, false, false, true, true, true, true, true, true, false, true, true, false, false, true, true, true, true, true, true, true, true, true, false, false, false, false] { tmps := #[.slice A n c, undef, .int .i64 0, .int .i64 0, .int .i64 0, pv w, .slice A n c, pv w, pv w, .int .i64 r1, pv w, .int .i64 r2, pv w, .int .i64 r3, undef, pv w, .int .i64 r4, undef, undef, pv w, .int .i64 r5, pv w, .int .i64 r6, pv w, .int .i64 r7, undef, pv w, .int .i64 r8, undef, undef, pv w, .int .i64 r9, .int .i64 (1 + r9), pv w, .int .i64 r10, .slice (some ⟨g3, 0, none⟩) 4 4, pv w, .int .i64 r11, .pointer (some ⟨g3, Int.toNat r11, none⟩), undef], defers := [] } wr) := by
    clear hC0
    clear st_10_101 st_11_100 st_10_100 st_9_100 st_8_100 st_7_100 st_6_100 st_5_100 st_4_100 st_3_100 st_10_011 st_11_010 st_10_010 st_9_010 st_8_010 st_7_010
    refine Lib.hid ?_
    intro wr r1 r2 r3 r4 r5 r6 r7 r8 r9 r10 r11 g3 hC hI1 hI2 hL3 hI3
    have hHeld : True := trivial
    refine of_ops hops.out ?_
    refine wpAnyH_ready (rs := [6, 17, 31]) (by kernel_rfl) (by simp) (AllReadyH.cons rfl (fun K hK => ?_) (AllReadyH.cons rfl (fun K hK => ?_) (AllReadyH.cons rfl (fun K hK => ?_) AllReadyH.nil)))
    · go_simp
      clear hHeld
      refine hK.out _ _ trivial (fun hHeld => ?_)
      clear hK K
      try simp only [List.getElem_toArray, List.getElem_cons_zero, List.getElem_cons_succ, Act.put, List.setIfInBounds_toArray, List.set_cons_zero, List.set_cons_succ]
      obtain ⟨i0, i1⟩ := hI1.out
      refine wpAnyH_take (i := 9) (v := ?v95) rfl (by kernel_rfl) (by kernel_rfl) (by kernel_rfl) (fun _ _ _ h => hPan.out _ _ _ _ h) (Or.inl ⟨by rfl, ?hy95⟩) (by assumption) ?rest95
      case hy95 =>
        intro wz hSw
        clear hSw
        go_simp <;> with_reducible rfl
      try simp only [List.getElem_toArray, List.getElem_cons_zero, List.getElem_cons_succ, Act.put, List.setIfInBounds_toArray, List.set_cons_zero, List.set_cons_succ]
      exact to_ops hops.out (st_11_101.out (wr.alloc (.cells #[.int .i64 r1, .int .i64 r2, .int .i64 r3] 3)) r1 r2 r3 r4 r5 r6 r7 r8 r9 r10 r11 wr.heap.size g3 (hC.out.alloc _) (Lt3.new _ hC.out.lt _ _ _) hI1 hI2 (hL3.out.alloc _) hI3)
    · go_simp
      clear hHeld
      refine hK.out _ _ trivial (fun hHeld => ?_)
      clear hK K
      try simp only [List.getElem_toArray, List.getElem_cons_zero, List.getElem_cons_succ, Act.put, List.setIfInBounds_toArray, List.set_cons_zero, List.set_cons_succ]
      obtain ⟨i0, i1⟩ := hI2.out
      refine wpAnyH_take (i := 20) (v := ?v96) rfl (by kernel_rfl) (by kernel_rfl) (by kernel_rfl) (fun _ _ _ h => hPan.out _ _ _ _ h) (Or.inl ⟨by rfl, ?hy96⟩) (by assumption) ?rest96
      case hy96 =>
        intro wz hSw
        clear hSw
        go_simp <;> with_reducible rfl
      try simp only [List.getElem_toArray, List.getElem_cons_zero, List.getElem_cons_succ, Act.put, List.setIfInBounds_toArray, List.set_cons_zero, List.set_cons_succ]
      exact to_ops hops.out (st_11_011.out (wr.alloc (.cells #[.int .i64 r5, .int .i64 r6, .int .i64 r7] 3)) r1 r2 r3 r4 r5 r6 r7 r8 r9 r10 r11 wr.heap.size g3 (hC.out.alloc _) hI1 (Lt3.new _ hC.out.lt _ _ _) hI2 (hL3.out.alloc _) hI3)
    · obtain ⟨v3, hc⟩ := hL3.out.cell hI3.out.1 hI3.out.2
      go_simp
      clear hHeld
      refine hK.out _ _ trivial (fun hHeld => ?_)
      clear hK K
      try simp only [List.getElem_toArray, List.getElem_cons_zero, List.getElem_cons_succ, Act.put, List.setIfInBounds_toArray, List.set_cons_zero, List.set_cons_succ]
      exact to_ops hops.out (st_11_002.out wr r1 r2 r3 r4 r5 r6 r7 r8 r9 r10 r11 g3 v3 hC hI1 hI2)
  clear st_11_101 st_11_011 st_11_002
  have st_10_001 : Hid (∀ (wr : World) (r1 : Int) (r2 : Int) (r3 : Int) (r4 : Int) (r5 : Int) (r6 : Int) (r7 : Int) (r8 : Int) (r9 : Int) (r10 : Int) (g3 : Nat), Hid (CS w A n c bs 10 wr) → Hid (0 ≤ r4 ∧ r4 < 3) → Hid (0 ≤ r8 ∧ r8 < 3) → Hid (Lt4 w wr g3) → wpAnyH Try.prog .any ops Q (fun _ => True) 12 #[true, true, true, true, true, true, false, true, true, false, false, true, true, true, true, true, true, false, true, true, false, false, true, true, true, true, true, true, true, false, false, false, false, false, false] { tmps := #[.slice A n c, undef, .int .i64 0, .int .i64 0, .int .i64 0, pv w, .slice A n c, pv w, pv w, .int .i64 r1, pv w, .int .i64 r2, pv w, .int .i64 r3, undef, pv w, .int .i64 r4, undef, undef, pv w, .int .i64 r5, pv w, .int .i64 r6, pv w, .int .i64 r7, undef, pv w, .int .i64 r8, undef, undef, pv w, .int .i64 r9, .int .i64 (1 + r9), pv w, .int .i64 r10, .slice (some ⟨g3, 0, none⟩) 4 4, pv w, undef, undef, undef], defers := [] } wr) := by
    clear hC0
    clear st_11_100 st_10_100 st_9_100 st_8_100 st_7_100 st_6_100 st_5_100 st_4_100 st_3_100 st_11_010 st_10_010 st_9_010 st_8_010 st_7_010
    refine Lib.hid ?_
    intro wr r1 r2 r3 r4 r5 r6 r7 r8 r9 r10 g3 hC hI1 hI2 hL3
    have hHeld : True := trivial
    refine of_ops hops.out ?_
    refine wpAnyH_ready (rs := [6, 17, 29]) (by kernel_rfl) (by simp) (AllReadyH.cons rfl (fun K hK => ?_) (AllReadyH.cons rfl (fun K hK => ?_) (AllReadyH.cons rfl (fun K hK => ?_) AllReadyH.nil)))
    · go_simp
      clear hHeld
      refine hK.out _ _ trivial (fun hHeld => ?_)
      clear hK K
      try simp only [List.getElem_toArray, List.getElem_cons_zero, List.getElem_cons_succ, Act.put, List.setIfInBounds_toArray, List.set_cons_zero, List.set_cons_succ]
      obtain ⟨i0, i1⟩ := hI1.out
      refine wpAnyH_take (i := 9) (v := ?v97) rfl (by kernel_rfl) (by kernel_rfl) (by kernel_rfl) (fun _ _ _ h => hPan.out _ _ _ _ h) (Or.inl ⟨by rfl, ?hy97⟩) (by assumption) ?rest97
      case hy97 =>
        intro wz hSw
        clear hSw
        go_simp <;> with_reducible rfl
      try simp only [List.getElem_toArray, List.getElem_cons_zero, List.getElem_cons_succ, Act.put, List.setIfInBounds_toArray, List.set_cons_zero, List.set_cons_succ]
      exact to_ops hops.out (st_10_101.out (wr.alloc (.cells #[.int .i64 r1, .int .i64 r2, .int .i64 r3] 3)) r1 r2 r3 r4 r5 r6 r7 r8 r9 r10 wr.heap.size g3 (hC.out.alloc _) (Lt3.new _ hC.out.lt _ _ _) hI1 hI2 (hL3.out.alloc _))
    · go_simp
      clear hHeld
      refine hK.out _ _ trivial (fun hHeld => ?_)
      clear hK K
      try simp only [List.getElem_toArray, List.getElem_cons_zero, List.getElem_cons_succ, Act.put, List.setIfInBounds_toArray, List.set_cons_zero, List.set_cons_succ]
      obtain ⟨i0, i1⟩ := hI2.out
      refine wpAnyH_take (i := 20) (v := ?v98) rfl (by kernel_rfl) (by kernel_rfl) (by kernel_rfl) (fun _ _ _ h => hPan.out _ _ _ _ h) (Or.inl ⟨by rfl, ?hy98⟩) (by assumption) ?rest98
      case hy98 =>
        intro wz hSw
        clear hSw
        go_simp <;> with_reducible rfl
      try simp only [List.getElem_toArray, List.getElem_cons_zero, List.getElem_cons_succ, Act.put, List.setIfInBounds_toArray, List.set_cons_zero, List.set_cons_succ]
      exact to_ops hops.out (st_10_011.out (wr.alloc (.cells #[.int .i64 r5, .int .i64 r6, .int .i64 r7] 3)) r1 r2 r3 r4 r5 r6 r7 r8 r9 r10 wr.heap.size g3 (hC.out.alloc _) hI1 (Lt3.new _ hC.out.lt _ _ _) hI2 (hL3.out.alloc _))
    · go_simp
      refine (cs_pick hC.out 4 (by omega) (by omega)).mono ?_
      rintro e w2 ⟨r11, rfl, p0, p1, hC2, hG⟩
      have p2 : r11 < 4 := by omega
      go_wp2_with fail
      clear hHeld
      refine hK.out _ _ trivial (fun hHeld => ?_)
      clear hK K
      try simp only [List.getElem_toArray, List.getElem_cons_zero, List.getElem_cons_succ, Act.put, List.setIfInBounds_toArray, List.set_cons_zero, List.set_cons_succ]
      refine wpAnyH_take (i := 30) (v := ?v99) rfl (by kernel_rfl) (by kernel_rfl) (by kernel_rfl) (fun _ _ _ h => hPan.out _ _ _ _ h) (Or.inl ⟨by rfl, ?hy99⟩) (by assumption) ?rest99
      case hy99 =>
        intro wz hSw
        clear hSw
        go_simp <;> with_reducible rfl
      try simp only [List.getElem_toArray, List.getElem_cons_zero, List.getElem_cons_succ, Act.put, List.setIfInBounds_toArray, List.set_cons_zero, List.set_cons_succ]
      have hL3' := Lib.hid (hL3.out.call hG.out)
      exact to_ops hops.out (st_11_001.out w2 r1 r2 r3 r4 r5 r6 r7 r8 r9 r10 r11 g3 hC2 hI1 hI2 hL3' ⟨p0, p2⟩)
  clear st_10_101 st_10_011
  have st_11_000 : Hid (∀ (wr : World) (r1 : Int) (r2 : Int) (r3 : Int) (r4 : Int) (r5 : Int) (r6 : Int) (r7 : Int) (r8 : Int) (r9 : Int) (r10 : Int) (r11 : Int), Hid (CS w A n c bs 11 wr) → Hid (0 ≤ r4 ∧ r4 < 3) → Hid (0 ≤ r8 ∧ r8 < 3) → Hid (0 ≤ r11 ∧ r11 < 4) → wpAnyH Try.prog .any ops Q (fun _ => True) 12 #[true, true, true, true, true, true, false, true, true, false, false, true, true, true, true, true, true, false, true, true, false, false, true, true, true, true, true, false, true, true, false, false, false, false, false] { tmps := #[.slice A n c, undef, .int .i64 0, .int .i64 0, .int .i64 0, pv w, .slice A n c, pv w, pv w, .int .i64 r1, pv w, .int .i64 r2, pv w, .int .i64 r3, undef, pv w, .int .i64 r4, undef, undef, pv w, .int .i64 r5, pv w, .int .i64 r6, pv w, .int .i64 r7, undef, pv w, .int .i64 r8, undef, undef, pv w, .int .i64 r9, .int .i64 (1 + r9), pv w, .int .i64 r10, undef, pv w, .int .i64 r11, undef, undef], defers := [] } wr) := by
    clear hC0
    clear st_10_100 st_9_100 st_8_100 st_7_100 st_6_100 st_5_100 st_4_100 st_3_100 st_10_010 st_9_010 st_8_010 st_7_010 st_10_001
    refine Lib.hid ?_
    intro wr r1 r2 r3 r4 r5 r6 r7 r8 r9 r10 r11 hC hI1 hI2 hI3
    have hHeld : True := trivial
    refine of_ops hops.out ?_
    refine wpAnyH_ready (rs := [6, 17, 27]) (by kernel_rfl) (by simp) (AllReadyH.cons rfl (fun K hK => ?_) (AllReadyH.cons rfl (fun K hK => ?_) (AllReadyH.cons rfl (fun K hK => ?_) AllReadyH.nil)))
    · go_simp
      clear hHeld
      refine hK.out _ _ trivial (fun hHeld => ?_)
      clear hK K
      try simp only [List.getElem_toArray, List.getElem_cons_zero, List.getElem_cons_succ, Act.put, List.setIfInBounds_toArray, List.set_cons_zero, List.set_cons_succ]
      obtain ⟨i0, i1⟩ := hI1.out
      refine wpAnyH_take (i := 9) (v := ?v100) rfl (by kernel_rfl) (by kernel_rfl) (by kernel_rfl) (fun _ _ _ h => hPan.out _ _ _ _ h) (Or.inl ⟨by rfl, ?hy100⟩) (by assumption) ?rest100
      case hy100 =>
        intro wz hSw
        clear hSw
        go_simp <;> with_reducible rfl
      try simp only [List.getElem_toArray, List.getElem_cons_zero, List.getElem_cons_succ, Act.put, List.setIfInBounds_toArray, List.set_cons_zero, List.set_cons_succ]
      exact to_ops hops.out (st_11_100.out (wr.alloc (.cells #[.int .i64 r1, .int .i64 r2, .int .i64 r3] 3)) r1 r2 r3 r4 r5 r6 r7 r8 r9 r10 r11 wr.heap.size (hC.out.alloc _) (Lt3.new _ hC.out.lt _ _ _) hI1 hI2 hI3)
    · go_simp
      clear hHeld
      refine hK.out _ _ trivial (fun hHeld => ?_)
      clear hK K
      try simp only [List.getElem_toArray, List.getElem_cons_zero, List.getElem_cons_succ, Act.put, List.setIfInBounds_toArray, List.set_cons_zero, List.set_cons_succ]
      obtain ⟨i0, i1⟩ := hI2.out
      refine wpAnyH_take (i := 20) (v := ?v101) rfl (by kernel_rfl) (by kernel_rfl) (by kernel_rfl) (fun _ _ _ h => hPan.out _ _ _ _ h) (Or.inl ⟨by rfl, ?hy101⟩) (by assumption) ?rest101
      case hy101 =>
        intro wz hSw
        clear hSw
        go_simp <;> with_reducible rfl
      try simp only [List.getElem_toArray, List.getElem_cons_zero, List.getElem_cons_succ, Act.put, List.setIfInBounds_toArray, List.set_cons_zero, List.set_cons_succ]
      exact to_ops hops.out (st_11_010.out (wr.alloc (.cells #[.int .i64 r5, .int .i64 r6, .int .i64 r7] 3)) r1 r2 r3 r4 r5 r6 r7 r8 r9 r10 r11 wr.heap.size (hC.out.alloc _) hI1 (Lt3.new _ hC.out.lt _ _ _) hI2 hI3)
    · go_simp
      clear hHeld
      refine hK.out _ _ trivial (fun hHeld => ?_)
      clear hK K
      try simp only [List.getElem_toArray, List.getElem_cons_zero, List.getElem_cons_succ, Act.put, List.setIfInBounds_toArray, List.set_cons_zero, List.set_cons_succ]
      obtain ⟨i0, i1⟩ := hI3.out
      refine wpAnyH_take (i := 30) (v := ?v102) rfl (by kernel_rfl) (by kernel_rfl) (by kernel_rfl) (fun _ _ _ h => hPan.out _ _ _ _ h) (Or.inl ⟨by rfl, ?hy102⟩) (by assumption) ?rest102
      case hy102 =>
        intro wz hSw
        clear hSw
        go_simp <;> with_reducible rfl
      try simp only [List.getElem_toArray, List.getElem_cons_zero, List.getElem_cons_succ, Act.put, List.setIfInBounds_toArray, List.set_cons_zero, List.set_cons_succ]
      exact to_ops hops.out (st_11_001.out (wr.alloc (.cells #[.int .i64 (1 + r9), .int .i64 0, .int .i64 17, .int .i64 r10] 3)) r1 r2 r3 r4 r5 r6 r7 r8 r9 r10 r11 wr.heap.size (hC.out.alloc _) hI1 hI2 (Lt4.new _ hC.out.lt _ _ _ _) hI3)
  clear st_11_100 st_11_010 st_11_001
  have st_10_000 : Hid (∀ (wr : World) (r1 : Int) (r2 : Int) (r3 : Int) (r4 : Int) (r5 : Int) (r6 : Int) (r7 : Int) (r8 : Int) (r9 : Int) (r10 : Int), Hid (CS w A n c bs 10 wr) → Hid (0 ≤ r4 ∧ r4 < 3) → Hid (0 ≤ r8 ∧ r8 < 3) → wpAnyH Try.prog .any ops Q (fun _ => True) 13 #[true, true, true, true, true, true, false, true, true, false, false, true, true, true, true, true, true, false, true, true, false, false, true, true, true, true, true, false, true, false, false, false, false, false, false] { tmps := #[.slice A n c, undef, .int .i64 0, .int .i64 0, .int .i64 0, pv w, .slice A n c, pv w, pv w, .int .i64 r1, pv w, .int .i64 r2, pv w, .int .i64 r3, undef, pv w, .int .i64 r4, undef, undef, pv w, .int .i64 r5, pv w, .int .i64 r6, pv w, .int .i64 r7, undef, pv w, .int .i64 r8, undef, undef, pv w, .int .i64 r9, .int .i64 (1 + r9), pv w, .int .i64 r10, undef, pv w, undef, undef, undef], defers := [] } wr) := by
    clear hC0
    clear st_9_100 st_8_100 st_7_100 st_6_100 st_5_100 st_4_100 st_3_100 st_9_010 st_8_010 st_7_010
    refine Lib.hid ?_
    intro wr r1 r2 r3 r4 r5 r6 r7 r8 r9 r10 hC hI1 hI2
    have hHeld : True := trivial
    refine of_ops hops.out ?_
    refine wpAnyH_ready (rs := [6, 17, 27, 29]) (by kernel_rfl) (by simp) (AllReadyH.cons rfl (fun K hK => ?_) (AllReadyH.cons rfl (fun K hK => ?_) (AllReadyH.cons rfl (fun K hK => ?_) (AllReadyH.cons rfl (fun K hK => ?_) AllReadyH.nil))))
    · go_simp
      clear hHeld
      refine hK.out _ _ trivial (fun hHeld => ?_)
      clear hK K
      try simp only [List.getElem_toArray, List.getElem_cons_zero, List.getElem_cons_succ, Act.put, List.setIfInBounds_toArray, List.set_cons_zero, List.set_cons_succ]
      obtain ⟨i0, i1⟩ := hI1.out
      refine wpAnyH_take (i := 9) (v := ?v103) rfl (by kernel_rfl) (by kernel_rfl) (by kernel_rfl) (fun _ _ _ h => hPan.out _ _ _ _ h) (Or.inl ⟨by rfl, ?hy103⟩) (by assumption) ?rest103
      case hy103 =>
        intro wz hSw
        clear hSw
        go_simp <;> with_reducible rfl
      try simp only [List.getElem_toArray, List.getElem_cons_zero, List.getElem_cons_succ, Act.put, List.setIfInBounds_toArray, List.set_cons_zero, List.set_cons_succ]
      exact to_ops hops.out (st_10_100.out (wr.alloc (.cells #[.int .i64 r1, .int .i64 r2, .int .i64 r3] 3)) r1 r2 r3 r4 r5 r6 r7 r8 r9 r10 wr.heap.size (hC.out.alloc _) (Lt3.new _ hC.out.lt _ _ _) hI1 hI2)
    · go_simp
      clear hHeld
      refine hK.out _ _ trivial (fun hHeld => ?_)
      clear hK K
      try simp only [List.getElem_toArray, List.getElem_cons_zero, List.getElem_cons_succ, Act.put, List.setIfInBounds_toArray, List.set_cons_zero, List.set_cons_succ]
      obtain ⟨i0, i1⟩ := hI2.out
      refine wpAnyH_take (i := 20) (v := ?v104) rfl (by kernel_rfl) (by kernel_rfl) (by kernel_rfl) (fun _ _ _ h => hPan.out _ _ _ _ h) (Or.inl ⟨by rfl, ?hy104⟩) (by assumption) ?rest104
      case hy104 =>
        intro wz hSw
        clear hSw
        go_simp <;> with_reducible rfl
      try simp only [List.getElem_toArray, List.getElem_cons_zero, List.getElem_cons_succ, Act.put, List.setIfInBounds_toArray, List.set_cons_zero, List.set_cons_succ]
      exact to_ops hops.out (st_10_010.out (wr.alloc (.cells #[.int .i64 r5, .int .i64 r6, .int .i64 r7] 3)) r1 r2 r3 r4 r5 r6 r7 r8 r9 r10 wr.heap.size (hC.out.alloc _) hI1 (Lt3.new _ hC.out.lt _ _ _) hI2)
    · go_simp
      clear hHeld
      refine hK.out _ _ trivial (fun hHeld => ?_)
      clear hK K
      try simp only [List.getElem_toArray, List.getElem_cons_zero, List.getElem_cons_succ, Act.put, List.setIfInBounds_toArray, List.set_cons_zero, List.set_cons_succ]
      exact to_ops hops.out (st_10_001.out (wr.alloc (.cells #[.int .i64 (1 + r9), .int .i64 0, .int .i64 17, .int .i64 r10] 3)) r1 r2 r3 r4 r5 r6 r7 r8 r9 r10 wr.heap.size (hC.out.alloc _) hI1 hI2 (Lt4.new _ hC.out.lt _ _ _ _))
    · go_simp
      refine (cs_pick hC.out 4 (by omega) (by omega)).mono ?_
      rintro e w2 ⟨r11, rfl, p0, p1, hC2, hG⟩
      have p2 : r11 < 4 := by omega
      go_wp2_with fail
      clear hHeld
      refine hK.out _ _ trivial (fun hHeld => ?_)
      clear hK K
      try simp only [List.getElem_toArray, List.getElem_cons_zero, List.getElem_cons_succ, Act.put, List.setIfInBounds_toArray, List.set_cons_zero, List.set_cons_succ]
      exact to_ops hops.out (st_11_000.out w2 r1 r2 r3 r4 r5 r6 r7 r8 r9 r10 r11 hC2 hI1 hI2 ⟨p0, p2⟩)
  clear st_10_100 st_10_010 st_10_001 st_11_000
  have st_9_000 : Hid (∀ (wr : World) (r1 : Int) (r2 : Int) (r3 : Int) (r4 : Int) (r5 : Int) (r6 : Int) (r7 : Int) (r8 : Int) (r9 : Int), Hid (CS w A n c bs 9 wr) → Hid (0 ≤ r4 ∧ r4 < 3) → Hid (0 ≤ r8 ∧ r8 < 3) → wpAnyH Try.prog .any ops Q (fun _ => True) 14 #[true, true, true, true, true, true, false, true, true, false, false, true, true, true, true, true, true, false, true, true, false, false, true, true, true, true, false, false, true, false, false, false, false, false, false] { tmps := #[.slice A n c, undef, .int .i64 0, .int .i64 0, .int .i64 0, pv w, .slice A n c, pv w, pv w, .int .i64 r1, pv w, .int .i64 r2, pv w, .int .i64 r3, undef, pv w, .int .i64 r4, undef, undef, pv w, .int .i64 r5, pv w, .int .i64 r6, pv w, .int .i64 r7, undef, pv w, .int .i64 r8, undef, undef, pv w, .int .i64 r9, .int .i64 (1 + r9), pv w, undef, undef, pv w, undef, undef, undef], defers := [] } wr) := by
    clear hC0
    clear st_8_100 st_7_100 st_6_100 st_5_100 st_4_100 st_3_100 st_8_010 st_7_010
    refine Lib.hid ?_
    intro wr r1 r2 r3 r4 r5 r6 r7 r8 r9 hC hI1 hI2
    have hHeld : True := trivial
    refine of_ops hops.out ?_
    refine wpAnyH_ready (rs := [6, 17, 26]) (by kernel_rfl) (by simp) (AllReadyH.cons rfl (fun K hK => ?_) (AllReadyH.cons rfl (fun K hK => ?_) (AllReadyH.cons rfl (fun K hK => ?_) AllReadyH.nil)))
    · go_simp
      clear hHeld
      refine hK.out _ _ trivial (fun hHeld => ?_)
      clear hK K
      try simp only [List.getElem_toArray, List.getElem_cons_zero, List.getElem_cons_succ, Act.put, List.setIfInBounds_toArray, List.set_cons_zero, List.set_cons_succ]
      obtain ⟨i0, i1⟩ := hI1.out
      refine wpAnyH_take (i := 9) (v := ?v105) rfl (by kernel_rfl) (by kernel_rfl) (by kernel_rfl) (fun _ _ _ h => hPan.out _ _ _ _ h) (Or.inl ⟨by rfl, ?hy105⟩) (by assumption) ?rest105
      case hy105 =>
        intro wz hSw
        clear hSw
        go_simp <;> with_reducible rfl
      try simp only [List.getElem_toArray, List.getElem_cons_zero, List.getElem_cons_succ, Act.put, List.setIfInBounds_toArray, List.set_cons_zero, List.set_cons_succ]
      exact to_ops hops.out (st_9_100.out (wr.alloc (.cells #[.int .i64 r1, .int .i64 r2, .int .i64 r3] 3)) r1 r2 r3 r4 r5 r6 r7 r8 r9 wr.heap.size (hC.out.alloc _) (Lt3.new _ hC.out.lt _ _ _) hI1 hI2)
    · go_simp
      clear hHeld
      refine hK.out _ _ trivial (fun hHeld => ?_)
      clear hK K
      try simp only [List.getElem_toArray, List.getElem_cons_zero, List.getElem_cons_succ, Act.put, List.setIfInBounds_toArray, List.set_cons_zero, List.set_cons_succ]
      obtain ⟨i0, i1⟩ := hI2.out
      refine wpAnyH_take (i := 20) (v := ?v106) rfl (by kernel_rfl) (by kernel_rfl) (by kernel_rfl) (fun _ _ _ h => hPan.out _ _ _ _ h) (Or.inl ⟨by rfl, ?hy106⟩) (by assumption) ?rest106
      case hy106 =>
        intro wz hSw
        clear hSw
        go_simp <;> with_reducible rfl
      try simp only [List.getElem_toArray, List.getElem_cons_zero, List.getElem_cons_succ, Act.put, List.setIfInBounds_toArray, List.set_cons_zero, List.set_cons_succ]
      exact to_ops hops.out (st_9_010.out (wr.alloc (.cells #[.int .i64 r5, .int .i64 r6, .int .i64 r7] 3)) r1 r2 r3 r4 r5 r6 r7 r8 r9 wr.heap.size (hC.out.alloc _) hI1 (Lt3.new _ hC.out.lt _ _ _) hI2)
    · go_simp
      refine (cs_raw (N := 0) hC.out (by omega)).mono ?_
      rintro e w2 ⟨r10, rfl, hC2, hG⟩
      go_wp2_with fail
      clear hHeld
      refine hK.out _ _ trivial (fun hHeld => ?_)
      clear hK K
      try simp only [List.getElem_toArray, List.getElem_cons_zero, List.getElem_cons_succ, Act.put, List.setIfInBounds_toArray, List.set_cons_zero, List.set_cons_succ]
      exact to_ops hops.out (st_10_000.out w2 r1 r2 r3 r4 r5 r6 r7 r8 r9 r10 hC2 hI1 hI2)
  clear st_9_100 st_9_010 st_10_000
  have st_8_000 : Hid (∀ (wr : World) (r1 : Int) (r2 : Int) (r3 : Int) (r4 : Int) (r5 : Int) (r6 : Int) (r7 : Int) (r8 : Int), Hid (CS w A n c bs 8 wr) → Hid (0 ≤ r4 ∧ r4 < 3) → Hid (0 ≤ r8 ∧ r8 < 3) → wpAnyH Try.prog .any ops Q (fun _ => True) 16 #[true, true, true, true, true, true, false, true, true, false, false, true, true, true, true, true, true, false, true, true, false, false, true, false, false, true, false, false, true, false, false, false, false, false, false] { tmps := #[.slice A n c, undef, .int .i64 0, .int .i64 0, .int .i64 0, pv w, .slice A n c, pv w, pv w, .int .i64 r1, pv w, .int .i64 r2, pv w, .int .i64 r3, undef, pv w, .int .i64 r4, undef, undef, pv w, .int .i64 r5, pv w, .int .i64 r6, pv w, .int .i64 r7, undef, pv w, .int .i64 r8, undef, undef, pv w, undef, undef, pv w, undef, undef, pv w, undef, undef, undef], defers := [] } wr) := by
    clear hC0
    clear st_7_100 st_6_100 st_5_100 st_4_100 st_3_100 st_7_010
    refine Lib.hid ?_
    intro wr r1 r2 r3 r4 r5 r6 r7 r8 hC hI1 hI2
    have hHeld : True := trivial
    refine of_ops hops.out ?_
    refine wpAnyH_ready (rs := [6, 17, 23]) (by kernel_rfl) (by simp) (AllReadyH.cons rfl (fun K hK => ?_) (AllReadyH.cons rfl (fun K hK => ?_) (AllReadyH.cons rfl (fun K hK => ?_) AllReadyH.nil)))
    · go_simp
      clear hHeld
      refine hK.out _ _ trivial (fun hHeld => ?_)
      clear hK K
      try simp only [List.getElem_toArray, List.getElem_cons_zero, List.getElem_cons_succ, Act.put, List.setIfInBounds_toArray, List.set_cons_zero, List.set_cons_succ]
      obtain ⟨i0, i1⟩ := hI1.out
      refine wpAnyH_take (i := 9) (v := ?v107) rfl (by kernel_rfl) (by kernel_rfl) (by kernel_rfl) (fun _ _ _ h => hPan.out _ _ _ _ h) (Or.inl ⟨by rfl, ?hy107⟩) (by assumption) ?rest107
      case hy107 =>
        intro wz hSw
        clear hSw
        go_simp <;> with_reducible rfl
      try simp only [List.getElem_toArray, List.getElem_cons_zero, List.getElem_cons_succ, Act.put, List.setIfInBounds_toArray, List.set_cons_zero, List.set_cons_succ]
      exact to_ops hops.out (st_8_100.out (wr.alloc (.cells #[.int .i64 r1, .int .i64 r2, .int .i64 r3] 3)) r1 r2 r3 r4 r5 r6 r7 r8 wr.heap.size (hC.out.alloc _) (Lt3.new _ hC.out.lt _ _ _) hI1 hI2)
    · go_simp
      clear hHeld
      refine hK.out _ _ trivial (fun hHeld => ?_)
      clear hK K
      try simp only [List.getElem_toArray, List.getElem_cons_zero, List.getElem_cons_succ, Act.put, List.setIfInBounds_toArray, List.set_cons_zero, List.set_cons_succ]
      obtain ⟨i0, i1⟩ := hI2.out
      refine wpAnyH_take (i := 20) (v := ?v108) rfl (by kernel_rfl) (by kernel_rfl) (by kernel_rfl) (fun _ _ _ h => hPan.out _ _ _ _ h) (Or.inl ⟨by rfl, ?hy108⟩) (by assumption) ?rest108
      case hy108 =>
        intro wz hSw
        clear hSw
        go_simp <;> with_reducible rfl
      try simp only [List.getElem_toArray, List.getElem_cons_zero, List.getElem_cons_succ, Act.put, List.setIfInBounds_toArray, List.set_cons_zero, List.set_cons_succ]
      exact to_ops hops.out (st_8_010.out (wr.alloc (.cells #[.int .i64 r5, .int .i64 r6, .int .i64 r7] 3)) r1 r2 r3 r4 r5 r6 r7 r8 wr.heap.size (hC.out.alloc _) hI1 (Lt3.new _ hC.out.lt _ _ _) hI2)
    · go_simp
      refine (cs_pick hC.out 16 (by omega) (by omega)).mono ?_
      rintro e w2 ⟨r9, rfl, p0, p1, hC2, hG⟩
      have p2 : r9 < 16 := by omega
      go_wp2_with fail
      clear hHeld
      refine hK.out _ _ trivial (fun hHeld => ?_)
      clear hK K
      try simp only [List.getElem_toArray, List.getElem_cons_zero, List.getElem_cons_succ, Act.put, List.setIfInBounds_toArray, List.set_cons_zero, List.set_cons_succ]
      have ew : IntKind.i64.wrap (1 + r9) = 1 + r9 := IntWalk.i64_in _ (by omega)
      refine wpAnyH_take (i := 24) (v := .int .i64 (1 + r9)) rfl (by kernel_rfl) (by kernel_rfl) (by kernel_rfl) (fun _ _ _ h => hPan.out _ _ _ _ h) (Or.inl ⟨by rfl, ?hy109⟩) (by assumption) ?rest109
      case hy109 =>
        intro wz hSw
        clear hSw
        first
          | (go_simp; done)
          | (go_simp <;> with_reducible rfl)
          | (go_simp; rw [ew])
      try simp only [List.getElem_toArray, List.getElem_cons_zero, List.getElem_cons_succ, Act.put, List.setIfInBounds_toArray, List.set_cons_zero, List.set_cons_succ]
      exact to_ops hops.out (st_9_000.out w2 r1 r2 r3 r4 r5 r6 r7 r8 r9 hC2 hI1 hI2)
  clear st_8_100 st_8_010 st_9_000
  have st_7_000 : Hid (∀ (wr : World) (r1 : Int) (r2 : Int) (r3 : Int) (r4 : Int) (r5 : Int) (r6 : Int) (r7 : Int), Hid (CS w A n c bs 7 wr) → Hid (0 ≤ r4 ∧ r4 < 3) → wpAnyH Try.prog .any ops Q (fun _ => True) 17 #[true, true, true, true, true, true, false, true, true, false, false, true, true, true, true, true, true, false, true, false, false, false, true, false, false, true, false, false, true, false, false, false, false, false, false] { tmps := #[.slice A n c, undef, .int .i64 0, .int .i64 0, .int .i64 0, pv w, .slice A n c, pv w, pv w, .int .i64 r1, pv w, .int .i64 r2, pv w, .int .i64 r3, undef, pv w, .int .i64 r4, undef, undef, pv w, .int .i64 r5, pv w, .int .i64 r6, pv w, .int .i64 r7, undef, pv w, undef, undef, undef, pv w, undef, undef, pv w, undef, undef, pv w, undef, undef, undef], defers := [] } wr) := by
    clear hC0
    clear st_6_100 st_5_100 st_4_100 st_3_100
    refine Lib.hid ?_
    intro wr r1 r2 r3 r4 r5 r6 r7 hC hI1
    have hHeld : True := trivial
    refine of_ops hops.out ?_
    refine wpAnyH_ready (rs := [6, 17, 19]) (by kernel_rfl) (by simp) (AllReadyH.cons rfl (fun K hK => ?_) (AllReadyH.cons rfl (fun K hK => ?_) (AllReadyH.cons rfl (fun K hK => ?_) AllReadyH.nil)))
    · go_simp
      clear hHeld
      refine hK.out _ _ trivial (fun hHeld => ?_)
      clear hK K
      try simp only [List.getElem_toArray, List.getElem_cons_zero, List.getElem_cons_succ, Act.put, List.setIfInBounds_toArray, List.set_cons_zero, List.set_cons_succ]
      obtain ⟨i0, i1⟩ := hI1.out
      refine wpAnyH_take (i := 9) (v := ?v110) rfl (by kernel_rfl) (by kernel_rfl) (by kernel_rfl) (fun _ _ _ h => hPan.out _ _ _ _ h) (Or.inl ⟨by rfl, ?hy110⟩) (by assumption) ?rest110
      case hy110 =>
        intro wz hSw
        clear hSw
        go_simp <;> with_reducible rfl
      try simp only [List.getElem_toArray, List.getElem_cons_zero, List.getElem_cons_succ, Act.put, List.setIfInBounds_toArray, List.set_cons_zero, List.set_cons_succ]
      exact to_ops hops.out (st_7_100.out (wr.alloc (.cells #[.int .i64 r1, .int .i64 r2, .int .i64 r3] 3)) r1 r2 r3 r4 r5 r6 r7 wr.heap.size (hC.out.alloc _) (Lt3.new _ hC.out.lt _ _ _) hI1)
    · go_simp
      clear hHeld
      refine hK.out _ _ trivial (fun hHeld => ?_)
      clear hK K
      try simp only [List.getElem_toArray, List.getElem_cons_zero, List.getElem_cons_succ, Act.put, List.setIfInBounds_toArray, List.set_cons_zero, List.set_cons_succ]
      exact to_ops hops.out (st_7_010.out (wr.alloc (.cells #[.int .i64 r5, .int .i64 r6, .int .i64 r7] 3)) r1 r2 r3 r4 r5 r6 r7 wr.heap.size (hC.out.alloc _) hI1 (Lt3.new _ hC.out.lt _ _ _))
    · go_simp
      refine (cs_pick hC.out 3 (by omega) (by omega)).mono ?_
      rintro e w2 ⟨r8, rfl, p0, p1, hC2, hG⟩
      have p2 : r8 < 3 := by omega
      go_wp2_with fail
      clear hHeld
      refine hK.out _ _ trivial (fun hHeld => ?_)
      clear hK K
      try simp only [List.getElem_toArray, List.getElem_cons_zero, List.getElem_cons_succ, Act.put, List.setIfInBounds_toArray, List.set_cons_zero, List.set_cons_succ]
      exact to_ops hops.out (st_8_000.out w2 r1 r2 r3 r4 r5 r6 r7 r8 hC2 hI1 ⟨p0, p2⟩)
  clear st_7_100 st_7_010 st_8_000
  have st_6_000 : Hid (∀ (wr : World) (r1 : Int) (r2 : Int) (r3 : Int) (r4 : Int) (r5 : Int) (r6 : Int), Hid (CS w A n c bs 6 wr) → Hid (0 ≤ r4 ∧ r4 < 3) → wpAnyH Try.prog .any ops Q (fun _ => True) 18 #[true, true, true, true, true, true, false, true, true, false, false, true, true, true, true, true, false, false, true, false, false, false, true, false, false, true, false, false, true, false, false, false, false, false, false] { tmps := #[.slice A n c, undef, .int .i64 0, .int .i64 0, .int .i64 0, pv w, .slice A n c, pv w, pv w, .int .i64 r1, pv w, .int .i64 r2, pv w, .int .i64 r3, undef, pv w, .int .i64 r4, undef, undef, pv w, .int .i64 r5, pv w, .int .i64 r6, pv w, undef, undef, pv w, undef, undef, undef, pv w, undef, undef, pv w, undef, undef, pv w, undef, undef, undef], defers := [] } wr) := by
    clear hC0
    clear st_5_100 st_4_100 st_3_100
    refine Lib.hid ?_
    intro wr r1 r2 r3 r4 r5 r6 hC hI1
    have hHeld : True := trivial
    refine of_ops hops.out ?_
    refine wpAnyH_ready (rs := [6, 16]) (by kernel_rfl) (by simp) (AllReadyH.cons rfl (fun K hK => ?_) (AllReadyH.cons rfl (fun K hK => ?_) AllReadyH.nil))
    · go_simp
      clear hHeld
      refine hK.out _ _ trivial (fun hHeld => ?_)
      clear hK K
      try simp only [List.getElem_toArray, List.getElem_cons_zero, List.getElem_cons_succ, Act.put, List.setIfInBounds_toArray, List.set_cons_zero, List.set_cons_succ]
      obtain ⟨i0, i1⟩ := hI1.out
      refine wpAnyH_take (i := 9) (v := ?v111) rfl (by kernel_rfl) (by kernel_rfl) (by kernel_rfl) (fun _ _ _ h => hPan.out _ _ _ _ h) (Or.inl ⟨by rfl, ?hy111⟩) (by assumption) ?rest111
      case hy111 =>
        intro wz hSw
        clear hSw
        go_simp <;> with_reducible rfl
      try simp only [List.getElem_toArray, List.getElem_cons_zero, List.getElem_cons_succ, Act.put, List.setIfInBounds_toArray, List.set_cons_zero, List.set_cons_succ]
      exact to_ops hops.out (st_6_100.out (wr.alloc (.cells #[.int .i64 r1, .int .i64 r2, .int .i64 r3] 3)) r1 r2 r3 r4 r5 r6 wr.heap.size (hC.out.alloc _) (Lt3.new _ hC.out.lt _ _ _) hI1)
    · go_simp
      refine (cs_raw (N := 0) hC.out (by omega)).mono ?_
      rintro e w2 ⟨r7, rfl, hC2, hG⟩
      go_wp2_with fail
      clear hHeld
      refine hK.out _ _ trivial (fun hHeld => ?_)
      clear hK K
      try simp only [List.getElem_toArray, List.getElem_cons_zero, List.getElem_cons_succ, Act.put, List.setIfInBounds_toArray, List.set_cons_zero, List.set_cons_succ]
      exact to_ops hops.out (st_7_000.out w2 r1 r2 r3 r4 r5 r6 r7 hC2 hI1)
  clear st_6_100 st_7_000
  have st_5_000 : Hid (∀ (wr : World) (r1 : Int) (r2 : Int) (r3 : Int) (r4 : Int) (r5 : Int), Hid (CS w A n c bs 5 wr) → Hid (0 ≤ r4 ∧ r4 < 3) → wpAnyH Try.prog .any ops Q (fun _ => True) 19 #[true, true, true, true, true, true, false, true, true, false, false, true, true, true, false, true, false, false, true, false, false, false, true, false, false, true, false, false, true, false, false, false, false, false, false] { tmps := #[.slice A n c, undef, .int .i64 0, .int .i64 0, .int .i64 0, pv w, .slice A n c, pv w, pv w, .int .i64 r1, pv w, .int .i64 r2, pv w, .int .i64 r3, undef, pv w, .int .i64 r4, undef, undef, pv w, .int .i64 r5, pv w, undef, pv w, undef, undef, pv w, undef, undef, undef, pv w, undef, undef, pv w, undef, undef, pv w, undef, undef, undef], defers := [] } wr) := by
    clear hC0
    clear st_4_100 st_3_100
    refine Lib.hid ?_
    intro wr r1 r2 r3 r4 r5 hC hI1
    have hHeld : True := trivial
    refine of_ops hops.out ?_
    refine wpAnyH_ready (rs := [6, 14]) (by kernel_rfl) (by simp) (AllReadyH.cons rfl (fun K hK => ?_) (AllReadyH.cons rfl (fun K hK => ?_) AllReadyH.nil))
    · go_simp
      clear hHeld
      refine hK.out _ _ trivial (fun hHeld => ?_)
      clear hK K
      try simp only [List.getElem_toArray, List.getElem_cons_zero, List.getElem_cons_succ, Act.put, List.setIfInBounds_toArray, List.set_cons_zero, List.set_cons_succ]
      obtain ⟨i0, i1⟩ := hI1.out
      refine wpAnyH_take (i := 9) (v := ?v112) rfl (by kernel_rfl) (by kernel_rfl) (by kernel_rfl) (fun _ _ _ h => hPan.out _ _ _ _ h) (Or.inl ⟨by rfl, ?hy112⟩) (by assumption) ?rest112
      case hy112 =>
        intro wz hSw
        clear hSw
        go_simp <;> with_reducible rfl
      try simp only [List.getElem_toArray, List.getElem_cons_zero, List.getElem_cons_succ, Act.put, List.setIfInBounds_toArray, List.set_cons_zero, List.set_cons_succ]
      exact to_ops hops.out (st_5_100.out (wr.alloc (.cells #[.int .i64 r1, .int .i64 r2, .int .i64 r3] 3)) r1 r2 r3 r4 r5 wr.heap.size (hC.out.alloc _) (Lt3.new _ hC.out.lt _ _ _) hI1)
    · go_simp
      refine (cs_pick hC.out 5 (by omega) (by omega)).mono ?_
      rintro e w2 ⟨r6, rfl, p0, p1, hC2, hG⟩
      have p2 : r6 < 5 := by omega
      go_wp2_with fail
      clear hHeld
      refine hK.out _ _ trivial (fun hHeld => ?_)
      clear hK K
      try simp only [List.getElem_toArray, List.getElem_cons_zero, List.getElem_cons_succ, Act.put, List.setIfInBounds_toArray, List.set_cons_zero, List.set_cons_succ]
      exact to_ops hops.out (st_6_000.out w2 r1 r2 r3 r4 r5 r6 hC2 hI1)
  clear st_5_100 st_6_000
  have st_4_000 : Hid (∀ (wr : World) (r1 : Int) (r2 : Int) (r3 : Int) (r4 : Int), Hid (CS w A n c bs 4 wr) → Hid (0 ≤ r4 ∧ r4 < 3) → wpAnyH Try.prog .any ops Q (fun _ => True) 20 #[true, true, true, true, true, true, false, true, true, false, false, true, false, true, false, true, false, false, true, false, false, false, true, false, false, true, false, false, true, false, false, false, false, false, false] { tmps := #[.slice A n c, undef, .int .i64 0, .int .i64 0, .int .i64 0, pv w, .slice A n c, pv w, pv w, .int .i64 r1, pv w, .int .i64 r2, pv w, .int .i64 r3, undef, pv w, .int .i64 r4, undef, undef, pv w, undef, pv w, undef, pv w, undef, undef, pv w, undef, undef, undef, pv w, undef, undef, pv w, undef, undef, pv w, undef, undef, undef], defers := [] } wr) := by
    clear hC0
    clear st_3_100
    refine Lib.hid ?_
    intro wr r1 r2 r3 r4 hC hI1
    have hHeld : True := trivial
    refine of_ops hops.out ?_
    refine wpAnyH_ready (rs := [6, 12]) (by kernel_rfl) (by simp) (AllReadyH.cons rfl (fun K hK => ?_) (AllReadyH.cons rfl (fun K hK => ?_) AllReadyH.nil))
    · go_simp
      clear hHeld
      refine hK.out _ _ trivial (fun hHeld => ?_)
      clear hK K
      try simp only [List.getElem_toArray, List.getElem_cons_zero, List.getElem_cons_succ, Act.put, List.setIfInBounds_toArray, List.set_cons_zero, List.set_cons_succ]
      obtain ⟨i0, i1⟩ := hI1.out
      refine wpAnyH_take (i := 9) (v := ?v113) rfl (by kernel_rfl) (by kernel_rfl) (by kernel_rfl) (fun _ _ _ h => hPan.out _ _ _ _ h) (Or.inl ⟨by rfl, ?hy113⟩) (by assumption) ?rest113
      case hy113 =>
        intro wz hSw
        clear hSw
        go_simp <;> with_reducible rfl
      try simp only [List.getElem_toArray, List.getElem_cons_zero, List.getElem_cons_succ, Act.put, List.setIfInBounds_toArray, List.set_cons_zero, List.set_cons_succ]
      exact to_ops hops.out (st_4_100.out (wr.alloc (.cells #[.int .i64 r1, .int .i64 r2, .int .i64 r3] 3)) r1 r2 r3 r4 wr.heap.size (hC.out.alloc _) (Lt3.new _ hC.out.lt _ _ _) hI1)
    · go_simp
      refine (cs_pick hC.out 6 (by omega) (by omega)).mono ?_
      rintro e w2 ⟨r5, rfl, p0, p1, hC2, hG⟩
      have p2 : r5 < 6 := by omega
      go_wp2_with fail
      clear hHeld
      refine hK.out _ _ trivial (fun hHeld => ?_)
      clear hK K
      try simp only [List.getElem_toArray, List.getElem_cons_zero, List.getElem_cons_succ, Act.put, List.setIfInBounds_toArray, List.set_cons_zero, List.set_cons_succ]
      exact to_ops hops.out (st_5_000.out w2 r1 r2 r3 r4 r5 hC2 hI1)
  clear st_4_100 st_5_000
  have st_3_000 : Hid (∀ (wr : World) (r1 : Int) (r2 : Int) (r3 : Int), Hid (CS w A n c bs 3 wr) → wpAnyH Try.prog .any ops Q (fun _ => True) 21 #[true, true, true, true, true, true, false, true, false, false, false, true, false, true, false, true, false, false, true, false, false, false, true, false, false, true, false, false, true, false, false, false, false, false, false] { tmps := #[.slice A n c, undef, .int .i64 0, .int .i64 0, .int .i64 0, pv w, .slice A n c, pv w, pv w, .int .i64 r1, pv w, .int .i64 r2, pv w, .int .i64 r3, undef, pv w, undef, undef, undef, pv w, undef, pv w, undef, pv w, undef, undef, pv w, undef, undef, undef, pv w, undef, undef, pv w, undef, undef, pv w, undef, undef, undef], defers := [] } wr) := by
    clear hC0
    refine Lib.hid ?_
    intro wr r1 r2 r3 hC
    have hHeld : True := trivial
    refine of_ops hops.out ?_
    refine wpAnyH_ready (rs := [6, 8]) (by kernel_rfl) (by simp) (AllReadyH.cons rfl (fun K hK => ?_) (AllReadyH.cons rfl (fun K hK => ?_) AllReadyH.nil))
    · go_simp
      clear hHeld
      refine hK.out _ _ trivial (fun hHeld => ?_)
      clear hK K
      try simp only [List.getElem_toArray, List.getElem_cons_zero, List.getElem_cons_succ, Act.put, List.setIfInBounds_toArray, List.set_cons_zero, List.set_cons_succ]
      exact to_ops hops.out (st_3_100.out (wr.alloc (.cells #[.int .i64 r1, .int .i64 r2, .int .i64 r3] 3)) r1 r2 r3 wr.heap.size (hC.out.alloc _) (Lt3.new _ hC.out.lt _ _ _))
    · go_simp
      refine (cs_pick hC.out 3 (by omega) (by omega)).mono ?_
      rintro e w2 ⟨r4, rfl, p0, p1, hC2, hG⟩
      have p2 : r4 < 3 := by omega
      go_wp2_with fail
      clear hHeld
      refine hK.out _ _ trivial (fun hHeld => ?_)
      clear hK K
      try simp only [List.getElem_toArray, List.getElem_cons_zero, List.getElem_cons_succ, Act.put, List.setIfInBounds_toArray, List.set_cons_zero, List.set_cons_succ]
      exact to_ops hops.out (st_4_000.out w2 r1 r2 r3 r4 hC2 ⟨p0, p2⟩)
  clear st_3_100 st_4_000
  have st_2_000 : Hid (∀ (wr : World) (r1 : Int) (r2 : Int), Hid (CS w A n c bs 2 wr) → wpAnyH Try.prog .any ops Q (fun _ => True) 22 #[true, true, true, true, true, false, false, true, false, false, false, true, false, true, false, true, false, false, true, false, false, false, true, false, false, true, false, false, true, false, false, false, false, false, false] { tmps := #[.slice A n c, undef, .int .i64 0, .int .i64 0, .int .i64 0, pv w, .slice A n c, pv w, pv w, .int .i64 r1, pv w, .int .i64 r2, pv w, undef, undef, pv w, undef, undef, undef, pv w, undef, pv w, undef, pv w, undef, undef, pv w, undef, undef, undef, pv w, undef, undef, pv w, undef, undef, pv w, undef, undef, undef], defers := [] } wr) := by
    clear hC0
    refine Lib.hid ?_
    intro wr r1 r2 hC
    have hHeld : True := trivial
    refine of_ops hops.out ?_
    refine wpAnyH_ready (rs := [5]) (by kernel_rfl) (by simp) (AllReadyH.cons rfl (fun K hK => ?_) AllReadyH.nil)
    go_simp
    refine (cs_raw (N := 0) hC.out (by omega)).mono ?_
    rintro e w2 ⟨r3, rfl, hC2, hG⟩
    go_wp2_with fail
    clear hHeld
    refine hK.out _ _ trivial (fun hHeld => ?_)
    clear hK K
    try simp only [List.getElem_toArray, List.getElem_cons_zero, List.getElem_cons_succ, Act.put, List.setIfInBounds_toArray, List.set_cons_zero, List.set_cons_succ]
    exact to_ops hops.out (st_3_000.out w2 r1 r2 r3 hC2)
  clear st_3_000
  have st_1_000 : Hid (∀ (wr : World) (r1 : Int), Hid (CS w A n c bs 1 wr) → wpAnyH Try.prog .any ops Q (fun _ => True) 23 #[true, true, true, false, true, false, false, true, false, false, false, true, false, true, false, true, false, false, true, false, false, false, true, false, false, true, false, false, true, false, false, false, false, false, false] { tmps := #[.slice A n c, undef, .int .i64 0, .int .i64 0, .int .i64 0, pv w, .slice A n c, pv w, pv w, .int .i64 r1, pv w, undef, pv w, undef, undef, pv w, undef, undef, undef, pv w, undef, pv w, undef, pv w, undef, undef, pv w, undef, undef, undef, pv w, undef, undef, pv w, undef, undef, pv w, undef, undef, undef], defers := [] } wr) := by
    clear hC0
    refine Lib.hid ?_
    intro wr r1 hC
    have hHeld : True := trivial
    refine of_ops hops.out ?_
    refine wpAnyH_ready (rs := [3]) (by kernel_rfl) (by simp) (AllReadyH.cons rfl (fun K hK => ?_) AllReadyH.nil)
    go_simp
    refine (cs_pick hC.out 4 (by omega) (by omega)).mono ?_
    rintro e w2 ⟨r2, rfl, p0, p1, hC2, hG⟩
    have p2 : r2 < 4 := by omega
    go_wp2_with fail
    clear hHeld
    refine hK.out _ _ trivial (fun hHeld => ?_)
    clear hK K
    try simp only [List.getElem_toArray, List.getElem_cons_zero, List.getElem_cons_succ, Act.put, List.setIfInBounds_toArray, List.set_cons_zero, List.set_cons_succ]
    exact to_ops hops.out (st_2_000.out w2 r1 r2 hC2)
  clear st_2_000
  have st_0_000 : Hid (∀ (wr : World), Hid (CS w A n c bs 0 wr) → wpAnyH Try.prog .any ops Q (fun _ => True) 24 #[true, false, true, false, true, false, false, true, false, false, false, true, false, true, false, true, false, false, true, false, false, false, true, false, false, true, false, false, true, false, false, false, false, false, false] { tmps := #[.slice A n c, undef, .int .i64 0, .int .i64 0, .int .i64 0, pv w, .slice A n c, pv w, pv w, undef, pv w, undef, pv w, undef, undef, pv w, undef, undef, undef, pv w, undef, pv w, undef, pv w, undef, undef, pv w, undef, undef, undef, pv w, undef, undef, pv w, undef, undef, pv w, undef, undef, undef], defers := [] } wr) := by
    clear hC0
    refine Lib.hid ?_
    intro wr hC
    have hHeld : True := trivial
    refine of_ops hops.out ?_
    refine wpAnyH_ready (rs := [1]) (by kernel_rfl) (by simp) (AllReadyH.cons rfl (fun K hK => ?_) AllReadyH.nil)
    go_simp
    refine (cs_pick hC.out 5 (by omega) (by omega)).mono ?_
    rintro e w2 ⟨r1, rfl, p0, p1, hC2, hG⟩
    have p2 : r1 < 5 := by omega
    go_wp2_with fail
    clear hHeld
    refine hK.out _ _ trivial (fun hHeld => ?_)
    clear hK K
    try simp only [List.getElem_toArray, List.getElem_cons_zero, List.getElem_cons_succ, Act.put, List.setIfInBounds_toArray, List.set_cons_zero, List.set_cons_succ]
    exact to_ops hops.out (st_1_000.out w2 r1 hC2)
  clear st_1_000
  exact st_0_000.out _ hC0

end Go.Proofs.Ytibkjnfbpgohbaa
