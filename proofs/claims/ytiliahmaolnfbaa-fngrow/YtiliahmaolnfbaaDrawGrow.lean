/- What the model's DrawMemGrow hands out: a memory and a number; nothing old has turned. -/
import Derived.Test.YtiliahmaolnfbaaDrawCas
import Derived.OpenShut
import Derived.Deep.RegionHeld3
namespace Go.Proofs.Ytiliahmaolnfbaa
open Go.RowKit

/-- A memory and a number. -/
def Drawn2 (w : World) (e : Ending) (w' : World) : Prop :=
  ∃ Am m cm ws, ∃ k : Int, e = .returned (.tuple #[.agg #[.slice Am m cm], .int .i64 k]) ∧ m ≤ 65 ∧ (∀ z ∈ ws, 0 ≤ z ∧ z < 4294967296) ∧ (Lit.int .i64 k).wf = true ∧ Own w' w.heap.size Am m cm ws ∧ Below w.heap.size w w'

theorem lit3 {w5 w6 : World} {b : Nat} {a1 a2 a3 r : Int} (hb : b < w5.heap.size) (h1 : (Lit.int .i64 a1).wf = true) (h2 : (Lit.int .i64 a2).wf = true) (h3 : (Lit.int .i64 a3).wf = true)
    (G : (w5.alloc (.cells #[.int .i64 a1, .int .i64 a2, .int .i64 a3] 3)).grownBy w6 (some b)) (s0 : 0 ≤ r) (s1 : r < 3 ∨ r = 0) : ∃ v : Int, Hid ((Lit.int .i64 v).wf = true) ∧ w6.cell? ⟨w5.heap.size, r.toNat, none⟩ = some (.int .i64 v) := by
  have hcell := lit_cell (g := w5.heap.size) G (heap_alloc_new w5 _) (by omega)
  rcases (show r = 0 ∨ r = 1 ∨ r = 2 by omega) with rfl | rfl | rfl
  · exact ⟨a1, h1, hcell 0⟩
  · exact ⟨a2, h2, hcell 1⟩
  · exact ⟨a3, h3, hcell 2⟩
theorem lit3' {a1 a2 a3 r : Int} (w5 : World) (h1 : (Lit.int .i64 a1).wf = true) (h2 : (Lit.int .i64 a2).wf = true) (h3 : (Lit.int .i64 a3).wf = true) (s0 : 0 ≤ r) (s1 : r < 3 ∨ r = 0) :
    ∃ v : Int, Hid ((Lit.int .i64 v).wf = true) ∧ (w5.alloc (.cells #[.int .i64 a1, .int .i64 a2, .int .i64 a3] 3)).cell? ⟨w5.heap.size, r.toNat, none⟩ = some (.int .i64 v) := by
  have hcell := fun k => cell_of_row (w5.alloc (.cells #[.int .i64 a1, .int .i64 a2, .int .i64 a3] 3)) w5.heap.size k _ _ (0, 0) (heap_alloc_new w5 _)
  rcases (show r = 0 ∨ r = 1 ∨ r = 2 by omega) with rfl | rfl | rfl
  · exact ⟨a1, h1, hcell 0⟩
  · exact ⟨a2, h2, hcell 1⟩
  · exact ⟨a3, h3, hcell 2⟩
theorem wf_wrap64 (n : Int) : (Lit.int .i64 (IntKind.i64.wrap n)).wf = true := wf_wrap .i64 n
theorem three {r : Int} (h0 : 0 ≤ r) (h : r < 3 ∨ r = 0) : r = 0 ∨ r = 1 ∨ r = 2 := by omega

set_option maxRecDepth 100000 in
set_option maxHeartbeats 8000000 in
theorem drawGrow (A : Option Addr) (n c : Nat) (bs : List Int) (w : World) (h : RdK .u8 w w.heap.size A n bs) (hf : ∀ z ∈ bs, 0 ≤ z ∧ z < 256) (hn : n ≤ 1048576) :
    Calls Try.prog 28 #[.slice A n c] w (Drawn2 w) := by
  have H := Lib.hid h
  have HF := Lib.hid hf
  clear h hf
  go_enter Try.func28, Try.ntmps28
  go_wp2_with fail
  refine (open_cur A n c bs _ (rdk_more (H.out.alloc (Nat.le_refl _) _) (by simp)) HF.out hn).mono ?_
  rintro e w1 ⟨rfl, C1, B1⟩
  rw [World.size_alloc] at C1 ⊢
  have l1 := C1.out.lt
  go_wp2_with fail
  refine (mem_any (w.heap.size + 1) A n c bs 0 _ C1.out (by omega)).mono ?_
  rintro e w2 ⟨Am, m, cm, ws, rfl, hm, W2, O2, C2, G2⟩
  have l2 := C2.out.lt
  have I0 := Lib.hid (draw_start B1.out l1 O2.out C2.out G2.out)
  have z2 : w1.heap.size ≤ w2.heap.size := G2.out.size
  clear C1 B1 O2 C2 G2
  have x0 := I0.out.x
  have PK : Hid (∀ (K : Nat) (wr : World) (N : Int), K ≤ 1000 → N ≤ 1000 → DrawInv w A n c bs w2.heap.size w1.heap.size Am m cm ws K wr → Calls Try.prog 59 #[.pointer (some ⟨w.heap.size + 1, 0, none⟩), .int .i64 N] wr fun e w' => ∃ r : Int, e = .returned (.int .i64 r) ∧ 0 ≤ r ∧ (r < N ∨ r = 0) ∧ Hid (DrawInv w A n c bs w2.heap.size w1.heap.size Am m cm ws (K + 1) w') ∧ Hid (wr.grownBy w' (some (w.heap.size + 1)))) :=
    fun K wr N hK hN hI => (pick_any (w.heap.size + 1) A n c bs K N wr hI.2.2.2.1 (by omega) (by omega)).mono fun _ _ ⟨x, he, hx, hc, hg⟩ => ⟨x, he, hx.1, hx.2, hI.pick hg.out hc.out (by omega) (by omega), hg⟩
  have RW : Hid (∀ (K : Nat) (wr : World), K ≤ 1000 → DrawInv w A n c bs w2.heap.size w1.heap.size Am m cm ws K wr → Calls Try.prog 60 #[.pointer (some ⟨w.heap.size + 1, 0, none⟩)] wr fun e w' => ∃ r : Int, e = .returned (.int .i64 r) ∧ Hid ((Lit.int .i64 r).wf = true) ∧ Hid (DrawInv w A n c bs w2.heap.size w1.heap.size Am m cm ws (K + 2) w')) :=
    fun K wr hK hI => (raw_any (w.heap.size + 1) A n c bs K wr hI.2.2.2.1 (by omega)).mono fun _ _ ⟨x, he, hx, hc, hg⟩ => ⟨x, he, hx, hI.pick hg.out hc.out (by omega) (by omega)⟩
  have hm0 : (0 : Int) ≤ (m : Int) := by omega
  have hm1 : (m : Int) ≤ 65 := by omega
  have ew : IntKind.i64.wrap (64 - (m : Int)) = 64 - (m : Int) := IntWalk.i64_in _ (by omega)
  obtain ⟨M, HM, M0, M1⟩ : ∃ M : Int, Hid (M = if (0 : Int) < 64 - (m : Int) then 64 - (m : Int) else 0) ∧ 0 ≤ M ∧ M ≤ 64 := ⟨_, rfl, by split <;> omega, by split <;> omega⟩
  go_wp2_with fail
  refine wp_region_noPanic ?_
  refine wp_region_held_drew (S := (fun w' => w'.cell? ⟨w2.heap.size, 0, none⟩ = some (.slice Am m cm))) (by kernel_rfl) x0 (fun hHeld => ?_)
  refine wpAnyH_take (i := 0) (v := ?v1) rfl (by kernel_rfl) (by kernel_rfl) (by kernel_rfl) (fun _ _ _ h => h) (Or.inl ⟨by rfl, ?hy1⟩) (by assumption) ?rest1
  case hy1 =>
    intro wz hSw
    (try dsimp only at hSw)
    go_simp <;> with_reducible rfl
  try simp only [List.getElem_toArray, List.getElem_cons_zero, List.getElem_cons_succ, Act.put, List.setIfInBounds_toArray, List.set_cons_zero, List.set_cons_succ]
  refine wpAnyH_take (i := 1) (v := ?v2) rfl (by kernel_rfl) (by kernel_rfl) (by kernel_rfl) (fun _ _ _ h => h) (Or.inl ⟨by rfl, ?hy2⟩) (by assumption) ?rest2
  case hy2 =>
    intro wz hSw
    (try dsimp only at hSw)
    go_simp <;> with_reducible rfl
  try simp only [List.getElem_toArray, List.getElem_cons_zero, List.getElem_cons_succ, Act.put, List.setIfInBounds_toArray, List.set_cons_zero, List.set_cons_succ]
  refine wpAnyH_take (i := 3) (v := ?v3) rfl (by kernel_rfl) (by kernel_rfl) (by kernel_rfl) (fun _ _ _ h => h) (Or.inl ⟨by rfl, ?hy3⟩) (by assumption) ?rest3
  case hy3 =>
    intro wz hSw
    (try dsimp only at hSw)
    go_simp <;> with_reducible rfl
  try simp only [List.getElem_toArray, List.getElem_cons_zero, List.getElem_cons_succ, Act.put, List.setIfInBounds_toArray, List.set_cons_zero, List.set_cons_succ]
  refine wpAnyH_take (i := 4) (v := ?v4) rfl (by kernel_rfl) (by kernel_rfl) (by kernel_rfl) (fun _ _ _ h => h) (Or.inl ⟨by rfl, ?hy4⟩) (by assumption) ?rest4
  case hy4 =>
    intro wz hSw
    (try dsimp only at hSw)
    go_simp <;> with_reducible rfl
  try simp only [List.getElem_toArray, List.getElem_cons_zero, List.getElem_cons_succ, Act.put, List.setIfInBounds_toArray, List.set_cons_zero, List.set_cons_succ]
  refine wpAnyH_take (i := 5) (v := ?v5) rfl (by kernel_rfl) (by kernel_rfl) (by kernel_rfl) (fun _ _ _ h => h) (Or.inl ⟨by rfl, ?hy5⟩) (by assumption) ?rest5
  case hy5 =>
    intro wz hSw
    (try dsimp only at hSw)
    go_simp <;> with_reducible rfl
  try simp only [List.getElem_toArray, List.getElem_cons_zero, List.getElem_cons_succ, Act.put, List.setIfInBounds_toArray, List.set_cons_zero, List.set_cons_succ]
  refine wpAnyH_take (i := 6) (v := ?v6) rfl (by kernel_rfl) (by kernel_rfl) (by kernel_rfl) (fun _ _ _ h => h) (Or.inl ⟨by rfl, ?hy6⟩) (by assumption) ?rest6
  case hy6 =>
    intro wz hSw
    (try dsimp only at hSw)
    go_simp <;> with_reducible rfl
  try simp only [List.getElem_toArray, List.getElem_cons_zero, List.getElem_cons_succ, Act.put, List.setIfInBounds_toArray, List.set_cons_zero, List.set_cons_succ]
  refine wpAnyH_take (i := 7) (v := .int .i64 M) rfl (by kernel_rfl) (by kernel_rfl) (by kernel_rfl) (fun _ _ _ h => h) (Or.inl ⟨by rfl, ?hy7⟩) (by assumption) ?rest7
  case hy7 =>
    intro wz hSw
    (try dsimp only at hSw)
    by_cases h64 : m < 64
    · have d2 : (m : Int) < 64 := by omega
      have d3 : (0 : Int) < 64 - (m : Int) := by omega
      have d1 : decide ((0 : Int) < 64 - (m : Int)) = true := decide_eq_true d3
      have e : M = 64 - (m : Int) := by rw [HM.out, if_pos d3]
      rw [e]
      go_simp
    · have d2 : ¬ (m : Int) < 64 := by omega
      have d3 : ¬ (0 : Int) < 64 - (m : Int) := by omega
      have d1 : decide ((0 : Int) < 64 - (m : Int)) = false := decide_eq_false d3
      have e : M = 0 := by rw [HM.out, if_neg d3]
      rw [e]
      go_simp
  try simp only [List.getElem_toArray, List.getElem_cons_zero, List.getElem_cons_succ, Act.put, List.setIfInBounds_toArray, List.set_cons_zero, List.set_cons_succ]
  refine wpAnyH_take (i := 8) (v := ?v8) rfl (by kernel_rfl) (by kernel_rfl) (by kernel_rfl) (fun _ _ _ h => h) (Or.inl ⟨by rfl, ?hy8⟩) (by assumption) ?rest8
  case hy8 =>
    intro wz hSw
    (try dsimp only at hSw)
    go_simp <;> with_reducible rfl
  try simp only [List.getElem_toArray, List.getElem_cons_zero, List.getElem_cons_succ, Act.put, List.setIfInBounds_toArray, List.set_cons_zero, List.set_cons_succ]
  refine wpAnyH_take (i := 11) (v := ?v9) rfl (by kernel_rfl) (by kernel_rfl) (by kernel_rfl) (fun _ _ _ h => h) (Or.inl ⟨by rfl, ?hy9⟩) (by assumption) ?rest9
  case hy9 =>
    intro wz hSw
    (try dsimp only at hSw)
    go_simp <;> with_reducible rfl
  try simp only [List.getElem_toArray, List.getElem_cons_zero, List.getElem_cons_succ, Act.put, List.setIfInBounds_toArray, List.set_cons_zero, List.set_cons_succ]
  refine wpAnyH_take (i := 14) (v := ?v10) rfl (by kernel_rfl) (by kernel_rfl) (by kernel_rfl) (fun _ _ _ h => h) (Or.inl ⟨by rfl, ?hy10⟩) (by assumption) ?rest10
  case hy10 =>
    intro wz hSw
    (try dsimp only at hSw)
    go_simp <;> with_reducible rfl
  try simp only [List.getElem_toArray, List.getElem_cons_zero, List.getElem_cons_succ, Act.put, List.setIfInBounds_toArray, List.set_cons_zero, List.set_cons_succ]
  refine wpAnyH_ready (rs := [2]) (by kernel_rfl) (by simp) (AllReadyH.cons rfl (fun K hK => ?_) AllReadyH.nil)
  go_simp
  refine (PK.out (0 + 60) _ 9 (by omega) (by omega) I0.out.drew).mono ?_
  rintro e w3 ⟨r3, rfl, p0, p1, I3, G3⟩
  have x3 := I3.out.x
  go_wp2_with fail
  clear hHeld
  refine hK.out _ _ (x3) (fun hHeld => ?_)
  clear hK K
  try simp only [List.getElem_toArray, List.getElem_cons_zero, List.getElem_cons_succ, Act.put, List.setIfInBounds_toArray, List.set_cons_zero, List.set_cons_succ]
  refine wpAnyH_ready (rs := [9]) (by kernel_rfl) (by simp) (AllReadyH.cons rfl (fun K hK => ?_) AllReadyH.nil)
  go_simp
  refine (PK.out (0 + 60 + 1) w3 2 (by omega) (by omega) I3.out).mono ?_
  rintro e w4 ⟨r4, rfl, q0, q1, I4, G4⟩
  have x4 := I4.out.x
  go_wp2_with fail
  clear hHeld
  refine hK.out _ _ (x4) (fun hHeld => ?_)
  clear hK K
  try simp only [List.getElem_toArray, List.getElem_cons_zero, List.getElem_cons_succ, Act.put, List.setIfInBounds_toArray, List.set_cons_zero, List.set_cons_succ]
  refine wpAnyH_take (i := 10) (v := ?v11) rfl (by kernel_rfl) (by kernel_rfl) (by kernel_rfl) (fun _ _ _ h => h) (Or.inl ⟨by rfl, ?hy11⟩) (by assumption) ?rest11
  case hy11 =>
    intro wz hSw
    (try dsimp only at hSw)
    go_simp <;> with_reducible rfl
  try simp only [List.getElem_toArray, List.getElem_cons_zero, List.getElem_cons_succ, Act.put, List.setIfInBounds_toArray, List.set_cons_zero, List.set_cons_succ]
  refine wpAnyH_ready (rs := [12]) (by kernel_rfl) (by simp) (AllReadyH.cons rfl (fun K hK => ?_) AllReadyH.nil)
  go_simp
  refine (RW.out (0 + 60 + 2) w4 (by omega) I4.out).mono ?_
  rintro e w5 ⟨r5, rfl, R5, I5⟩
  have x5 := I5.out.x
  have l5 := I5.out.2.2.2.1.lt
  have l5x := World.block_lt_of_cell? _ _ x5
  skip
  go_wp2_with fail
  clear hHeld
  refine hK.out _ _ (x5) (fun hHeld => ?_)
  clear hK K
  try simp only [List.getElem_toArray, List.getElem_cons_zero, List.getElem_cons_succ, Act.put, List.setIfInBounds_toArray, List.set_cons_zero, List.set_cons_succ]
  refine wpAnyH_ready (rs := [13, 15]) (by kernel_rfl) (by simp) (AllReadyH.cons rfl (fun K hK => ?_) (AllReadyH.cons rfl (fun K hK => ?_) AllReadyH.nil))
  · skip
    go_simp
    clear hHeld
    refine hK.out _ _ (older x5 _) (fun hHeld => ?_)
    clear hK K
    try simp only [List.getElem_toArray, List.getElem_cons_zero, List.getElem_cons_succ, Act.put, List.setIfInBounds_toArray, List.set_cons_zero, List.set_cons_succ]
    refine wpAnyH_ready (rs := [15]) (by kernel_rfl) (by simp) (AllReadyH.cons rfl (fun K hK => ?_) AllReadyH.nil)
    go_simp
    refine (PK.out (0 + 60 + 4) _ 3 (by omega) (by omega) (I5.out.below ((Below.refl _ _).alloc (Nat.le_refl _) _))).mono ?_
    rintro e w6 ⟨r6, rfl, s0, s1, I6, G6⟩
    obtain ⟨v, hv, hc⟩ := lit3 l5 (wf_i64 (by omega) (by omega)) (wf_wrap64 _) R5.out G6.out s0 s1
    have s2 : r6 < 3 := by omega
    have x6 := I6.out.x
    have d6 := I6.out.r
    have f6 := I6.out.f
    have s6 := fun v => (World.cell?_setCell_other w6 ⟨w.heap.size, 0, none⟩ ⟨w2.heap.size, 0, none⟩ v (fun e => by injection e; omega)).trans x6
    have hcs := fun v => (World.cell?_setCell_other w6 ⟨w.heap.size, 0, none⟩ ⟨w5.heap.size, r6.toNat, none⟩ v (fun e => by injection e; omega)).trans hc
    go_wp2_with fail
    clear hHeld
    refine hK.out _ _ (x6) (fun hHeld => ?_)
    clear hK K
    try simp only [List.getElem_toArray, List.getElem_cons_zero, List.getElem_cons_succ, Act.put, List.setIfInBounds_toArray, List.set_cons_zero, List.set_cons_succ]
    refine wpAnyH_take (i := 16) (v := ?v12) rfl (by kernel_rfl) (by kernel_rfl) (by kernel_rfl) (fun _ _ _ h => h) (Or.inl ⟨by rfl, ?hy12⟩) (by assumption) ?rest12
    case hy12 =>
      intro wz hSw
      (try dsimp only at hSw)
      go_simp <;> with_reducible rfl
    try simp only [List.getElem_toArray, List.getElem_cons_zero, List.getElem_cons_succ, Act.put, List.setIfInBounds_toArray, List.set_cons_zero, List.set_cons_succ]
    refine wpAnyH_ready (rs := [17, 18]) (by kernel_rfl) (by simp) (AllReadyH.cons rfl (fun K hK => ?_) (AllReadyH.cons rfl (fun K hK => ?_) AllReadyH.nil))
    · skip
      go_simp
      clear hHeld
      refine hK.out _ _ (x6) (fun hHeld => ?_)
      clear hK K
      try simp only [List.getElem_toArray, List.getElem_cons_zero, List.getElem_cons_succ, Act.put, List.setIfInBounds_toArray, List.set_cons_zero, List.set_cons_succ]
      refine wpAnyH_ready (rs := [18]) (by kernel_rfl) (by simp) (AllReadyH.cons rfl (fun K hK => ?_) AllReadyH.nil)
      go_simp
      clear hHeld
      refine hK.out _ _ (s6 _) (fun hHeld => ?_)
      clear hK K
      try simp only [List.getElem_toArray, List.getElem_cons_zero, List.getElem_cons_succ, Act.put, List.setIfInBounds_toArray, List.set_cons_zero, List.set_cons_succ]
      refine wpAnyH_take (i := 19) (v := ?v13) rfl (by kernel_rfl) (by kernel_rfl) (by kernel_rfl) (fun _ _ _ h => h) (Or.inl ⟨by rfl, ?hy13⟩) (by assumption) ?rest13
      case hy13 =>
        intro wz hSw
        (try dsimp only at hSw)
        go_simp <;> with_reducible rfl
      try simp only [List.getElem_toArray, List.getElem_cons_zero, List.getElem_cons_succ, Act.put, List.setIfInBounds_toArray, List.set_cons_zero, List.set_cons_succ]
      refine wpAnyH_done (by kernel_rfl) ?_ _
      refine NoPanic.normal ?_
      go_wp2
      exact bodyPost_ret (v := .tuple #[.agg #[.slice Am m cm], .int .i64 v]) (by simp [results, Try.results28, go_sem, d6]) rfl ⟨Am, m, cm, ws, v, rfl, hm, W2.out, hv.out, (I6.out.2.2.1.low (by simp; omega) _).from_ (by omega), I6.out.2.2.2.2.setCell (by simp) _⟩
    · skip
      go_simp
      clear hHeld
      refine hK.out _ _ (s6 _) (fun hHeld => ?_)
      clear hK K
      try simp only [List.getElem_toArray, List.getElem_cons_zero, List.getElem_cons_succ, Act.put, List.setIfInBounds_toArray, List.set_cons_zero, List.set_cons_succ]
      refine wpAnyH_ready (rs := [17]) (by kernel_rfl) (by simp) (AllReadyH.cons rfl (fun K hK => ?_) AllReadyH.nil)
      go_simp
      clear hHeld
      refine hK.out _ _ (s6 _) (fun hHeld => ?_)
      clear hK K
      try simp only [List.getElem_toArray, List.getElem_cons_zero, List.getElem_cons_succ, Act.put, List.setIfInBounds_toArray, List.set_cons_zero, List.set_cons_succ]
      refine wpAnyH_take (i := 19) (v := ?v14) rfl (by kernel_rfl) (by kernel_rfl) (by kernel_rfl) (fun _ _ _ h => h) (Or.inl ⟨by rfl, ?hy14⟩) (by assumption) ?rest14
      case hy14 =>
        intro wz hSw
        (try dsimp only at hSw)
        go_simp <;> with_reducible rfl
      try simp only [List.getElem_toArray, List.getElem_cons_zero, List.getElem_cons_succ, Act.put, List.setIfInBounds_toArray, List.set_cons_zero, List.set_cons_succ]
      refine wpAnyH_done (by kernel_rfl) ?_ _
      refine NoPanic.normal ?_
      go_wp2
      exact bodyPost_ret (v := .tuple #[.agg #[.slice Am m cm], .int .i64 v]) (by simp [results, Try.results28, go_sem, d6]) rfl ⟨Am, m, cm, ws, v, rfl, hm, W2.out, hv.out, (I6.out.2.2.1.low (by simp; omega) _).from_ (by omega), I6.out.2.2.2.2.setCell (by simp) _⟩
  · skip
    go_simp
    refine (PK.out (0 + 60 + 4) w5 3 (by omega) (by omega) I5.out).mono ?_
    rintro e w6 ⟨r6, rfl, s0, s1, I6, G6⟩
    have s2 : r6 < 3 := by omega
    have x6 := I6.out.x
    have d6 := I6.out.r
    have f6 := I6.out.f
    have l6x := World.block_lt_of_cell? _ _ x6
    have l6r := World.block_lt_of_cell? _ _ d6
    simp only at l6x l6r
    have s6 := fun v => (World.cell?_setCell_other w6 ⟨w.heap.size, 0, none⟩ ⟨w2.heap.size, 0, none⟩ v (fun e => by injection e; omega)).trans x6
    go_wp2_with fail
    clear hHeld
    refine hK.out _ _ (x6) (fun hHeld => ?_)
    clear hK K
    try simp only [List.getElem_toArray, List.getElem_cons_zero, List.getElem_cons_succ, Act.put, List.setIfInBounds_toArray, List.set_cons_zero, List.set_cons_succ]
    refine wpAnyH_ready (rs := [13, 18]) (by kernel_rfl) (by simp) (AllReadyH.cons rfl (fun K hK => ?_) (AllReadyH.cons rfl (fun K hK => ?_) AllReadyH.nil))
    · skip
      obtain ⟨v, hv, hc⟩ := lit3' (r := r6) w6 (wf_i64 (r := r3) (by omega) (by omega)) (wf_wrap64 (M + r4)) R5.out s0 s1
      have dB : (w6.setCell ⟨w.heap.size, 0, none⟩ (.slice Am m cm)).cell? ⟨w.heap.size, 0, none⟩ = some (.slice Am m cm) := World.cell?_setCell_same' _ _ _ (by rw [d6]; rfl)
      have dA : ((w6.setCell ⟨w.heap.size, 0, none⟩ (.slice Am m cm)).alloc (.cells #[.int .i64 r3, .int .i64 (IntKind.i64.wrap (M + r4)), .int .i64 r5] 3)).cell? ⟨w.heap.size, 0, none⟩ = some (.slice Am m cm) := older dB _
      have hcs : ((w6.setCell ⟨w.heap.size, 0, none⟩ (.slice Am m cm)).alloc (.cells #[.int .i64 r3, .int .i64 (IntKind.i64.wrap (M + r4)), .int .i64 r5] 3)).cell? ⟨w6.heap.size, r6.toNat, none⟩ = some (.int .i64 v) := by rw [← World.setCell_alloc_past _ _ _ _ l6r]; exact (World.cell?_setCell_other _ ⟨w.heap.size, 0, none⟩ ⟨w6.heap.size, r6.toNat, none⟩ _ (fun e => by injection e; omega)).trans hc
      go_simp
      clear hHeld
      refine hK.out _ _ (older x6 _) (fun hHeld => ?_)
      clear hK K
      try simp only [List.getElem_toArray, List.getElem_cons_zero, List.getElem_cons_succ, Act.put, List.setIfInBounds_toArray, List.set_cons_zero, List.set_cons_succ]
      refine wpAnyH_take (i := 16) (v := ?v15) rfl (by kernel_rfl) (by kernel_rfl) (by kernel_rfl) (fun _ _ _ h => h) (Or.inl ⟨by rfl, ?hy15⟩) (by assumption) ?rest15
      case hy15 =>
        intro wz hSw
        (try dsimp only at hSw)
        go_simp <;> with_reducible rfl
      try simp only [List.getElem_toArray, List.getElem_cons_zero, List.getElem_cons_succ, Act.put, List.setIfInBounds_toArray, List.set_cons_zero, List.set_cons_succ]
      refine wpAnyH_ready (rs := [17, 18]) (by kernel_rfl) (by simp) (AllReadyH.cons rfl (fun K hK => ?_) (AllReadyH.cons rfl (fun K hK => ?_) AllReadyH.nil))
      · skip
        go_simp
        clear hHeld
        refine hK.out _ _ (older x6 _) (fun hHeld => ?_)
        clear hK K
        try simp only [List.getElem_toArray, List.getElem_cons_zero, List.getElem_cons_succ, Act.put, List.setIfInBounds_toArray, List.set_cons_zero, List.set_cons_succ]
        refine wpAnyH_ready (rs := [18]) (by kernel_rfl) (by simp) (AllReadyH.cons rfl (fun K hK => ?_) AllReadyH.nil)
        go_simp
        clear hHeld
        refine hK.out _ _ (older (s6 _) _) (fun hHeld => ?_)
        clear hK K
        try simp only [List.getElem_toArray, List.getElem_cons_zero, List.getElem_cons_succ, Act.put, List.setIfInBounds_toArray, List.set_cons_zero, List.set_cons_succ]
        refine wpAnyH_take (i := 19) (v := ?v16) rfl (by kernel_rfl) (by kernel_rfl) (by kernel_rfl) (fun _ _ _ h => h) (Or.inl ⟨by rfl, ?hy16⟩) (by assumption) ?rest16
        case hy16 =>
          intro wz hSw
          (try dsimp only at hSw)
          go_simp <;> with_reducible rfl
        try simp only [List.getElem_toArray, List.getElem_cons_zero, List.getElem_cons_succ, Act.put, List.setIfInBounds_toArray, List.set_cons_zero, List.set_cons_succ]
        refine wpAnyH_done (by kernel_rfl) ?_ _
        refine NoPanic.normal ?_
        go_wp2
        exact bodyPost_ret (v := .tuple #[.agg #[.slice Am m cm], .int .i64 v]) (by simp [results, Try.results28, go_sem, dA]) rfl ⟨Am, m, cm, ws, v, rfl, hm, W2.out, hv.out, ((I6.out.2.2.1.low (by simp; omega) _).alloc _).from_ (by omega), (I6.out.2.2.2.2.setCell (by simp) _).alloc (by simp; omega) _⟩
      · skip
        go_simp
        clear hHeld
        refine hK.out _ _ (older (s6 _) _) (fun hHeld => ?_)
        clear hK K
        try simp only [List.getElem_toArray, List.getElem_cons_zero, List.getElem_cons_succ, Act.put, List.setIfInBounds_toArray, List.set_cons_zero, List.set_cons_succ]
        refine wpAnyH_ready (rs := [17]) (by kernel_rfl) (by simp) (AllReadyH.cons rfl (fun K hK => ?_) AllReadyH.nil)
        go_simp
        clear hHeld
        refine hK.out _ _ (older (s6 _) _) (fun hHeld => ?_)
        clear hK K
        try simp only [List.getElem_toArray, List.getElem_cons_zero, List.getElem_cons_succ, Act.put, List.setIfInBounds_toArray, List.set_cons_zero, List.set_cons_succ]
        refine wpAnyH_take (i := 19) (v := ?v17) rfl (by kernel_rfl) (by kernel_rfl) (by kernel_rfl) (fun _ _ _ h => h) (Or.inl ⟨by rfl, ?hy17⟩) (by assumption) ?rest17
        case hy17 =>
          intro wz hSw
          (try dsimp only at hSw)
          go_simp <;> with_reducible rfl
        try simp only [List.getElem_toArray, List.getElem_cons_zero, List.getElem_cons_succ, Act.put, List.setIfInBounds_toArray, List.set_cons_zero, List.set_cons_succ]
        refine wpAnyH_done (by kernel_rfl) ?_ _
        refine NoPanic.normal ?_
        go_wp2
        exact bodyPost_ret (v := .tuple #[.agg #[.slice Am m cm], .int .i64 v]) (by simp [results, Try.results28, go_sem, dA]) rfl ⟨Am, m, cm, ws, v, rfl, hm, W2.out, hv.out, ((I6.out.2.2.1.low (by simp; omega) _).alloc _).from_ (by omega), (I6.out.2.2.2.2.setCell (by simp) _).alloc (by simp; omega) _⟩
    · skip
      obtain ⟨v, hv, hc⟩ := lit3' (r := r6) (w6.setCell ⟨w.heap.size, 0, none⟩ (.slice Am m cm)) (wf_i64 (r := r3) (by omega) (by omega)) (wf_wrap64 (M + r4)) R5.out s0 s1
      have dB : (w6.setCell ⟨w.heap.size, 0, none⟩ (.slice Am m cm)).cell? ⟨w.heap.size, 0, none⟩ = some (.slice Am m cm) := World.cell?_setCell_same' _ _ _ (by rw [d6]; rfl)
      have dA : ((w6.setCell ⟨w.heap.size, 0, none⟩ (.slice Am m cm)).alloc (.cells #[.int .i64 r3, .int .i64 (IntKind.i64.wrap (M + r4)), .int .i64 r5] 3)).cell? ⟨w.heap.size, 0, none⟩ = some (.slice Am m cm) := older dB _
      simp only [World.size_setCell] at hc
      go_simp
      clear hHeld
      refine hK.out _ _ (s6 _) (fun hHeld => ?_)
      clear hK K
      try simp only [List.getElem_toArray, List.getElem_cons_zero, List.getElem_cons_succ, Act.put, List.setIfInBounds_toArray, List.set_cons_zero, List.set_cons_succ]
      refine wpAnyH_ready (rs := [13]) (by kernel_rfl) (by simp) (AllReadyH.cons rfl (fun K hK => ?_) AllReadyH.nil)
      go_simp
      clear hHeld
      refine hK.out _ _ (older (s6 _) _) (fun hHeld => ?_)
      clear hK K
      try simp only [List.getElem_toArray, List.getElem_cons_zero, List.getElem_cons_succ, Act.put, List.setIfInBounds_toArray, List.set_cons_zero, List.set_cons_succ]
      refine wpAnyH_take (i := 16) (v := ?v18) rfl (by kernel_rfl) (by kernel_rfl) (by kernel_rfl) (fun _ _ _ h => h) (Or.inl ⟨by rfl, ?hy18⟩) (by assumption) ?rest18
      case hy18 =>
        intro wz hSw
        (try dsimp only at hSw)
        go_simp <;> with_reducible rfl
      try simp only [List.getElem_toArray, List.getElem_cons_zero, List.getElem_cons_succ, Act.put, List.setIfInBounds_toArray, List.set_cons_zero, List.set_cons_succ]
      refine wpAnyH_ready (rs := [17]) (by kernel_rfl) (by simp) (AllReadyH.cons rfl (fun K hK => ?_) AllReadyH.nil)
      go_simp
      clear hHeld
      refine hK.out _ _ (older (s6 _) _) (fun hHeld => ?_)
      clear hK K
      try simp only [List.getElem_toArray, List.getElem_cons_zero, List.getElem_cons_succ, Act.put, List.setIfInBounds_toArray, List.set_cons_zero, List.set_cons_succ]
      refine wpAnyH_take (i := 19) (v := ?v19) rfl (by kernel_rfl) (by kernel_rfl) (by kernel_rfl) (fun _ _ _ h => h) (Or.inl ⟨by rfl, ?hy19⟩) (by assumption) ?rest19
      case hy19 =>
        intro wz hSw
        (try dsimp only at hSw)
        go_simp <;> with_reducible rfl
      try simp only [List.getElem_toArray, List.getElem_cons_zero, List.getElem_cons_succ, Act.put, List.setIfInBounds_toArray, List.set_cons_zero, List.set_cons_succ]
      refine wpAnyH_done (by kernel_rfl) ?_ _
      refine NoPanic.normal ?_
      go_wp2
      exact bodyPost_ret (v := .tuple #[.agg #[.slice Am m cm], .int .i64 v]) (by simp [results, Try.results28, go_sem, dA]) rfl ⟨Am, m, cm, ws, v, rfl, hm, W2.out, hv.out, ((I6.out.2.2.1.low (by simp; omega) _).alloc _).from_ (by omega), (I6.out.2.2.2.2.setCell (by simp) _).alloc (by simp; omega) _⟩

end Go.Proofs.Ytiliahmaolnfbaa
