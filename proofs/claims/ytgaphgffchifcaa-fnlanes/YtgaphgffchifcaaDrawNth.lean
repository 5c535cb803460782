/- What the model's DrawNthLane hands out: a word and a number; nothing old has turned. -/
import Derived.Test.YtgaphgffchifcaaDrawG
namespace Go.Proofs.Ytgaphgffchifcaa
open Go.RowKit

theorem ci_mask {w wr : World} {A : Option Addr} {n c K : Nat} {bs : List Int} (h : CI w A n c bs K wr) (hK : K ≤ 1000) :
    Calls Try.prog 50 #[.pointer (some ⟨w.heap.size, 0, none⟩)] wr fun e w' => ∃ X : Nat, e = .returned (.int .u32 (X : Int)) ∧ Hid (X < 4294967296) ∧ Hid (CI w A n c bs (K + 6) w') ∧ Hid (wr.grownBy w' (some w.heap.size)) :=
  (cmask_any w.heap.size A n c bs K wr h.1 (by omega)).mono fun _ _ ⟨x, he, hx, hc, hg⟩ => ⟨x, he, hx, ⟨hc.out, below_of_grown h.2 hg.out (Nat.le_refl _) h.2.size⟩, hg⟩
theorem ci_row {w wr : World} {A : Option Addr} {n c K : Nat} {bs : List Int} (h : CI w A n c bs K wr) (hK : K ≤ 1000) :
    Calls Try.prog 62 #[.pointer (some ⟨w.heap.size, 0, none⟩)] wr fun e w' => ∃ (A' : Option Addr) (m c' : Nat) (zs : List Int), e = .returned (.slice A' m c') ∧ m ≤ 9 ∧ 6 ≤ m ∧ m ≤ c' ∧ c' ≤ maxLen ∧ Hid (Fit64 zs) ∧ Hid (RdN .i64 w' (w.heap.size + 1) A' m zs) ∧ Hid (CI w A n c bs (K + 11) w') ∧ Hid (wr.grownBy w' (some w.heap.size)) :=
  (crow_any w.heap.size A n c bs K wr h.1 (by omega)).mono fun _ _ ⟨A', m, c', zs, he, h1, h2, h3, h4, hf, hr, hc, hg⟩ => ⟨A', m, c', zs, he, h1, h2, h3, h4, hf, hr.out.from_ (by have := h.lt; omega), ⟨hc.out, below_of_grown h.2 hg.out (Nat.le_refl _) h.2.size⟩, hg⟩
/-- A word and a number. -/
def DrawnXN3 (w : World) (e : Ending) (w' : World) : Prop := ∃ X : Nat, ∃ N : Int, e = .returned (.tuple #[.int .u32 (X : Int), .int .i64 N]) ∧ X < 4294967296 ∧ (Lit.int .i64 N).wf = true ∧ Below w.heap.size w w'

set_option maxRecDepth 100000 in
set_option maxHeartbeats 40000000 in
theorem drawNthLane (A : Option Addr) (n c : Nat) (bs : List Int) (w : World) (h : RdK .u8 w w.heap.size A n bs) (hf : ∀ z ∈ bs, 0 ≤ z ∧ z < 256) (hn : n ≤ 1048576) :
    Calls Try.prog 15 #[.slice A n c] w (DrawnXN3 w) := by
  have H := Lib.hid h
  have HF := Lib.hid hf
  clear h hf
  go_enter Try.func15, Try.ntmps15
  go_wp2_with fail
  refine (open_cur A n c bs _ H.out HF.out hn).mono ?_
  rintro e w1 ⟨rfl, C1, B1⟩
  have I0 : Hid (CI w A n c bs 0 w1.drew) := ⟨C1.out, B1.out.drew⟩
  clear C1 B1 H HF
  go_wp2_with fail
  refine wp_region_noPanic ?_
  refine wp_region_held_drew (S := fun _ => True) (by kernel_rfl) trivial (fun hHeld => ?_)
  refine wpAnyH_take (i := 0) (v := ?v1) rfl (by kernel_rfl) (by kernel_rfl) (by kernel_rfl) (fun _ _ _ h => h) (Or.inl ⟨by rfl, ?hy1⟩) (by assumption) ?rest1
  case hy1 =>
    intro wz hSw
    clear hSw
    go_simp <;> with_reducible rfl
  try simp only [List.getElem_toArray, List.getElem_cons_zero, List.getElem_cons_succ, Act.put, List.setIfInBounds_toArray, List.set_cons_zero, List.set_cons_succ]
  refine wpAnyH_take (i := 2) (v := ?v2) rfl (by kernel_rfl) (by kernel_rfl) (by kernel_rfl) (fun _ _ _ h => h) (Or.inl ⟨by rfl, ?hy2⟩) (by assumption) ?rest2
  case hy2 =>
    intro wz hSw
    clear hSw
    go_simp <;> with_reducible rfl
  try simp only [List.getElem_toArray, List.getElem_cons_zero, List.getElem_cons_succ, Act.put, List.setIfInBounds_toArray, List.set_cons_zero, List.set_cons_succ]
  refine wpAnyH_take (i := 4) (v := ?v3) rfl (by kernel_rfl) (by kernel_rfl) (by kernel_rfl) (fun _ _ _ h => h) (Or.inl ⟨by rfl, ?hy3⟩) (by assumption) ?rest3
  case hy3 =>
    intro wz hSw
    clear hSw
    go_simp <;> with_reducible rfl
  try simp only [List.getElem_toArray, List.getElem_cons_zero, List.getElem_cons_succ, Act.put, List.setIfInBounds_toArray, List.set_cons_zero, List.set_cons_succ]
  refine wpAnyH_take (i := 7) (v := ?v4) rfl (by kernel_rfl) (by kernel_rfl) (by kernel_rfl) (fun _ _ _ h => h) (Or.inl ⟨by rfl, ?hy4⟩) (by assumption) ?rest4
  case hy4 =>
    intro wz hSw
    clear hSw
    go_simp <;> with_reducible rfl
  try simp only [List.getElem_toArray, List.getElem_cons_zero, List.getElem_cons_succ, Act.put, List.setIfInBounds_toArray, List.set_cons_zero, List.set_cons_succ]
  refine wpAnyH_ready (rs := [1]) (by kernel_rfl) (by simp) (AllReadyH.cons rfl (fun K hK => ?_) AllReadyH.nil)
  go_simp
  refine (ci_mask I0.out (by omega)).mono ?_
  rintro e w1 ⟨X1, rfl, HX1, I1, G1⟩
  clear G1 I0
  go_wp2_with fail
  clear hHeld
  refine hK.out _ _ trivial (fun hHeld => ?_)
  clear hK K
  try simp only [List.getElem_toArray, List.getElem_cons_zero, List.getElem_cons_succ, Act.put, List.setIfInBounds_toArray, List.set_cons_zero, List.set_cons_succ]
  refine wpAnyH_ready (rs := [3]) (by kernel_rfl) (by simp) (AllReadyH.cons rfl (fun K hK => ?_) AllReadyH.nil)
  go_simp
  refine (ci_pick I1.out 9 (by omega) (by omega)).mono ?_
  rintro e w3 ⟨r3, rfl, p3, q3, I3, G3⟩
  have s3 : r3 < 9 := by omega
  clear G3 I1
  go_wp2_with fail
  clear hHeld
  refine hK.out _ _ trivial (fun hHeld => ?_)
  clear hK K
  try simp only [List.getElem_toArray, List.getElem_cons_zero, List.getElem_cons_succ, Act.put, List.setIfInBounds_toArray, List.set_cons_zero, List.set_cons_succ]
  refine wpAnyH_ready (rs := [5]) (by kernel_rfl) (by simp) (AllReadyH.cons rfl (fun K hK => ?_) AllReadyH.nil)
  go_simp
  refine (ci_raw I3.out (by omega)).mono ?_
  rintro e w5 ⟨r5, rfl, W5, I5, G5⟩
  clear G5 I3
  go_wp2_with fail
  clear hHeld
  refine hK.out _ _ trivial (fun hHeld => ?_)
  clear hK K
  try simp only [List.getElem_toArray, List.getElem_cons_zero, List.getElem_cons_succ, Act.put, List.setIfInBounds_toArray, List.set_cons_zero, List.set_cons_succ]
  refine wpAnyH_ready (rs := [6, 8]) (by kernel_rfl) (by simp) (AllReadyH.cons rfl (fun K hK => ?_) (AllReadyH.cons rfl (fun K hK => ?_) AllReadyH.nil))
  · skip
    go_simp
    clear hHeld
    refine hK.out _ _ trivial (fun hHeld => ?_)
    clear hK K
    try simp only [List.getElem_toArray, List.getElem_cons_zero, List.getElem_cons_succ, Act.put, List.setIfInBounds_toArray, List.set_cons_zero, List.set_cons_succ]
    have L6 : Hid ((w5.alloc (.cells #[.int .i64 r3, .int .i64 r5] 3)).heap[w5.heap.size]? = some (.cells #[.int .i64 r3, .int .i64 r5] 3)) := heap_alloc_new _ _
    have k6 := I5.out.lt
    have I6 := Lib.hid (I5.out.alloc (.cells #[.int .i64 r3, .int .i64 r5] 3))
    clear I5
    refine wpAnyH_ready (rs := [8]) (by kernel_rfl) (by simp) (AllReadyH.cons rfl (fun K hK => ?_) AllReadyH.nil)
    go_simp
    refine (ci_pick I6.out 2 (by omega) (by omega)).mono ?_
    rintro e w8 ⟨r8, rfl, p8, q8, I8, G8⟩
    have s8 : r8 < 2 := by omega
    have L6 := Lib.hid (lit_call L6.out G8.out k6)
    clear G8 I6
    go_wp2_with fail
    clear hHeld
    refine hK.out _ _ trivial (fun hHeld => ?_)
    clear hK K
    try simp only [List.getElem_toArray, List.getElem_cons_zero, List.getElem_cons_succ, Act.put, List.setIfInBounds_toArray, List.set_cons_zero, List.set_cons_succ]
    refine wpAnyH_take (i := 9) (v := ?v5) rfl (by kernel_rfl) (by kernel_rfl) (by kernel_rfl) (fun _ _ _ h => h) (Or.inl ⟨by rfl, ?hy5⟩) (by assumption) ?rest5
    case hy5 =>
      intro wz hSw
      clear hSw
      go_simp <;> with_reducible rfl
    try simp only [List.getElem_toArray, List.getElem_cons_zero, List.getElem_cons_succ, Act.put, List.setIfInBounds_toArray, List.set_cons_zero, List.set_cons_succ]
    refine wpAnyH_take (i := 11) (v := ?v6) rfl (by kernel_rfl) (by kernel_rfl) (by kernel_rfl) (fun _ _ _ h => h) (Or.inl ⟨by rfl, ?hy6⟩) (by assumption) ?rest6
    case hy6 =>
      intro wz hSw
      clear hSw
      go_simp <;> with_reducible rfl
    try simp only [List.getElem_toArray, List.getElem_cons_zero, List.getElem_cons_succ, Act.put, List.setIfInBounds_toArray, List.set_cons_zero, List.set_cons_succ]
    refine wpAnyH_ready (rs := [10]) (by kernel_rfl) (by simp) (AllReadyH.cons rfl (fun K hK => ?_) AllReadyH.nil)
    obtain ⟨v10, hv10, hc10⟩ := lit2 L6.out (wf_i64 (by omega) (by omega)) W5.out p8 q8
    go_simp
    clear hc10
    clear hHeld
    refine hK.out _ _ trivial (fun hHeld => ?_)
    clear hK K
    try simp only [List.getElem_toArray, List.getElem_cons_zero, List.getElem_cons_succ, Act.put, List.setIfInBounds_toArray, List.set_cons_zero, List.set_cons_succ]
    clear L6
    refine wpAnyH_take (i := 12) (v := ?v7) rfl (by kernel_rfl) (by kernel_rfl) (by kernel_rfl) (fun _ _ _ h => h) (Or.inl ⟨by rfl, ?hy7⟩) (by assumption) ?rest7
    case hy7 =>
      intro wz hSw
      clear hSw
      go_simp <;> with_reducible rfl
    try simp only [List.getElem_toArray, List.getElem_cons_zero, List.getElem_cons_succ, Act.put, List.setIfInBounds_toArray, List.set_cons_zero, List.set_cons_succ]
    refine wpAnyH_done (by kernel_rfl) ?_ _
    refine NoPanic.normal ?_
    go_wp2
    exact bodyPost_ret (results_tmp2 rfl _ _ _) rfl ⟨X1, v10, rfl, HX1.out, hv10.out, I8.out.2⟩
  · skip
    go_simp
    refine (ci_pick I5.out 2 (by omega) (by omega)).mono ?_
    rintro e w8 ⟨r8, rfl, p8, q8, I8, G8⟩
    have s8 : r8 < 2 := by omega
    clear G8 I5
    go_wp2_with fail
    clear hHeld
    refine hK.out _ _ trivial (fun hHeld => ?_)
    clear hK K
    try simp only [List.getElem_toArray, List.getElem_cons_zero, List.getElem_cons_succ, Act.put, List.setIfInBounds_toArray, List.set_cons_zero, List.set_cons_succ]
    refine wpAnyH_take (i := 11) (v := ?v8) rfl (by kernel_rfl) (by kernel_rfl) (by kernel_rfl) (fun _ _ _ h => h) (Or.inl ⟨by rfl, ?hy8⟩) (by assumption) ?rest8
    case hy8 =>
      intro wz hSw
      clear hSw
      go_simp <;> with_reducible rfl
    try simp only [List.getElem_toArray, List.getElem_cons_zero, List.getElem_cons_succ, Act.put, List.setIfInBounds_toArray, List.set_cons_zero, List.set_cons_succ]
    refine wpAnyH_ready (rs := [6]) (by kernel_rfl) (by simp) (AllReadyH.cons rfl (fun K hK => ?_) AllReadyH.nil)
    go_simp
    clear hHeld
    refine hK.out _ _ trivial (fun hHeld => ?_)
    clear hK K
    try simp only [List.getElem_toArray, List.getElem_cons_zero, List.getElem_cons_succ, Act.put, List.setIfInBounds_toArray, List.set_cons_zero, List.set_cons_succ]
    have L6 : Hid ((w8.alloc (.cells #[.int .i64 r3, .int .i64 r5] 3)).heap[w8.heap.size]? = some (.cells #[.int .i64 r3, .int .i64 r5] 3)) := heap_alloc_new _ _
    have k6 := I8.out.lt
    have I6 := Lib.hid (I8.out.alloc (.cells #[.int .i64 r3, .int .i64 r5] 3))
    clear I8
    refine wpAnyH_take (i := 9) (v := ?v9) rfl (by kernel_rfl) (by kernel_rfl) (by kernel_rfl) (fun _ _ _ h => h) (Or.inl ⟨by rfl, ?hy9⟩) (by assumption) ?rest9
    case hy9 =>
      intro wz hSw
      clear hSw
      go_simp <;> with_reducible rfl
    try simp only [List.getElem_toArray, List.getElem_cons_zero, List.getElem_cons_succ, Act.put, List.setIfInBounds_toArray, List.set_cons_zero, List.set_cons_succ]
    refine wpAnyH_ready (rs := [10]) (by kernel_rfl) (by simp) (AllReadyH.cons rfl (fun K hK => ?_) AllReadyH.nil)
    obtain ⟨v10, hv10, hc10⟩ := lit2 L6.out (wf_i64 (by omega) (by omega)) W5.out p8 q8
    go_simp
    clear hc10
    clear hHeld
    refine hK.out _ _ trivial (fun hHeld => ?_)
    clear hK K
    try simp only [List.getElem_toArray, List.getElem_cons_zero, List.getElem_cons_succ, Act.put, List.setIfInBounds_toArray, List.set_cons_zero, List.set_cons_succ]
    clear L6
    refine wpAnyH_take (i := 12) (v := ?v10) rfl (by kernel_rfl) (by kernel_rfl) (by kernel_rfl) (fun _ _ _ h => h) (Or.inl ⟨by rfl, ?hy10⟩) (by assumption) ?rest10
    case hy10 =>
      intro wz hSw
      clear hSw
      go_simp <;> with_reducible rfl
    try simp only [List.getElem_toArray, List.getElem_cons_zero, List.getElem_cons_succ, Act.put, List.setIfInBounds_toArray, List.set_cons_zero, List.set_cons_succ]
    refine wpAnyH_done (by kernel_rfl) ?_ _
    refine NoPanic.normal ?_
    go_wp2
    exact bodyPost_ret (results_tmp2 rfl _ _ _) rfl ⟨X1, v10, rfl, HX1.out, hv10.out, I6.out.2⟩

end Go.Proofs.Ytgaphgffchifcaa
