/- What the model's DrawMemCas hands out: a memory, an index and two words; nothing old has turned. -/
import Derived.Test.YtiliahmaolnfbaaDraw
import Derived.Test.YtiliahmaolnfbaaSpec
namespace Go.Proofs.Ytiliahmaolnfbaa
open Go.RowKit

/-- A memory, an index and two words. -/
def Drawn4 (w : World) (e : Ending) (w' : World) : Prop :=
  ∃ Am m cm ws, ∃ at_ was x : Int, e = .returned (.tuple #[.agg #[.slice Am m cm], .int .i64 at_, .int .u32 was, .int .u32 x]) ∧ m ≤ 65 ∧ (∀ z ∈ ws, 0 ≤ z ∧ z < 4294967296) ∧ (Lit.int .i64 at_).wf = true ∧ 0 ≤ was ∧ was < 4294967296 ∧ 0 ≤ x ∧ x < 4294967296 ∧ Own w' w.heap.size Am m cm ws ∧ Below w.heap.size w w'

theorem word_bounds {zs : List Int} (hf : ∀ z ∈ zs, 0 ≤ z ∧ z < 4294967296) {k : Nat} (hk : k < zs.length) : 0 ≤ zs[k]?.getD 0 ∧ zs[k]?.getD 0 < 4294967296 := by
  rw [List.getElem?_eq_getElem hk, Option.getD_some]
  exact hf _ (List.getElem_mem hk)

/-- The model's MemLoad at whatever index: some word. -/
theorem sLoad_some (A : Option Addr) (n c B : Nat) (at_ : Int) (zs : List Int) (w : World) (h : Rd w B A n zs) (hB : B ≤ w.heap.size) (hn : n ≤ 1048576) (hf : ∀ z ∈ zs, 0 ≤ z ∧ z < 4294967296) :
    Calls Try.prog 42 #[.agg #[.slice A n c], .int .i64 at_] w fun e w' => ∃ v : Int, ∃ ok : Bool, e = .returned (.tuple #[.int .u32 v, .bool ok]) ∧ 0 ≤ v ∧ v < 4294967296 ∧ Below w.heap.size w w' := by
  by_cases hw : HasW n at_
  · obtain ⟨h1, h2, h3⟩ := hw
    obtain ⟨k, rfl⟩ := Int.eq_ofNat_of_zero_le h2
    have hb := word_bounds hf (show k < zs.length by rw [h.1]; omega)
    exact (sLoad A n c B k zs w h hB h1 (by omega)).mono fun _ _ ⟨he, hb'⟩ => ⟨_, _, he, hb.1, hb.2, hb'⟩
  · exact (sLoad_no A n c at_ w hw hn).mono fun _ _ ⟨he, hb'⟩ => ⟨_, _, he, by omega, by omega, hb'⟩

/-- What is known of the world while the numbers are drawn: the result's cell, the memory's variable, the words, the cursor. -/
def DrawInv (w : World) (A : Option Addr) (n c : Nat) (bs : List Int) (bm b1 : Nat) (Am : Option Addr) (m cm : Nat) (ws : List Int) (K : Nat) (wr : World) : Prop :=
  wr.heap[w.heap.size]? = some (.cells #[.slice none 0 0] 26 (0, 0)) ∧ wr.heap[bm]? = some (.cells #[.slice Am m cm] 26 (0, 0)) ∧ Own wr b1 Am m cm ws ∧ Cur wr (w.heap.size + 1) A n c bs K ∧ Below w.heap.size w wr

section
variable {w wr w' : World} {A Am : Option Addr} {n c bm b1 m cm K K' : Nat} {bs ws : List Int}
theorem DrawInv.below (h : DrawInv w A n c bs bm b1 Am m cm ws K wr) (hb : Below wr.heap.size wr w') : DrawInv w A n c bs bm b1 Am m cm ws K w' :=
  ⟨(hb.block _ (Array.getElem?_eq_some_iff.1 h.1).1).trans h.1, (hb.block _ (Array.getElem?_eq_some_iff.1 h.2.1).1).trans h.2.1, h.2.2.1.below hb, h.2.2.2.1.below hb, h.2.2.2.2.trans (hb.mono h.2.2.2.2.size)⟩
theorem DrawInv.pick (h : DrawInv w A n c bs bm b1 Am m cm ws K wr) (hg : wr.grownBy w' (some (w.heap.size + 1))) (hc : Cur w' (w.heap.size + 1) A n c bs K') (h1 : w.heap.size + 1 < b1) (h2 : w.heap.size + 1 < bm) : DrawInv w A n c bs bm b1 Am m cm ws K' w' :=
  ⟨(hg.block _ (Array.getElem?_eq_some_iff.1 h.1).1 (by simp)).trans h.1, (hg.block _ (Array.getElem?_eq_some_iff.1 h.2.1).1 (by simp; omega)).trans h.2.1, own_farP h.2.2.1 hg h1, hc, below_of_grown h.2.2.2.2 hg (by omega) h.2.2.2.2.size⟩
theorem DrawInv.x (h : DrawInv w A n c bs bm b1 Am m cm ws K wr) : wr.cell? ⟨bm, 0, none⟩ = some (.slice Am m cm) := (cell_of_row wr _ 0 _ _ (0, 0) h.2.1).trans rfl
theorem DrawInv.r (h : DrawInv w A n c bs bm b1 Am m cm ws K wr) : wr.cell? ⟨w.heap.size, 0, none⟩ = some (.slice none 0 0) := (cell_of_row wr _ 0 _ _ (0, 0) h.1).trans rfl
theorem DrawInv.f (h : DrawInv w A n c bs bm b1 Am m cm ws K wr) : wr.frozen? ⟨w.heap.size, 0, none⟩ = false := free_blk h.1 0
theorem DrawInv.drew (h : DrawInv w A n c bs bm b1 Am m cm ws K wr) : DrawInv w A n c bs bm b1 Am m cm ws K wr.drew := ⟨h.1, h.2.1, h.2.2.1, h.2.2.2.1, h.2.2.2.2.drew⟩
end

/-- The first steps of a draw: the cursor is opened and a memory drawn. -/
theorem draw_start {w w1 w2 : World} {A Am : Option Addr} {n c m cm : Nat} {bs ws : List Int} (B1 : Below (w.alloc (.cells #[.slice none 0 0] 26)).heap.size (w.alloc (.cells #[.slice none 0 0] 26)) w1)
    (l1 : w.heap.size + 1 < w1.heap.size) (O2 : Own w2 w1.heap.size Am m cm ws) (C2 : Cur w2 (w.heap.size + 1) A n c bs (0 + 60)) (G2 : w1.grownBy w2 (some (w.heap.size + 1))) :
    DrawInv w A n c bs w2.heap.size w1.heap.size Am m cm ws (0 + 60) (w2.alloc (.cells #[.slice Am m cm] 26)) := by
  have r1 : w1.heap[w.heap.size]? = some (.cells #[.slice none 0 0] 26 (0, 0)) := (B1.block _ (by simp)).trans (heap_alloc_new w _)
  have r2 := (G2.block w.heap.size (by omega) (by simp)).trans r1
  have z2 := G2.size
  have BB1 : Below w.heap.size w w1 := ((Below.refl _ _).alloc (Nat.le_refl _) _).trans (B1.mono (by simp))
  exact ⟨(Below.heap_alloc w2 _ _ (by omega)).trans r2, heap_alloc_new w2 _, O2.alloc _, C2.alloc _, (below_of_grown BB1 G2 (by omega) (by omega)).alloc (by omega) _⟩

set_option maxRecDepth 100000 in
set_option maxHeartbeats 8000000 in
theorem drawCas (A : Option Addr) (n c : Nat) (bs : List Int) (w : World) (h : RdK .u8 w w.heap.size A n bs) (hf : ∀ z ∈ bs, 0 ≤ z ∧ z < 256) (hn : n ≤ 1048576) :
    Calls Try.prog 25 #[.slice A n c] w (Drawn4 w) := by
  have H := Lib.hid h
  have HF := Lib.hid hf
  clear h hf
  go_enter Try.func25, Try.ntmps25
  go_wp2_with fail
  refine (open_cur A n c bs _ (rdk_more (H.out.alloc (Nat.le_refl _) _) (by simp)) HF.out hn).mono ?_
  rintro e w1 ⟨rfl, C1, B1⟩
  rw [World.size_alloc] at C1 ⊢
  have l1 := C1.out.lt
  go_wp2_with fail
  refine (mem_any (w.heap.size + 1) A n c bs 0 _ C1.out (by omega)).mono ?_
  rintro e w2 ⟨Am, m, cm, ws, rfl, hm, W2, O2, C2, G2⟩
  have l2 := C2.out.lt
  have I0 := Lib.hid (draw_start B1.out l1 O2.out C2.out G2.out)
  have z2 : w1.heap.size ≤ w2.heap.size := G2.out.size
  clear C1 B1 O2 C2 G2
  have x0 := I0.out.x
  go_wp2_with fail
  refine (spot_any (w.heap.size + 1) A n c bs (0 + 60) m _ I0.out.2.2.2.1 (by omega) (by omega) (by omega)).mono ?_
  rintro e w3 ⟨at_, rfl, hat, C3, G3⟩
  have HAT := Lib.hid hat
  have I3 := Lib.hid (I0.out.pick G3.out C3.out (by omega) (by omega))
  have x3 := I3.out.x
  clear hat C3 G3 I0 x0
  go_wp2_with fail
  refine (sLoad_some Am m cm _ at_ ws _ I3.out.2.2.1.rd (Nat.le_refl _) (by omega) W2.out).mono ?_
  rintro e w4 ⟨v, ok, rfl, hv0, hv1, hb4⟩
  have I4 := Lib.hid (I3.out.below hb4)
  have x4 := I4.out.x
  clear hb4 I3 x3
  go_wp2_with fail
  refine (once_any (w.heap.size + 1) A n c bs _ 3 _ I4.out.2.2.2.1 (by omega) (by omega) (by omega)).mono ?_
  rintro e w5 ⟨rb, rfl, C5, G5⟩
  have I5 := Lib.hid (I4.out.pick G5.out C5.out (by omega) (by omega))
  have x5 := I5.out.x
  clear C5 G5 I4 x4
  have LAST : Hid (∀ (K : Nat) (wr : World), K ≤ 1000 → DrawInv w A n c bs w2.heap.size w1.heap.size Am m cm ws K wr → Calls Try.prog 48 #[.pointer (some ⟨w.heap.size + 1, 0, none⟩)] wr fun e w' => ∃ x : Int, e = .returned (.int .u32 x) ∧ 0 ≤ x ∧ x < 4294967296 ∧ Hid (DrawInv w A n c bs w2.heap.size w1.heap.size Am m cm ws (K + 5) w')) :=
    fun K wr hK hI => (cword_any (w.heap.size + 1) A n c bs K wr hI.2.2.2.1 (by omega)).mono fun _ _ ⟨x, he, hx, hc, hg⟩ => ⟨x, he, hx.1, hx.2, hI.pick hg.out hc.out (by omega) (by omega)⟩
  cases rb
  · go_wp2_with fail
    go_region_held3 (fun w' => w'.cell? ⟨w2.heap.size, 0, none⟩ = some (.slice Am m cm))
      (first | exact x5 | exact x6 | exact s6 _)
      (first | (go_at_call 48; refine (LAST.out _ _ (by omega) I5.out.drew).mono ?_; rintro e w6 ⟨x, rfl, hx0, hx1, I6⟩; have x6 := I6.out.x; have d6 := I6.out.r; have f6 := I6.out.f; have s6 := fun v => (World.cell?_setCell_other w6 ⟨w.heap.size, 0, none⟩ ⟨w2.heap.size, 0, none⟩ v (fun e => by injection e; omega)).trans x6))
    go_wp2
    refine bodyPost_ret (v := .tuple #[.agg #[.slice Am m cm], .int .i64 at_, .int .u32 v, .int .u32 x]) (by simp [results, Try.results25, go_sem, d6]) rfl ⟨Am, m, cm, ws, at_, v, x, rfl, hm, W2.out, HAT.out, hv0, hv1, hx0, hx1, (I6.out.2.2.1.low (by simp; omega) _).from_ (by omega), I6.out.2.2.2.2.setCell (by simp) _⟩
  · go_wp2_with fail
    refine (LAST.out _ _ (by omega) I5.out).mono ?_
    rintro e w6 ⟨v', rfl, hv0', hv1', I6⟩
    have x6 := I6.out.x
    clear I5 x5
    go_wp2_with fail
    go_region_held3 (fun w' => w'.cell? ⟨w2.heap.size, 0, none⟩ = some (.slice Am m cm))
      (first | exact x6 | exact x7 | exact s7 _)
      (first | (go_at_call 48; refine (LAST.out _ _ (by omega) I6.out.drew).mono ?_; rintro e w7 ⟨x, rfl, hx0, hx1, I7⟩; have x7 := I7.out.x; have d7 := I7.out.r; have f7 := I7.out.f; have s7 := fun v => (World.cell?_setCell_other w7 ⟨w.heap.size, 0, none⟩ ⟨w2.heap.size, 0, none⟩ v (fun e => by injection e; omega)).trans x7))
    go_wp2
    refine bodyPost_ret (v := .tuple #[.agg #[.slice Am m cm], .int .i64 at_, .int .u32 v', .int .u32 x]) (by simp [results, Try.results25, go_sem, d7]) rfl ⟨Am, m, cm, ws, at_, v', x, rfl, hm, W2.out, HAT.out, hv0', hv1', hx0, hx1, (I7.out.2.2.1.low (by simp; omega) _).from_ (by omega), I7.out.2.2.2.2.setCell (by simp) _⟩

end Go.Proofs.Ytiliahmaolnfbaa
