/- The contracts of the bank's grow and of MemGrow and MemNew, the program's and the model's. -/
import Derived.Test.YtiliahmaolnfbaaSpec
namespace Go.Proofs.Ytiliahmaolnfbaa
open Go.RowKit Go.MuLone

theorem own_ne {w : World} {b b0 n c : Nat} {A : Option Addr} {zs : List Int} {cs : Array Value} (hb : w.heap[b]? = some (.cells cs 72 (0, 0))) (ho : Own w b0 A n c zs) : ∀ g, A = some ⟨g, 0, none⟩ → g ≠ b := by
  rintro g rfl rfl
  rcases ho.2 with ⟨h', _⟩ | ⟨g', cap, cur, hv, _, hh, _⟩
  · simp at h'
  · have e : g = g' := by injection hv with h1; injection h1 with h1; injection h1
    subst e
    rw [hb] at hh
    injection hh with hh
    injection hh with _ ht
    exact absurd ht (by decide)

set_option maxHeartbeats 1000000 in
theorem bgrow (b b0 g n c m : Nat) (zs : List Int) (w : World) (hB : Bk w b (.slice (some ⟨g, 0, none⟩) n c)) (hO : Own w b0 (some ⟨g, 0, none⟩) n c zs) (hb : b0 ≤ b) (hn : n + m ≤ 64) (hs : b0 ≤ w.heap.size) :
    Calls Try.prog 61 #[.pointer (some ⟨b, 0, none⟩), .int .i64 m] w fun e w' => e = .returned (.tuple #[]) ∧ ∃ A' c', Bk w' b (.slice A' (n + m) c') ∧ Own w' b0 A' (n + m) c' (zs ++ List.replicate m 0) ∧ Below b0 w w' := by
  obtain ⟨i0, hi, hz0, hz1, hz2⟩ := info_parts info_u32
  have hg := hB.ne hO
  have c0 := hB.cell0
  have c2 := hB.cell2
  have f0 := hB.free 0
  have HF := Lib.hid (hB.free 2)
  have HB := Lib.hid hB
  have hgb : b0 ≤ g := (World.ownsRow.lt hO g rfl).1
  have HO : Hid (Own (w.setCell ⟨b, 0, none⟩ (.int .i32 1)) b0 (some ⟨g, 0, none⟩) n c zs) := hO.far (fun g' e => by injection e with e; injection e with e; subst e; exact hg) _
  have HI := Lib.hid hi
  have HZ0 := Lib.hid hz0
  have HZ1 := Lib.hid hz1
  have HZ2 := Lib.hid hz2
  clear hB hO hi hz0 hz1 hz2
  go_enter_defers Try.func61, Try.ntmps61
  go_wp2_with (first
    | (go_at_call 71; refine (lock_free muLib ⟨b, 0, none⟩ _ c0 f0).mono ?_; rintro e w' ⟨rfl, rfl⟩)
    | (at_builtin; refine wpList_append_zeros _ rfl (.tmp 15) (.tmp 16) 24 3 rfl b0 27 i0 Try.underlying24 Try.underlying3 HI.out HZ0.out HZ1.out HZ2.out (.slice (some ⟨g, 0, none⟩) n c) n _ rfl HO.out m rfl (by omega) (by simpa using hs) ?_))
  intro v' w1 ho hgr
  have ho' : w1.ownsRow b0 27 1 v' (n + m) ((zs ++ List.replicate m 0).map (Value.int .u32)) := by simpa using ho
  obtain ⟨A', c', rfl, ho2⟩ := own_shape ho'
  have hbl : w1.heap[b]? = some (.cells #[.int .i32 1, .int .u32 0, .slice (some ⟨g, 0, none⟩) n c] 72 (0, 0)) := by
    have hlt : b < (w.setCell ⟨b, 0, none⟩ (.int .i32 1)).heap.size := by have := HB.out.lt; simpa [World.setCell] using this
    rw [hgr.block b hlt (by simp [Value.ownBlock]; omega)]
    have := HB.out
    unfold Bk at this
    simp [World.setCell, Array.getElem?_modify, this]
  have d0 : w1.cell? ⟨b, 0, none⟩ = some (.int .i32 1) := (cell_of_row w1 b 0 _ _ (0, 0) hbl).trans rfl
  have d2 : w1.cell? ⟨b, 2, none⟩ = some (.slice (some ⟨g, 0, none⟩) n c) := (cell_of_row w1 b 2 _ _ (0, 0) hbl).trans rfl
  have e0 : w1.frozen? ⟨b, 0, none⟩ = false := by simp [World.frozen?, hbl]
  have e2 : w1.frozen? ⟨b, 2, none⟩ = false := by simp [World.frozen?, hbl]
  have BB : Hid (Below b0 w w1) := ((Below.refl _ _).setCell hb _).grown hgr (by simpa [World.setCell] using hs) (fun k hk => by simp [Value.ownBlock] at hk; omega)
  have O2 := Lib.hid ho2
  have HBL := Lib.hid hbl
  clear ho ho' hgr hbl ho2 c0 c2 f0 HO HF HB
  go_wp2
  refine leaves_cons (f := 72) (args := #[.pointer (some ⟨b, 0, none⟩)]) (by simp) (by simp [go_sem]) ?_
  refine (unlock_deferred muLib ⟨b, 0, none⟩ .returning _ ((World.cell?_setCell_other _ ⟨b, 2, none⟩ ⟨b, 0, none⟩ _ (by simp)).trans d0) (by simp [e0])).mono ?_
  rintro e u' w'' ⟨rfl, rfl, rfl⟩
  refine ⟨_, results_none rfl _ _ _, rfl, A', c', ?_, ?_, (BB.out.setCell hb _).setCell hb _⟩
  · have := HBL.out
    unfold Bk
    simp [World.setCell, Array.getElem?_modify, this]
  · have hne := own_ne HBL.out O2.out
    exact (O2.out.far hne _).far hne _

/-- May a memory of n words grow by k? -/
def CanG (n : Nat) (k : Int) : Prop := n ≤ 64 ∧ 0 ≤ k ∧ k ≤ 64 - (n : Int)

set_option maxHeartbeats 1000000 in
theorem iGrow_no (A : Option Addr) (n c : Nat) (k : Int) (w : World) (h : ¬ CanG n k) (hn : n ≤ 1048576) :
    Calls Try.prog 30 #[.agg #[.slice A n c], .int .i64 k] w fun e w' => e = .returned (.tuple #[.agg #[.slice none 0 0], .bool false]) ∧ Below w.heap.size w w' := by
  have hc := memOkI_any A n c ((w.alloc (.cells #[.slice A n c] 26)).alloc (.cells #[.slice none 0 0] 26))
  unfold CanG at h
  by_cases h1 : n ≤ 64
  · simp only [h1, decide_true] at hc
    have HC := Lib.hid hc
    clear hc
    by_cases h2 : 0 ≤ k
    · have h3 : ¬ k ≤ 64 - (n : Int) := fun q => h ⟨h1, h2, q⟩
      have d2 : decide (k < 0) = false := by simp; omega
      have d3 : decide (64 - (n : Int) < k) = true := by simp; omega
      clear h
      go_enter Try.func30, Try.ntmps30
      go_wp2_with fail
      refine HC.out.mono ?_
      rintro e w1 ⟨rfl, hb1⟩
      have a1 : w1.cell? ⟨w.heap.size, 0, none⟩ = some (.slice A n c) := later hb1 (by simp)
      have r1 : w1.cell? ⟨w.heap.size + 1, 0, none⟩ = some (.slice none 0 0) := later hb1 (by simp)
      have f1 : w1.frozen? ⟨w.heap.size + 1, 0, none⟩ = false := later_free hb1 (by simp) (by simp)
      have BB1 : Hid (Below w.heap.size w w1) := (by repeat (first | exact Below.refl _ _ | refine Below.drew ?_ | refine Below.setCell ?_ (by first | omega | (simp; done) | (simp; omega) | (simp [*]; done)) _ | refine Below.alloc ?_ (by first | omega | (simp; done) | (simp; omega) | (simp [*]; done)) _ | refine Below.trans ?_ (Below.mono (hb1) (by first | omega | (simp; done) | (simp; omega) | (simp [*]; done)))))
      clear hb1
      go_wp2
      exact bodyPost_ret (v := .tuple #[.agg #[.slice none 0 0], .bool false]) (by simp [results, Try.results30, go_sem, r1]) rfl ⟨rfl, BB1.out.setCell (by simp) _⟩
    · have d2 : decide (k < 0) = true := by simp; omega
      clear h
      go_enter Try.func30, Try.ntmps30
      go_wp2_with fail
      refine HC.out.mono ?_
      rintro e w1 ⟨rfl, hb1⟩
      have a1 : w1.cell? ⟨w.heap.size, 0, none⟩ = some (.slice A n c) := later hb1 (by simp)
      have r1 : w1.cell? ⟨w.heap.size + 1, 0, none⟩ = some (.slice none 0 0) := later hb1 (by simp)
      have f1 : w1.frozen? ⟨w.heap.size + 1, 0, none⟩ = false := later_free hb1 (by simp) (by simp)
      have BB1 : Hid (Below w.heap.size w w1) := (by repeat (first | exact Below.refl _ _ | refine Below.drew ?_ | refine Below.setCell ?_ (by first | omega | (simp; done) | (simp; omega) | (simp [*]; done)) _ | refine Below.alloc ?_ (by first | omega | (simp; done) | (simp; omega) | (simp [*]; done)) _ | refine Below.trans ?_ (Below.mono (hb1) (by first | omega | (simp; done) | (simp; omega) | (simp [*]; done)))))
      clear hb1
      go_wp2
      exact bodyPost_ret (v := .tuple #[.agg #[.slice none 0 0], .bool false]) (by simp [results, Try.results30, go_sem, r1]) rfl ⟨rfl, BB1.out.setCell (by simp) _⟩
  · simp only [h1, decide_false] at hc
    have HC := Lib.hid hc
    clear hc h h1
    go_enter Try.func30, Try.ntmps30
    go_wp2_with fail
    refine HC.out.mono ?_
    rintro e w1 ⟨rfl, hb1⟩
    have a1 : w1.cell? ⟨w.heap.size, 0, none⟩ = some (.slice A n c) := later hb1 (by simp)
    have r1 : w1.cell? ⟨w.heap.size + 1, 0, none⟩ = some (.slice none 0 0) := later hb1 (by simp)
    have f1 : w1.frozen? ⟨w.heap.size + 1, 0, none⟩ = false := later_free hb1 (by simp) (by simp)
    have BB1 : Hid (Below w.heap.size w w1) := (by repeat (first | exact Below.refl _ _ | refine Below.drew ?_ | refine Below.setCell ?_ (by first | omega | (simp; done) | (simp; omega) | (simp [*]; done)) _ | refine Below.alloc ?_ (by first | omega | (simp; done) | (simp; omega) | (simp [*]; done)) _ | refine Below.trans ?_ (Below.mono (hb1) (by first | omega | (simp; done) | (simp; omega) | (simp [*]; done)))))
    clear hb1
    go_wp2
    exact bodyPost_ret (v := .tuple #[.agg #[.slice none 0 0], .bool false]) (by simp [results, Try.results30, go_sem, r1]) rfl ⟨rfl, BB1.out.setCell (by simp) _⟩

set_option maxHeartbeats 1000000 in
theorem sGrow_no (A : Option Addr) (n c : Nat) (k : Int) (w : World) (h : ¬ CanG n k) (hn : n ≤ 1048576) :
    Calls Try.prog 29 #[.agg #[.slice A n c], .int .i64 k] w fun e w' => e = .returned (.tuple #[.agg #[.slice none 0 0], .bool false]) ∧ Below w.heap.size w w' := by
  have hc := memOkS_any A n c ((w.alloc (.cells #[.slice A n c] 26)).alloc (.cells #[.slice none 0 0] 26))
  unfold CanG at h
  by_cases h1 : n ≤ 64
  · simp only [h1, decide_true] at hc
    have HC := Lib.hid hc
    clear hc
    by_cases h2 : 0 ≤ k
    · have h3 : ¬ k ≤ 64 - (n : Int) := fun q => h ⟨h1, h2, q⟩
      have d2 : decide (k < 0) = false := by simp; omega
      have d3 : decide (64 - (n : Int) < k) = true := by simp; omega
      clear h
      go_enter Try.func29, Try.ntmps29
      go_wp2_with fail
      refine HC.out.mono ?_
      rintro e w1 ⟨rfl, hb1⟩
      have a1 : w1.cell? ⟨w.heap.size, 0, none⟩ = some (.slice A n c) := later hb1 (by simp)
      have r1 : w1.cell? ⟨w.heap.size + 1, 0, none⟩ = some (.slice none 0 0) := later hb1 (by simp)
      have f1 : w1.frozen? ⟨w.heap.size + 1, 0, none⟩ = false := later_free hb1 (by simp) (by simp)
      have BB1 : Hid (Below w.heap.size w w1) := (by repeat (first | exact Below.refl _ _ | refine Below.drew ?_ | refine Below.setCell ?_ (by first | omega | (simp; done) | (simp; omega) | (simp [*]; done)) _ | refine Below.alloc ?_ (by first | omega | (simp; done) | (simp; omega) | (simp [*]; done)) _ | refine Below.trans ?_ (Below.mono (hb1) (by first | omega | (simp; done) | (simp; omega) | (simp [*]; done)))))
      clear hb1
      go_wp2
      exact bodyPost_ret (v := .tuple #[.agg #[.slice none 0 0], .bool false]) (by simp [results, Try.results29, go_sem, r1]) rfl ⟨rfl, BB1.out.setCell (by simp) _⟩
    · have d2 : decide (k < 0) = true := by simp; omega
      clear h
      go_enter Try.func29, Try.ntmps29
      go_wp2_with fail
      refine HC.out.mono ?_
      rintro e w1 ⟨rfl, hb1⟩
      have a1 : w1.cell? ⟨w.heap.size, 0, none⟩ = some (.slice A n c) := later hb1 (by simp)
      have r1 : w1.cell? ⟨w.heap.size + 1, 0, none⟩ = some (.slice none 0 0) := later hb1 (by simp)
      have f1 : w1.frozen? ⟨w.heap.size + 1, 0, none⟩ = false := later_free hb1 (by simp) (by simp)
      have BB1 : Hid (Below w.heap.size w w1) := (by repeat (first | exact Below.refl _ _ | refine Below.drew ?_ | refine Below.setCell ?_ (by first | omega | (simp; done) | (simp; omega) | (simp [*]; done)) _ | refine Below.alloc ?_ (by first | omega | (simp; done) | (simp; omega) | (simp [*]; done)) _ | refine Below.trans ?_ (Below.mono (hb1) (by first | omega | (simp; done) | (simp; omega) | (simp [*]; done)))))
      clear hb1
      go_wp2
      exact bodyPost_ret (v := .tuple #[.agg #[.slice none 0 0], .bool false]) (by simp [results, Try.results29, go_sem, r1]) rfl ⟨rfl, BB1.out.setCell (by simp) _⟩
  · simp only [h1, decide_false] at hc
    have HC := Lib.hid hc
    clear hc h h1
    go_enter Try.func29, Try.ntmps29
    go_wp2_with fail
    refine HC.out.mono ?_
    rintro e w1 ⟨rfl, hb1⟩
    have a1 : w1.cell? ⟨w.heap.size, 0, none⟩ = some (.slice A n c) := later hb1 (by simp)
    have r1 : w1.cell? ⟨w.heap.size + 1, 0, none⟩ = some (.slice none 0 0) := later hb1 (by simp)
    have f1 : w1.frozen? ⟨w.heap.size + 1, 0, none⟩ = false := later_free hb1 (by simp) (by simp)
    have BB1 : Hid (Below w.heap.size w w1) := (by repeat (first | exact Below.refl _ _ | refine Below.drew ?_ | refine Below.setCell ?_ (by first | omega | (simp; done) | (simp; omega) | (simp [*]; done)) _ | refine Below.alloc ?_ (by first | omega | (simp; done) | (simp; omega) | (simp [*]; done)) _ | refine Below.trans ?_ (Below.mono (hb1) (by first | omega | (simp; done) | (simp; omega) | (simp [*]; done)))))
    clear hb1
    go_wp2
    exact bodyPost_ret (v := .tuple #[.agg #[.slice none 0 0], .bool false]) (by simp [results, Try.results29, go_sem, r1]) rfl ⟨rfl, BB1.out.setCell (by simp) _⟩

set_option maxHeartbeats 1000000 in
theorem iGrow (A : Option Addr) (n c B m : Nat) (zs : List Int) (w : World) (h : Rd w B A n zs) (hB : B ≤ w.heap.size) (hn : n + m ≤ 64) :
    Calls Try.prog 30 #[.agg #[.slice A n c], .int .i64 m] w fun e w' => ∃ A' c', e = .returned (.tuple #[.agg #[.slice A' (n + m) c'], .bool true]) ∧ Own w' w.heap.size A' (n + m) c' (zs ++ List.replicate m 0) ∧ Below w.heap.size w w' := by
  have H := Lib.hid h
  clear h
  have h1 : n ≤ 64 := by omega
  have hc := memOkI_any A n c ((w.alloc (.cells #[.slice A n c] 26)).alloc (.cells #[.slice none 0 0] 26))
  simp only [h1, decide_true] at hc
  have HC := Lib.hid hc
  clear hc
  have d2 : decide ((m : Int) < 0) = false := by simp
  have d3 : decide (64 - (n : Int) < (m : Int)) = false := by simp; omega
  go_enter Try.func30, Try.ntmps30
  go_wp2_with fail
  refine HC.out.mono ?_
  rintro e w1 ⟨rfl, hb1⟩
  have a1 : w1.cell? ⟨w.heap.size, 0, none⟩ = some (.slice A n c) := later hb1 (by simp)
  have r1 : w1.cell? ⟨w.heap.size + 1, 0, none⟩ = some (.slice none 0 0) := later hb1 (by simp)
  have f1 : w1.frozen? ⟨w.heap.size + 1, 0, none⟩ = false := later_free hb1 (by simp) (by simp)
  have z1 : w.heap.size + 1 < w1.heap.size := by have := hb1.size; simp at this; omega
  have z0 : w.heap.size < w1.heap.size := by omega
  have BB1 : Hid (Below w.heap.size w w1) := (by repeat (first | exact Below.refl _ _ | refine Below.drew ?_ | refine Below.setCell ?_ (by first | omega | (simp; done) | (simp; omega) | (simp [*]; done)) _ | refine Below.alloc ?_ (by first | omega | (simp; done) | (simp; omega) | (simp [*]; done)) _ | refine Below.trans ?_ (Below.mono (hb1) (by first | omega | (simp; done) | (simp; omega) | (simp [*]; done)))))
  have H1 : Hid (Rd w1 B A n zs) := H.out.below (BB1.out.mono hB)
  clear hb1
  go_wp2_with fail
  refine (copyToBank_any A n c B zs _ H1.out (by omega) h1).mono ?_
  rintro e w2 ⟨b, g, rfl, hbb, hk2, ho2, hb2⟩
  have r2 := later hb2 r1
  have f2 := later_free hb2 f1 z1
  have BB2 := Lib.hid (BB1.out.trans (hb2.mono (by omega)))
  have K2 := Lib.hid hk2
  have O2 := Lib.hid ho2
  have z2 := hb2.size
  clear hb2 hk2 ho2 a1 r1 f1 BB1 H1
  go_wp2_with fail
  refine (bgrow b _ g n n m zs _ K2.out O2.out hbb hn z2).mono ?_
  rintro e w3 ⟨rfl, A', c', hk3, ho3, hb3⟩
  have r3 := later_at hb3 r2 z1
  have f3 := later_free hb3 f2 z1
  have k3 := hk3.cell2
  have O3 := Lib.hid ho3
  have BB3 := Lib.hid (BB2.out.trans (hb3.mono (by omega)))
  have z3 := hb3.size
  clear hb3 hk3 ho3 K2 O2 BB2 r2 f2
  go_wp2
  refine bodyPost_ret (v := .tuple #[.agg #[.slice A' (n + m) c'], .bool true]) (by simp [results, Try.results30, go_sem, r3]) rfl ⟨A', c', rfl, ?_, BB3.out.setCell (by simp) _⟩
  exact (O3.out.low (by simpa using z1) _).from_ (by omega)

set_option maxHeartbeats 1000000 in
theorem sGrow (A : Option Addr) (n c B m : Nat) (zs : List Int) (w : World) (h : Rd w B A n zs) (hB : B ≤ w.heap.size) (hn : n + m ≤ 64) :
    Calls Try.prog 29 #[.agg #[.slice A n c], .int .i64 m] w fun e w' => ∃ A' c', e = .returned (.tuple #[.agg #[.slice A' (n + m) c'], .bool true]) ∧ Own w' w.heap.size A' (n + m) c' (zs ++ List.replicate m 0) ∧ Below w.heap.size w w' := by
  have H := Lib.hid h
  clear h
  have h1 : n ≤ 64 := by omega
  have hc := memOkS_any A n c ((w.alloc (.cells #[.slice A n c] 26)).alloc (.cells #[.slice none 0 0] 26))
  simp only [h1, decide_true] at hc
  have HC := Lib.hid hc
  clear hc
  have d2 : decide ((m : Int) < 0) = false := by simp
  have d3 : decide (64 - (n : Int) < (m : Int)) = false := by simp; omega
  go_enter Try.func29, Try.ntmps29
  go_wp2_with fail
  refine HC.out.mono ?_
  rintro e w1 ⟨rfl, hb1⟩
  have a1 : w1.cell? ⟨w.heap.size, 0, none⟩ = some (.slice A n c) := later hb1 (by simp)
  have r1 : w1.cell? ⟨w.heap.size + 1, 0, none⟩ = some (.slice none 0 0) := later hb1 (by simp)
  have f1 : w1.frozen? ⟨w.heap.size + 1, 0, none⟩ = false := later_free hb1 (by simp) (by simp)
  have z1 : w.heap.size + 1 < w1.heap.size := by have := hb1.size; simp at this; omega
  have z0 : w.heap.size < w1.heap.size := by omega
  have BB1 : Hid (Below w.heap.size w w1) := (by repeat (first | exact Below.refl _ _ | refine Below.drew ?_ | refine Below.setCell ?_ (by first | omega | (simp; done) | (simp; omega) | (simp [*]; done)) _ | refine Below.alloc ?_ (by first | omega | (simp; done) | (simp; omega) | (simp [*]; done)) _ | refine Below.trans ?_ (Below.mono (hb1) (by first | omega | (simp; done) | (simp; omega) | (simp [*]; done)))))
  have H1 : Hid (Rd w1 B A n zs) := H.out.below (BB1.out.mono hB)
  clear hb1
  obtain ⟨i0, hi, hz0, hz1, hz2⟩ := info_parts info_u32
  have HI := Lib.hid hi
  have HZ0 := Lib.hid hz0
  have HZ1 := Lib.hid hz1
  have HZ2 := Lib.hid hz2
  clear hi hz0 hz1 hz2
  have HO : Hid (Own (w1.alloc (.cells #[] 27)) w1.heap.size (some ⟨w1.heap.size, 0, none⟩) 0 0 []) := World.ownsRow_made w1 #[] 0 (Nat.le_refl _) (by unfold maxLen; omega) rfl
  have H1' : Hid (Rd (w1.alloc (.cells #[] 27)) B A n zs) := H1.out.alloc (by omega) _
  go_wp2_with (at_builtin; refine wpList_append_fresh rfl (.tmp 22) (.tmp 24) rfl w1.heap.size B n c 0 (some ⟨w1.heap.size, 0, none⟩) A zs rfl rfl HO.out H1'.out (by omega) (by simp) ?_)
  intro A2 c2 w2 O2 B2
  have r2 := later_at B2.out (older r1 _) (by omega)
  have f2 : w2.frozen? ⟨w.heap.size + 1, 0, none⟩ = false := later_free B2.out (older_free f1 z1 _) (by omega)
  have z2 : w1.heap.size < w2.heap.size := by have := B2.out.size; simp at this; omega
  have BB2 : Hid (Below w.heap.size w w2) := (BB1.out.alloc (by omega) _).trans (B2.out.mono (by omega))
  clear a1 r1 f1
  go_wp2_with (at_builtin; refine wpList_append_zeros _ rfl (.tmp 25) (.tmp 26) 24 3 rfl w1.heap.size 27 i0 Try.underlying24 Try.underlying3 HI.out HZ0.out HZ1.out HZ2.out (.slice A2 n c2) n _ rfl O2.out m rfl (by omega) (by omega) ?_)
  intro v' w3 ho hgr
  have ho' : w3.ownsRow w1.heap.size 27 1 v' (n + m) ((zs ++ List.replicate m 0).map (Value.int .u32)) := by simpa using ho
  obtain ⟨A', c', rfl, ho2⟩ := own_shape ho'
  have B3 : Hid (Below w1.heap.size w2 w3) := (Below.refl _ _).grown hgr (by omega) (fun k hk => (World.ownsRow.lt O2.out k hk).1)
  have r3 := later_at B3.out r2 z1
  have f3 := later_free B3.out f2 z1
  have z3 := B3.out.size
  have BB3 : Hid (Below w.heap.size w w3) := BB2.out.trans (B3.out.mono (by omega))
  have O3 := Lib.hid ho2
  clear ho ho' hgr ho2 r2 f2
  go_wp2
  refine bodyPost_ret (v := .tuple #[.agg #[.slice A' (n + m) c'], .bool true]) (by simp [results, Try.results29, go_sem, r3]) rfl ⟨A', c', rfl, ?_, BB3.out.setCell (by simp) _⟩
  exact (O3.out.low (by simpa using z1) _).from_ (by omega)

set_option maxHeartbeats 1000000 in
theorem iNew (m : Nat) (w : World) (hm : m ≤ 64) :
    Calls Try.prog 35 #[.int .i64 m] w fun e w' => ∃ A' c', e = .returned (.tuple #[.agg #[.slice A' m c'], .bool true]) ∧ Own w' w.heap.size A' m c' (List.replicate m 0) ∧ Below w.heap.size w w' := by
  have hc := iGrow none 0 0 0 m [] (w.alloc (.cells #[.slice none 0 0] 26)) Rd.zero (Nat.zero_le _) (by omega)
  simp only [Nat.zero_add, List.nil_append] at hc
  have HC := Lib.hid hc
  clear hc
  go_enter Try.func35, Try.ntmps35
  go_wp2_with fail
  refine HC.out.mono ?_
  rintro e w1 ⟨A', c', rfl, ho, hb⟩
  have r1 : w1.cell? ⟨w.heap.size, 0, none⟩ = some (.slice none 0 0) := later hb (by simp)
  have f1 : w1.frozen? ⟨w.heap.size, 0, none⟩ = false := later_free hb (by simp) (by simp)
  have BB : Hid (Below w.heap.size w w1) := (by repeat (first | exact Below.refl _ _ | refine Below.drew ?_ | refine Below.setCell ?_ (by first | omega | (simp; done) | (simp; omega) | (simp [*]; done)) _ | refine Below.alloc ?_ (by first | omega | (simp; done) | (simp; omega) | (simp [*]; done)) _ | refine Below.trans ?_ (Below.mono (hb) (by first | omega | (simp; done) | (simp; omega) | (simp [*]; done)))))
  have O1 : Hid (Own w1 (w.heap.size + 1) A' m c' (List.replicate m 0)) := ho.from_ (by simp)
  clear ho hb HC
  go_wp2
  refine bodyPost_ret (v := .tuple #[.agg #[.slice A' m c'], .bool true]) (by simp [results, Try.results35, go_sem, r1]) rfl ⟨A', c', rfl, ?_, BB.out.setCell (by simp) _⟩
  exact (O1.out.low (by simp) _).from_ (by omega)

set_option maxHeartbeats 1000000 in
theorem iNew_no (k : Int) (w : World) (hk : ¬ (0 ≤ k ∧ k ≤ 64)) :
    Calls Try.prog 35 #[.int .i64 k] w fun e w' => e = .returned (.tuple #[.agg #[.slice none 0 0], .bool false]) ∧ Below w.heap.size w w' := by
  have HC := Lib.hid (iGrow_no none 0 0 k (w.alloc (.cells #[.slice none 0 0] 26)) (by unfold CanG; intro h; exact hk ⟨h.2.1, by have := h.2.2; omega⟩) (by omega))
  clear hk
  go_enter Try.func35, Try.ntmps35
  go_wp2_with fail
  refine HC.out.mono ?_
  rintro e w1 ⟨rfl, hb⟩
  have r1 : w1.cell? ⟨w.heap.size, 0, none⟩ = some (.slice none 0 0) := later hb (by simp)
  have f1 : w1.frozen? ⟨w.heap.size, 0, none⟩ = false := later_free hb (by simp) (by simp)
  have BB : Hid (Below w.heap.size w w1) := (by repeat (first | exact Below.refl _ _ | refine Below.drew ?_ | refine Below.setCell ?_ (by first | omega | (simp; done) | (simp; omega) | (simp [*]; done)) _ | refine Below.alloc ?_ (by first | omega | (simp; done) | (simp; omega) | (simp [*]; done)) _ | refine Below.trans ?_ (Below.mono (hb) (by first | omega | (simp; done) | (simp; omega) | (simp [*]; done)))))
  clear hb HC
  go_wp2
  exact bodyPost_ret (v := .tuple #[.agg #[.slice none 0 0], .bool false]) (by simp [results, Try.results35, go_sem, r1]) rfl ⟨rfl, BB.out.setCell (by simp) _⟩

set_option maxHeartbeats 1000000 in
theorem sNew (m : Nat) (w : World) (hm : m ≤ 64) :
    Calls Try.prog 34 #[.int .i64 m] w fun e w' => ∃ A' c', e = .returned (.tuple #[.agg #[.slice A' m c'], .bool true]) ∧ Own w' w.heap.size A' m c' (List.replicate m 0) ∧ Below w.heap.size w w' := by
  obtain ⟨i0, hi, hz0, hz1, hz2⟩ := info_parts info_u32
  have hb2 : i0.bytes * m ≤ 281474976710656 := by rw [hz2]; omega
  have hb3 : m ≤ maxLen := by unfold maxLen; omega
  have HI := Lib.hid hi
  have HZ0 := Lib.hid hz0
  have HZ1 := Lib.hid hz1
  clear hi hz0 hz1 hz2
  have d2 : decide ((m : Int) < 0) = false := by simp
  have d3 : decide (64 < (m : Int)) = false := by simp; omega
  go_enter Try.func34, Try.ntmps34
  go_wp2_with (at_make; refine wpList_make_full _ rfl _ _ 24 rfl (w.heap.size + 1) 27 i0 (.int .u32 0) 1 Try.underlying24 HI.out HZ0.out HZ1.out .i64 .i64 _ _ m rfl rfl rfl rfl hb2 hb3 (by simp) ?_)
  intro w1 hown hgr
  have O1 : Hid (Own w1 (w.heap.size + 1) (some ⟨w.heap.size + 1, 0, none⟩) m m (List.replicate m 0)) := by
    have := toList_madeCells_one (.int .u32 0) m
    have h3 : w1.ownsRow (w.heap.size + 1) 27 1 (.slice (some ⟨w.heap.size + 1, 0, none⟩) m m) m (List.replicate m (.int .u32 0)) := by simpa [this] using hown
    show w1.ownsRow _ _ _ _ _ ((List.replicate m (0 : Int)).map _)
    simpa using h3
  have B1 : Hid (Below (w.heap.size + 1) (w.alloc (.cells #[.slice none 0 0] 26)) w1) := (Below.refl _ _).grown hgr (by simp) (by simp)
  have r1 : w1.cell? ⟨w.heap.size, 0, none⟩ = some (.slice none 0 0) := later_at B1.out (by simp) (by omega)
  have f1 : w1.frozen? ⟨w.heap.size, 0, none⟩ = false := later_free B1.out (by simp) (by omega)
  clear hown hgr
  go_wp2
  refine bodyPost_ret (v := .tuple #[.agg #[.slice (some ⟨w.heap.size + 1, 0, none⟩) m m], .bool true]) (by simp [results, Try.results34, go_sem, r1]) rfl ⟨_, _, rfl, ?_, ?_⟩
  · exact (O1.out.low (by simp) _).from_ (by omega)
  · exact (((Below.refl _ _).alloc (Nat.le_refl _) _).trans (B1.out.mono (by omega))).setCell (by simp) _

set_option maxHeartbeats 1000000 in
theorem sNew_no (k : Int) (w : World) (hk : ¬ (0 ≤ k ∧ k ≤ 64)) :
    Calls Try.prog 34 #[.int .i64 k] w fun e w' => e = .returned (.tuple #[.agg #[.slice none 0 0], .bool false]) ∧ Below w.heap.size w w' := by
  by_cases h2 : 0 ≤ k
  · have h3 : ¬ k ≤ 64 := fun q => hk ⟨h2, q⟩
    have d2 : decide (k < 0) = false := by simp; omega
    have d3 : decide (64 < k) = true := by simp; omega
    clear hk
    go_enter Try.func34, Try.ntmps34
    go_wp2
    exact bodyPost_ret (v := .tuple #[.agg #[.slice none 0 0], .bool false]) (by simp [results, Try.results34, go_sem]) rfl ⟨rfl, (Below.refl _ _).alloc (Nat.le_refl _) _⟩
  · have d2 : decide (k < 0) = true := by simp; omega
    clear hk
    go_enter Try.func34, Try.ntmps34
    go_wp2
    exact bodyPost_ret (v := .tuple #[.agg #[.slice none 0 0], .bool false]) (by simp [results, Try.results34, go_sem]) rfl ⟨rfl, (Below.refl _ _).alloc (Nat.le_refl _) _⟩

end Go.Proofs.Ytiliahmaolnfbaa
