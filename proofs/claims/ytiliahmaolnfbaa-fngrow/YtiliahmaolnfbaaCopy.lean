/- The contracts of copyToBank, hasWord, l01Has and the bank's grow; the law of a copy of a whole slice into one that the call has made. -/
import Derived.Test.YtiliahmaolnfbaaBank
import Derived.Test.YtiliahmaolnfbaaZeros
namespace Go.Proofs.Ytiliahmaolnfbaa
open Go.RowKit Go.MuLone

theorem info_size_u32 : (Try.prog.info? 27).map (·.size) = some 1 := by kernel_rfl

/-- The block of an own slice whose capacity is its length, written out. -/
theorem Own.block {w : World} {b0 g n : Nat} {zs : List Int} (h : Own w b0 (some ⟨g, 0, none⟩) n n zs) : b0 ≤ g ∧ w.heap[g]? = some (.cells (zs.map (Value.int .u32)).toArray 27 (0, 0)) := by
  rcases h.2 with ⟨h', _⟩ | ⟨g', cap, cur, hv, hb, hh, _, _, hs, ht⟩
  · simp at h'
  · obtain ⟨rfl, rfl⟩ : g = g' ∧ n = cap := by injection hv with h1 h2 h3; injection h1 with h1; injection h1 with h1; exact ⟨h1, h3⟩
    refine ⟨hb, ?_⟩
    rw [List.take_of_length_le (by rw [Array.length_toList, hs]; exact Nat.le_refl _)] at ht
    rw [hh, ← ht]
theorem Own.of_block {w : World} {b0 g n : Nat} {zs : List Int} (hb : b0 ≤ g) (hl : zs.length = n) (hn : n ≤ maxLen) (h : w.heap[g]? = some (.cells (zs.map (Value.int .u32)).toArray 27 (0, 0))) : Own w b0 (some ⟨g, 0, none⟩) n n zs :=
  ⟨by simp [hl], .inr ⟨g, n, _, rfl, hb, h, Nat.le_refl _, hn, by simp [hl], by rw [List.take_of_length_le (by simp [hl])]⟩⟩

theorem wpList_copy_all {w : World} {ops : Array Oper} {rest : List Oper} {o : Oper} {a : Act} {Q : Exit → Act → World → Prop} (hgd : o.guard = none) (d s : Operand)
    (ho : o.op = .call { callee := .builtin .copy, args := #[d, s], argTypes := #[24, 24] })
    (g n c B b0 : Nat) (A : Option Addr) (ys zs : List Int) (hd : a.eval d = .slice (some ⟨g, 0, none⟩) n n) (hs : a.eval s = .slice A n c) (hn : n ≤ maxLen)
    (hO : Own w b0 (some ⟨g, 0, none⟩) n n ys) (hR : Rd w B A n zs)
    (h : ∀ w', Hid (Own w' b0 (some ⟨g, 0, none⟩) n n zs) → Hid (Below g w w') → wpList Try.prog ops Q rest (a.put o.dst (goInt n)) w') : wpList Try.prog ops Q (o :: rest) a w := by
  have hl := hO.len
  have hz := hR.1
  obtain ⟨hb, hh⟩ := hO.block
  refine wpList_copy_splice hgd d s 24 24 ho 27 Try.underlying24 info_size_u32 _ _ n n n c hd hs g 0 (ys.map (Value.int .u32)) 27 hh (zs.map (Value.int .u32)) (by simp [hz]) ?_ (by simp [hz, hl]) (ints_oneCell _ _) g w (Below.refl _ _) (Nat.le_refl _) ?_
  · intro hp
    obtain ⟨g1, o1, rfl, _, hc⟩ := hR.2 (by simpa [hz] using hp)
    refine ⟨rfl, _, rfl, fun j v hj => ?_⟩
    have hlt : j < n := by
      have := (List.getElem?_eq_some_iff.1 hj).1
      simpa [hz] using this
    have e : v = .int .u32 (zs[j]?.getD 0) := by
      have hj' : j < zs.length := by omega
      simp [hj'] at hj ⊢
      exact hj.symm
    rw [e, ← hc j hlt]
    congr 1
    unfold Addr.add; split <;> simp_all
  · intro w' hw hbw
    have e : splice (ys.map (Value.int .u32)) 0 (zs.map (Value.int .u32)) = zs.map (Value.int .u32) := by
      unfold splice
      rw [List.drop_eq_nil_of_le (by simp [hz, hl])]; simp
    have hw' := hw.out
    rw [e] at hw'
    have := h w' (Own.of_block hb hz hn hw') hbw
    simpa [hz] using this

set_option maxHeartbeats 1000000 in
theorem copyToBank_any (A : Option Addr) (n c B : Nat) (zs : List Int) (w : World) (h : Rd w B A n zs) (hB : B ≤ w.heap.size) (hn : n ≤ 64) :
    Calls Try.prog 50 #[.agg #[.slice A n c]] w fun e w' => ∃ b g, e = .returned (.pointer (some ⟨b, 0, none⟩)) ∧ w.heap.size ≤ b ∧ Bk w' b (.slice (some ⟨g, 0, none⟩) n n) ∧ Own w' w.heap.size (some ⟨g, 0, none⟩) n n zs ∧ Below w.heap.size w w' := by
  obtain ⟨i0, hi, hz0, hz1, hz2⟩ := info_parts info_u32
  have hb2 : i0.bytes * n ≤ 281474976710656 := by rw [hz2]; omega
  have hb3 : n ≤ maxLen := by unfold maxLen; omega
  have H := Lib.hid h
  have HI := Lib.hid hi
  have HZ0 := Lib.hid hz0
  have HZ1 := Lib.hid hz1
  clear h hi hz0 hz1 hz2
  go_enter Try.func50, Try.ntmps50
  go_wp2_with (at_make; refine wpList_make_full _ rfl _ _ 24 rfl (w.heap.size + 1) 27 i0 (.int .u32 0) 1 Try.underlying24 HI.out HZ0.out HZ1.out .i64 .i64 _ _ n rfl rfl rfl rfl hb2 hb3 (by simp) ?_)
  intro w1 hown hgr
  have HO : Hid (Own w1 (w.heap.size + 1) (some ⟨w.heap.size + 1, 0, none⟩) n n (fillTo zs n 0)) := by
    have := toList_madeCells_one (.int .u32 0) n
    have h3 : w1.ownsRow (w.heap.size + 1) 27 1 (.slice (some ⟨w.heap.size + 1, 0, none⟩) n n) n (List.replicate n (.int .u32 0)) := by simpa [this] using hown
    show w1.ownsRow _ _ _ _ _ ((fillTo zs n 0).map _)
    simpa [fillTo] using h3
  have HB : Hid (Below (w.heap.size + 1) (w.alloc (.cells #[.slice A n c] 26)) w1) := (Below.refl _ _).grown hgr (by simp) (by simp)
  have a1 : w1.cell? ⟨w.heap.size, 0, none⟩ = some (.slice A n c) := (HB.out.cell (p := ⟨w.heap.size, 0, none⟩) (by simp)).trans (by simp)
  have H1 : Hid (Rd w1 B A n zs) := (H.out.alloc hB _).below (HB.out.mono (by omega))
  have hz := HB.out.size
  simp at hz
  clear hown hgr
  go_wp2_with (with_reducible refine wpList_copy_all rfl (.tmp 8) (.tmp 10) rfl (w.heap.size + 1) n c B (w.heap.size + 1) A (fillTo zs n 0) zs rfl rfl hb3 HO.out H1.out ?_)
  intro w2 O2 B2
  have h2 : w1.heap.size ≤ w2.heap.size := B2.out.size
  go_wp2
  go_ret
  refine ⟨w2.heap.size, w.heap.size + 1, rfl, by omega, heap_alloc_new w2 _, (O2.out.alloc _).from_ (by omega), ?_⟩
  exact ((((Below.refl _ _).alloc (Nat.le_refl _) _).trans (HB.out.mono (by omega))).trans (B2.out.mono (by omega))).alloc (by omega) _

/-- Is there a word at this index of a valid memory of n words? -/
def HasW (n : Nat) (at_ : Int) : Prop := n ≤ 64 ∧ 0 ≤ at_ ∧ at_ < n

set_option maxHeartbeats 400000 in
theorem hasI_yes (A : Option Addr) (n c k : Nat) (w : World) (h1 : n ≤ 64) (h3 : k < n) :
    Calls Try.prog 49 #[.agg #[.slice A n c], .int .i64 k] w fun e w' => e = .returned (.bool true) ∧ Below w.heap.size w w' := by
  have hc := memOkI_any A n c (w.alloc (.cells #[.slice A n c] 26))
  simp only [h1, decide_true] at hc
  have HC := Lib.hid hc
  clear hc
  go_enter Try.func49, Try.ntmps49
  go_wp2_with fail
  refine HC.out.mono ?_
  rintro e w1 ⟨rfl, hb⟩
  have a1 := later hb (b := w.heap.size) (o := 0) (v := .slice A n c) (by simp)
  have HB := Lib.hid hb
  clear hb
  go_wp2
  go_ret
  exact ⟨rfl, (by repeat (first | exact Below.refl _ _ | refine Below.drew ?_ | refine Below.setCell ?_ (by first | omega | (simp; done) | (simp; omega) | (simp [*]; done)) _ | refine Below.alloc ?_ (by first | omega | (simp; done) | (simp; omega) | (simp [*]; done)) _ | refine Below.trans ?_ (Below.mono (HB.out) (by first | omega | (simp; done) | (simp; omega) | (simp [*]; done)))))⟩

set_option maxHeartbeats 1000000 in
theorem hasI_no (A : Option Addr) (n c : Nat) (at_ : Int) (w : World) (h : ¬ HasW n at_) (_hn : n ≤ 1048576) :
    Calls Try.prog 49 #[.agg #[.slice A n c], .int .i64 at_] w fun e w' => e = .returned (.bool false) ∧ Below w.heap.size w w' := by
  have hc := memOkI_any A n c (w.alloc (.cells #[.slice A n c] 26))
  unfold HasW at h
  by_cases h1 : n ≤ 64
  · have h' : ¬ (0 ≤ at_ ∧ at_ < n) := fun q => h ⟨h1, q⟩
    simp only [h1, decide_true] at hc
    have HC := Lib.hid hc
    clear hc h
    by_cases h2 : 0 ≤ at_
    · have h3 : ¬ at_ < n := fun q => h' ⟨h2, q⟩
      clear h'
      have d2 : decide (0 ≤ at_) = true := by simp [h2]
      have d3 : decide (at_ < (n : Int)) = false := by simp [h3]
      go_enter Try.func49, Try.ntmps49
      go_wp2_with fail
      refine HC.out.mono ?_
      rintro e w1 ⟨rfl, hb⟩
      have a1 := later hb (b := w.heap.size) (o := 0) (v := .slice A n c) (by simp)
      have HB := Lib.hid hb
      clear hb
      go_wp2
      go_ret
      exact ⟨rfl, (by repeat (first | exact Below.refl _ _ | refine Below.drew ?_ | refine Below.setCell ?_ (by first | omega | (simp; done) | (simp; omega) | (simp [*]; done)) _ | refine Below.alloc ?_ (by first | omega | (simp; done) | (simp; omega) | (simp [*]; done)) _ | refine Below.trans ?_ (Below.mono (HB.out) (by first | omega | (simp; done) | (simp; omega) | (simp [*]; done)))))⟩
    · clear h'
      have d2 : decide (0 ≤ at_) = false := by simp [h2]
      go_enter Try.func49, Try.ntmps49
      go_wp2_with fail
      refine HC.out.mono ?_
      rintro e w1 ⟨rfl, hb⟩
      have a1 := later hb (b := w.heap.size) (o := 0) (v := .slice A n c) (by simp)
      have HB := Lib.hid hb
      clear hb
      go_wp2
      go_ret
      exact ⟨rfl, (by repeat (first | exact Below.refl _ _ | refine Below.drew ?_ | refine Below.setCell ?_ (by first | omega | (simp; done) | (simp; omega) | (simp [*]; done)) _ | refine Below.alloc ?_ (by first | omega | (simp; done) | (simp; omega) | (simp [*]; done)) _ | refine Below.trans ?_ (Below.mono (HB.out) (by first | omega | (simp; done) | (simp; omega) | (simp [*]; done)))))⟩
  · simp only [h1, decide_false] at hc
    have HC := Lib.hid hc
    clear hc h h1
    go_enter Try.func49, Try.ntmps49
    go_wp2_with fail
    refine HC.out.mono ?_
    rintro e w1 ⟨rfl, hb⟩
    have a1 := later hb (b := w.heap.size) (o := 0) (v := .slice A n c) (by simp)
    have HB := Lib.hid hb
    clear hb
    go_wp2
    go_ret
    exact ⟨rfl, (by repeat (first | exact Below.refl _ _ | refine Below.drew ?_ | refine Below.setCell ?_ (by first | omega | (simp; done) | (simp; omega) | (simp [*]; done)) _ | refine Below.alloc ?_ (by first | omega | (simp; done) | (simp; omega) | (simp [*]; done)) _ | refine Below.trans ?_ (Below.mono (HB.out) (by first | omega | (simp; done) | (simp; omega) | (simp [*]; done)))))⟩

set_option maxHeartbeats 400000 in
theorem hasS_yes (A : Option Addr) (n c k : Nat) (w : World) (h1 : n ≤ 64) (h3 : k < n) :
    Calls Try.prog 57 #[.agg #[.slice A n c], .int .i64 k] w fun e w' => e = .returned (.bool true) ∧ Below w.heap.size w w' := by
  have hc := memOkS_any A n c (w.alloc (.cells #[.slice A n c] 26))
  simp only [h1, decide_true] at hc
  have HC := Lib.hid hc
  clear hc
  go_enter Try.func57, Try.ntmps57
  go_wp2_with fail
  refine HC.out.mono ?_
  rintro e w1 ⟨rfl, hb⟩
  have a1 := later hb (b := w.heap.size) (o := 0) (v := .slice A n c) (by simp)
  have HB := Lib.hid hb
  clear hb
  go_wp2
  go_ret
  exact ⟨rfl, (by repeat (first | exact Below.refl _ _ | refine Below.drew ?_ | refine Below.setCell ?_ (by first | omega | (simp; done) | (simp; omega) | (simp [*]; done)) _ | refine Below.alloc ?_ (by first | omega | (simp; done) | (simp; omega) | (simp [*]; done)) _ | refine Below.trans ?_ (Below.mono (HB.out) (by first | omega | (simp; done) | (simp; omega) | (simp [*]; done)))))⟩

set_option maxHeartbeats 1000000 in
theorem hasS_no (A : Option Addr) (n c : Nat) (at_ : Int) (w : World) (h : ¬ HasW n at_) (_hn : n ≤ 1048576) :
    Calls Try.prog 57 #[.agg #[.slice A n c], .int .i64 at_] w fun e w' => e = .returned (.bool false) ∧ Below w.heap.size w w' := by
  have hc := memOkS_any A n c (w.alloc (.cells #[.slice A n c] 26))
  unfold HasW at h
  by_cases h1 : n ≤ 64
  · have h' : ¬ (0 ≤ at_ ∧ at_ < n) := fun q => h ⟨h1, q⟩
    simp only [h1, decide_true] at hc
    have HC := Lib.hid hc
    clear hc h
    by_cases h2 : 0 ≤ at_
    · have h3 : ¬ at_ < n := fun q => h' ⟨h2, q⟩
      clear h'
      have d2 : decide (0 ≤ at_) = true := by simp [h2]
      have d3 : decide (at_ < (n : Int)) = false := by simp [h3]
      go_enter Try.func57, Try.ntmps57
      go_wp2_with fail
      refine HC.out.mono ?_
      rintro e w1 ⟨rfl, hb⟩
      have a1 := later hb (b := w.heap.size) (o := 0) (v := .slice A n c) (by simp)
      have HB := Lib.hid hb
      clear hb
      go_wp2
      go_ret
      exact ⟨rfl, (by repeat (first | exact Below.refl _ _ | refine Below.drew ?_ | refine Below.setCell ?_ (by first | omega | (simp; done) | (simp; omega) | (simp [*]; done)) _ | refine Below.alloc ?_ (by first | omega | (simp; done) | (simp; omega) | (simp [*]; done)) _ | refine Below.trans ?_ (Below.mono (HB.out) (by first | omega | (simp; done) | (simp; omega) | (simp [*]; done)))))⟩
    · clear h'
      have d2 : decide (0 ≤ at_) = false := by simp [h2]
      go_enter Try.func57, Try.ntmps57
      go_wp2_with fail
      refine HC.out.mono ?_
      rintro e w1 ⟨rfl, hb⟩
      have a1 := later hb (b := w.heap.size) (o := 0) (v := .slice A n c) (by simp)
      have HB := Lib.hid hb
      clear hb
      go_wp2
      go_ret
      exact ⟨rfl, (by repeat (first | exact Below.refl _ _ | refine Below.drew ?_ | refine Below.setCell ?_ (by first | omega | (simp; done) | (simp; omega) | (simp [*]; done)) _ | refine Below.alloc ?_ (by first | omega | (simp; done) | (simp; omega) | (simp [*]; done)) _ | refine Below.trans ?_ (Below.mono (HB.out) (by first | omega | (simp; done) | (simp; omega) | (simp [*]; done)))))⟩
  · simp only [h1, decide_false] at hc
    have HC := Lib.hid hc
    clear hc h h1
    go_enter Try.func57, Try.ntmps57
    go_wp2_with fail
    refine HC.out.mono ?_
    rintro e w1 ⟨rfl, hb⟩
    have a1 := later hb (b := w.heap.size) (o := 0) (v := .slice A n c) (by simp)
    have HB := Lib.hid hb
    clear hb
    go_wp2
    go_ret
    exact ⟨rfl, (by repeat (first | exact Below.refl _ _ | refine Below.drew ?_ | refine Below.setCell ?_ (by first | omega | (simp; done) | (simp; omega) | (simp [*]; done)) _ | refine Below.alloc ?_ (by first | omega | (simp; done) | (simp; omega) | (simp [*]; done)) _ | refine Below.trans ?_ (Below.mono (HB.out) (by first | omega | (simp; done) | (simp; omega) | (simp [*]; done)))))⟩

end Go.Proofs.Ytiliahmaolnfbaa
