/- The model's cursor draws a mask and a row; DrawGroups, DrawGather and DrawBallot; nothing old has turned. -/
import Derived.Test.YtgaphgffchifcaaDrawT
import Derived.Test.YtgaphgffchifcaaBoolS
namespace Go.Proofs.Ytgaphgffchifcaa
open Go.RowKit

/-- The slice at A, of m integers of kind kd, reads as zs; it lies from block n0 on. -/
def RdN (kd : IntKind) (w : World) (n0 : Nat) (A : Option Addr) (m : Nat) (zs : List Int) : Prop :=
  zs.length = m ∧ (0 < m → ∃ g o, A = some ⟨g, o, none⟩ ∧ n0 ≤ g ∧ g < w.heap.size ∧ ∀ i, i < m → w.cell? ⟨g, o + i, none⟩ = some (.int kd (zs[i]?.getD 0)))
section
variable {kd : IntKind} {w w' : World} {n0 m : Nat} {A : Option Addr} {zs : List Int}
theorem RdN.rd (h : RdN kd w n0 A m zs) : RdK kd w w.heap.size A m zs := ⟨h.1, fun hm => by
  obtain ⟨g, o, e, _, hg, hc⟩ := h.2 hm
  exact ⟨g, o, e, hg, hc⟩⟩
theorem RdN.grown (h : RdN kd w n0 A m zs) {b : Nat} (hg : w.grownBy w' (some b)) (hb : b < n0) : RdN kd w' n0 A m zs := ⟨h.1, fun hm => by
  obtain ⟨g, o, e, h0, h1, hc⟩ := h.2 hm
  exact ⟨g, o, e, h0, Nat.lt_of_lt_of_le h1 hg.size, fun i hi => (World.cell?_of_block (hg.block g h1 (by simp; omega))).trans (hc i hi)⟩⟩
theorem RdN.below (h : RdN kd w n0 A m zs) (hb : Below w.heap.size w w') : RdN kd w' n0 A m zs := ⟨h.1, fun hm => by
  obtain ⟨g, o, e, h0, h1, hc⟩ := h.2 hm
  exact ⟨g, o, e, h0, Nat.lt_of_lt_of_le h1 hb.size, fun i hi => (hb.cell (p := ⟨g, o + i, none⟩) h1).trans (hc i hi)⟩⟩
theorem RdN.from_ (h : RdN kd w n0 A m zs) {n1 : Nat} (hn : n1 ≤ n0) : RdN kd w n1 A m zs := ⟨h.1, fun hm => by
  obtain ⟨g, o, e, h0, h1, hc⟩ := h.2 hm
  exact ⟨g, o, e, by omega, h1, hc⟩⟩
theorem RdN.drew (h : RdN kd w n0 A m zs) : RdN kd w.drew n0 A m zs := h
theorem RdN.alloc (h : RdN kd w n0 A m zs) (o : Obj) : RdN kd (w.alloc o) n0 A m zs := ⟨h.1, fun hm => by
  obtain ⟨g, o', e, h0, h1, hc⟩ := h.2 hm
  exact ⟨g, o', e, h0, by simp; omega, fun i hi => (World.cell?_alloc_lt w o ⟨g, o' + i, none⟩ h1).trans (hc i hi)⟩⟩
theorem OwnK.rdn {t : TypeId} {c : Nat} (h : OwnK t kd w n0 A m c zs) : RdN kd w n0 A m zs := ⟨h.len, fun hm => by
  obtain ⟨g, hA, h0, h1⟩ := h.form hm
  exact ⟨g, 0, hA, h0, h1, fun i hi => by rw [Nat.zero_add]; exact h.cell hA hi⟩⟩
/-- Numbers that a machine's int can hold. -/
def Fit64 (zs : List Int) : Prop := ∀ z ∈ zs, -9223372036854775808 ≤ z ∧ z < 9223372036854775808
end

set_option maxRecDepth 100000 in
set_option maxHeartbeats 1000000 in
theorem cmask_any (b : Nat) (A : Option Addr) (n c : Nat) (bs : List Int) (K : Nat) (w : World) (h : Cur w b A n c bs K) (hK : K ≤ 700000) :
    Calls Try.prog 50 #[.pointer (some ⟨b, 0, none⟩)] w fun e w' => ∃ X : Nat, e = .returned (.int .u32 (X : Int)) ∧ Hid (X < 4294967296) ∧ Hid (Cur w' b A n c bs (K + 6)) ∧ Hid (w.grownBy w' (some b)) := by
  have H := Lib.hid h
  clear h
  go_enter Try.func50, Try.ntmps50
  go_wp2_with fail
  refine (once_any b A n c bs K 12 _ H.out (by omega) (by omega) (by omega)).mono ?_
  rintro e w1 ⟨r, rfl, C1, G1⟩
  cases r with
  | true =>
    go_wp2_with fail
    refine (cword_any b A n c bs (K + 1) _ C1.out (by omega)).mono ?_
    rintro e w2 ⟨x, rfl, ⟨x0, x1⟩, C2, G2⟩
    obtain ⟨X, rfl⟩ := Int.eq_ofNat_of_zero_le x0
    go_wp2
    go_ret
    exact ⟨X, rfl, (by omega : X < 4294967296), C2.out.mono (by omega), gtrans G1.out G2.out⟩
  | false =>
    go_wp2_with fail
    refine (pick_any b A n c bs (K + 1) 256 _ C1.out (by omega) (by omega)).mono ?_
    rintro e w2 ⟨x, rfl, ⟨x0, x1⟩, C2, G2⟩
    obtain ⟨X, rfl⟩ := Int.eq_ofNat_of_zero_le x0
    have x2 : (X : Int) < 256 := by omega
    clear x1
    go_wp2
    go_ret
    exact ⟨X, rfl, (by omega : X < 4294967296), C2.out.mono (by omega), gtrans G1.out G2.out⟩

set_option maxRecDepth 100000 in
set_option maxHeartbeats 4000000 in
theorem crow_any (b : Nat) (A : Option Addr) (n c : Nat) (bs : List Int) (K : Nat) (w : World) (h : Cur w b A n c bs K) (hK : K ≤ 800000) :
    Calls Try.prog 62 #[.pointer (some ⟨b, 0, none⟩)] w fun e w' => ∃ (A' : Option Addr) (m c' : Nat) (zs : List Int), e = .returned (.slice A' m c') ∧ m ≤ 9 ∧ 6 ≤ m ∧ m ≤ c' ∧ c' ≤ maxLen ∧ Hid (Fit64 zs) ∧ Hid (RdN .i64 w' w.heap.size A' m zs) ∧ Hid (Cur w' b A n c bs (K + 11)) ∧ Hid (w.grownBy w' (some b)) := by
  have H := Lib.hid h
  have hlt := h.lt
  clear h
  go_enter Try.func62, Try.ntmps62
  go_wp2_with fail
  refine (pick_any b A n c bs K 3 _ ((H.out.alloc _).alloc _) (by omega) (by omega)).mono ?_
  rintro e w1 ⟨r1, rfl, ⟨p0, p1⟩, C1, G1⟩
  have z1 := G1.out.size
  simp only [World.size_alloc] at z1
  obtain ⟨top, ht0, ht1, hc⟩ : ∃ v : Int, 0 ≤ v ∧ v ≤ 40 ∧ w1.cell? ⟨w.heap.size + 1, r1.toNat, none⟩ = some (.int .i64 v) := by
    have hcell := lit_cell (g := w.heap.size + 1) G1.out (by have := heap_alloc_new (w.alloc (.cells #[] 3)) (.cells #[.int .i64 2, .int .i64 4, .int .i64 40] 3); rwa [World.size_alloc] at this) (by omega)
    rcases (show r1 = 0 ∨ r1 = 1 ∨ r1 = 2 by omega) with rfl | rfl | rfl
    · exact ⟨2, by omega, by omega, hcell 0⟩
    · exact ⟨4, by omega, by omega, hcell 1⟩
    · exact ⟨40, by omega, by omega, hcell 2⟩
  have p2 : r1 < 3 := by omega
  have OO : Hid (OwnK 3 .i64 w1 w.heap.size (some ⟨w.heap.size, 0, none⟩) 0 0 []) := by
    have h1 : OwnK 3 .i64 (w.alloc (.cells #[] 3)) w.heap.size (some ⟨w.heap.size, 0, none⟩) 0 0 [] := World.ownsRow_made w #[] 0 (Nat.le_refl _) (by unfold maxLen; omega) rfl
    exact (h1.alloc _).far G1.out (fun g hg e => by injection e with e; have := (OwnK.range h1 g hg).1; omega)
  have G1' : Hid (w.grownBy w1 (some b)) := gtrans (galloc (World.grownBy_alloc w _ _) _) G1.out
  clear p1 G1 H
  go_wp2
  go_loopw [3, 5] (fun v i wr => ∃ (k : Nat) (A' : Option Addr) (c' : Nat) (zs : List Int), k ≤ 8 ∧ i = .int .i64 k ∧ v = .slice A' k c' ∧ Hid (Fit64 zs) ∧ Hid (OwnK 3 .i64 wr w.heap.size A' k c' zs) ∧ Hid (Cur wr b A n c bs (K + 1 + k)) ∧ Hid (w.grownBy wr (some b))) (fun _ i _ => 8 - (intOf i).toNat)
  case atStart => exact ⟨0, _, _, [], by omega, rfl, rfl, fun z hz => by simp at hz, OO, C1, G1'⟩
  case round =>
    obtain ⟨k, A', c', zs, hk, rfl, rfl, HF, HO, HC, HG⟩ := hrel
    clear OO C1 G1' hc
    have hs : w.heap.size ≤ wr.heap.size := HG.out.size
    by_cases hlt8 : k < 8
    · have hlt8' : (k : Int) < 8 := by omega
      go_wp2_with fail
      refine (pick_any b A n c bs (K + 1 + k) top _ HC.out (by omega) (by omega)).mono ?_
      rintro e w2 ⟨r2, rfl, ⟨s0, s1⟩, C2, G2⟩
      have O2 : Hid (OwnK 3 .i64 w2 w.heap.size A' k c' zs) := HO.out.far G2.out (fun g hg e => by injection e with e; have := (OwnK.range HO.out g hg).1; omega)
      have hs2 : w.heap.size ≤ w2.heap.size := Nat.le_trans hs G2.out.size
      have G2' : Hid (w.grownBy w2 (some b)) := gtrans HG.out G2.out
      have s2 : r2 ≤ 40 := by omega
      clear s1 HO HC HG G2
      go_wp2_with (at_builtin; refine wpList_push_far rfl (.tmp 16) (.tmp 20) rfl w.heap.size k c' A' zs _ rfl rfl O2.out (by omega) hs2 ?_)
      intro A3 c3 w3 O3 G3 N3
      have G3' : Hid (w.grownBy w3 (some b)) := ⟨G3.out.os.trans G2'.out.os, G3.out.tape.trans G2'.out.tape, G3.out.output.trans G2'.out.output, Nat.le_trans hs2 G3.out.size, fun i hi hne => (G3.out.block i (by omega) (fun e => by have := (OwnK.range O2.out i e.symm).1; omega)).trans (G2'.out.block i hi hne)⟩
      have C3 : Hid (Cur w3 b A n c bs (K + 1 + (k + 1))) := C2.out.keep fun j hj => G3.out.block j (by omega) (fun e => by have := (OwnK.range O2.out j e.symm).1; omega)
      have F3 : Hid (Fit64 (zs ++ [r2])) := fun z hz => by
        rcases List.mem_append.1 hz with h | h
        · exact HF.out z h
        · simp at h; omega
      clear O2 C2 G2' G3 N3 HF
      go_wp2
      go_roundw
      case rel => exact ⟨k + 1, A3, c3, zs ++ [r2], by omega, by go_num, rfl, F3, O3, C3, G3'⟩
      case measure => simp [intOf]; omega
    · obtain rfl : k = 8 := by omega
      clear hlt8
      go_wp2_with fail
      refine (once_any b A n c bs (K + 1 + 8) 12 _ HC.out (by omega) (by omega) (by omega)).mono ?_
      rintro e w2 ⟨r, rfl, C2, G2⟩
      have O2 : Hid (OwnK 3 .i64 w2 w.heap.size A' 8 c' zs) := HO.out.far G2.out (fun g hg e => by injection e with e; have := (OwnK.range HO.out g hg).1; omega)
      have hs2 : w.heap.size ≤ w2.heap.size := Nat.le_trans hs G2.out.size
      have G2' : Hid (w.grownBy w2 (some b)) := gtrans HG.out G2.out
      clear HO HC HG G2
      cases r with
      | false =>
        go_wp2
        go_ret
        exact ⟨A', 8, c', zs, rfl, by omega, by omega, O2.out.cap.1, O2.out.cap.2, HF, O2.out.rdn, C2.out.mono (by omega), G2'⟩
      | true =>
        go_wp2_with (at_builtin; refine wpList_push_far rfl (.tmp 24) (.tmp 25) rfl w.heap.size 8 c' A' zs 1 rfl rfl O2.out (by omega) hs2 ?_)
        intro A3 c3 w3 O3 G3 N3
        have G3' : Hid (w.grownBy w3 (some b)) := ⟨G3.out.os.trans G2'.out.os, G3.out.tape.trans G2'.out.tape, G3.out.output.trans G2'.out.output, Nat.le_trans hs2 G3.out.size, fun i hi hne => (G3.out.block i (by omega) (fun e => by have := (OwnK.range O2.out i e.symm).1; omega)).trans (G2'.out.block i hi hne)⟩
        have C3 : Hid (Cur w3 b A n c bs (K + 10)) := (C2.out.keep fun j hj => G3.out.block j (by omega) (fun e => by have := (OwnK.range O2.out j e.symm).1; omega)).mono (by omega)
        have F3 : Hid (Fit64 (zs ++ [1])) := fun z hz => by
          rcases List.mem_append.1 hz with h | h
          · exact HF.out z h
          · simp at h; omega
        clear O2 C2 G2' G3 N3 HF
        go_wp2_with fail
        refine (pick_any b A n c bs (K + 10) 3 _ C3.out (by omega) (by omega)).mono ?_
        rintro e w4 ⟨r4, rfl, ⟨s0, s1⟩, C4, G4⟩
        have O4 : Hid (OwnK 3 .i64 w4 w.heap.size A3 9 c3 (zs ++ [1])) := O3.out.far G4.out (fun g hg e => by injection e with e; have := (OwnK.range O3.out g hg).1; omega)
        have G4' : Hid (w.grownBy w4 (some b)) := gtrans G3'.out G4.out
        obtain ⟨g4, rfl, hg0, hg1⟩ := O4.out.form (by omega)
        have hc4 := O4.out.cap
        have hc5 : (9 : Int) ≤ (c3 : Int) := by omega
        have hc6 : (c3 : Int) ≤ 9223372036854775807 := by have := hc4.2; unfold maxLen at this; omega
        obtain ⟨j, rfl⟩ := Int.eq_ofNat_of_zero_le s0
        have hj : j < 3 := by omega
        have hj' : (j : Int) < 3 := by omega
        clear s1 O3 C3 G3' G4
        go_wp2
        go_ret
        refine ⟨some ⟨g4, j, none⟩, 9 - j, c3 - j, (zs ++ [1]).drop j, rfl, by omega, by omega, by omega, Nat.le_trans (Nat.sub_le _ _) hc4.2, fun z hz => F3.out z (List.mem_of_mem_drop hz), ⟨by rw [List.length_drop, O4.out.len], fun _ => ⟨g4, j, rfl, hg0, hg1, fun i hi => ?_⟩⟩, C4.out.mono (by omega), G4'⟩
        rw [List.getElem?_drop]
        exact O4.out.cell rfl (by omega)

end Go.Proofs.Ytgaphgffchifcaa
