/- The contracts of the laws' big and sameMem, and how a law's argument of bytes is opened. -/
import Derived.Test.YtiliahmaolnfbaaDraw
import Derived.Test.YtiliahmaolnfbaaOpen
namespace Go.Proofs.Ytiliahmaolnfbaa
open Go.ChangeShapes Go.WideShapes Go.ChangeAt Go.RowKit

theorem cells_u8 : Try.prog.cellsOf 5 = 1 := by kernel_rfl

theorem open_bytes {H : Type} {enc : TypeId × Value → H} {W : World} {base : Nat} {v : Value} {d : DataW H} {p : List MemPlace} (hv : Value.okWide Try.prog W .any base 22 v)
    (h : DataW.Trod enc Try.prog W 0 (fun _ => true) true 22 v d p) :
    ∃ A n c bs, v = .slice A n c ∧ n ≤ maxLen ∧ RdK .u8 W W.heap.size A n bs ∧ ∀ z ∈ bs, 0 ≤ z ∧ z < 256 := by
  obtain ⟨a0, l0, c0, rfl⟩ := okWide_slice Try.underlying22 hv
  obtain ⟨fuel, hf⟩ := h
  rcases open_ints Try.underlying22 Try.underlying5 cells_u8 hf with ⟨hcs, _⟩ | ⟨x, l, c, zs, hcs, _, hl, hm, hz, _, hcell, hwz⟩
  · simp [Value.cells] at hcs
    obtain ⟨rfl, rfl, rfl⟩ := hcs
    exact ⟨_, _, _, [], rfl, by unfold maxLen; omega, RdK.zero, by simp⟩
  · simp [Value.cells] at hcs
    obtain ⟨rfl, rfl, rfl⟩ := hcs
    have hz' : zs.length = c0 := by simpa using hz
    refine ⟨_, _, _, zs.take l0, rfl, by omega, ⟨by simp; omega, fun hn => ?_⟩, fun z hzz => by have := bounds_u8 (hwz z (List.mem_of_mem_take hzz)); omega⟩
    obtain ⟨b, off, spot⟩ := x
    have h0 := hcell 0 (by omega)
    have hspot : spot = none := by simpa [Addr.add] using World.cell?_spot h0
    subst hspot
    have hblk := World.block_lt_of_cell? W _ h0
    refine ⟨b, off, rfl, by simpa [Addr.add] using hblk, fun i hi => ?_⟩
    have := hcell i (by omega)
    have e : (zs.take l0)[i]?.getD 0 = zs.getD i 0 := by simp [hi]
    rw [e, ← this]
    congr 1
    unfold Addr.add; split <;> simp_all

set_option maxHeartbeats 400000 in
theorem big_any (A : Option Addr) (n c : Nat) (w : World) :
    Calls Try.prog 16 #[.slice A n c] w fun e w' => e = .returned (.bool (decide (1048576 < (n : Int)))) ∧ w = w' := by
  go_enter Try.func16, Try.ntmps16
  go_wp2
  go_ret
  exact ⟨rfl, rfl⟩

set_option maxHeartbeats 1000000 in
theorem sameMem_any (A1 A2 : Option Addr) (n1 n2 c1 c2 B1 B2 : Nat) (z1 z2 : List Int) (w : World) (h1 : Rd w B1 A1 n1 z1) (h2 : Rd w B2 A2 n2 z2) (l1 : B1 ≤ w.heap.size) (l2 : B2 ≤ w.heap.size) (m1 : n1 ≤ 1048576) (m2 : n2 ≤ 1048576) :
    Calls Try.prog 20 #[.agg #[.slice A1 n1 c1], .agg #[.slice A2 n2 c2]] w fun e w' => e = .returned (.bool (decide (z1 = z2))) ∧ Below w.heap.size w w' := by
  have H1 : Hid (Rd ((w.alloc (.cells #[.slice A1 n1 c1] 26)).alloc (.cells #[.slice A2 n2 c2] 26)) B1 A1 n1 z1) := (h1.alloc l1 _).alloc (by simp; omega) _
  have H2 : Hid (Rd ((w.alloc (.cells #[.slice A1 n1 c1] 26)).alloc (.cells #[.slice A2 n2 c2] 26)) B2 A2 n2 z2) := (h2.alloc l2 _).alloc (by simp; omega) _
  have HL := Lib.hid h1.1
  have HM := Lib.hid h2.1
  clear h1 h2
  have BB : Hid (Below w.heap.size w ((w.alloc (.cells #[.slice A1 n1 c1] 26)).alloc (.cells #[.slice A2 n2 c2] 26))) := (by repeat (first | exact Below.refl _ _ | refine Below.drew ?_ | refine Below.setCell ?_ (by first | omega | (simp; done) | (simp; omega) | (simp [*]; done)) _ | refine Below.alloc ?_ (by first | omega | (simp; done) | (simp; omega) | (simp [*]; done)) _))
  by_cases hn : n1 = n2
  · subst hn
    have p1 : ((w.alloc (.cells #[.slice A1 n1 c1] 26)).alloc (.cells #[.slice A2 n1 c2] 26)).cell? ⟨w.heap.size, 0, none⟩ = some (.slice A1 n1 c1) := by simp
    have p2 : ((w.alloc (.cells #[.slice A1 n1 c1] 26)).alloc (.cells #[.slice A2 n1 c2] 26)).cell? ⟨w.heap.size + 1, 0, none⟩ = some (.slice A2 n1 c2) := by simp
    go_enter Try.func20, Try.ntmps20
    go_wp2
    obtain ⟨W, hW⟩ : ∃ W, W = ((w.alloc (.cells #[.slice A1 n1 c1] 26)).alloc (.cells #[.slice A2 n1 c2] 26)) := ⟨_, rfl⟩
    rw [← hW] at H1 H2 BB p1 p2 ⊢
    clear hW
    go_loopw [5] (fun i wr => ∃ k : Nat, k ≤ n1 ∧ i = .int .i64 k ∧ (∃ q, wr = W.drewN q) ∧ Hid (z1.take k = z2.take k)) (fun i _ => n1 - (intOf i).toNat)
    case atStart => exact ⟨0, Nat.zero_le _, rfl, ⟨0, rfl⟩, rfl⟩
    case round =>
      obtain ⟨k, hk, rfl, ⟨q, rfl⟩, HT⟩ := hrel
      by_cases hlt : k < n1
      · obtain ⟨g1, o1, rfl, _, hc1⟩ := H1.out.2 (by omega)
        obtain ⟨g2, o2, rfl, _, hc2⟩ := H2.out.2 (by omega)
        have q1 := hc1 k hlt
        have q2 := hc2 k hlt
        clear hc1 hc2
        by_cases he : z1[k]?.getD 0 = z2[k]?.getD 0
        · have HN := Lib.hid (take_next HT.out (by have := HL.out; omega) (by have := HM.out; omega) he)
          have hb : (z1[k]?.getD 0 != z2[k]?.getD 0) = false := by simp [he]
          clear he
          go_wp2
          go_quiet (fail)
          go_wp2
          go_roundw
          case rel => exact ⟨k + 1, by omega, by go_num, ⟨_, rfl⟩, HN.out⟩
          case measure => simp [intOf]; omega
        · have HN := Lib.hid (ne_at he)
          have hb : (z1[k]?.getD 0 != z2[k]?.getD 0) = true := by simp [he]
          clear he
          go_wp2
          go_quiet (fail)
          go_wp2
          go_ret
          exact ⟨by simp [HN.out], below_drewN (below_drewN BB.out _) _⟩
      · have HN := Lib.hid (eq_all HT.out (by have := HL.out; omega) (by have := HM.out; omega))
        go_wp2
        go_ret
        exact ⟨by simp [HN.out], below_drewN BB.out _⟩
  · have HN : Hid (¬ z1 = z2) := fun e => hn (by rw [← HL.out, ← HM.out, e])
    have hb : ((n1 : Int) != (n2 : Int)) = true := by simp; omega
    clear hn
    go_enter Try.func20, Try.ntmps20
    go_wp2
    go_ret
    exact ⟨by simp [HN.out], BB.out⟩

end Go.Proofs.Ytiliahmaolnfbaa
