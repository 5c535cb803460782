/- The contract of LiveOk, the model's: it tells whether the blocks are accepted. -/
import Derived.Test.YthcchnaoenjhlaaLiveM
namespace Go.Proofs.Ythcchnaoenjhlaa
open Go.RowKit

set_option maxHeartbeats 1000000 in
theorem sLiveOk_any (A : Option Addr) (n c B : Nat) (ps : List (Int × Int)) (z : Int) (w : World) (h : RdP w B A n ps) (hB : B ≤ w.heap.size) (hm : n ≤ maxLen) (hW : WfP ps) :
    Calls Try.prog 40 #[.slice A n c, .int .i64 z] w fun e w' => e = .returned (.bool (liveOkV ps z)) ∧ Below w.heap.size w w' := by
  unfold maxLen at hm
  by_cases hin : 0 ≤ z ∧ z ≤ 256 ∧ n ≤ 300
  · obtain ⟨h0, h1, hn⟩ := hin
    have hn' : ¬ (300 : Int) < (n : Int) := by omega
    have hz1 : ¬ z < 0 := by omega
    have hz2 : ¬ (256 : Int) < z := by omega
    have HV : Hid (liveOkV ps z = okFrom z 0 (ps.drop 0)) := by
      unfold liveOkV
      rw [h.1, decide_eq_true ⟨h0, h1, hn⟩]
      rfl
    have HL := Lib.hid h.1
    have H2 := Lib.hid h.2
    have HW := Lib.hid hW
    clear h hW
    go_enter Try.func40, Try.ntmps40
    go_wp2
    go_loopw [5, 6] (fun e i wr => ∃ (k : Nat) (E : Int), k ≤ n ∧ i = .int .i64 k ∧ e = .int .i64 E ∧ 0 ≤ E ∧ E ≤ z ∧ Hid (liveOkV ps z = okFrom z E (ps.drop k)) ∧ Hid (Below w.heap.size w wr)) (fun _ i _ => n - (intOf i).toNat)
    case atStart => exact ⟨0, 0, Nat.zero_le _, rfl, rfl, Int.le_refl _, h0, HV, Below.refl _ _⟩
    case round =>
      obtain ⟨k, E, hk, rfl, rfl, hE0, hE1, HK, HBr⟩ := hrel
      clear HV
      by_cases hlt : k < n
      · obtain ⟨g, o, rfl, hg, hc⟩ := H2.out (by omega)
        have c1 : wr.cell? ⟨g, o + k * 2, none⟩ = some (.int .i64 (pa ps k)) := (HBr.out.cell (p := ⟨g, o + k * 2, none⟩) (by show g < _; omega)).trans (hc k hlt).1
        have c2 : wr.cell? ⟨g, o + k * 2 + 1, none⟩ = some (.int .i64 (pb ps k)) := (HBr.out.cell (p := ⟨g, o + k * 2 + 1, none⟩) (by show g < _; omega)).trans (hc k hlt).2
        have HB2 : ∀ x y, Hid (Below w.heap.size w (wr.alloc (.cells #[x, y] 71))) := fun x y => HBr.out.alloc HBr.out.size _
        have hkl : k < ps.length := by rw [HL.out]; exact hlt
        obtain ⟨⟨p1, p2⟩, ⟨q1, q2⟩⟩ := HW.out.at k
        have HNo := fun h => HK.out.trans (okFrom_no (z := z) (e := E) hkl h)
        have HYes := fun h1 h2 h3 => HK.out.trans (okFrom_yes (z := z) (e := E) hkl h1 h2 h3)
        generalize pa ps k = x at *
        generalize pb ps k = y at *
        clear hc
        by_cases d1 : x < E
        · have HR := Lib.hid (HNo (.inl d1))
          clear HNo HYes
          go_wp2
          go_ret
          exact ⟨by rw [HR.out]; rfl, (HB2 _ _).out⟩
        · by_cases d2 : y < 1
          · have HR := Lib.hid (HNo (.inr (.inl d2)))
            clear HNo HYes
            go_wp2
            go_ret
            exact ⟨by rw [HR.out]; rfl, (HB2 _ _).out⟩
          · by_cases d3 : z - x < y
            · have HR := Lib.hid (HNo (.inr (.inr (by omega))))
              clear HNo HYes
              go_wp2
              all_goals (go_ret; exact ⟨by rw [HR.out]; rfl, (HB2 _ _).out⟩)
            · have HR := Lib.hid (HYes (by omega) (by omega) (by omega))
              clear HNo HYes
              go_wp2
              go_roundw
              case rel => exact ⟨k + 1, x + y, by omega, by go_num, by go_num, by omega, by omega, HR, HB2 _ _⟩
              case measure => simp [intOf]; omega
      · have HR := Lib.hid (HK.out.trans (okFrom_end (by rw [HL.out]; omega)))
        go_wp2
        go_ret
        exact ⟨by rw [HR.out]; rfl, HBr.out⟩
  · have HR : Hid (liveOkV ps z = false) := by
      unfold liveOkV
      rw [h.1, decide_eq_false hin]
      rfl
    clear h hW
    by_cases d1 : z < 0
    · clear hin
      go_enter Try.func40, Try.ntmps40
      go_wp2
      go_ret
      exact ⟨by rw [HR.out]; rfl, Below.refl _ _⟩
    · by_cases d2 : (256 : Int) < z
      · clear hin
        go_enter Try.func40, Try.ntmps40
        go_wp2
        go_ret
        exact ⟨by rw [HR.out]; rfl, Below.refl _ _⟩
      · have d3 : (300 : Int) < (n : Int) := by omega
        clear hin
        go_enter Try.func40, Try.ntmps40
        go_wp2
        go_ret
        exact ⟨by rw [HR.out]; rfl, Below.refl _ _⟩

end Go.Proofs.Ythcchnaoenjhlaa
