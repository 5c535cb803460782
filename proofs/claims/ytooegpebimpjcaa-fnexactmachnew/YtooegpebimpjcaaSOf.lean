/- The contracts of the model's BitsOf, MaskOf, TakeLow and FreeLow. -/
import Derived.Test.YtooegpebimpjcaaOrMath
namespace Go.Proofs.Ytooegpebimpjcaa
open Go.RowKit

theorem wordL_bitL {y : Nat} (h : y < 4294967296) : wordL (bitL y 32) = (y : Int) := by
  have := wordL_or 32 y y h h
  simpa [bitL, Int.max_self] using this
theorem bitL_set {y j : Nat} (hj : j < 32) : (bitL y 32).set j 1 = bitL (y ||| 2 ^ j) 32 := by
  refine List.ext_getElem (by simp [bitL]) fun i h1 h2 => ?_
  simp only [bitL, List.getElem_set, List.getElem_map, List.getElem_range]
  rw [← Nat.toNat_testBit, ← Nat.toNat_testBit, Nat.testBit_or, Nat.testBit_two_pow]
  by_cases e : j = i
  · simp [e]
  · simp [e]
theorem bitL_bits (y : Nat) : ∀ b ∈ bitL y 32, 0 ≤ b ∧ b ≤ 1 := by
  intro b hb
  obtain ⟨i, _, rfl⟩ := List.mem_map.1 hb
  omega
theorem bitL_zero : bitL 0 32 = List.replicate 32 0 := by decide
theorem bit_mod (y j : Nat) : y.testBit j = true ↔ y / 2 ^ j % 2 = 1 := by rw [Nat.testBit_eq_decide_div_mod_eq]; simp

/-- What reading a list of bits answers. -/
def ofA (l : List Int) : Nat := (bitsG 0 l).getD 0
def ofB (l : List Int) : Bool := (bitsG 0 l).isSome

set_option maxRecDepth 100000 in
set_option maxHeartbeats 2000000 in
theorem sBitsOf_any (A : Option Addr) (n c B : Nat) (l : List Int) (w : World) (h : RdK .i64 w B A n l) (hB : B ≤ w.heap.size) (hn : n ≤ 1048576) :
    Calls Try.prog 50 #[.slice A n c] w fun e w' => e = .returned (.tuple #[.int .u32 (ofA l : Int), .bool (ofB l)]) ∧ Below w.heap.size w w' := by
  obtain ⟨i0, hi, hz0, hz1, hz2⟩ := info_parts info_int
  have hb2 : i0.bytes * 32 ≤ 281474976710656 := by rw [hz2]; omega
  have hb3 : 32 ≤ maxLen := by unfold maxLen; omega
  have HL := Lib.hid h.1
  have H2 := Lib.hid h.2
  have HI := Lib.hid hi
  have HZ0 := Lib.hid hz0
  have HZ1 := Lib.hid hz1
  clear h hi hz0 hz1 hz2
  go_enter Try.func50, Try.ntmps50
  go_wp2_with (at_make; refine wpList_make_full _ rfl _ _ 27 rfl w.heap.size 3 i0 (.int .i64 0) 1 Try.underlying27 HI.out HZ0.out HZ1.out .i64 .i64 _ _ 32 rfl rfl rfl rfl hb2 hb3 (Nat.le_refl _) ?_)
  intro w1 hown hgr
  have HO : Hid (OwnK 3 .i64 w1 w.heap.size (some ⟨w.heap.size, 0, none⟩) 32 32 (bitL 0 32)) := by
    have := toList_madeCells_one (.int .i64 0) 32
    have h3 : w1.ownsRow w.heap.size 3 1 (.slice (some ⟨w.heap.size, 0, none⟩) 32 32) 32 (List.replicate 32 (.int .i64 0)) := this ▸ hown
    show w1.ownsRow _ _ _ _ _ ((bitL 0 32).map _)
    rw [bitL_zero, List.map_replicate]
    exact h3
  have HB : Hid (Below w.heap.size w w1) := (Below.refl _ _).grown hgr (Nat.le_refl _) (by simp)
  clear hown hgr
  go_wp2
  go_loopw [5] (fun i wr => ∃ k y : Nat, k ≤ n ∧ i = .int .i64 k ∧ Hid (y < 4294967296) ∧ Hid (bitsG 0 l = bitsG y (l.drop k)) ∧ Hid (OwnK 3 .i64 wr w.heap.size (some ⟨w.heap.size, 0, none⟩) 32 32 (bitL y 32)) ∧ Hid (Below w.heap.size w wr)) (fun i _ => n - (intOf i).toNat)
  case atStart => exact ⟨0, 0, Nat.zero_le _, rfl, (by omega : 0 < 4294967296), (by simp : bitsG 0 l = bitsG 0 (l.drop 0)), HO, HB⟩
  case round =>
    obtain ⟨k, y, hk, rfl, HY, HG, HOr, HBr⟩ := hrel
    clear HO HB
    by_cases hlt : k < n
    · obtain ⟨g, o, rfl, hg, hc⟩ := H2.out (by omega)
      have c1 : wr.cell? ⟨g, o + k, none⟩ = some (.int .i64 (l[k]?.getD 0)) := (HBr.out.cell (p := ⟨g, o + k, none⟩) (by show g < _; omega)).trans (hc k hlt)
      have HS := Lib.hid (bitsG_next (a := y) (l := l) (i := k) (by have := HL.out; omega))
      clear hc
      generalize l[k]?.getD 0 = z at *
      by_cases h0 : z < 0
      · have HE : Hid (bitsG 0 l = none) := by
          show _ = _
          rw [HG.out, HS.out, if_pos (.inl h0)]
        clear HS HG
        go_wp2
        go_ret2
        exact ⟨by simp only [ofA, ofB, HE.out]; rfl, HBr.out⟩
      · by_cases h31 : 31 < z
        · have HE : Hid (bitsG 0 l = none) := by
            show _ = _
            rw [HG.out, HS.out, if_pos (.inr (.inl h31))]
          clear HS HG
          go_wp2
          go_ret2
          exact ⟨by simp only [ofA, ofB, HE.out]; rfl, HBr.out⟩
        · obtain ⟨j, rfl⟩ := Int.eq_ofNat_of_zero_le (show 0 ≤ z by omega)
          have hj : j < 32 := by omega
          have c2 := HOr.out.cell rfl hj
          have f2 := HOr.out.free rfl j
          rw [bitL_at y 32 j hj] at c2
          by_cases ht : y / 2 ^ j % 2 = 1
          · have HE : Hid (bitsG 0 l = none) := by
              show _ = _
              rw [HG.out, HS.out, if_pos (.inr (.inr ((bit_mod _ _).2 ht)))]
            rw [ht] at c2
            clear HS HG
            go_wp2
            go_ret2
            exact ⟨by simp only [ofA, ofB, HE.out]; rfl, HBr.out⟩
          · have HE : Hid (bitsG 0 l = bitsG (y ||| 2 ^ j) (l.drop (k + 1))) := by
              show _ = _
              rw [HG.out, HS.out, if_neg (by
                rintro (h5 | h5 | h5)
                · omega
                · omega
                · exact ht ((bit_mod _ _).1 h5))]
              rfl
            have ht0 : y / 2 ^ j % 2 = 0 := by omega
            rw [ht0] at c2
            have HN : Hid (OwnK 3 .i64 (wr.setCell ⟨w.heap.size, j, none⟩ (.int .i64 1)) w.heap.size (some ⟨w.heap.size, 0, none⟩) 32 32 (bitL (y ||| 2 ^ j) 32)) := by
              rw [← bitL_set hj]; exact HOr.out.store
            have HM : Hid (Below w.heap.size w (wr.setCell ⟨w.heap.size, j, none⟩ (.int .i64 1))) := HBr.out.setCell (Nat.le_refl _) _
            have HY2 : Hid (y ||| 2 ^ j < 4294967296) := Nat.or_lt_two_pow (n := 32) (by have := HY.out; omega) (Nat.pow_lt_pow_right (by omega) hj)
            clear HS HG HOr HBr ht ht0
            go_wp2
            go_roundw
            case rel => exact ⟨k + 1, _, by omega, by go_num, HY2, HE, HN, HM⟩
            case measure => simp [intOf]; omega
    · have HE : Hid (bitsG 0 l = some y) := by
        show _ = _
        rw [HG.out, bitsG_end (by have := HL.out; omega)]
      have HW := word_any (some ⟨w.heap.size, 0, none⟩) 32 _ _ wr HOr.out.rd (bitL_bits y)
      rw [wordL_bitL HY.out] at HW
      have CW := Lib.hid HW
      clear HG HW
      go_wp2_with fail
      refine CW.out.mono ?_
      rintro e w2 ⟨rfl, rfl⟩
      go_wp2
      go_ret2
      exact ⟨by simp only [ofA, ofB, HE.out]; rfl, HBr.out⟩

theorem RdK.take {kd : IntKind} {w : World} {B : Nat} {A : Option Addr} {n m : Nat} {zs : List Int} (h : RdK kd w B A n zs) (hm : m ≤ n) : RdK kd w B A m (zs.take m) :=
  ⟨by rw [List.length_take, h.1]; omega, fun h0 => by
    obtain ⟨g, o, e, hg, hc⟩ := h.2 (by omega)
    refine ⟨g, o, e, hg, fun i hi => ?_⟩
    rw [hc i (by omega)]
    simp [hi]⟩
theorem OwnK.cap {e : TypeId} {kd : IntKind} {w : World} {b0 n c : Nat} {A : Option Addr} {zs : List Int} (h : OwnK e kd w b0 A n c zs) : n ≤ c ∧ c ≤ maxLen := by
  rcases h.2 with ⟨hv, h0⟩ | ⟨g, cap, cur, hv, r⟩
  · injection hv with h1 h2 h3
    unfold maxLen
    omega
  · injection hv with h1 h2 h3
    obtain ⟨_, _, r1, r2, _⟩ := r
    omega

theorem take_ints (l : List Nat) (m : Nat) : (ints l).take m = ints (l.take m) := by simp [ints]

end Go.Proofs.Ytooegpebimpjcaa
