/- The contract of MachNew of the program. -/
import Derived.Test.YtooegpebimpjcaaMachNewS
namespace Go.Proofs.Ytooegpebimpjcaa
open Go.RowKit
set_option linter.unusedVariables false

set_option maxRecDepth 100000 in
set_option maxHeartbeats 4000000 in
theorem machNew_any (m p : Nat) (w : World) (hm : m ≤ 16) (hp : 1 ≤ p) (hp4 : p ≤ 4) :
    Calls Try.prog 25 #[.int .i64 (m : Int), .int .i64 (p : Int)] w fun e w' => ∃ A c B d xs, e = .returned (.tuple #[.agg #[.slice A m c, .slice B p d], .bool true]) ∧ Own w' w.heap.size A m c (List.replicate m 0) ∧ OwnM w' w.heap.size B p d xs ∧ (∀ q, (Value.slice A m c).ownBlock = some q → ¬ InM B p d xs q) ∧ (∀ i, i < p → (wat xs i).v = newV) ∧ Below w.heap.size w w' := by
  have HM := Lib.hid (fun W => U.iNew m W (by omega))
  have HN := Lib.hid (fun W => warpNew_any W)
  go_enter Try.func25, Try.ntmps25
  go_wp2_with fail
  refine (HM.out _).mono ?_
  rintro e w1 ⟨A, c, rfl, ho, hb⟩
  obtain ⟨h4, h6, hB1, z1⟩ := nw2 hb
  rw [sz2] at ho
  have R0 : Hid (NewRel w w1.heap.size m c A 0 none 0 [] (w1.setCell ⟨w.heap.size + 1, 0, none⟩ (.slice A m c))) :=
    ⟨Joins.block_setCell h6 _, (Below.heap_setCell _ _ _ _ (by simp)).trans h4, ho.low (by simp) _, ⟨OwnW.zero, fun i hi => absurd hi (by omega), fun i hi => absurd hi (by omega)⟩, fun i hi => absurd hi (by omega), hB1.setCell (by simp) _, by omega, by simp, fun q hq => (World.ownsRow.lt ho q hq).2⟩
  have s0 := blkc h6 0 rfl
  have fs := blkf h6
  clear ho hb h4 h6 hB1 HM
  go_wp2
  go_loopw [30] (fun i wr => ∃ (k : Nat) (B : Option Addr) (d : Nat) (xs : List Wc), k ≤ p ∧ i = .int .i64 k ∧ Hid (NewRel w w1.heap.size m c A k B d xs wr)) (fun i _ => p - (intOf i).toNat)
  case atStart => exact ⟨0, _, _, _, Nat.zero_le _, rfl, R0⟩
  case round =>
    obtain ⟨k, B, d, xs, hk, rfl, R⟩ := hrel
    clear R0 s0 fs
    by_cases hlt : k < p
    · have hsz : w.heap.size + 1 < wr.heap.size := by have h7 := R.out.2.2.2.2.2.2.1; have h8 := R.out.2.2.2.2.2.2.2.1; omega
      have c1 : wr.cell? ⟨w.heap.size + 1, 1, none⟩ = some (.slice B k d) := blkc R.out.1 1 rfl
      have F1 : Hid (∀ w2, Below wr.drew.heap.size wr.drew w2 → w2.cell? ⟨w.heap.size + 1, 1, none⟩ = some (.slice B k d) ∧ w.heap.size + 1 < w2.heap.size ∧ Hid (OwnM w2 w1.heap.size B k d xs) ∧ w1.heap.size ≤ w2.heap.size) := fun w2 hb => by
        have hb' : Below wr.heap.size wr w2 := ((Below.refl wr.heap.size wr).drew).trans hb
        have hz := hb'.size
        have h8 := R.out.2.2.2.2.2.2.2.1
        exact ⟨(hb'.cell (p := ⟨w.heap.size + 1, 1, none⟩) hsz).trans c1, by omega, R.out.2.2.2.1.below hb', by omega⟩
      have F2 : Hid (∀ w2 w3, w.heap.size + 1 < w2.heap.size → w2.heap[w.heap.size + 1]? = some (.cells #[.slice A m c, .slice B k d] 51 (0, 0)) → Kp (fun q => some q = (Value.slice B k d).ownBlock) w2 w3 → w3.cell? ⟨w.heap.size + 1, 1, none⟩ = some (.slice B k d) ∧ (∀ i, w3.frozen? ⟨w.heap.size + 1, i, none⟩ = false)) := fun w2 w3 hz h1 hK => by
        have h7 := R.out.2.2.2.2.2.2.1
        have e1 := (hK.block _ hz (fun e => by have := R.out.2.2.2.1.lt (.inl e.symm); omega)).trans h1
        exact ⟨blkc e1 1 rfl, blkf e1⟩
      have F3 : Hid (∀ q, InM B k d xs q → q < wr.drew.heap.size) := fun q hq => (R.out.2.2.2.1.lt hq).2
      have F4 : w1.heap.size ≤ wr.drew.heap.size := R.out.2.2.2.2.2.2.2.1
      go_wp2
      go_region_law (first
        | (refine step_push_w rfl (.tmp 33) (.tmp 35) rfl w1.heap.size k d g g2 c2 d2 wr.drew.heap.size B xs (by rfl) (by rfl) O1.out F3.out V1.out G1.out F4 (by omega) s2 ?_; intro B' d' w3 O3 K3; obtain ⟨e1, e2⟩ := F2.out w2 w3 s1 q1 K3.out)
        | (go_simp; go_at_call 55; refine (HN.out _).mono ?_; rintro e w2 ⟨g, c2, g2, d2, rfl, hv, hg, hb⟩; obtain ⟨d1, s1, O1, s2⟩ := F1.out w2 hb; have V1 := Lib.hid hv; have G1 := Lib.hid hg; have q1 := (hb.block (w.heap.size + 1) hsz).trans R.out.1; have HB2 : Hid (Below wr.heap.size wr w2) := ((Below.refl wr.heap.size wr).drew).trans hb))
      all_goals
        have R1 : Hid (NewRel w w1.heap.size m c A (k + 1) B' d' _ (w3.setCell ⟨w.heap.size + 1, 1, none⟩ (.slice B' (k + 1) d'))) := new_step R.out HB2.out O3.out K3.out
        clear e1 e2 d1 c1 R O1 V1 G1 q1 HB2 O3 K3
        go_wp2
        go_roundw
        case rel => exact ⟨k + 1, _, _, _, by omega, by go_num, R1⟩
        case measure => simp [intOf]; omega
    · obtain rfl : k = p := by omega
      obtain ⟨h1, h2, h3, h4, h5, h6, h7, h8, h9⟩ := R.out
      have O3 := Lib.hid h3
      have O4 := Lib.hid h4
      have B6 := Lib.hid h6
      have V5 := Lib.hid h5
      have n9 := Lib.hid h9
      have c0 := blkc h1 0 rfl
      have c1 := blkc h1 1 rfl
      have r0 := blkc h2 0 rfl
      have r1 := blkc h2 1 rfl
      have fr := blkf h2
      clear h1 h2 h3 h4 h5 h6 h9 R
      go_wp2
      refine bodyPost_ret (v := .tuple #[.agg #[.slice A m c, .slice B k d], .bool true]) (by simp [results, Try.results25, go_sem, r0, r1]) rfl ⟨A, c, B, d, xs, rfl, ?_, ?_, ?_, V5.out, ?_⟩
      · exact Own.from_ (b0 := w.heap.size + 2) (by repeat' (first | (with_reducible exact O3.out) | (with_reducible refine Own.low ?_ ?_ _) | omega | (simp; done) | (simp; omega))) (by omega)
      · exact OwnM.from_ (b0 := w1.heap.size) (by repeat' (first | (with_reducible exact O4.out) | (with_reducible refine OwnM.low ?_ ?_ _) | omega | (simp; done) | (simp; omega))) (by omega)
      · intro q hq hi
        have a1 := n9.out q hq
        have a2 := O4.out.lt hi
        omega
      · exact (by repeat' (first | (with_reducible exact B6.out) | (with_reducible refine Below.setCell ?_ ?_ _) | (with_reducible refine Below.alloc ?_ ?_ _) | omega | (simp; done) | (simp; omega)))

set_option maxHeartbeats 1000000 in
theorem machNew_no (ch wp : Int) (w : World) (h : ¬ (0 ≤ ch ∧ ch ≤ 16 ∧ 1 ≤ wp ∧ wp ≤ 4)) :
    Calls Try.prog 25 #[.int .i64 ch, .int .i64 wp] w fun e w' => e = .returned (.tuple #[.agg #[.slice none 0 0, .slice none 0 0], .bool false]) ∧ Below w.heap.size w w' := by
  by_cases h0 : ch < 0
  · clear h
    go_enter Try.func25, Try.ntmps25
    go_wp2
    refine bodyPost_ret (v := .tuple #[.agg #[.slice none 0 0, .slice none 0 0], .bool false]) (by simp [results, Try.results25, go_sem]) rfl ⟨rfl, (by repeat (first | exact Below.refl _ _ | refine Below.drew ?_ | refine Below.setCell ?_ (by first | omega | (simp; done) | (simp; omega) | (simp [*]; done)) _ | refine Below.alloc ?_ (by first | omega | (simp; done) | (simp; omega) | (simp [*]; done)) _))⟩
  · by_cases h1 : 16 < ch
    · clear h
      go_enter Try.func25, Try.ntmps25
      go_wp2
      refine bodyPost_ret (v := .tuple #[.agg #[.slice none 0 0, .slice none 0 0], .bool false]) (by simp [results, Try.results25, go_sem]) rfl ⟨rfl, (by repeat (first | exact Below.refl _ _ | refine Below.drew ?_ | refine Below.setCell ?_ (by first | omega | (simp; done) | (simp; omega) | (simp [*]; done)) _ | refine Below.alloc ?_ (by first | omega | (simp; done) | (simp; omega) | (simp [*]; done)) _))⟩
    · by_cases h2 : wp < 1
      · clear h
        go_enter Try.func25, Try.ntmps25
        go_wp2
        refine bodyPost_ret (v := .tuple #[.agg #[.slice none 0 0, .slice none 0 0], .bool false]) (by simp [results, Try.results25, go_sem]) rfl ⟨rfl, (by repeat (first | exact Below.refl _ _ | refine Below.drew ?_ | refine Below.setCell ?_ (by first | omega | (simp; done) | (simp; omega) | (simp [*]; done)) _ | refine Below.alloc ?_ (by first | omega | (simp; done) | (simp; omega) | (simp [*]; done)) _))⟩
      · have h3 : 4 < wp := by omega
        clear h
        go_enter Try.func25, Try.ntmps25
        go_wp2
        refine bodyPost_ret (v := .tuple #[.agg #[.slice none 0 0, .slice none 0 0], .bool false]) (by simp [results, Try.results25, go_sem]) rfl ⟨rfl, (by repeat (first | exact Below.refl _ _ | refine Below.drew ?_ | refine Below.setCell ?_ (by first | omega | (simp; done) | (simp; omega) | (simp [*]; done)) _ | refine Below.alloc ?_ (by first | omega | (simp; done) | (simp; omega) | (simp [*]; done)) _))⟩

end Go.Proofs.Ytooegpebimpjcaa
