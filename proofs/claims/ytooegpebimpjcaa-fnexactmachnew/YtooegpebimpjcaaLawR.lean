/- The contracts of the laws' helpers on requests and warps: copy, compare, size, mark, held. -/
import Derived.Test.YtooegpebimpjcaaMarkF
import Derived.Test.YtooegpebimpjcaaEqI
import Derived.Test.YtooegpebimpjcaaToI
import Derived.Test.YtooegpebimpjcaaNewB
namespace Go.Proofs.Ytooegpebimpjcaa
open Go.RowKit
set_option linter.unusedVariables false

theorem szI_yes (A : Option Addr) (n c : Nat) (l : Int) (w : World) (hl : l ≤ 1048576) (hn : (n : Int) ≤ l) : Calls Try.prog 46 #[.slice A n c, .int .i64 l] w fun e w' => e = .returned (.int .i64 (l - n)) ∧ w = w' := by
  have h1 : ¬ l - (n : Int) < 0 := by omega
  have h2 : (0 : Int) ≤ n := by omega
  go_enter Try.func46, Try.ntmps46
  go_wp2
  go_ret
  exact ⟨rfl, rfl⟩

theorem szI_no (A : Option Addr) (n c : Nat) (l : Int) (w : World) (hl : l ≤ 1048576) (h0 : 0 ≤ l) (hm : n ≤ maxLen) (hn : l < (n : Int)) : Calls Try.prog 46 #[.slice A n c, .int .i64 l] w fun e w' => e = .returned (.int .i64 (-1)) ∧ w = w' := by
  unfold maxLen at hm
  have h1 : l - (n : Int) < 0 := by omega
  go_enter Try.func46, Try.ntmps46
  go_wp2
  go_ret
  exact ⟨rfl, rfl⟩

set_option maxHeartbeats 400000 in
theorem szReq_yes (kd : Int) (A : Option Addr) (n c : Nat) (l : Int) (w : World) (hl : l ≤ 1048576) (hn : (n : Int) ≤ l) : Calls Try.prog 14 #[.agg #[.int .i64 kd, .slice A n c], .int .i64 l] w fun e w' => e = .returned (.int .i64 (l - n)) ∧ Below w.heap.size w w' := by
  have h1 : ¬ l - (n : Int) < 0 := by omega
  have HS := Lib.hid (fun W => szI_yes A n c l W hl hn)
  have h2 : (0 : Int) ≤ n := by omega
  clear hn
  go_enter Try.func14, Try.ntmps14
  go_wp2_with fail
  refine (HS.out _).mono ?_
  rintro e w1 ⟨rfl, rfl⟩
  go_wp2
  go_ret
  exact ⟨rfl, (Below.refl _ _).alloc (Nat.le_refl _) _⟩

set_option maxHeartbeats 400000 in
theorem szReq_no (kd : Int) (A : Option Addr) (n c : Nat) (l : Int) (w : World) (hl : l ≤ 1048576) (h0 : 0 ≤ l) (hm : n ≤ maxLen) (hn : l < (n : Int)) : Calls Try.prog 14 #[.agg #[.int .i64 kd, .slice A n c], .int .i64 l] w fun e w' => e = .returned (.int .i64 (-1)) ∧ Below w.heap.size w w' := by
  have HS := Lib.hid (fun W => szI_no A n c l W hl h0 hm hn)
  clear hn hm
  go_enter Try.func14, Try.ntmps14
  go_wp2_with fail
  refine (HS.out _).mono ?_
  rintro e w1 ⟨rfl, rfl⟩
  go_wp2
  go_ret
  exact ⟨rfl, (Below.refl _ _).alloc (Nat.le_refl _) _⟩

set_option maxHeartbeats 1000000 in
theorem toReq_any (kd : Int) (A : Option Addr) (n c B : Nat) (zs : List Int) (w : World) (h : RdK .i64 w B A n zs) (hB : B ≤ w.heap.size) (hn : n ≤ 1048576) :
    Calls Try.prog 17 #[.agg #[.int .i64 kd, .slice A n c]] w fun e w' => ∃ g, e = .returned (.agg #[.int .i64 kd, .slice (some ⟨g, 0, none⟩) n n]) ∧ OwnK 3 .i64 w' w.heap.size (some ⟨g, 0, none⟩) n n zs ∧ Below w.heap.size w w' := by
  have HT : Hid (∀ W, Below w.heap.size w W → Calls Try.prog 52 #[.slice A n c] W fun e w' => ∃ g, e = .returned (.slice (some ⟨g, 0, none⟩) n n) ∧ OwnK 3 .i64 w' W.heap.size (some ⟨g, 0, none⟩) n n zs ∧ Below W.heap.size W w') := fun W hb => toI_any A n c B zs W (h.below (hb.mono hB)) (Nat.le_trans hB hb.size) hn
  clear h hB hn
  go_enter Try.func17, Try.ntmps17
  go_wp2_with fail
  refine (HT.out _ (by repeat (first | exact Below.refl _ _ | refine Below.drew ?_ | refine Below.setCell ?_ (by first | omega | (simp; done) | (simp; omega) | (simp [*]; done)) _ | refine Below.alloc ?_ (by first | omega | (simp; done) | (simp; omega) | (simp [*]; done)) _))).mono ?_
  rintro e w4 ⟨g, rfl, ho, hb⟩
  rw [sz3] at ho
  have O4 := Lib.hid ho
  obtain ⟨_, hr, ha, hB4, z4⟩ := nw3 hb
  have B4 := Lib.hid hB4
  have a0 := blkc ha 0 rfl
  have a1 := blkc ha 1 rfl
  have r0 := blkc hr 0 rfl
  have r1 := blkc hr 1 rfl
  have fa := blkf ha
  have fr := blkf hr
  clear ho hb HT hr ha hB4
  go_wp2
  refine bodyPost_ret (v := .agg #[.int .i64 kd, .slice (some ⟨g, 0, none⟩) n n]) (by simp [results, Try.results17, go_sem, r0, r1]) rfl ⟨g, rfl, ?_, ?_⟩
  · have := O4.out
    exact OwnK.from_ (b0 := w.heap.size + 3) (by repeat (first | exact this | refine OwnK.low ?_ (by first | omega | (simp; done) | (simp; omega) | (simp [*]; done)) _)) (by omega)
  · exact (by repeat (first | exact B4.out | refine Below.setCell ?_ (by first | omega | (simp; done) | (simp; omega)) _))

set_option maxHeartbeats 1000000 in
theorem eqReq_any (kd : Int) (A1 A2 : Option Addr) (n c1 c2 B1 B2 : Nat) (zs : List Int) (w : World) (h1 : RdK .i64 w B1 A1 n zs) (h2 : RdK .i64 w B2 A2 n zs) (hB1 : B1 ≤ w.heap.size) (hB2 : B2 ≤ w.heap.size) (hm : n ≤ maxLen) :
    Calls Try.prog 20 #[.agg #[.int .i64 kd, .slice A1 n c1], .agg #[.int .i64 kd, .slice A2 n c2]] w fun e w' => e = .returned (.bool true) ∧ Below w.heap.size w w' := by
  have HE : Hid (∀ W, Below w.heap.size w W → Calls Try.prog 57 #[.slice A1 n c1, .slice A2 n c2] W fun e w' => e = .returned (.bool true) ∧ ∃ k, w' = W.drewN k) := fun W hb => (eqI_any A1 A2 n n c1 c2 B1 B2 zs zs W (h1.below (hb.mono hB1)) (h2.below (hb.mono hB2)) hm hm).mono fun e w' ⟨he, hk⟩ => ⟨by rw [he]; simp, hk⟩
  clear h1 h2 hm
  have hbb : (kd != kd) = false := by simp
  go_enter Try.func20, Try.ntmps20
  go_wp2_with fail
  refine (HE.out _ (by repeat (first | exact Below.refl _ _ | refine Below.drew ?_ | refine Below.setCell ?_ (by first | omega | (simp; done) | (simp; omega) | (simp [*]; done)) _ | refine Below.alloc ?_ (by first | omega | (simp; done) | (simp; omega) | (simp [*]; done)) _))).mono ?_
  rintro e w1 ⟨rfl, k, rfl⟩
  go_wp2
  go_ret
  exact ⟨rfl, ⟨rfl, rfl, rfl, by simp [World.drewN]; omega, fun i hi => by simpa using (((Below.refl _ w).alloc (Nat.le_refl _) (.cells #[.int .i64 kd, .slice A1 n c1] 39)).alloc (by simp) (.cells #[.int .i64 kd, .slice A2 n c2] 39)).block i hi⟩⟩

end Go.Proofs.Ytooegpebimpjcaa
