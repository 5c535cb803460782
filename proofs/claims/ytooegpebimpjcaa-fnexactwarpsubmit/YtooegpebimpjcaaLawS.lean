/- The laws' markIntS and heldIntS from any start: mark writes q, q + 1, .. into a slice of the call's own, held finds them there. -/
/- The contracts of the laws' helpers on requests and warps: copy, compare, size, mark, held. -/
/- The contracts of the laws' helpers on warps: copy, compare, size, mark, held. -/
/- The laws' markReq, and what a region that makes a warp's variable needs. -/
import Derived.Test.YtooegpebimpjcaaOwnK
import Derived.Test.YtooegpebimpjcaaToI
import Derived.Test.YtooegpebimpjcaaKp
import Derived.Test.YtooegpebimpjcaaIWarp
import Derived.Test.YtooegpebimpjcaaISubmit
import Derived.Lib.SmallJoins
namespace Go.Proofs.Ytooegpebimpjcaa
open Go.RowKit

/-- q, q + 1, .., n of them. -/
def marksF (q : Int) (n : Nat) : List Int := (List.range n).map (fun i : Nat => q + (i : Int))
def markFTo (q : Int) (zs : List Int) (k : Nat) : List Int := marksF q k ++ zs.drop k
theorem markF_next {q : Int} {zs : List Int} {k : Nat} (h : k < zs.length) : (markFTo q zs k).set k (q + (k : Int)) = markFTo q zs (k + 1) := by
  unfold markFTo marksF
  rw [List.range_succ, List.map_append, List.drop_eq_getElem_cons h, List.set_append]
  simp
  rw [List.drop_eq_getElem_cons h]
  rfl
theorem markF_all {q : Int} {zs : List Int} {k n : Nat} (h : zs.length = n) (hk : n ≤ k) (hk' : k ≤ n) : markFTo q zs k = marksF q n := by
  obtain rfl : k = n := by omega
  unfold markFTo
  rw [List.drop_eq_nil_of_le (by omega)]; simp
theorem marksF_at {q : Int} {n k : Nat} (h : k < n) : (marksF q n)[k]?.getD 0 = q + (k : Int) := by simp [marksF, h]

set_option maxHeartbeats 1000000 in
theorem markF_one {ty : TypeId} (g n c b0 : Nat) (q : Int) (zs : List Int) (w : World) (h : OwnK ty .i64 w b0 (some ⟨g, 0, none⟩) n c zs) (hn : n ≤ 2000000) (h0 : 0 ≤ q) (h1 : q ≤ 100000000) :
    Calls Try.prog 58 #[.slice (some ⟨g, 0, none⟩) n c, .int .i64 q] w fun e w' => e = .returned (.int .i64 (q + n)) ∧ OwnK ty .i64 w' b0 (some ⟨g, 0, none⟩) n c (marksF q n) ∧ w.grownBy w' (some g) := by
  have H := Lib.hid h
  have HL := Lib.hid h.len
  clear h
  go_enter Try.func58, Try.ntmps58
  go_wp2
  go_loopw [1, 5] (fun p i wr => ∃ k : Nat, k ≤ n ∧ i = .int .i64 k ∧ p = .int .i64 (q + k) ∧ Hid (OwnK ty .i64 wr b0 (some ⟨g, 0, none⟩) n c (markFTo q zs k)) ∧ Hid (w.grownBy wr (some g))) (fun _ i _ => n - (intOf i).toNat)
  case atStart => exact ⟨0, Nat.zero_le _, rfl, by simp, by simpa [markFTo, marksF] using H, World.grownBy.refl _ _⟩
  case round =>
    obtain ⟨k, hk, rfl, rfl, HO, HG⟩ := hrel
    by_cases hlt : k < n
    · have c2 := HO.out.cell rfl hlt
      have f2 := HO.out.free rfl k
      have HN : Hid (OwnK ty .i64 (wr.setCell ⟨g, k, none⟩ (.int .i64 (q + (k : Int)))) b0 (some ⟨g, 0, none⟩) n c (markFTo q zs (k + 1))) := by
        rw [← markF_next (by have := HL.out; omega)]; exact HO.out.store
      have HM : Hid (w.grownBy (wr.setCell ⟨g, k, none⟩ (.int .i64 (q + (k : Int)))) (some g)) :=
        ⟨HG.out.os, HG.out.tape, HG.out.output, by simpa [World.setCell] using HG.out.size, fun i hi hne => (Below.heap_setCell wr ⟨g, k, none⟩ _ i (fun e => hne (by simp [e]))).trans (HG.out.block i hi hne)⟩
      clear HO HG
      go_wp2
      go_roundw
      case rel => exact ⟨k + 1, by omega, by go_num, by go_num, HN, HM⟩
      case measure => simp [intOf]; omega
    · go_wp2
      go_ret
      have e := markF_all (q := q) HL.out (show n ≤ k by omega) hk
      refine ⟨?_, by rw [← e]; exact HO.out, HG.out⟩
      have : k = n := by omega
      rw [this]
      rfl

theorem markF_zero (q : Int) (w : World) : Calls Try.prog 58 #[.slice none 0 0, .int .i64 q] w fun e w' => e = .returned (.int .i64 q) ∧ w = w' := by
  go_enter Try.func58, Try.ntmps58
  go_wp2
  refine wp_loop_rounds 1 ?_
  rw [rounds_succ]
  go_wp2
  go_ret
  exact ⟨rfl, rfl⟩

theorem markF_any {ty : TypeId} (A : Option Addr) (n c b0 : Nat) (q : Int) (zs : List Int) (w : World) (h : OwnK ty .i64 w b0 A n c zs) (hn : n ≤ 2000000) (h0 : 0 ≤ q) (h1 : q ≤ 100000000) :
    Calls Try.prog 58 #[.slice A n c, .int .i64 q] w fun e w' => e = .returned (.int .i64 (q + n)) ∧ OwnK ty .i64 w' b0 A n c (marksF q n) ∧ w.grownBy w' (Value.slice A n c).ownBlock := by
  rcases h.2 with ⟨hv, hz⟩ | ⟨g, cap, cur, hv, _⟩
  · injection hv with h2 h3 h4
    subst h2 h3 h4
    exact (markF_zero q w).mono fun e w' ⟨h5, h6⟩ => ⟨by rw [h5]; simp, World.ownsRow_nil _ _ _ _, h6 ▸ World.grownBy.refl _ _⟩
  · injection hv with h2 h3 h4
    subst h2 h4
    exact markF_one g n c b0 q zs w h hn h0 h1

set_option maxHeartbeats 1000000 in
theorem heldF_any (A : Option Addr) (n c B : Nat) (q : Int) (w : World) (h : RdK .i64 w B A n (marksF q n)) (hn : n ≤ 2000000) (h0 : 0 ≤ q) (h1 : q ≤ 100000000) :
    Calls Try.prog 59 #[.slice A n c, .int .i64 q] w fun e w' => e = .returned (.int .i64 (q + n)) ∧ w = w' := by
  have H2 := Lib.hid h.2
  clear h
  go_enter Try.func59, Try.ntmps59
  go_wp2
  go_loop [1, 5] (fun p i => ∃ k : Nat, k ≤ n ∧ i = .int .i64 k ∧ p = .int .i64 (q + k)) (fun _ i => n - (intOf i).toNat)
  case atStart => exact ⟨0, Nat.zero_le _, rfl, by simp⟩
  case round =>
    obtain ⟨k, hk, rfl, rfl⟩ := hrel
    by_cases hlt : k < n
    · obtain ⟨g, o, rfl, _, hc⟩ := H2.out (by omega)
      have c1 := hc k hlt
      rw [marksF_at hlt] at c1
      clear hc
      go_wp2
      go_round
      case rel => exact ⟨k + 1, by omega, by go_num, by go_num⟩
      case measure => simp [intOf]; omega
    · go_wp2
      go_ret
      have : k = n := by omega
      rw [this]
      exact ⟨rfl, rfl⟩

end Go.Proofs.Ytooegpebimpjcaa

namespace Go.Proofs.Ytooegpebimpjcaa
open Go.RowKit
set_option linter.unusedVariables false

theorem szI_yes (A : Option Addr) (n c : Nat) (l : Int) (w : World) (hl : l ≤ 1048576) (hn : (n : Int) ≤ l) : Calls Try.prog 46 #[.slice A n c, .int .i64 l] w fun e w' => e = .returned (.int .i64 (l - n)) ∧ w = w' := by
  have h1 : ¬ l - (n : Int) < 0 := by omega
  have h2 : (0 : Int) ≤ n := by omega
  go_enter Try.func46, Try.ntmps46
  go_wp2
  go_ret
  exact ⟨rfl, rfl⟩

theorem szI_no (A : Option Addr) (n c : Nat) (l : Int) (w : World) (hl : l ≤ 1048576) (h0 : 0 ≤ l) (hm : n ≤ maxLen) (hn : l < (n : Int)) : Calls Try.prog 46 #[.slice A n c, .int .i64 l] w fun e w' => e = .returned (.int .i64 (-1)) ∧ w = w' := by
  unfold maxLen at hm
  have h1 : l - (n : Int) < 0 := by omega
  go_enter Try.func46, Try.ntmps46
  go_wp2
  go_ret
  exact ⟨rfl, rfl⟩

set_option maxHeartbeats 400000 in
theorem szReq_yes (kd : Int) (A : Option Addr) (n c : Nat) (l : Int) (w : World) (hl : l ≤ 1048576) (hn : (n : Int) ≤ l) : Calls Try.prog 14 #[.agg #[.int .i64 kd, .slice A n c], .int .i64 l] w fun e w' => e = .returned (.int .i64 (l - n)) ∧ Below w.heap.size w w' := by
  have h1 : ¬ l - (n : Int) < 0 := by omega
  have HS := Lib.hid (fun W => szI_yes A n c l W hl hn)
  have h2 : (0 : Int) ≤ n := by omega
  clear hn
  go_enter Try.func14, Try.ntmps14
  go_wp2_with fail
  refine (HS.out _).mono ?_
  rintro e w1 ⟨rfl, rfl⟩
  go_wp2
  go_ret
  exact ⟨rfl, (Below.refl _ _).alloc (Nat.le_refl _) _⟩

set_option maxHeartbeats 400000 in
theorem szReq_no (kd : Int) (A : Option Addr) (n c : Nat) (l : Int) (w : World) (hl : l ≤ 1048576) (h0 : 0 ≤ l) (hm : n ≤ maxLen) (hn : l < (n : Int)) : Calls Try.prog 14 #[.agg #[.int .i64 kd, .slice A n c], .int .i64 l] w fun e w' => e = .returned (.int .i64 (-1)) ∧ Below w.heap.size w w' := by
  have HS := Lib.hid (fun W => szI_no A n c l W hl h0 hm hn)
  clear hn hm
  go_enter Try.func14, Try.ntmps14
  go_wp2_with fail
  refine (HS.out _).mono ?_
  rintro e w1 ⟨rfl, rfl⟩
  go_wp2
  go_ret
  exact ⟨rfl, (Below.refl _ _).alloc (Nat.le_refl _) _⟩

set_option maxHeartbeats 1000000 in
theorem toReq_any (kd : Int) (A : Option Addr) (n c B : Nat) (zs : List Int) (w : World) (h : RdK .i64 w B A n zs) (hB : B ≤ w.heap.size) (hn : n ≤ 1048576) :
    Calls Try.prog 17 #[.agg #[.int .i64 kd, .slice A n c]] w fun e w' => ∃ g, e = .returned (.agg #[.int .i64 kd, .slice (some ⟨g, 0, none⟩) n n]) ∧ OwnK 3 .i64 w' w.heap.size (some ⟨g, 0, none⟩) n n zs ∧ Below w.heap.size w w' := by
  have HT : Hid (∀ W, Below w.heap.size w W → Calls Try.prog 52 #[.slice A n c] W fun e w' => ∃ g, e = .returned (.slice (some ⟨g, 0, none⟩) n n) ∧ OwnK 3 .i64 w' W.heap.size (some ⟨g, 0, none⟩) n n zs ∧ Below W.heap.size W w') := fun W hb => toI_any A n c B zs W (h.below (hb.mono hB)) (Nat.le_trans hB hb.size) hn
  clear h hB hn
  go_enter Try.func17, Try.ntmps17
  go_wp2_with fail
  refine (HT.out _ (by repeat (first | exact Below.refl _ _ | refine Below.drew ?_ | refine Below.setCell ?_ (by first | omega | (simp; done) | (simp; omega) | (simp [*]; done)) _ | refine Below.alloc ?_ (by first | omega | (simp; done) | (simp; omega) | (simp [*]; done)) _))).mono ?_
  rintro e w4 ⟨g, rfl, ho, hb⟩
  rw [sz3] at ho
  have O4 := Lib.hid ho
  obtain ⟨_, hr, ha, hB4, z4⟩ := nw3 hb
  have B4 := Lib.hid hB4
  have a0 := blkc ha 0 rfl
  have a1 := blkc ha 1 rfl
  have r0 := blkc hr 0 rfl
  have r1 := blkc hr 1 rfl
  have fa := blkf ha
  have fr := blkf hr
  clear ho hb HT hr ha hB4
  go_wp2
  refine bodyPost_ret (v := .agg #[.int .i64 kd, .slice (some ⟨g, 0, none⟩) n n]) (by simp [results, Try.results17, go_sem, r0, r1]) rfl ⟨g, rfl, ?_, ?_⟩
  · have := O4.out
    exact OwnK.from_ (b0 := w.heap.size + 3) (by repeat (first | exact this | refine OwnK.low ?_ (by first | omega | (simp; done) | (simp; omega) | (simp [*]; done)) _)) (by omega)
  · exact (by repeat (first | exact B4.out | refine Below.setCell ?_ (by first | omega | (simp; done) | (simp; omega)) _))

set_option maxHeartbeats 1000000 in
theorem eqReq_any (kd : Int) (A1 A2 : Option Addr) (n c1 c2 B1 B2 : Nat) (zs : List Int) (w : World) (h1 : RdK .i64 w B1 A1 n zs) (h2 : RdK .i64 w B2 A2 n zs) (hB1 : B1 ≤ w.heap.size) (hB2 : B2 ≤ w.heap.size) (hm : n ≤ maxLen) :
    Calls Try.prog 20 #[.agg #[.int .i64 kd, .slice A1 n c1], .agg #[.int .i64 kd, .slice A2 n c2]] w fun e w' => e = .returned (.bool true) ∧ Below w.heap.size w w' := by
  have HE : Hid (∀ W, Below w.heap.size w W → Calls Try.prog 57 #[.slice A1 n c1, .slice A2 n c2] W fun e w' => e = .returned (.bool true) ∧ ∃ k, w' = W.drewN k) := fun W hb => (eqI_any A1 A2 n n c1 c2 B1 B2 zs zs W (h1.below (hb.mono hB1)) (h2.below (hb.mono hB2)) hm hm).mono fun e w' ⟨he, hk⟩ => ⟨by rw [he]; simp, hk⟩
  clear h1 h2 hm
  have hbb : (kd != kd) = false := by simp
  go_enter Try.func20, Try.ntmps20
  go_wp2_with fail
  refine (HE.out _ (by repeat (first | exact Below.refl _ _ | refine Below.drew ?_ | refine Below.setCell ?_ (by first | omega | (simp; done) | (simp; omega) | (simp [*]; done)) _ | refine Below.alloc ?_ (by first | omega | (simp; done) | (simp; omega) | (simp [*]; done)) _))).mono ?_
  rintro e w1 ⟨rfl, k, rfl⟩
  go_wp2
  go_ret
  exact ⟨rfl, ⟨rfl, rfl, rfl, by simp [World.drewN]; omega, fun i hi => by simpa using (((Below.refl _ w).alloc (Nat.le_refl _) (.cells #[.int .i64 kd, .slice A1 n c1] 39)).alloc (by simp) (.cells #[.int .i64 kd, .slice A2 n c2] 39)).block i hi⟩⟩

end Go.Proofs.Ytooegpebimpjcaa

namespace Go.Proofs.Ytooegpebimpjcaa
open Go.RowKit
set_option linter.unusedVariables false

set_option maxHeartbeats 1000000 in
theorem szWarp_yes (kd : Int) (A : Option Addr) (n c : Nat) (B : Option Addr) (m d td : Nat) (ph pr hd : Int) (sn : Nat) (l : Int) (w : World) (hl : l ≤ 1048576) (hn : (n : Int) + m ≤ l) : Calls Try.prog 13 #[.agg #[.int .i64 kd, .slice A n c, .slice B m d, .int .u32 (td : Int), .int .i64 ph, .int .i64 pr, .int .i64 hd, .int .u32 (sn : Int)], .int .i64 l] w fun e w' => e = .returned (.int .i64 (l - n - m)) ∧ Below w.heap.size w w' := by
  have h1 : ¬ l - (n : Int) < 0 := by omega
  have h1b : ¬ l - (n : Int) - (m : Int) < 0 := by omega
  have HS := Lib.hid (fun W => szI_yes A n c l W hl (by omega))
  have HS2 := Lib.hid (fun W => szI_yes B m d (l - n) W (by omega) (by omega))
  have h2 : (0 : Int) ≤ n := by omega
  have h3 : (0 : Int) ≤ m := by omega
  clear hn
  go_enter Try.func13, Try.ntmps13
  go_wp2_with fail
  refine (HS.out _).mono ?_
  rintro e w1 ⟨rfl, rfl⟩
  go_wp2_with fail
  refine (HS2.out _).mono ?_
  rintro e w1 ⟨rfl, rfl⟩
  go_wp2
  go_ret
  exact ⟨rfl, (Below.refl _ _).alloc (Nat.le_refl _) _⟩

set_option maxHeartbeats 1000000 in
theorem szWarp_no (kd : Int) (A : Option Addr) (n c : Nat) (B : Option Addr) (m d td : Nat) (ph pr hd : Int) (sn : Nat) (l : Int) (w : World) (hl : l ≤ 1048576) (h0 : 0 ≤ l) (hm : n ≤ maxLen) (hm2 : m ≤ maxLen) (hn : l < (n : Int) + m) : Calls Try.prog 13 #[.agg #[.int .i64 kd, .slice A n c, .slice B m d, .int .u32 (td : Int), .int .i64 ph, .int .i64 pr, .int .i64 hd, .int .u32 (sn : Int)], .int .i64 l] w fun e w' => e = .returned (.int .i64 (-1)) ∧ Below w.heap.size w w' := by
  by_cases hn1 : (n : Int) ≤ l
  · have HS := Lib.hid (fun W => szI_yes A n c l W hl hn1)
    have HS2 := Lib.hid (fun W => szI_no B m d (l - n) W (by omega) (by omega) hm2 (by omega))
    have h1 : ¬ l - (n : Int) < 0 := by omega
    have h2 : (0 : Int) ≤ n := by omega
    clear hn hm hm2 hn1
    go_enter Try.func13, Try.ntmps13
    go_wp2_with fail
    refine (HS.out _).mono ?_
    rintro e w1 ⟨rfl, rfl⟩
    go_wp2_with fail
    refine (HS2.out _).mono ?_
    rintro e w1 ⟨rfl, rfl⟩
    go_wp2
    go_ret
    exact ⟨rfl, (Below.refl _ _).alloc (Nat.le_refl _) _⟩
  · have HS := Lib.hid (fun W => szI_no A n c l W hl h0 hm (by omega))
    clear hn hm hm2 hn1
    go_enter Try.func13, Try.ntmps13
    go_wp2_with fail
    refine (HS.out _).mono ?_
    rintro e w1 ⟨rfl, rfl⟩
    go_wp2
    go_ret
    exact ⟨rfl, (Below.refl _ _).alloc (Nat.le_refl _) _⟩

set_option maxRecDepth 100000 in
set_option maxHeartbeats 4000000 in
theorem toWarp_any (kd : Int) (A : Option Addr) (n c : Nat) (B : Option Addr) (m d td : Nat) (ph pr hd : Int) (sn : Nat) (B1 B2 : Nat) (vs gs : List Int) (w : World) (h : RdK .i64 w B1 A n vs) (hB : B1 ≤ w.heap.size) (hn : n ≤ 1048576) (h2 : RdK .i64 w B2 B m gs) (hB2 : B2 ≤ w.heap.size) (hm : m ≤ 1048576) :
    Calls Try.prog 16 #[.agg #[.int .i64 kd, .slice A n c, .slice B m d, .int .u32 (td : Int), .int .i64 ph, .int .i64 pr, .int .i64 hd, .int .u32 (sn : Int)]] w fun e w' => ∃ g g2, e = .returned (.agg #[.int .i64 kd, .slice (some ⟨g, 0, none⟩) n n, .slice (some ⟨g2, 0, none⟩) m m, .int .u32 (td : Int), .int .i64 ph, .int .i64 pr, .int .i64 hd, .int .u32 (sn : Int)]) ∧ OwnK 3 .i64 w' w.heap.size (some ⟨g, 0, none⟩) n n vs ∧ OwnK 3 .i64 w' (g + 1) (some ⟨g2, 0, none⟩) m m gs ∧ Below w.heap.size w w' := by
  have HT : Hid (∀ W, Below w.heap.size w W → Calls Try.prog 52 #[.slice A n c] W fun e w' => ∃ g, e = .returned (.slice (some ⟨g, 0, none⟩) n n) ∧ OwnK 3 .i64 w' W.heap.size (some ⟨g, 0, none⟩) n n vs ∧ Below W.heap.size W w') := fun W hb => toI_any A n c B1 vs W (h.below (hb.mono hB)) (Nat.le_trans hB hb.size) hn
  have HT2 : Hid (∀ W, Below w.heap.size w W → Calls Try.prog 52 #[.slice B m d] W fun e w' => ∃ g, e = .returned (.slice (some ⟨g, 0, none⟩) m m) ∧ OwnK 3 .i64 w' W.heap.size (some ⟨g, 0, none⟩) m m gs ∧ Below W.heap.size W w') := fun W hb => toI_any B m d B2 gs W (h2.below (hb.mono hB2)) (Nat.le_trans hB2 hb.size) hm
  clear h hB hn h2 hB2 hm
  go_enter Try.func16, Try.ntmps16
  go_wp2_with fail
  refine (HT.out _ (bel3 _ _ _ _)).mono ?_
  rintro e w4 ⟨g, rfl, ho, hb⟩
  rw [sz3] at ho
  have O4 := Lib.hid ho
  obtain ⟨hx, hr, ha, hB4, z4⟩ := nw3 hb
  have B4 := Lib.hid hB4
  have X4 := Lib.hid hx
  have R4 := Lib.hid hr
  have A4 := Lib.hid ha
  have a1 := blkc ha 1 rfl
  have fa := blkf ha
  have x2 := blkc hx 2 rfl
  clear ho hb HT hr ha hB4 hx
  go_wp2_with fail
  refine (HT2.out _ (by repeat (first | exact B4.out | refine Below.setCell ?_ (by first | omega | (simp; done) | (simp; omega) | (simp [*]; done)) _))).mono ?_
  rintro e w5 ⟨g2, rfl, ho, hb⟩
  have hz5 := hb.size
  have e4 : (w4.setCell ⟨w.heap.size + 2, 1, none⟩ (.slice (some ⟨g, 0, none⟩) n n)).heap.size = w4.heap.size := by simp [World.setCell]
  have hz5' : w4.heap.size ≤ w5.heap.size := Nat.le_trans (Nat.le_of_eq e4.symm) hz5
  have hA := heap_setCell_same w4 (w.heap.size + 2) 1 _ _ (.slice (some ⟨g, 0, none⟩) n n) A4.out
  have ha : w5.heap[w.heap.size + 2]? = some (.cells #[.int .i64 kd, .slice (some ⟨g, 0, none⟩) n n, .slice none 0 0, .int .u32 0, .int .i64 0, .int .i64 0, .int .i64 0, .int .u32 0] 35 (0, 0)) := (hb.block _ (Nat.lt_of_lt_of_le z4 (Nat.le_of_eq e4.symm))).trans hA
  have hx : w5.heap[w.heap.size]? = some (.cells #[.int .i64 kd, .slice A n c, .slice B m d, .int .u32 (td : Int), .int .i64 ph, .int .i64 pr, .int .i64 hd, .int .u32 (sn : Int)] 30 (0, 0)) := (hb.block _ (Nat.lt_of_lt_of_le (by omega) (Nat.le_of_eq e4.symm))).trans ((Below.heap_setCell _ _ _ _ (show w.heap.size ≠ w.heap.size + 2 by omega)).trans X4.out)
  have hr := (hb.block _ (Nat.lt_of_lt_of_le (show w.heap.size + 1 < w4.heap.size by omega) (Nat.le_of_eq e4.symm))).trans ((Below.heap_setCell _ _ _ _ (show w.heap.size + 1 ≠ w.heap.size + 2 by omega)).trans R4.out)
  have hg := O4.out.range g rfl
  have O5a : Hid (OwnK 3 .i64 w5 (w.heap.size + 3) (some ⟨g, 0, none⟩) n n vs) := (O4.out.low (p := ⟨w.heap.size + 2, 1, none⟩) (by simp) (.slice (some ⟨g, 0, none⟩) n n)).below hb
  have O5b : Hid (OwnK 3 .i64 w5 w4.heap.size (some ⟨g2, 0, none⟩) m m gs) := ho.from_ (Nat.le_of_eq e4.symm)
  have B5 : Hid (Below w.heap.size w w5) := (B4.out.setCell (p := ⟨w.heap.size + 2, 1, none⟩) (by simp) _).trans (hb.mono (by rw [e4]; omega))
  have z5 : w.heap.size + 2 < w5.heap.size := by omega
  have hg2 := O5b.out.range g2 rfl
  have a0' := blkc ha 0 rfl
  have a1' := blkc ha 1 rfl
  have a2' := blkc ha 2 rfl
  have a3' := blkc ha 3 rfl
  have a4' := blkc ha 4 rfl
  have a5' := blkc ha 5 rfl
  have a6' := blkc ha 6 rfl
  have a7' := blkc ha 7 rfl
  have fa' := blkf ha
  have x3 := blkc hx 3 rfl
  have x4 := blkc hx 4 rfl
  have x5 := blkc hx 5 rfl
  have x6 := blkc hx 6 rfl
  have x7 := blkc hx 7 rfl
  have r0 := blkc hr 0 rfl
  have r1 := blkc hr 1 rfl
  have r2 := blkc hr 2 rfl
  have r3 := blkc hr 3 rfl
  have r4 := blkc hr 4 rfl
  have r5 := blkc hr 5 rfl
  have r6 := blkc hr 6 rfl
  have r7 := blkc hr 7 rfl
  have fr := blkf hr
  clear ho hb HT2 X4 R4 A4 a1 fa x2 hA ha hx hr e4 hz5 hz5' O4 B4 z4
  go_wp2
  refine bodyPost_ret (v := .agg #[.int .i64 kd, .slice (some ⟨g, 0, none⟩) n n, .slice (some ⟨g2, 0, none⟩) m m, .int .u32 (td : Int), .int .i64 ph, .int .i64 pr, .int .i64 hd, .int .u32 (sn : Int)]) (by simp [results, Try.results16, go_sem, r0, r1, r2, r3, r4, r5, r6, r7]) rfl ⟨g, g2, rfl, ?_, ?_, ?_⟩
  · exact OwnK.from_ (b0 := w.heap.size + 3) (by repeat' (first | (with_reducible exact O5a.out) | (with_reducible refine OwnK.low ?_ ?_ _) | omega | (simp; done) | (simp; omega))) (by omega)
  · exact OwnK.from_ (b0 := w4.heap.size) (by repeat' (first | (with_reducible exact O5b.out) | (with_reducible refine OwnK.low ?_ ?_ _) | omega | (simp; done) | (simp; omega))) (by omega)
  · exact (by repeat' (first | (with_reducible exact B5.out) | (with_reducible refine Below.setCell ?_ ?_ _) | (with_reducible refine Below.alloc ?_ ?_ _) | omega | (simp; done) | (simp; omega)))


set_option maxRecDepth 100000 in
set_option maxHeartbeats 2000000 in
theorem eqWarp_any (kd : Int) (A A2 : Option Addr) (n c c2 : Nat) (B B2 : Option Addr) (m d d2 td : Nat) (ph pr hd : Int) (sn Q1 Q2 Q3 Q4 : Nat) (vs gs : List Int) (w : World) (h1 : RdK .i64 w Q1 A n vs) (h2 : RdK .i64 w Q2 A2 n vs) (h3 : RdK .i64 w Q3 B m gs) (h4 : RdK .i64 w Q4 B2 m gs)
    (q1 : Q1 ≤ w.heap.size) (q2 : Q2 ≤ w.heap.size) (q3 : Q3 ≤ w.heap.size) (q4 : Q4 ≤ w.heap.size) (hn : n ≤ maxLen) (hm : m ≤ maxLen) :
    Calls Try.prog 19 #[.agg #[.int .i64 kd, .slice A n c, .slice B m d, .int .u32 (td : Int), .int .i64 ph, .int .i64 pr, .int .i64 hd, .int .u32 (sn : Int)], .agg #[.int .i64 kd, .slice A2 n c2, .slice B2 m d2, .int .u32 (td : Int), .int .i64 ph, .int .i64 pr, .int .i64 hd, .int .u32 (sn : Int)]] w fun e w' => e = .returned (.bool true) ∧ Below w.heap.size w w' := by
  have HE : Hid (∀ W, Below w.heap.size w W → Calls Try.prog 57 #[.slice A n c, .slice A2 n c2] W fun e w' => e = .returned (.bool true) ∧ ∃ k, w' = W.drewN k) := fun W hb => (eqI_any A A2 n n c c2 Q1 Q2 vs vs W (h1.below (hb.mono q1)) (h2.below (hb.mono q2)) hn hn).mono fun e w' ⟨he, hk⟩ => ⟨by rw [he]; simp, hk⟩
  have HE2 : Hid (∀ W, Below w.heap.size w W → Calls Try.prog 57 #[.slice B m d, .slice B2 m d2] W fun e w' => e = .returned (.bool true) ∧ ∃ k, w' = W.drewN k) := fun W hb => (eqI_any B B2 m m d d2 Q3 Q4 gs gs W (h3.below (hb.mono q3)) (h4.below (hb.mono q4)) hm hm).mono fun e w' ⟨he, hk⟩ => ⟨by rw [he]; simp, hk⟩
  clear h1 h2 h3 h4 hm hn q1 q2 q3 q4
  have b1 : (kd != kd) = false := by simp
  have b2 : ((td : Int) != (td : Int)) = false := by simp
  have b3 : (ph != ph) = false := by simp
  have b4 : (pr != pr) = false := by simp
  have b5 : (hd != hd) = false := by simp
  have b6 : ((sn : Int) != (sn : Int)) = false := by simp
  have B0 := Lib.hid (bel2 w (.cells #[.int .i64 kd, .slice A n c, .slice B m d, .int .u32 (td : Int), .int .i64 ph, .int .i64 pr, .int .i64 hd, .int .u32 (sn : Int)] 35) (.cells #[.int .i64 kd, .slice A2 n c2, .slice B2 m d2, .int .u32 (td : Int), .int .i64 ph, .int .i64 pr, .int .i64 hd, .int .u32 (sn : Int)] 35))
  go_enter Try.func19, Try.ntmps19
  go_wp2_with fail
  refine (HE.out _ B0.out).mono ?_
  rintro e w1 ⟨rfl, k, rfl⟩
  have B1 := Lib.hid (bel_drewN B0.out k)
  go_wp2_with fail
  refine (HE2.out _ B1.out).mono ?_
  rintro e w1 ⟨rfl, k2, rfl⟩
  clear HE HE2
  go_wp2
  go_ret
  exact ⟨rfl, bel_drewN B0.out _⟩

set_option maxRecDepth 100000 in
set_option maxHeartbeats 2000000 in
theorem markWarp_any {ty1 ty2 : TypeId} (kd : Int) (A : Option Addr) (n c : Nat) (B : Option Addr) (m d td : Nat) (ph pr hd : Int) (sn : Nat) (q : Int) (b0 b1 : Nat) (vs gs : List Int) (w : World) (h1 : OwnK ty1 .i64 w b0 A n c vs) (h2 : OwnK ty2 .i64 w b1 B m d gs) (hne : ∀ g, (Value.slice A n c).ownBlock = some g → (Value.slice B m d).ownBlock ≠ some g)
    (hn : n ≤ 2000000) (hm : m ≤ 2000000) (h0 : 0 ≤ q) (hq : q ≤ 10000000) :
    Calls Try.prog 21 #[.agg #[.int .i64 kd, .slice A n c, .slice B m d, .int .u32 (td : Int), .int .i64 ph, .int .i64 pr, .int .i64 hd, .int .u32 (sn : Int)], .int .i64 q] w fun e w' => e = .returned (.int .i64 (q + n + m)) ∧ OwnK ty1 .i64 w' b0 A n c (marksF q n) ∧ OwnK ty2 .i64 w' b1 B m d (marksF (q + n) m) ∧ Kp (In2 (.slice A n c) (.slice B m d)) w w' := by
  have HO1 := Lib.hid h1
  have HO2 := Lib.hid h2
  have HN := Lib.hid hne
  clear h1 h2 hne
  go_enter Try.func21, Try.ntmps21
  go_wp2_with fail
  have O1 := Lib.hid (HO1.out.alloc (.cells #[.int .i64 kd, .slice A n c, .slice B m d, .int .u32 (td : Int), .int .i64 ph, .int .i64 pr, .int .i64 hd, .int .u32 (sn : Int)] 35))
  have O2 := Lib.hid (HO2.out.alloc (.cells #[.int .i64 kd, .slice A n c, .slice B m d, .int .u32 (td : Int), .int .i64 ph, .int .i64 pr, .int .i64 hd, .int .u32 (sn : Int)] 35))
  have K1 : Hid (Kp (In2 (.slice A n c) (.slice B m d)) w (w.alloc (.cells #[.int .i64 kd, .slice A n c, .slice B m d, .int .u32 (td : Int), .int .i64 ph, .int .i64 pr, .int .i64 hd, .int .u32 (sn : Int)] 35))) := Kp.of_below (bel1 _ _)
  have HA : Hid ((w.alloc (.cells #[.int .i64 kd, .slice A n c, .slice B m d, .int .u32 (td : Int), .int .i64 ph, .int .i64 pr, .int .i64 hd, .int .u32 (sn : Int)] 35)).heap[w.heap.size]? = some (.cells #[.int .i64 kd, .slice A n c, .slice B m d, .int .u32 (td : Int), .int .i64 ph, .int .i64 pr, .int .i64 hd, .int .u32 (sn : Int)] 35 (0, 0))) := heap_alloc_new w _
  have hA1 : ∀ g, (Value.slice A n c).ownBlock = some g → g < w.heap.size := fun g hg => (HO1.out.range g hg).2
  refine (markF_any A n c b0 q vs _ O1.out hn h0 (by omega)).mono ?_
  rintro e w2 ⟨rfl, ho, hg⟩
  have O1b := Lib.hid ho
  have O2b : Hid (OwnK ty2 .i64 w2 b1 B m d gs) := O2.out.far hg (fun g hg1 hg2 => HN.out g hg2 hg1)
  have K2 : Hid (Kp (In2 (.slice A n c) (.slice B m d)) w w2) := K1.out.trans (Kp.of_grown hg (fun k hk => .inl hk))
  have ha := (hg.block w.heap.size (by simp) (fun e => by have := hA1 _ e.symm; omega)).trans HA.out
  have a2 := blkc ha 2 rfl
  clear ho hg O1 O2 K1 HA ha hA1
  go_wp2_with fail
  refine (markF_any B m d b1 (q + n) gs _ O2b.out hm (by omega) (by omega)).mono ?_
  rintro e w3 ⟨rfl, ho, hg⟩
  have O2c := Lib.hid ho
  have O1c : Hid (OwnK ty1 .i64 w3 b0 A n c (marksF q n)) := O1b.out.far hg (fun g hg1 hg2 => HN.out g hg1 hg2)
  have K3 : Hid (Kp (In2 (.slice A n c) (.slice B m d)) w w3) := K2.out.trans (Kp.of_grown hg (fun k hk => .inr hk))
  clear ho hg O1b O2b K2 a2
  go_wp2
  go_ret
  exact ⟨rfl, O1c.out, O2c.out, K3.out⟩

set_option maxRecDepth 100000 in
set_option maxHeartbeats 2000000 in
theorem heldWarp_any (kd : Int) (A : Option Addr) (n c : Nat) (B : Option Addr) (m d td : Nat) (ph pr hd : Int) (sn : Nat) (q : Int) (Q1 Q2 : Nat) (w : World) (h1 : RdK .i64 w Q1 A n (marksF q n)) (h2 : RdK .i64 w Q2 B m (marksF (q + n) m)) (q1 : Q1 ≤ w.heap.size) (q2 : Q2 ≤ w.heap.size)
    (hn : n ≤ 2000000) (hm : m ≤ 2000000) (h0 : 0 ≤ q) (hq : q ≤ 10000000) :
    Calls Try.prog 23 #[.agg #[.int .i64 kd, .slice A n c, .slice B m d, .int .u32 (td : Int), .int .i64 ph, .int .i64 pr, .int .i64 hd, .int .u32 (sn : Int)], .int .i64 q] w fun e w' => e = .returned (.int .i64 (q + n + m)) ∧ Below w.heap.size w w' := by
  have HH : Hid (∀ W, Below w.heap.size w W → Calls Try.prog 59 #[.slice A n c, .int .i64 q] W fun e w' => e = .returned (.int .i64 (q + n)) ∧ W = w') := fun W hb => heldF_any A n c Q1 q W (h1.below (hb.mono q1)) hn h0 (by omega)
  have HH2 : Hid (∀ W, Below w.heap.size w W → Calls Try.prog 59 #[.slice B m d, .int .i64 (q + n)] W fun e w' => e = .returned (.int .i64 (q + n + m)) ∧ W = w') := fun W hb => heldF_any B m d Q2 (q + n) W (h2.below (hb.mono q2)) hm (by omega) (by omega)
  have p1 : ¬ q + (n : Int) < 0 := by omega
  have p2 : ¬ q + (n : Int) + (m : Int) < 0 := by omega
  clear h1 h2
  have B0 := Lib.hid (bel1 w (.cells #[.int .i64 kd, .slice A n c, .slice B m d, .int .u32 (td : Int), .int .i64 ph, .int .i64 pr, .int .i64 hd, .int .u32 (sn : Int)] 35))
  go_enter Try.func23, Try.ntmps23
  go_wp2_with fail
  refine (HH.out _ B0.out).mono ?_
  rintro e w1 ⟨rfl, rfl⟩
  go_wp2_with fail
  refine (HH2.out _ B0.out).mono ?_
  rintro e w1 ⟨rfl, rfl⟩
  clear HH HH2
  go_wp2
  go_ret
  exact ⟨rfl, B0.out⟩

end Go.Proofs.Ytooegpebimpjcaa

namespace Go.Proofs.Ytooegpebimpjcaa
open Go.ChangeShapes Go.WideShapes Go.ChangeAt Go.RowKit
set_option linter.unusedVariables false

set_option maxHeartbeats 1000000 in
theorem markReq_any {ty : TypeId} (rk : Int) (D : Option Addr) (o f b0 : Nat) (q : Int) (us : List Int) (w : World) (h : OwnK ty .i64 w b0 D o f us) (ho : o ≤ 2000000) (h0 : 0 ≤ q) (hq : q ≤ 10000000) :
    Calls Try.prog 22 #[.agg #[.int .i64 rk, .slice D o f], .int .i64 q] w fun e w' => e = .returned (.int .i64 (q + o)) ∧ OwnK ty .i64 w' b0 D o f (marksF q o) ∧ Kp (In2 (.slice D o f) (.slice D o f)) w w' := by
  have O1 := Lib.hid (h.alloc (.cells #[.int .i64 rk, .slice D o f] 39))
  have K1 : Hid (Kp (In2 (.slice D o f) (.slice D o f)) w (w.alloc (.cells #[.int .i64 rk, .slice D o f] 39))) := Kp.of_below (bel1 _ _)
  clear h
  go_enter Try.func22, Try.ntmps22
  go_wp2_with fail
  refine (markF_any D o f b0 q us _ O1.out ho h0 (by omega)).mono ?_
  rintro e w2 ⟨rfl, ho, hg⟩
  have O2 := Lib.hid ho
  have K2 : Hid (Kp (In2 (.slice D o f) (.slice D o f)) w w2) := K1.out.trans (Kp.of_grown hg (fun k hk => .inl hk))
  clear ho hg O1 K1
  go_wp2
  go_ret
  exact ⟨rfl, O2.out, K2.out⟩

theorem rdk_alloc {kd : IntKind} {w : World} {A : Option Addr} {n : Nat} {zs : List Int} (h : RdK kd w w.heap.size A n zs) (o : Obj) : RdK kd (w.alloc o) (w.alloc o).heap.size A n zs := by
  have h2 := h.below (bel1 w o)
  exact ⟨h2.1, fun hn => by obtain ⟨g, o', e, hg, hc⟩ := h2.2 hn; exact ⟨g, o', e, by rw [sz1]; omega, hc⟩⟩
theorem rdk_next {kd : IntKind} {w w' : World} {A : Option Addr} {n : Nat} {zs : List Int} (h : RdK kd w w.heap.size A n zs) (hb : Below w.heap.size w w') : RdK kd w' w'.heap.size A n zs := by
  have h2 := h.below hb
  have hs := hb.size
  exact ⟨h2.1, fun hn => by obtain ⟨g, o', e, hg, hc⟩ := h2.2 hn; exact ⟨g, o', e, by omega, hc⟩⟩

theorem nw1d {w w1 : World} {o1 : Obj} (h : Below (w.alloc o1).drew.heap.size (w.alloc o1).drew w1) : w1.heap[w.heap.size]? = some o1 ∧ Below w.heap.size w w1 ∧ w.heap.size < w1.heap.size := nw1 (((Below.refl (w.alloc o1).heap.size (w.alloc o1)).drew).trans h)

/-- Eight stores into a block of eight cells. -/
theorem block_set8 {w : World} {g : Nat} {a0 a1 a2 a3 a4 a5 a6 a7 : Value} {t : TypeId} (h : w.heap[g]? = some (.cells #[a0, a1, a2, a3, a4, a5, a6, a7] t (0, 0))) (c0 c1 c2 c3 c4 c5 c6 c7 : Value) :
    ((((((((w.setCell ⟨g, 0, none⟩ c0).setCell ⟨g, 1, none⟩ c1).setCell ⟨g, 2, none⟩ c2).setCell ⟨g, 3, none⟩ c3).setCell ⟨g, 4, none⟩ c4).setCell ⟨g, 5, none⟩ c5).setCell ⟨g, 6, none⟩ c6).setCell ⟨g, 7, none⟩ c7).heap[g]? = some (.cells #[c0, c1, c2, c3, c4, c5, c6, c7] t (0, 0)) := by
  have h0 : (w.setCell ⟨g, 0, none⟩ c0).heap[g]? = some (.cells #[c0, a1, a2, a3, a4, a5, a6, a7] t (0, 0)) := Joins.block_setCell (i := 0) h c0
  have h1 : ((w.setCell ⟨g, 0, none⟩ c0).setCell ⟨g, 1, none⟩ c1).heap[g]? = some (.cells #[c0, c1, a2, a3, a4, a5, a6, a7] t (0, 0)) := Joins.block_setCell (i := 1) h0 c1
  have h2 : (((w.setCell ⟨g, 0, none⟩ c0).setCell ⟨g, 1, none⟩ c1).setCell ⟨g, 2, none⟩ c2).heap[g]? = some (.cells #[c0, c1, c2, a3, a4, a5, a6, a7] t (0, 0)) := Joins.block_setCell (i := 2) h1 c2
  have h3 : ((((w.setCell ⟨g, 0, none⟩ c0).setCell ⟨g, 1, none⟩ c1).setCell ⟨g, 2, none⟩ c2).setCell ⟨g, 3, none⟩ c3).heap[g]? = some (.cells #[c0, c1, c2, c3, a4, a5, a6, a7] t (0, 0)) := Joins.block_setCell (i := 3) h2 c3
  have h4 : (((((w.setCell ⟨g, 0, none⟩ c0).setCell ⟨g, 1, none⟩ c1).setCell ⟨g, 2, none⟩ c2).setCell ⟨g, 3, none⟩ c3).setCell ⟨g, 4, none⟩ c4).heap[g]? = some (.cells #[c0, c1, c2, c3, c4, a5, a6, a7] t (0, 0)) := Joins.block_setCell (i := 4) h3 c4
  have h5 : ((((((w.setCell ⟨g, 0, none⟩ c0).setCell ⟨g, 1, none⟩ c1).setCell ⟨g, 2, none⟩ c2).setCell ⟨g, 3, none⟩ c3).setCell ⟨g, 4, none⟩ c4).setCell ⟨g, 5, none⟩ c5).heap[g]? = some (.cells #[c0, c1, c2, c3, c4, c5, a6, a7] t (0, 0)) := Joins.block_setCell (i := 5) h4 c5
  have h6 : (((((((w.setCell ⟨g, 0, none⟩ c0).setCell ⟨g, 1, none⟩ c1).setCell ⟨g, 2, none⟩ c2).setCell ⟨g, 3, none⟩ c3).setCell ⟨g, 4, none⟩ c4).setCell ⟨g, 5, none⟩ c5).setCell ⟨g, 6, none⟩ c6).heap[g]? = some (.cells #[c0, c1, c2, c3, c4, c5, c6, a7] t (0, 0)) := Joins.block_setCell (i := 6) h5 c6
  have h7 : ((((((((w.setCell ⟨g, 0, none⟩ c0).setCell ⟨g, 1, none⟩ c1).setCell ⟨g, 2, none⟩ c2).setCell ⟨g, 3, none⟩ c3).setCell ⟨g, 4, none⟩ c4).setCell ⟨g, 5, none⟩ c5).setCell ⟨g, 6, none⟩ c6).setCell ⟨g, 7, none⟩ c7).heap[g]? = some (.cells #[c0, c1, c2, c3, c4, c5, c6, c7] t (0, 0)) := Joins.block_setCell (i := 7) h6 c7
  exact h7

section
variable {w u : World} {E b0 N ca da T : Nat} {Aa Ba : Option Addr} {V G : List Int} {K : Int} {z0 z1 z2 z3 z4 z5 z6 z7 : Value} {r : Bool}
/-- The answer of a submission lies in a variable that was made before the call. -/
theorem sub_set (h : u.heap[E]? = some (.cells #[z0, z1, z2, z3, z4, z5, z6, z7] 35 (0, 0))) (hE : w.heap.size ≤ E) (hE2 : E < b0) (oA : OwnK 3 .i64 u b0 Aa N ca V) (oB : OwnK 3 .i64 u b0 Ba N da G) (oD : ∀ g, (Value.slice Aa N ca).ownBlock = some g → (Value.slice Ba N da).ownBlock ≠ some g) (hb : Below w.heap.size w u) :
    ∃ (bb : Nat) (Ab : Option Addr) (cb : Nat) (Bb : Option Addr) (db : Nat), Value.pointer (some ⟨E, 0, none⟩) = .pointer (some ⟨bb, 0, none⟩) ∧ Value.bool r = .bool r ∧ Hid (((((((((u.setCell ⟨E, 0, none⟩ (.int .i64 K)).setCell ⟨E, 1, none⟩ (.slice Aa N ca)).setCell ⟨E, 2, none⟩ (.slice Ba N da)).setCell ⟨E, 3, none⟩ (.int .u32 (T : Int))).setCell ⟨E, 4, none⟩ (.int .i64 0)).setCell ⟨E, 5, none⟩ (.int .i64 0)).setCell ⟨E, 6, none⟩ (.int .i64 0)).setCell ⟨E, 7, none⟩ (.int .u32 0)).heap[bb]? = some (.cells #[.int .i64 K, .slice Ab N cb, .slice Bb N db, .int .u32 (T : Int), .int .i64 0, .int .i64 0, .int .i64 0, .int .u32 0] 35 (0, 0))) ∧ w.heap.size ≤ bb ∧ bb < ((((((((u.setCell ⟨E, 0, none⟩ (.int .i64 K)).setCell ⟨E, 1, none⟩ (.slice Aa N ca)).setCell ⟨E, 2, none⟩ (.slice Ba N da)).setCell ⟨E, 3, none⟩ (.int .u32 (T : Int))).setCell ⟨E, 4, none⟩ (.int .i64 0)).setCell ⟨E, 5, none⟩ (.int .i64 0)).setCell ⟨E, 6, none⟩ (.int .i64 0)).setCell ⟨E, 7, none⟩ (.int .u32 0)).heap.size ∧ Hid (OwnK 3 .i64 ((((((((u.setCell ⟨E, 0, none⟩ (.int .i64 K)).setCell ⟨E, 1, none⟩ (.slice Aa N ca)).setCell ⟨E, 2, none⟩ (.slice Ba N da)).setCell ⟨E, 3, none⟩ (.int .u32 (T : Int))).setCell ⟨E, 4, none⟩ (.int .i64 0)).setCell ⟨E, 5, none⟩ (.int .i64 0)).setCell ⟨E, 6, none⟩ (.int .i64 0)).setCell ⟨E, 7, none⟩ (.int .u32 0)) w.heap.size Ab N cb V) ∧ Hid (OwnK 3 .i64 ((((((((u.setCell ⟨E, 0, none⟩ (.int .i64 K)).setCell ⟨E, 1, none⟩ (.slice Aa N ca)).setCell ⟨E, 2, none⟩ (.slice Ba N da)).setCell ⟨E, 3, none⟩ (.int .u32 (T : Int))).setCell ⟨E, 4, none⟩ (.int .i64 0)).setCell ⟨E, 5, none⟩ (.int .i64 0)).setCell ⟨E, 6, none⟩ (.int .i64 0)).setCell ⟨E, 7, none⟩ (.int .u32 0)) w.heap.size Bb N db G) ∧ Hid (∀ g, (Value.slice Ab N cb).ownBlock = some g → (Value.slice Bb N db).ownBlock ≠ some g) ∧ Hid (Below w.heap.size w ((((((((u.setCell ⟨E, 0, none⟩ (.int .i64 K)).setCell ⟨E, 1, none⟩ (.slice Aa N ca)).setCell ⟨E, 2, none⟩ (.slice Ba N da)).setCell ⟨E, 3, none⟩ (.int .u32 (T : Int))).setCell ⟨E, 4, none⟩ (.int .i64 0)).setCell ⟨E, 5, none⟩ (.int .i64 0)).setCell ⟨E, 6, none⟩ (.int .i64 0)).setCell ⟨E, 7, none⟩ (.int .u32 0))) := by
  have hlt : E < u.heap.size := (Array.getElem?_eq_some_iff.1 h).1
  have hA : ∀ q, (Value.slice Aa N ca).ownBlock = some q → q ≠ E := fun q hq => by have := World.ownsRow.lt oA q hq; omega
  have hB : ∀ q, (Value.slice Ba N da).ownBlock = some q → q ≠ E := fun q hq => by have := World.ownsRow.lt oB q hq; omega
  refine ⟨E, Aa, ca, Ba, da, rfl, rfl, block_set8 h _ _ _ _ _ _ _ _, hE, by simp; omega, ?_, ?_, oD, ?_⟩
  · exact ((((((((oA.apart (p := ⟨E, 0, none⟩) hA _).apart (p := ⟨E, 1, none⟩) hA _).apart (p := ⟨E, 2, none⟩) hA _).apart (p := ⟨E, 3, none⟩) hA _).apart (p := ⟨E, 4, none⟩) hA _).apart (p := ⟨E, 5, none⟩) hA _).apart (p := ⟨E, 6, none⟩) hA _).apart (p := ⟨E, 7, none⟩) hA _).from_ (by omega)
  · exact ((((((((oB.apart (p := ⟨E, 0, none⟩) hB _).apart (p := ⟨E, 1, none⟩) hB _).apart (p := ⟨E, 2, none⟩) hB _).apart (p := ⟨E, 3, none⟩) hB _).apart (p := ⟨E, 4, none⟩) hB _).apart (p := ⟨E, 5, none⟩) hB _).apart (p := ⟨E, 6, none⟩) hB _).apart (p := ⟨E, 7, none⟩) hB _).from_ (by omega)
  · exact (((((((hb.setCell (p := ⟨E, 0, none⟩) hE _).setCell (p := ⟨E, 1, none⟩) hE _).setCell (p := ⟨E, 2, none⟩) hE _).setCell (p := ⟨E, 3, none⟩) hE _).setCell (p := ⟨E, 4, none⟩) hE _).setCell (p := ⟨E, 5, none⟩) hE _).setCell (p := ⟨E, 6, none⟩) hE _).setCell (p := ⟨E, 7, none⟩) hE _
/-- It lies in a variable that was made behind the call. -/
theorem sub_new (hw : w.heap.size ≤ b0) (oA : OwnK 3 .i64 u b0 Aa N ca V) (oB : OwnK 3 .i64 u b0 Ba N da G) (oD : ∀ g, (Value.slice Aa N ca).ownBlock = some g → (Value.slice Ba N da).ownBlock ≠ some g) (hb : Below w.heap.size w u) :
    ∃ (bb : Nat) (Ab : Option Addr) (cb : Nat) (Bb : Option Addr) (db : Nat), Value.pointer (some ⟨u.heap.size, 0, none⟩) = .pointer (some ⟨bb, 0, none⟩) ∧ Value.bool r = .bool r ∧ Hid ((u.alloc (.cells #[.int .i64 K, .slice Aa N ca, .slice Ba N da, .int .u32 (T : Int), .int .i64 0, .int .i64 0, .int .i64 0, .int .u32 0] 35)).heap[bb]? = some (.cells #[.int .i64 K, .slice Ab N cb, .slice Bb N db, .int .u32 (T : Int), .int .i64 0, .int .i64 0, .int .i64 0, .int .u32 0] 35 (0, 0))) ∧ w.heap.size ≤ bb ∧ bb < (u.alloc (.cells #[.int .i64 K, .slice Aa N ca, .slice Ba N da, .int .u32 (T : Int), .int .i64 0, .int .i64 0, .int .i64 0, .int .u32 0] 35)).heap.size ∧ Hid (OwnK 3 .i64 (u.alloc (.cells #[.int .i64 K, .slice Aa N ca, .slice Ba N da, .int .u32 (T : Int), .int .i64 0, .int .i64 0, .int .i64 0, .int .u32 0] 35)) w.heap.size Ab N cb V) ∧ Hid (OwnK 3 .i64 (u.alloc (.cells #[.int .i64 K, .slice Aa N ca, .slice Ba N da, .int .u32 (T : Int), .int .i64 0, .int .i64 0, .int .i64 0, .int .u32 0] 35)) w.heap.size Bb N db G) ∧ Hid (∀ g, (Value.slice Ab N cb).ownBlock = some g → (Value.slice Bb N db).ownBlock ≠ some g) ∧ Hid (Below w.heap.size w (u.alloc (.cells #[.int .i64 K, .slice Aa N ca, .slice Ba N da, .int .u32 (T : Int), .int .i64 0, .int .i64 0, .int .i64 0, .int .u32 0] 35))) :=
  ⟨u.heap.size, Aa, ca, Ba, da, rfl, rfl, heap_alloc_new _ _, hb.size, by rw [sz1]; omega, (oA.from_ hw).alloc _, (oB.from_ hw).alloc _, oD, hb.alloc hb.size _⟩
end

end Go.Proofs.Ytooegpebimpjcaa
