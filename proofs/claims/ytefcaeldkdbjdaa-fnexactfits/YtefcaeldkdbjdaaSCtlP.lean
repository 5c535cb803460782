/- The contracts of the model's CtlPack and CtlRead, and of the law's toCtl and eqCtl. -/
import Derived.Test.YtefcaeldkdbjdaaCtlP
import Derived.Test.YtefcaeldkdbjdaaSCtl
namespace Go.Proofs.Ytefcaeldkdbjdaa
open Go.RowKit

theorem good_bounds {S K : Int} {M : Nat} {R : Int} (h : CtlGood S K M R) : 0 ≤ S ∧ S ≤ 3 ∧ 0 ≤ K ∧ K ≤ 4 ∧ (M : Int) < 65536 ∧ 0 ≤ R ∧ R ≤ 16 := by
  rcases h with ⟨hs, rfl, rfl, rfl⟩ | ⟨rfl, hk, hm, rfl⟩ | ⟨rfl, rfl, rfl, hr⟩
  · omega
  · have h1 : M < 65536 := Nat.lt_of_lt_of_le hm.2 (lim_le hk)
    have h2 := hk.1
    have h3 := hk.2
    omega
  · have h2 := hr.1
    have h3 := hr.2
    omega
theorem packV_int {S K : Int} {M : Nat} {R : Int} (hS : 0 ≤ S) (hK : 0 ≤ K) (hR : 0 ≤ R) : ((packV S K M R : Nat) : Int) = (M : Int) + 65536 * K + 1048576 * S + 16777216 * R := by
  unfold packV; omega

theorem two_new0 {w w1 : World} {o1 o2 : Obj} (h : Below ((w.alloc o1).alloc o2).heap.size ((w.alloc o1).alloc o2) w1) : w1.heap[w.heap.size]? = some o1 ∧ w1.heap[w.heap.size + 1]? = some o2 ∧ Below w.heap.size w w1 ∧ w.heap.size + 2 ≤ w1.heap.size := two_new (n := 0) h

set_option maxRecDepth 100000 in
set_option maxHeartbeats 1000000 in
theorem sCtlRead_any (X : Nat) (w : World) (hX : X < 4294967296) :
    Calls Try.prog 27 #[.int .u32 (X : Int)] w fun e w' => e = .returned (.tuple #[.agg (readV X), .bool (decide (GoodX X))]) ∧ Below w.heap.size w w' := by
  have hm : mpOf X < 65536 := Nat.mod_lt _ (by omega)
  have HO := Lib.hid (fun W => sCtlOk_any (stOf X) (clOf X) (mpOf X) (rnOf X) W (by omega))
  have e1 : ((stOf X : Nat) : Int) = (X : Int) / 1048576 % 16 := by unfold stOf; omega
  have e2 : ((clOf X : Nat) : Int) = (X : Int) / 65536 % 16 := by unfold clOf; omega
  have e3 : ((mpOf X : Nat) : Int) = (X : Int) % 65536 := by unfold mpOf; omega
  have e4 : ((rnOf X : Nat) : Int) = (X : Int) / 16777216 := by unfold rnOf; omega
  have hrd : readV X = #[.int .i64 (readN X (stOf X) : Int), .int .i64 (readN X (clOf X) : Int), .int .u32 (readN X (mpOf X) : Int), .int .i64 (readN X (rnOf X) : Int)] := rfl
  have hdd : decide (CtlGood (stOf X) (clOf X) (mpOf X) (rnOf X)) = decide (GoodX X) := rfl
  rw [hdd] at HO
  have x0 : (0 : Int) ≤ (X : Int) := by omega
  have x1 : (X : Int) < 4294967296 := by omega
  by_cases hg : GoodX X
  · rw [decide_eq_true hg] at HO ⊢
    simp only [readN, if_pos hg] at hrd
    rw [hrd]
    rw [e1, e2, e3, e4] at HO ⊢
    clear hm hrd hdd hg hX e1 e2 e3 e4
    generalize (X : Int) = x at *
    go_enter Try.func27, Try.ntmps27
    go_wp2_with fail
    refine (HO.out _).mono ?_
    rintro e w1 ⟨rfl, hb⟩
    obtain ⟨u1, u2, hb1, hz⟩ := two_new0 hb
    obtain ⟨⟨c0, c1, c2, c3⟩, f0, f1, f2, f3⟩ := blk4 u1
    obtain ⟨⟨d0, d1, d2, d3⟩, _⟩ := blk4 u2
    have HB := Lib.hid hb1
    clear u1 u2 hb hb1
    go_wp2
    refine bodyPost_ret (v := .tuple #[.agg #[.int .i64 (x / 1048576 % 16), .int .i64 (x / 65536 % 16), .int .u32 (x % 65536), .int .i64 (x / 16777216)], .bool true]) ?_ rfl ⟨rfl, ?_⟩
    · have hres : Try.f27.results = #[.cell 2 45, .tmp 3] := by kernel_rfl
      rw [results_cell_tmp hres]
      go_simp
    · exact (by repeat (first | exact Below.refl _ _ | refine Below.drew ?_ | refine Below.setCell ?_ (by first | omega | (simp; done) | (simp; omega) | (simp [*]; done)) _ | refine Below.alloc ?_ (by first | omega | (simp; done) | (simp; omega) | (simp [*]; done)) _ | refine Below.trans ?_ (Below.mono (HB.out) (by first | omega | (simp; done) | (simp; omega) | (simp [*]; done)))))
  · rw [decide_eq_false hg] at HO ⊢
    simp only [readN, if_neg hg] at hrd
    rw [hrd]
    rw [e1, e2, e3, e4] at HO
    clear hm hrd hdd hg hX e1 e2 e3 e4
    generalize (X : Int) = x at *
    go_enter Try.func27, Try.ntmps27
    go_wp2_with fail
    refine (HO.out _).mono ?_
    rintro e w1 ⟨rfl, hb⟩
    obtain ⟨u1, u2, hb1, hz⟩ := two_new0 hb
    obtain ⟨⟨c0, c1, c2, c3⟩, f0, f1, f2, f3⟩ := blk4 u1
    obtain ⟨⟨d0, d1, d2, d3⟩, _⟩ := blk4 u2
    have HB := Lib.hid hb1
    clear u1 u2 hb hb1
    go_wp2
    refine bodyPost_ret (v := .tuple #[.agg #[.int .i64 0, .int .i64 0, .int .u32 0, .int .i64 0], .bool false]) ?_ rfl ⟨rfl, ?_⟩
    · have hres : Try.f27.results = #[.cell 2 45, .tmp 3] := by kernel_rfl
      rw [results_cell_tmp hres]
      go_simp
    · exact (by repeat (first | exact Below.refl _ _ | refine Below.drew ?_ | refine Below.setCell ?_ (by first | omega | (simp; done) | (simp; omega) | (simp [*]; done)) _ | refine Below.alloc ?_ (by first | omega | (simp; done) | (simp; omega) | (simp [*]; done)) _ | refine Below.trans ?_ (Below.mono (HB.out) (by first | omega | (simp; done) | (simp; omega) | (simp [*]; done)))))

end Go.Proofs.Ytefcaeldkdbjdaa
