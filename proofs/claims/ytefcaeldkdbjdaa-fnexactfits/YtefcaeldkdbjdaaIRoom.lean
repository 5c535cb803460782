/- The contracts of the program's pageFor, Room, HeadWord, HeldWord and TakenWords. -/
import Derived.Test.YtefcaeldkdbjdaaClaimM
import Derived.Test.YtefcaeldkdbjdaaOnes
import Derived.Deep.RegionHeld3
namespace Go.Proofs.Ytefcaeldkdbjdaa
open Go.RowKit

/-- The page that pageFor hands out: zero where there is none. -/
def pgN (X : Nat) (K : Int) (v : Int) : Int := if PageX X K then v else 0
theorem pg_no {X : Nat} {K : Int} (h : ¬ PageX X K) (v : Int) : pgN X K v = 0 := if_neg h
theorem pg_yes {X : Nat} {K : Int} (h : PageX X K) (v : Int) : pgN X K v = v := if_pos h
theorem read_good {X : Nat} (hg : GoodX X) : readV X = #[.int .i64 (stOf X : Int), .int .i64 (clOf X : Int), .int .u32 (mpOf X : Int), .int .i64 (rnOf X : Int)] := by unfold readV readN; simp only [if_pos hg]
theorem read_bad {X : Nat} (hg : ¬ GoodX X) : readV X = #[.int .i64 0, .int .i64 0, .int .u32 0, .int .i64 0] := by unfold readV readN; simp only [if_neg hg]; rfl

set_option maxRecDepth 100000 in
set_option maxHeartbeats 2000000 in
theorem pageFor_any (X : Nat) (K : Int) (w : World) (hX : X < 4294967296) :
    Calls Try.prog 38 #[.int .u32 (X : Int), .int .i64 K] w fun e w' => e = .returned (.tuple #[.agg #[.int .i64 (pgN X K 1), .int .i64 (pgN X K K), .int .u32 (pgN X K (mpOf X)), .int .i64 0], .bool (decide (PageX X K))]) ∧ Below w.heap.size w w' := by
  have HR := Lib.hid (fun W => ctlRead_any X W hX)
  have HC := Lib.hid (fun W => isClass_any K W)
  by_cases hg : GoodX X
  · rw [read_good hg, decide_eq_true hg] at HR
    by_cases hk : IsClass K
    · rw [decide_eq_true hk] at HC
      by_cases h0 : stOf X = 0
      · have hP : PageX X K := ⟨hg, hk, .inl h0⟩
        have hm : ((mpOf X : Nat) : Int) = 0 := by have := ((good_free (.inl (by omega : ((stOf X : Nat) : Int) = 0))).1 hg).2.1; omega
        rw [decide_eq_true hP, pg_yes hP, pg_yes hP, pg_yes hP, hm]
        have h0' : ((stOf X : Nat) : Int) = 0 := by omega
        clear hP hg hk hX h0 hm
        generalize (stOf X : Int) = s at *
        generalize (clOf X : Int) = k at *
        generalize (mpOf X : Int) = m at *
        generalize (rnOf X : Int) = r at *
        subst h0'
        go_enter Try.func38, Try.ntmps38
        go_wp2_with fail
        refine (HR.out _).mono ?_
        rintro e w1 ⟨rfl, hb⟩
        obtain ⟨u1, hb1⟩ := one_new hb
        obtain ⟨⟨c0, c1, c2, c3⟩, f0, f1, f2, f3⟩ := blk4 u1
        have HB := Lib.hid hb1
        have hl : w.heap.size < w1.heap.size := (Array.getElem?_eq_some_iff.1 u1).1
        clear u1 hb hb1
        go_wp2_with fail
        refine (HC.out _).mono ?_
        rintro e w2 ⟨rfl, rfl⟩
        go_wp2
        refine bodyPost_ret (v := .tuple #[.agg #[.int .i64 1, .int .i64 K, .int .u32 0, .int .i64 0], .bool true]) ?_ rfl ⟨rfl, ?_⟩
        · have hres : Try.f38.results = #[.cell 4 45, .tmp 5] := by kernel_rfl
          rw [results_cell_tmp hres]
          go_simp
        · exact (by repeat (first | exact Below.refl _ _ | refine Below.drew ?_ | refine Below.setCell ?_ (by first | omega | (simp; done) | (simp; omega) | (simp [*]; done)) _ | refine Below.alloc ?_ (by first | omega | (simp; done) | (simp; omega) | (simp [*]; done)) _ | refine Below.trans ?_ (Below.mono (HB.out) (by first | omega | (simp; done) | (simp; omega) | (simp [*]; done)))))
      · by_cases h1 : stOf X = 1
        · by_cases hc : ((clOf X : Nat) : Int) = K
          · have hP : PageX X K := ⟨hg, hk, .inr ⟨h1, hc⟩⟩
            rw [decide_eq_true hP, pg_yes hP, pg_yes hP, pg_yes hP]
            have h1' : ((stOf X : Nat) : Int) = 1 := by omega
            have hr : ((rnOf X : Nat) : Int) = 0 := by have := (page_class hg h1).2.2; omega
            clear hP hg hk hX h0 h1
            generalize (stOf X : Int) = s at *
            generalize (clOf X : Int) = k at *
            generalize (mpOf X : Int) = m at *
            generalize (rnOf X : Int) = r at *
            subst h1' hc hr
            go_enter Try.func38, Try.ntmps38
            go_wp2_with fail
            refine (HR.out _).mono ?_
            rintro e w1 ⟨rfl, hb⟩
            obtain ⟨u1, hb1⟩ := one_new hb
            obtain ⟨⟨c0, c1, c2, c3⟩, f0, f1, f2, f3⟩ := blk4 u1
            have HB := Lib.hid hb1
            have hl : w.heap.size < w1.heap.size := (Array.getElem?_eq_some_iff.1 u1).1
            clear u1 hb hb1
            go_wp2_with fail
            refine (HC.out _).mono ?_
            rintro e w2 ⟨rfl, rfl⟩
            go_wp2
            refine bodyPost_ret (v := .tuple #[.agg #[.int .i64 1, .int .i64 k, .int .u32 m, .int .i64 0], .bool true]) ?_ rfl ⟨rfl, ?_⟩
            · have hres : Try.f38.results = #[.cell 4 45, .tmp 5] := by kernel_rfl
              rw [results_cell_tmp hres]
              go_simp
            · exact (by repeat (first | exact Below.refl _ _ | refine Below.drew ?_ | refine Below.setCell ?_ (by first | omega | (simp; done) | (simp; omega) | (simp [*]; done)) _ | refine Below.alloc ?_ (by first | omega | (simp; done) | (simp; omega) | (simp [*]; done)) _ | refine Below.trans ?_ (Below.mono (HB.out) (by first | omega | (simp; done) | (simp; omega) | (simp [*]; done)))))
          · have hP : ¬ PageX X K := fun h => by rcases h.2.2 with h | h; exact h0 h; exact hc h.2
            rw [decide_eq_false hP, pg_no hP, pg_no hP, pg_no hP]
            have h1' : ((stOf X : Nat) : Int) = 1 := by omega
            clear hP hg hk hX h0 h1
            generalize (stOf X : Int) = s at *
            generalize (clOf X : Int) = k at *
            generalize (mpOf X : Int) = m at *
            generalize (rnOf X : Int) = r at *
            subst h1'
            go_enter Try.func38, Try.ntmps38
            go_wp2_with fail
            refine (HR.out _).mono ?_
            rintro e w1 ⟨rfl, hb⟩
            obtain ⟨u1, hb1⟩ := one_new hb
            obtain ⟨⟨c0, c1, c2, c3⟩, f0, f1, f2, f3⟩ := blk4 u1
            have HB := Lib.hid hb1
            have hl : w.heap.size < w1.heap.size := (Array.getElem?_eq_some_iff.1 u1).1
            clear u1 hb hb1
            go_wp2_with fail
            refine (HC.out _).mono ?_
            rintro e w2 ⟨rfl, rfl⟩
            go_wp2
            refine bodyPost_ret (v := .tuple #[.agg #[.int .i64 0, .int .i64 0, .int .u32 0, .int .i64 0], .bool false]) ?_ rfl ⟨rfl, ?_⟩
            · have hres : Try.f38.results = #[.cell 4 45, .tmp 5] := by kernel_rfl
              rw [results_cell_tmp hres]
              go_simp
            · exact (by repeat (first | exact Below.refl _ _ | refine Below.drew ?_ | refine Below.setCell ?_ (by first | omega | (simp; done) | (simp; omega) | (simp [*]; done)) _ | refine Below.alloc ?_ (by first | omega | (simp; done) | (simp; omega) | (simp [*]; done)) _ | refine Below.trans ?_ (Below.mono (HB.out) (by first | omega | (simp; done) | (simp; omega) | (simp [*]; done)))))
        · have hP : ¬ PageX X K := fun h => by rcases h.2.2 with h | h; exact h0 h; exact h1 h.1
          rw [decide_eq_false hP, pg_no hP, pg_no hP, pg_no hP]
          have h0' : ¬ ((stOf X : Nat) : Int) = 0 := by omega
          have h1' : ¬ ((stOf X : Nat) : Int) = 1 := by omega
          clear hP hg hk hX h0 h1
          generalize (stOf X : Int) = s at *
          generalize (clOf X : Int) = k at *
          generalize (mpOf X : Int) = m at *
          generalize (rnOf X : Int) = r at *
          go_enter Try.func38, Try.ntmps38
          go_wp2_with fail
          refine (HR.out _).mono ?_
          rintro e w1 ⟨rfl, hb⟩
          obtain ⟨u1, hb1⟩ := one_new hb
          obtain ⟨⟨c0, c1, c2, c3⟩, f0, f1, f2, f3⟩ := blk4 u1
          have HB := Lib.hid hb1
          have hl : w.heap.size < w1.heap.size := (Array.getElem?_eq_some_iff.1 u1).1
          clear u1 hb hb1
          go_wp2_with fail
          refine (HC.out _).mono ?_
          rintro e w2 ⟨rfl, rfl⟩
          go_wp2
          refine bodyPost_ret (v := .tuple #[.agg #[.int .i64 0, .int .i64 0, .int .u32 0, .int .i64 0], .bool false]) ?_ rfl ⟨rfl, ?_⟩
          · have hres : Try.f38.results = #[.cell 4 45, .tmp 5] := by kernel_rfl
            rw [results_cell_tmp hres]
            go_simp
          · exact (by repeat (first | exact Below.refl _ _ | refine Below.drew ?_ | refine Below.setCell ?_ (by first | omega | (simp; done) | (simp; omega) | (simp [*]; done)) _ | refine Below.alloc ?_ (by first | omega | (simp; done) | (simp; omega) | (simp [*]; done)) _ | refine Below.trans ?_ (Below.mono (HB.out) (by first | omega | (simp; done) | (simp; omega) | (simp [*]; done)))))
    · rw [decide_eq_false hk] at HC
      have hP : ¬ PageX X K := fun h => hk h.2.1
      rw [decide_eq_false hP, pg_no hP, pg_no hP, pg_no hP]
      clear hP hg hk hX
      generalize (stOf X : Int) = s at *
      generalize (clOf X : Int) = k at *
      generalize (mpOf X : Int) = m at *
      generalize (rnOf X : Int) = r at *
      go_enter Try.func38, Try.ntmps38
      go_wp2_with fail
      refine (HR.out _).mono ?_
      rintro e w1 ⟨rfl, hb⟩
      obtain ⟨u1, hb1⟩ := one_new hb
      obtain ⟨⟨c0, c1, c2, c3⟩, f0, f1, f2, f3⟩ := blk4 u1
      have HB := Lib.hid hb1
      have hl : w.heap.size < w1.heap.size := (Array.getElem?_eq_some_iff.1 u1).1
      clear u1 hb hb1
      go_wp2_with fail
      refine (HC.out _).mono ?_
      rintro e w2 ⟨rfl, rfl⟩
      go_wp2
      refine bodyPost_ret (v := .tuple #[.agg #[.int .i64 0, .int .i64 0, .int .u32 0, .int .i64 0], .bool false]) ?_ rfl ⟨rfl, ?_⟩
      · have hres : Try.f38.results = #[.cell 4 45, .tmp 5] := by kernel_rfl
        rw [results_cell_tmp hres]
        go_simp
      · exact (by repeat (first | exact Below.refl _ _ | refine Below.drew ?_ | refine Below.setCell ?_ (by first | omega | (simp; done) | (simp; omega) | (simp [*]; done)) _ | refine Below.alloc ?_ (by first | omega | (simp; done) | (simp; omega) | (simp [*]; done)) _ | refine Below.trans ?_ (Below.mono (HB.out) (by first | omega | (simp; done) | (simp; omega) | (simp [*]; done)))))
  · rw [read_bad hg, decide_eq_false hg] at HR
    have hP : ¬ PageX X K := fun h => hg h.1
    rw [decide_eq_false hP, pg_no hP, pg_no hP, pg_no hP]
    clear hP hg hX HC
    go_enter Try.func38, Try.ntmps38
    go_wp2_with fail
    refine (HR.out _).mono ?_
    rintro e w1 ⟨rfl, hb⟩
    obtain ⟨u1, hb1⟩ := one_new hb
    obtain ⟨⟨c0, c1, c2, c3⟩, f0, f1, f2, f3⟩ := blk4 u1
    have HB := Lib.hid hb1
    have hl : w.heap.size < w1.heap.size := (Array.getElem?_eq_some_iff.1 u1).1
    clear u1 hb hb1
    go_wp2
    refine bodyPost_ret (v := .tuple #[.agg #[.int .i64 0, .int .i64 0, .int .u32 0, .int .i64 0], .bool false]) ?_ rfl ⟨rfl, ?_⟩
    · have hres : Try.f38.results = #[.cell 4 45, .tmp 5] := by kernel_rfl
      rw [results_cell_tmp hres]
      go_simp
    · exact (by repeat (first | exact Below.refl _ _ | refine Below.drew ?_ | refine Below.setCell ?_ (by first | omega | (simp; done) | (simp; omega) | (simp [*]; done)) _ | refine Below.alloc ?_ (by first | omega | (simp; done) | (simp; omega) | (simp [*]; done)) _ | refine Below.trans ?_ (Below.mono (HB.out) (by first | omega | (simp; done) | (simp; omega) | (simp [*]; done)))))

set_option maxRecDepth 100000 in
set_option maxHeartbeats 2000000 in
theorem room_any (X : Nat) (K : Int) (w : World) (hX : X < 4294967296) :
    Calls Try.prog 25 #[.int .u32 (X : Int), .int .i64 K] w fun e w' => e = .returned (.int .i64 (roomV X K : Int)) ∧ Below w.heap.size w w' := by
  have HR := Lib.hid (fun W => pageFor_any X K W hX)
  by_cases hP : PageX X K
  · rw [decide_eq_true hP, pg_yes hP, pg_yes hP, pg_yes hP] at HR
    have HP := Lib.hid (fun W => perPage_any K W)
    have hm := mp_lt X
    have HO := Lib.hid (fun W => ones_any (mpOf X) W (by omega))
    have HV := Lib.hid (room_page hP)
    have hv := room_le X K
    generalize (onesTo (mpOf X) 32).length = l at *
    generalize perV K = p at *
    generalize (mpOf X : Int) = m at *
    generalize roomV X K = v at *
    have hd : IntKind.i64.wrap (p - (l : Int)) = (v : Int) := by rw [HV.out]; exact IntWalk.i64_in _ (by omega)
    clear hP hX HV hv hm
    go_enter Try.func25, Try.ntmps25
    go_wp2_with fail
    refine (HR.out _).mono ?_
    rintro e w1 ⟨rfl, hb⟩
    have HB := Lib.hid hb
    have HW : Hid (∀ t W, Below (w1.heap.size + 1) (w1.alloc (.cells #[.int .i64 1, .int .i64 K, .int .u32 m, .int .i64 0] t)) W → W.cell? ⟨w1.heap.size, 2, none⟩ = some (.int .u32 m)) := fun t W hW =>
      (hW.cell (p := ⟨w1.heap.size, 2, none⟩) (by show w1.heap.size < _; omega)).trans ((cell_of_row _ w1.heap.size 2 _ _ (0, 0) (heap_alloc_new w1 _)).trans rfl)
    have x0 := HW.out 45 _ (Below.refl _ _)
    have b0 : Hid (Below (w1.heap.size + 1) (w1.alloc (.cells #[.int .i64 1, .int .i64 K, .int .u32 m, .int .i64 0] 45)) (w1.alloc (.cells #[.int .i64 1, .int .i64 K, .int .u32 m, .int .i64 0] 45)).drew) := (Below.refl _ _).drew
    have x0' := HW.out 45 _ b0.out
    have LO : Hid (∀ W, Below (w1.heap.size + 1) (w1.alloc (.cells #[.int .i64 1, .int .i64 K, .int .u32 m, .int .i64 0] 45)) W → Calls Try.prog 40 #[.int .u32 m] W fun e w' => e = .returned (.int .i64 (l : Int)) ∧ Hid (Below (w1.heap.size + 1) (w1.alloc (.cells #[.int .i64 1, .int .i64 K, .int .u32 m, .int .i64 0] 45)) w') ∧ w'.cell? ⟨w1.heap.size, 2, none⟩ = some (.int .u32 m)) := fun W hW => (HO.out W).mono fun _ w' ⟨he, hb⟩ => by
      have hz := hW.size
      simp only [World.size_alloc] at hz
      have hb2 := hW.trans (hb.mono hz)
      exact ⟨he, hb2, HW.out _ _ hb2⟩
    clear HO hb HW
    go_wp2_with fail
    go_region_held3 (fun W => W.cell? ⟨w1.heap.size, 2, none⟩ = some (.int .u32 m))
      (first | exact x0 | exact x0' | exact x6)
      (first | (go_at_call 39; refine (HP.out _).mono ?_; rintro e w5 ⟨rfl, rfl⟩)
             | (go_at_call 40; refine (LO.out _ b0.out).mono ?_; rintro e w6 ⟨rfl, b6, x6⟩))
    go_wp2
    all_goals
      go_ret
      exact ⟨rfl, HB.out.trans (((Below.refl _ _).alloc HB.out.size _).trans (b6.out.mono (by have := HB.out.size; omega)))⟩
  · rw [decide_eq_false hP, pg_no hP, pg_no hP, pg_no hP] at HR
    have HV := Lib.hid (room_not hP)
    clear hP hX
    go_enter Try.func25, Try.ntmps25
    go_wp2_with fail
    refine (HR.out _).mono ?_
    rintro e w1 ⟨rfl, hb⟩
    have HB := Lib.hid hb
    clear hb
    go_wp2
    go_ret
    exact ⟨by rw [HV.out]; rfl, HB.out.alloc HB.out.size _⟩

theorem held_good : CtlGood 3 0 0 0 := .inl ⟨.inr rfl, rfl, rfl, rfl⟩
theorem held_pack : packA 3 0 0 0 = 3145728 := by rw [packA_good held_good]; rfl

end Go.Proofs.Ytefcaeldkdbjdaa
