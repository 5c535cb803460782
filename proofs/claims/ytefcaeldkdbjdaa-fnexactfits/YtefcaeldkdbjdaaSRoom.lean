/- The contracts of the model's Room, HeadWord and HeldWord. -/
import Derived.Test.YtefcaeldkdbjdaaITaken
namespace Go.Proofs.Ytefcaeldkdbjdaa
open Go.RowKit

set_option maxRecDepth 100000 in
set_option maxHeartbeats 2000000 in
theorem sRoom_any (X : Nat) (K : Int) (w : World) (hX : X < 4294967296) :
    Calls Try.prog 16 #[.int .u32 (X : Int), .int .i64 K] w fun e w' => e = .returned (.int .i64 (roomV X K : Int)) ∧ Below w.heap.size w w' := by
  have HR := Lib.hid (fun W => sCtlRead_any X W hX)
  have HC := Lib.hid (fun W => sIsClass_any K W)
  by_cases hg : GoodX X
  · rw [read_good hg, decide_eq_true hg] at HR
    by_cases hk : IsClass K
    · rw [decide_eq_true hk] at HC
      by_cases h0 : stOf X = 0
      · have hP : PageX X K := ⟨hg, hk, .inl h0⟩
        have hm : mpOf X = 0 := ((good_free (.inl (by omega : ((stOf X : Nat) : Int) = 0))).1 hg).2.1
        have HV : Hid (perV K = (roomV X K : Int)) := by
          show _ = _
          rw [← room_page hP, hm, ones_none]; simp
        have HP := Lib.hid (fun W => sPerPage_any K W)
        rw [HV.out] at HP
        have h0' : ((stOf X : Nat) : Int) = 0 := by omega
        clear hP hm HV hg hk hX h0
        generalize (stOf X : Int) = s at *
        generalize (clOf X : Int) = k at *
        generalize (mpOf X : Int) = m at *
        generalize (rnOf X : Int) = r at *
        subst h0'
        go_enter Try.func16, Try.ntmps16
        go_wp2_with fail
        refine (HR.out _).mono ?_
        rintro e w1 ⟨rfl, hb⟩
        have HB := Lib.hid hb
        clear hb
        go_wp2_with fail
        refine (HC.out _).mono ?_
        rintro e w2 ⟨rfl, rfl⟩
        go_wp2_with fail
        refine (HP.out _).mono ?_
        rintro e w3 ⟨rfl, rfl⟩
        go_wp2
        go_ret
        exact ⟨rfl, HB.out.alloc HB.out.size _⟩
      · by_cases h1 : stOf X = 1
        · by_cases hc : ((clOf X : Nat) : Int) = K
          · have hP : PageX X K := ⟨hg, hk, .inr ⟨h1, hc⟩⟩
            have HP := Lib.hid (fun W => sPerPage_any K W)
            have hm := mp_lt X
            have HO := Lib.hid (fun W => sOnes_any (mpOf X) W (by omega))
            have HV := Lib.hid (room_page hP)
            have hv := room_le X K
            have h1' : ((stOf X : Nat) : Int) = 1 := by omega
            have h0' : ¬ (1 : Int) = 0 := by omega
            generalize (onesTo (mpOf X) 32).length = l at *
            generalize perV K = p at *
            generalize roomV X K = v at *
            have hd : IntKind.i64.wrap (p - (l : Int)) = (v : Int) := by rw [HV.out]; exact IntWalk.i64_in _ (by omega)
            clear hP hX HV hv hm hg hk h0 h1
            generalize (stOf X : Int) = s at *
            generalize (clOf X : Int) = k at *
            generalize (mpOf X : Int) = m at *
            generalize (rnOf X : Int) = r at *
            subst h1' hc
            go_enter Try.func16, Try.ntmps16
            go_wp2_with fail
            refine (HR.out _).mono ?_
            rintro e w1 ⟨rfl, hb⟩
            have HB := Lib.hid hb
            clear hb
            have b0 : Hid (Below (w1.heap.size + 1) (w1.alloc (.cells #[.int .i64 1, .int .i64 k, .int .u32 m, .int .i64 r] 45)) ((w1.alloc (.cells #[.int .i64 1, .int .i64 k, .int .u32 m, .int .i64 r] 45))).drew) := (Below.refl _ _).drew
            obtain ⟨x0, x1, x2, _⟩ := new4 (Below.refl (w1.heap.size + 1) (w1.alloc (.cells #[.int .i64 1, .int .i64 k, .int .u32 m, .int .i64 r] 45)))
            obtain ⟨_, y1, y2, _⟩ := new4 b0.out
            have LO : Hid (∀ W, Below (w1.heap.size + 1) (w1.alloc (.cells #[.int .i64 1, .int .i64 k, .int .u32 m, .int .i64 r] 45)) W → Calls Try.prog 31 #[.int .u32 m] W fun e w' => e = .returned (.int .i64 (l : Int)) ∧ Hid (Below (w1.heap.size + 1) (w1.alloc (.cells #[.int .i64 1, .int .i64 k, .int .u32 m, .int .i64 r] 45)) w') ∧ w'.cell? ⟨w1.heap.size, 2, none⟩ = some (.int .u32 m)) := fun W hW => (HO.out W).mono fun _ w' ⟨he, hb⟩ => by
              have hb2 := below_on hW (by simp) hb
              exact ⟨he, hb2, (new4 hb2).2.2.1⟩
            clear HO
            go_wp2_with fail
            refine (HC.out _).mono ?_
            rintro e w2 ⟨rfl, rfl⟩
            go_wp2_with fail
            go_region_held3 (fun W => W.cell? ⟨w1.heap.size, 2, none⟩ = some (.int .u32 m))
              (first | exact x2 | exact y2 | exact x6)
              (first | (go_at_call 30; refine (HP.out _).mono ?_; rintro e w5 ⟨rfl, rfl⟩)
                     | (go_at_call 31; refine (LO.out _ b0.out).mono ?_; rintro e w6 ⟨rfl, b6, x6⟩))
            go_wp2
            all_goals
              go_ret
              exact ⟨rfl, HB.out.trans (((Below.refl _ _).alloc HB.out.size _).trans (b6.out.mono (by have := HB.out.size; omega)))⟩
          · have hP : ¬ PageX X K := fun h => by rcases h.2.2 with h | h; exact h0 h; exact hc h.2
            have HV := Lib.hid (room_not hP)
            have h1' : ((stOf X : Nat) : Int) = 1 := by omega
            clear hP hg hk hX h0 h1
            generalize (stOf X : Int) = s at *
            generalize (clOf X : Int) = k at *
            generalize (mpOf X : Int) = m at *
            generalize (rnOf X : Int) = r at *
            subst h1'
            go_enter Try.func16, Try.ntmps16
            go_wp2_with fail
            refine (HR.out _).mono ?_
            rintro e w1 ⟨rfl, hb⟩
            have HB := Lib.hid hb
            clear hb
            go_wp2_with fail
            refine (HC.out _).mono ?_
            rintro e w2 ⟨rfl, rfl⟩
            go_wp2
            go_ret
            exact ⟨by rw [HV.out]; rfl, HB.out.alloc HB.out.size _⟩
        · have hP : ¬ PageX X K := fun h => by rcases h.2.2 with h | h; exact h0 h; exact h1 h.1
          have HV := Lib.hid (room_not hP)
          have h0' : ¬ ((stOf X : Nat) : Int) = 0 := by omega
          have h1' : ¬ ((stOf X : Nat) : Int) = 1 := by omega
          clear hP hg hk hX h0 h1
          generalize (stOf X : Int) = s at *
          generalize (clOf X : Int) = k at *
          generalize (mpOf X : Int) = m at *
          generalize (rnOf X : Int) = r at *
          go_enter Try.func16, Try.ntmps16
          go_wp2_with fail
          refine (HR.out _).mono ?_
          rintro e w1 ⟨rfl, hb⟩
          have HB := Lib.hid hb
          clear hb
          go_wp2_with fail
          refine (HC.out _).mono ?_
          rintro e w2 ⟨rfl, rfl⟩
          go_wp2
          go_ret
          exact ⟨by rw [HV.out]; rfl, HB.out.alloc HB.out.size _⟩
    · rw [decide_eq_false hk] at HC
      have hP : ¬ PageX X K := fun h => hk h.2.1
      have HV := Lib.hid (room_not hP)
      clear hP hg hk hX
      generalize (stOf X : Int) = s at *
      generalize (clOf X : Int) = k at *
      generalize (mpOf X : Int) = m at *
      generalize (rnOf X : Int) = r at *
      go_enter Try.func16, Try.ntmps16
      go_wp2_with fail
      refine (HR.out _).mono ?_
      rintro e w1 ⟨rfl, hb⟩
      have HB := Lib.hid hb
      clear hb
      go_wp2_with fail
      refine (HC.out _).mono ?_
      rintro e w2 ⟨rfl, rfl⟩
      go_wp2
      go_ret
      exact ⟨by rw [HV.out]; rfl, HB.out.alloc HB.out.size _⟩
  · rw [read_bad hg, decide_eq_false hg] at HR
    have hP : ¬ PageX X K := fun h => hg h.1
    have HV := Lib.hid (room_not hP)
    clear hP hg hX HC
    go_enter Try.func16, Try.ntmps16
    go_wp2_with fail
    refine (HR.out _).mono ?_
    rintro e w1 ⟨rfl, hb⟩
    have HB := Lib.hid hb
    clear hb
    go_wp2
    go_ret
    exact ⟨by rw [HV.out]; rfl, HB.out.alloc HB.out.size _⟩

end Go.Proofs.Ytefcaeldkdbjdaa
