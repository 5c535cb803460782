/- The contracts of the bank's methods: one goroutine, the lock free. Conditions: the bank is one block of its own, its words another one. -/
import Derived.Test.YtiliahmaolnfbaaLocks
import Derived.Test.YtiliahmaolnfbaaA2
import Derived.Laws.CopyOwn
namespace Go.Proofs.Ytiliahmaolnfbaa
open Go.RowKit Go.MuLone

/-- Block b is a bank whose lock is free and whose words are the slice value v. -/
def Bk (w : World) (b : Nat) (v : Value) : Prop := w.heap[b]? = some (.cells #[.int .i32 0, .int .u32 0, v] 72 (0, 0))

section
variable {w w' : World} {b b0 n c : Nat} {v : Value} {A : Option Addr} {zs : List Int}
theorem Bk.lt (h : Bk w b v) : b < w.heap.size := (Array.getElem?_eq_some_iff.1 h).1
theorem Bk.cell0 (h : Bk w b v) : w.cell? ⟨b, 0, none⟩ = some (.int .i32 0) := (cell_of_row w b 0 _ _ (0, 0) h).trans rfl
theorem Bk.cell2 (h : Bk w b v) : w.cell? ⟨b, 2, none⟩ = some v := (cell_of_row w b 2 _ _ (0, 0) h).trans rfl
theorem Bk.free (h : Bk w b v) (i : Nat) : w.frozen? ⟨b, i, none⟩ = false := by unfold Bk at h; simp [World.frozen?, h]
theorem Bk.below (h : Bk w b v) (hb : Below w.heap.size w w') : Bk w' b v := (hb.block b h.lt).trans h
theorem Bk.ne (h : Bk w b v) {g : Nat} (ho : Own w b0 (some ⟨g, 0, none⟩) n c zs) : g ≠ b := by
  rintro rfl
  rcases ho.2 with ⟨h', _⟩ | ⟨g', cap, cur, hv, _, hh, _⟩
  · simp at h'
  · have e : g = g' := by injection hv with h1; injection h1 with h1; injection h1
    subst e
    unfold Bk at h
    rw [h] at hh
    injection hh with hh
    injection hh with _ ht
    exact absurd ht (by decide)
/-- Locked, one word written, unlocked. -/
theorem Bk.back (h : Bk w b v) {g k : Nat} {x : Value} (hg : g ≠ b) : Bk (((w.setCell ⟨b, 0, none⟩ (.int .i32 1)).setCell ⟨g, k, none⟩ x).setCell ⟨b, 0, none⟩ (.int .i32 0)) b v := by
  unfold Bk at h ⊢
  simp [World.setCell, Array.getElem?_modify, h, hg]
theorem Bk.back0 (h : Bk w b v) : Bk ((w.setCell ⟨b, 0, none⟩ (.int .i32 1)).setCell ⟨b, 0, none⟩ (.int .i32 0)) b v := by
  unfold Bk at h ⊢
  simp [World.setCell, Array.getElem?_modify, h]
theorem Own.back {g k : Nat} {x : Int} (h : Own w b0 (some ⟨g, 0, none⟩) n c zs) (hg : g ≠ b) :
    Own (((w.setCell ⟨b, 0, none⟩ (.int .i32 1)).setCell ⟨g, k, none⟩ (.int .u32 x)).setCell ⟨b, 0, none⟩ (.int .i32 0)) b0 (some ⟨g, 0, none⟩) n c (zs.set k x) := by
  refine Own.far (Own.store (Own.far h ?_ _)) ?_ _
  all_goals
    intro g' e
    injection e with e
    injection e with e
    subst e
    exact hg
theorem Own.back0 {g : Nat} (h : Own w b0 (some ⟨g, 0, none⟩) n c zs) (hg : g ≠ b) :
    Own ((w.setCell ⟨b, 0, none⟩ (.int .i32 1)).setCell ⟨b, 0, none⟩ (.int .i32 0)) b0 (some ⟨g, 0, none⟩) n c zs := by
  refine Own.far (Own.far h ?_ _) ?_ _
  all_goals
    intro g' e
    injection e with e
    injection e with e
    subst e
    exact hg
end

/-- What a method leaves: the bank with the words zs, and nothing below b0 turned. -/
def Left (b b0 : Nat) (A : Option Addr) (n c : Nat) (w : World) (zs : List Int) (w' : World) : Prop :=
  Bk w' b (.slice A n c) ∧ Own w' b0 A n c zs ∧ Below b0 w w'

theorem lock_there {w : World} {b g k : Nat} {x : Value} (c0 : w.cell? ⟨b, 0, none⟩ = some (.int .i32 0)) (hg : g ≠ b) :
    ((w.setCell ⟨b, 0, none⟩ (.int .i32 1)).setCell ⟨g, k, none⟩ x).cell? ⟨b, 0, none⟩ = some (.int .i32 1) :=
  (World.cell?_setCell_other _ ⟨g, k, none⟩ ⟨b, 0, none⟩ _ (fun e => hg (by injection e))).trans (World.cell?_setCell_same w ⟨b, 0, none⟩ (.int .i32 1) c0)

theorem below_back {w : World} {b b0 g k : Nat} {x : Value} (hb : b0 ≤ b) (hg : b0 ≤ g) :
    Below b0 w (((w.setCell ⟨b, 0, none⟩ (.int .i32 1)).setCell ⟨g, k, none⟩ x).setCell ⟨b, 0, none⟩ (.int .i32 0)) :=
  (((Below.refl _ _).setCell hb _).setCell hg _).setCell hb _
theorem below_back0 {w : World} {b b0 : Nat} (hb : b0 ≤ b) :
    Below b0 w ((w.setCell ⟨b, 0, none⟩ (.int .i32 1)).setCell ⟨b, 0, none⟩ (.int .i32 0)) :=
  ((Below.refl _ _).setCell hb _).setCell hb _

set_option maxHeartbeats 800000 in
theorem bstore (b b0 g n c k : Nat) (x : Int) (zs : List Int) (w : World) (hB : Bk w b (.slice (some ⟨g, 0, none⟩) n c)) (hO : Own w b0 (some ⟨g, 0, none⟩) n c zs) (hb : b0 ≤ b) (hk : k < n) (hn : n ≤ 64) :
    Calls Try.prog 55 #[.pointer (some ⟨b, 0, none⟩), .int .i64 k, .int .u32 x] w fun e w' => e = .returned (.tuple #[]) ∧ Left b b0 (some ⟨g, 0, none⟩) n c w (zs.set k x) w' := by
  have hg := hB.ne hO
  have hg' : b ≠ g := fun e => hg e.symm
  have c0 := hB.cell0
  have c2 := hB.cell2
  have f0 := hB.free 0
  have ck := hO.cell rfl hk
  have fk := hO.free rfl k
  have hbg : b0 ≤ g := by obtain ⟨g1, e, h1, _⟩ := hO.form (by omega); injection e with e; injection e with e; omega
  have HB := Lib.hid hB
  have HO := Lib.hid hO
  clear hB hO
  go_enter_defers Try.func55, Try.ntmps55
  go_wp2_with (go_at_call 71; refine (lock_free muLib ⟨b, 0, none⟩ _ c0 f0).mono ?_; rintro e w' ⟨rfl, rfl⟩)
  refine leaves_cons (f := 72) (args := #[.pointer (some ⟨b, 0, none⟩)]) (by simp) (by simp [go_sem]) ?_
  refine (unlock_deferred muLib ⟨b, 0, none⟩ .returning _ (lock_there c0 hg) (by simp [f0])).mono ?_
  rintro e u' w'' ⟨rfl, rfl, rfl⟩
  exact ⟨_, results_none rfl _ _ _, rfl, HB.out.back hg, HO.out.back hg, below_back hb hbg⟩

set_option maxHeartbeats 800000 in
theorem bload (b b0 g n c k : Nat) (zs : List Int) (w : World) (hB : Bk w b (.slice (some ⟨g, 0, none⟩) n c)) (hO : Own w b0 (some ⟨g, 0, none⟩) n c zs) (hb : b0 ≤ b) (hk : k < n) (hn : n ≤ 64) :
    Calls Try.prog 54 #[.pointer (some ⟨b, 0, none⟩), .int .i64 k] w fun e w' => e = .returned (.int .u32 (zs[k]?.getD 0)) ∧ Left b b0 (some ⟨g, 0, none⟩) n c w (zs) w' := by
  have hg := hB.ne hO
  have hg' : b ≠ g := fun e => hg e.symm
  have c0 := hB.cell0
  have c2 := hB.cell2
  have f0 := hB.free 0
  have ck := hO.cell rfl hk
  have fk := hO.free rfl k
  have hbg : b0 ≤ g := by obtain ⟨g1, e, h1, _⟩ := hO.form (by omega); injection e with e; injection e with e; omega
  have HB := Lib.hid hB
  have HO := Lib.hid hO
  clear hB hO
  go_enter_defers Try.func54, Try.ntmps54
  go_wp2_with (go_at_call 71; refine (lock_free muLib ⟨b, 0, none⟩ _ c0 f0).mono ?_; rintro e w' ⟨rfl, rfl⟩)
  refine leaves_cons (f := 72) (args := #[.pointer (some ⟨b, 0, none⟩)]) (by simp) (by simp [go_sem]) ?_
  refine (unlock_deferred muLib ⟨b, 0, none⟩ .returning _ (World.cell?_setCell_same w ⟨b, 0, none⟩ (.int .i32 1) c0) (by simp [f0])).mono ?_
  rintro e u' w'' ⟨rfl, rfl, rfl⟩
  exact ⟨_, results_tmp rfl _ _ _, rfl, HB.out.back0, HO.out.back0 hg, below_back0 hb⟩

set_option maxHeartbeats 800000 in
theorem bcas_yes (b b0 g n c k : Nat) (was x : Int) (zs : List Int) (w : World) (hB : Bk w b (.slice (some ⟨g, 0, none⟩) n c)) (hO : Own w b0 (some ⟨g, 0, none⟩) n c zs) (hb : b0 ≤ b) (hk : k < n) (hn : n ≤ 64) (he : (zs[k]?.getD 0 != was) = false) :
    Calls Try.prog 58 #[.pointer (some ⟨b, 0, none⟩), .int .i64 k, .int .u32 was, .int .u32 x] w fun e w' => e = .returned (.bool true) ∧ Left b b0 (some ⟨g, 0, none⟩) n c w (zs.set k x) w' := by
  have hg := hB.ne hO
  have hg' : b ≠ g := fun e => hg e.symm
  have c0 := hB.cell0
  have c2 := hB.cell2
  have f0 := hB.free 0
  have ck := hO.cell rfl hk
  have fk := hO.free rfl k
  have hbg : b0 ≤ g := by obtain ⟨g1, e, h1, _⟩ := hO.form (by omega); injection e with e; injection e with e; omega
  have HB := Lib.hid hB
  have HO := Lib.hid hO
  clear hB hO
  go_enter_defers Try.func58, Try.ntmps58
  go_wp2_with (go_at_call 71; refine (lock_free muLib ⟨b, 0, none⟩ _ c0 f0).mono ?_; rintro e w' ⟨rfl, rfl⟩)
  refine leaves_cons (f := 72) (args := #[.pointer (some ⟨b, 0, none⟩)]) (by simp) (by simp [go_sem]) ?_
  refine (unlock_deferred muLib ⟨b, 0, none⟩ .returning _ (lock_there c0 hg) (by simp [f0])).mono ?_
  rintro e u' w'' ⟨rfl, rfl, rfl⟩
  exact ⟨_, results_tmp rfl _ _ _, rfl, HB.out.back hg, HO.out.back hg, below_back hb hbg⟩

set_option maxHeartbeats 800000 in
theorem bcas_no (b b0 g n c k : Nat) (was x : Int) (zs : List Int) (w : World) (hB : Bk w b (.slice (some ⟨g, 0, none⟩) n c)) (hO : Own w b0 (some ⟨g, 0, none⟩) n c zs) (hb : b0 ≤ b) (hk : k < n) (hn : n ≤ 64) (he : (zs[k]?.getD 0 != was) = true) :
    Calls Try.prog 58 #[.pointer (some ⟨b, 0, none⟩), .int .i64 k, .int .u32 was, .int .u32 x] w fun e w' => e = .returned (.bool false) ∧ Left b b0 (some ⟨g, 0, none⟩) n c w (zs) w' := by
  have hg := hB.ne hO
  have hg' : b ≠ g := fun e => hg e.symm
  have c0 := hB.cell0
  have c2 := hB.cell2
  have f0 := hB.free 0
  have ck := hO.cell rfl hk
  have fk := hO.free rfl k
  have hbg : b0 ≤ g := by obtain ⟨g1, e, h1, _⟩ := hO.form (by omega); injection e with e; injection e with e; omega
  have HB := Lib.hid hB
  have HO := Lib.hid hO
  clear hB hO
  go_enter_defers Try.func58, Try.ntmps58
  go_wp2_with (go_at_call 71; refine (lock_free muLib ⟨b, 0, none⟩ _ c0 f0).mono ?_; rintro e w' ⟨rfl, rfl⟩)
  refine leaves_cons (f := 72) (args := #[.pointer (some ⟨b, 0, none⟩)]) (by simp) (by simp [go_sem]) ?_
  refine (unlock_deferred muLib ⟨b, 0, none⟩ .returning _ (World.cell?_setCell_same w ⟨b, 0, none⟩ (.int .i32 1) c0) (by simp [f0])).mono ?_
  rintro e u' w'' ⟨rfl, rfl, rfl⟩
  exact ⟨_, results_tmp rfl _ _ _, rfl, HB.out.back0, HO.out.back0 hg, below_back0 hb⟩

/-- The sum of two words modulo 2^32. -/
def addW (a b : Int) : Int := (a + b) % 4294967296
set_option maxHeartbeats 800000 in
theorem badd (b b0 g n c k : Nat) (x : Int) (zs : List Int) (w : World) (hB : Bk w b (.slice (some ⟨g, 0, none⟩) n c)) (hO : Own w b0 (some ⟨g, 0, none⟩) n c zs) (hb : b0 ≤ b) (hk : k < n) (hn : n ≤ 64) (hz : 0 ≤ zs[k]?.getD 0 ∧ zs[k]?.getD 0 < 4294967296) (hx : 0 ≤ x ∧ x < 4294967296) :
    Calls Try.prog 51 #[.pointer (some ⟨b, 0, none⟩), .int .i64 k, .int .u32 x] w fun e w' => e = .returned (.int .u32 (zs[k]?.getD 0)) ∧ Left b b0 (some ⟨g, 0, none⟩) n c w (zs.set k (addW (zs[k]?.getD 0) x)) w' := by
  have hg := hB.ne hO
  have hg' : b ≠ g := fun e => hg e.symm
  have c0 := hB.cell0
  have c2 := hB.cell2
  have f0 := hB.free 0
  have ck := hO.cell rfl hk
  have fk := hO.free rfl k
  have hbg : b0 ≤ g := by obtain ⟨g1, e, h1, _⟩ := hO.form (by omega); injection e with e; injection e with e; omega
  have HB := Lib.hid hB
  have HO := Lib.hid hO
  clear hB hO
  go_enter_defers Try.func51, Try.ntmps51
  go_wp2_with (go_at_call 71; refine (lock_free muLib ⟨b, 0, none⟩ _ c0 f0).mono ?_; rintro e w' ⟨rfl, rfl⟩)
  refine leaves_cons (f := 72) (args := #[.pointer (some ⟨b, 0, none⟩)]) (by simp) (by simp [go_sem]) ?_
  refine (unlock_deferred muLib ⟨b, 0, none⟩ .returning _ (lock_there c0 hg) (by simp [f0])).mono ?_
  rintro e u' w'' ⟨rfl, rfl, rfl⟩
  exact ⟨_, results_tmp rfl _ _ _, rfl, HB.out.back hg, HO.out.back hg, below_back hb hbg⟩

set_option maxHeartbeats 800000 in
theorem bor (b b0 g n c k : Nat) (x : Int) (zs : List Int) (w : World) (hB : Bk w b (.slice (some ⟨g, 0, none⟩) n c)) (hO : Own w b0 (some ⟨g, 0, none⟩) n c zs) (hb : b0 ≤ b) (hk : k < n) (hn : n ≤ 64) :
    Calls Try.prog 52 #[.pointer (some ⟨b, 0, none⟩), .int .i64 k, .int .u32 x] w fun e w' => e = .returned (.int .u32 (zs[k]?.getD 0)) ∧ Left b b0 (some ⟨g, 0, none⟩) n c w (zs.set k (bits .or .u32 (zs[k]?.getD 0) x)) w' := by
  have hg := hB.ne hO
  have hg' : b ≠ g := fun e => hg e.symm
  have c0 := hB.cell0
  have c2 := hB.cell2
  have f0 := hB.free 0
  have ck := hO.cell rfl hk
  have fk := hO.free rfl k
  have hbg : b0 ≤ g := by obtain ⟨g1, e, h1, _⟩ := hO.form (by omega); injection e with e; injection e with e; omega
  have HB := Lib.hid hB
  have HO := Lib.hid hO
  clear hB hO
  go_enter_defers Try.func52, Try.ntmps52
  go_wp2_with (go_at_call 71; refine (lock_free muLib ⟨b, 0, none⟩ _ c0 f0).mono ?_; rintro e w' ⟨rfl, rfl⟩)
  refine leaves_cons (f := 72) (args := #[.pointer (some ⟨b, 0, none⟩)]) (by simp) (by simp [go_sem]) ?_
  refine (unlock_deferred muLib ⟨b, 0, none⟩ .returning _ (lock_there c0 hg) (by simp [f0])).mono ?_
  rintro e u' w'' ⟨rfl, rfl, rfl⟩
  exact ⟨_, results_tmp rfl _ _ _, rfl, HB.out.back hg, HO.out.back hg, below_back hb hbg⟩

set_option maxHeartbeats 800000 in
theorem band (b b0 g n c k : Nat) (x : Int) (zs : List Int) (w : World) (hB : Bk w b (.slice (some ⟨g, 0, none⟩) n c)) (hO : Own w b0 (some ⟨g, 0, none⟩) n c zs) (hb : b0 ≤ b) (hk : k < n) (hn : n ≤ 64) :
    Calls Try.prog 53 #[.pointer (some ⟨b, 0, none⟩), .int .i64 k, .int .u32 x] w fun e w' => e = .returned (.int .u32 (zs[k]?.getD 0)) ∧ Left b b0 (some ⟨g, 0, none⟩) n c w (zs.set k (bits .and .u32 (zs[k]?.getD 0) x)) w' := by
  have hg := hB.ne hO
  have hg' : b ≠ g := fun e => hg e.symm
  have c0 := hB.cell0
  have c2 := hB.cell2
  have f0 := hB.free 0
  have ck := hO.cell rfl hk
  have fk := hO.free rfl k
  have hbg : b0 ≤ g := by obtain ⟨g1, e, h1, _⟩ := hO.form (by omega); injection e with e; injection e with e; omega
  have HB := Lib.hid hB
  have HO := Lib.hid hO
  clear hB hO
  go_enter_defers Try.func53, Try.ntmps53
  go_wp2_with (go_at_call 71; refine (lock_free muLib ⟨b, 0, none⟩ _ c0 f0).mono ?_; rintro e w' ⟨rfl, rfl⟩)
  refine leaves_cons (f := 72) (args := #[.pointer (some ⟨b, 0, none⟩)]) (by simp) (by simp [go_sem]) ?_
  refine (unlock_deferred muLib ⟨b, 0, none⟩ .returning _ (lock_there c0 hg) (by simp [f0])).mono ?_
  rintro e u' w'' ⟨rfl, rfl, rfl⟩
  exact ⟨_, results_tmp rfl _ _ _, rfl, HB.out.back hg, HO.out.back hg, below_back hb hbg⟩

end Go.Proofs.Ytiliahmaolnfbaa
