/- Slices of bools: what they hold, and how that is carried on; the laws' toBoolS and eqBoolS; how such an argument is opened. -/
import Derived.Test.YtgaphgffchifcaaOwnK
import Derived.Test.YtgaphgffchifcaaOpenB
import Derived.Deep.Grids
namespace Go.Proofs.Ytgaphgffchifcaa
open Go.RowKit

/-- The slice at A, of n bools and capacity c, is the call's own and holds zs. -/
def OwnB (w : World) (b0 : Nat) (A : Option Addr) (n c : Nat) (zs : List Bool) : Prop := w.ownsRow b0 4 1 (.slice A n c) n (zs.map Value.bool)
/-- The slice at A, of n bools, reads as zs and lies below block B. -/
def RdB (w : World) (B : Nat) (A : Option Addr) (n : Nat) (zs : List Bool) : Prop :=
  zs.length = n ∧ (0 < n → ∃ g o, A = some ⟨g, o, none⟩ ∧ g < B ∧ ∀ i, i < n → w.cell? ⟨g, o + i, none⟩ = some (.bool (zs[i]?.getD false)))

section
variable {w w' : World} {b0 B n c : Nat} {A : Option Addr} {zs : List Bool}
theorem RdB.zero : RdB w B A 0 [] := ⟨rfl, fun h => absurd h (by omega)⟩
theorem RdB.keep (h : RdB w B A n zs) (hk : ∀ p : Addr, p.block < B → w'.cell? p = w.cell? p) : RdB w' B A n zs :=
  ⟨h.1, fun hn => by
    obtain ⟨g, o, e, hg, hc⟩ := h.2 hn
    exact ⟨g, o, e, hg, fun i hi => (hk ⟨g, o + i, none⟩ hg).trans (hc i hi)⟩⟩
theorem RdB.below (h : RdB w B A n zs) (hb : Below B w w') : RdB w' B A n zs := h.keep fun _ hp => hb.cell hp
theorem RdB.alloc (h : RdB w B A n zs) (hB : B ≤ w.heap.size) (o : Obj) : RdB (w.alloc o) B A n zs := h.keep fun p hp => World.cell?_alloc_lt w o p (by omega)
theorem OwnB.len (h : OwnB w b0 A n c zs) : zs.length = n := by simpa using h.1
theorem OwnB.form (h : OwnB w b0 A n c zs) (hn : 0 < n) : ∃ g, A = some ⟨g, 0, none⟩ ∧ b0 ≤ g ∧ g < w.heap.size := by
  rcases h.2 with ⟨hv, h0⟩ | ⟨g, cap, cur, hv, hb, hh, _⟩
  · omega
  · exact ⟨g, by injection hv, hb, (Array.getElem?_eq_some_iff.1 hh).1⟩
theorem OwnB.cell (h : OwnB w b0 A n c zs) {g i : Nat} (hA : A = some ⟨g, 0, none⟩) (hi : i < n) : w.cell? ⟨g, i, none⟩ = some (.bool (zs[i]?.getD false)) := by
  subst hA
  rw [World.ownsRow.cellAt h i (by omega)]
  have hl : i < zs.length := by rw [h.len]; exact hi
  simp [hl]
theorem OwnB.free (h : OwnB w b0 A n c zs) {g : Nat} (hA : A = some ⟨g, 0, none⟩) (i : Nat) : w.frozen? ⟨g, i, none⟩ = false := by
  subst hA
  exact World.ownsRow.frozenAt h i
theorem OwnB.rd (h : OwnB w b0 A n c zs) : RdB w w.heap.size A n zs :=
  ⟨h.len, fun hn => by
    obtain ⟨g, hA, _, hlt⟩ := h.form hn
    exact ⟨g, 0, hA, hlt, fun i hi => by rw [Nat.zero_add]; exact h.cell hA hi⟩⟩
theorem OwnB.below (h : OwnB w b0 A n c zs) (hb : Below w.heap.size w w') : OwnB w' b0 A n c zs :=
  World.ownsRow.kept h (row := none) ⟨hb.os, hb.tape, hb.output, hb.size, fun k hk _ => hb.block k hk⟩ (by cases hv : (Value.slice A n c).ownBlock <;> simp)
theorem OwnB.from_ {b1 : Nat} (h : OwnB w b0 A n c zs) (hb : b1 ≤ b0) : OwnB w b1 A n c zs := by
  refine ⟨h.1, ?_⟩
  rcases h.2 with h2 | ⟨g, cap, cur, hv, hg, r⟩
  · exact .inl h2
  · exact .inr ⟨g, cap, cur, hv, by omega, r⟩
theorem OwnB.store {g i : Nat} {x : Bool} (h : OwnB w b0 (some ⟨g, 0, none⟩) n c zs) : OwnB (w.setCell ⟨g, i, none⟩ (.bool x)) b0 (some ⟨g, 0, none⟩) n c (zs.set i x) := by
  have h1 := World.ownsRow.stored h i (.bool x)
  rw [← List.map_set] at h1
  exact h1.1
theorem OwnB.low {p : Addr} (h : OwnB w b0 A n c zs) (hp : p.block < b0) (u : Value) : OwnB (w.setCell p u) b0 A n c zs := ownsRow_setCell_below h hp u
theorem OwnB.alloc (h : OwnB w b0 A n c zs) (o : Obj) : OwnB (w.alloc o) b0 A n c zs := World.ownsRow.alloc h o
theorem OwnB.far (h : OwnB w b0 A n c zs) {row : Option Nat} (hg : w.grownBy w' row) (hne : ∀ g, (Value.slice A n c).ownBlock = some g → row ≠ some g) : OwnB w' b0 A n c zs := by
  refine World.ownsRow.kept h hg ?_
  cases hv : (Value.slice A n c).ownBlock with
  | none => exact .inl rfl
  | some g => exact .inr (fun e => hne g hv e.symm)
theorem OwnB.range (h : OwnB w b0 A n c zs) : ∀ g, (Value.slice A n c).ownBlock = some g → b0 ≤ g ∧ g < w.heap.size := World.ownsRow.lt h
theorem OwnB.shape {v : Value} (h : w.ownsRow b0 4 1 v n (zs.map (Value.bool))) : ∃ A c, v = .slice A n c ∧ OwnB w b0 A n c zs := by
  rcases h.2 with ⟨rfl, rfl⟩ | ⟨g, cap, cur, rfl, r⟩
  · exact ⟨_, _, rfl, h⟩
  · exact ⟨_, _, rfl, h⟩
end

theorem info_bool : (Try.prog.info? 4).map (fun i => (i.zero, i.size, i.bytes)) = some (some (.bool false), 1, 1) := by kernel_rfl

theorem takeB_next {z1 z2 : List Bool} {k : Nat} (h : z1.take k = z2.take k) (h1 : k < z1.length) (h2 : k < z2.length) (e : z1[k]?.getD false = z2[k]?.getD false) : z1.take (k + 1) = z2.take (k + 1) := by
  simp only [List.getElem?_eq_getElem h1, List.getElem?_eq_getElem h2, Option.getD_some] at e
  rw [List.take_succ_eq_append_getElem h1, List.take_succ_eq_append_getElem h2, h, e]
theorem neB_at {z1 z2 : List Bool} {k : Nat} (e : ¬ z1[k]?.getD false = z2[k]?.getD false) : ¬ z1 = z2 := by
  rintro rfl; exact e rfl
theorem eqB_all {z1 z2 : List Bool} {k : Nat} (h : z1.take k = z2.take k) (h1 : z1.length ≤ k) (h2 : z2.length ≤ k) : z1 = z2 := by
  rwa [List.take_of_length_le h1, List.take_of_length_le h2] at h

set_option maxHeartbeats 400000 in
theorem eqB_any (A1 A2 : Option Addr) (n1 n2 c1 c2 B1 B2 : Nat) (z1 z2 : List Bool) (w : World) (h1 : RdB w B1 A1 n1 z1) (h2 : RdB w B2 A2 n2 z2) (m1 : n1 ≤ maxLen) (m2 : n2 ≤ maxLen) :
    Calls Try.prog 38 #[.slice A1 n1 c1, .slice A2 n2 c2] w fun e w' => e = .returned (.bool (decide (z1 = z2))) ∧ ∃ k, w' = w.drewN k := by
  unfold maxLen at m1 m2
  by_cases hn : n1 = n2
  · subst hn
    have HL := Lib.hid h1.1
    have HM := Lib.hid h2.1
    have H1 := Lib.hid h1.2
    have H2 := Lib.hid h2.2
    clear h1 h2
    go_enter Try.func38, Try.ntmps38
    go_wp2
    go_loopw [5] (fun i wr => ∃ k : Nat, k ≤ n1 ∧ i = .int .i64 k ∧ (∃ q, wr = w.drewN q) ∧ Hid (z1.take k = z2.take k)) (fun i _ => n1 - (intOf i).toNat)
    case atStart => exact ⟨0, Nat.zero_le _, rfl, ⟨0, rfl⟩, rfl⟩
    case round =>
      obtain ⟨k, hk, rfl, ⟨q, rfl⟩, HT⟩ := hrel
      by_cases hlt : k < n1
      · obtain ⟨g1, o1, rfl, _, hc1⟩ := H1.out (by omega)
        obtain ⟨g2, o2, rfl, _, hc2⟩ := H2.out (by omega)
        have c1 := hc1 k hlt
        have c2 := hc2 k hlt
        clear hc1 hc2
        have HEQ : Hid (z1[k]?.getD false = z2[k]?.getD false → z1.take (k + 1) = z2.take (k + 1)) := fun he => takeB_next HT.out (by have := HL.out; omega) (by have := HM.out; omega) he
        have HNE : Hid (¬ z1[k]?.getD false = z2[k]?.getD false → ¬ z1 = z2) := fun he => neB_at he
        generalize z1[k]?.getD false = p1 at *
        generalize z2[k]?.getD false = p2 at *
        cases p1 <;> cases p2
        · have HN := Lib.hid (HEQ.out rfl)
          clear HEQ HNE
          go_wp2
          go_quiet (fail)
          go_wp2
          go_roundw
          case rel => exact ⟨k + 1, by omega, by go_num, ⟨_, rfl⟩, HN.out⟩
          case measure => simp [intOf]; omega
        · have HN := Lib.hid (HNE.out (by decide))
          clear HEQ HNE
          go_wp2
          go_quiet (fail)
          go_wp2
          go_ret
          exact ⟨by simp [HN.out], _, World.drewN_drewN _ _ _⟩
        · have HN := Lib.hid (HNE.out (by decide))
          clear HEQ HNE
          go_wp2
          go_quiet (fail)
          go_wp2
          go_ret
          exact ⟨by simp [HN.out], _, World.drewN_drewN _ _ _⟩
        · have HN := Lib.hid (HEQ.out rfl)
          clear HEQ HNE
          go_wp2
          go_quiet (fail)
          go_wp2
          go_roundw
          case rel => exact ⟨k + 1, by omega, by go_num, ⟨_, rfl⟩, HN.out⟩
          case measure => simp [intOf]; omega
      · have HN := Lib.hid (eqB_all HT.out (by have := HL.out; omega) (by have := HM.out; omega))
        go_wp2
        go_ret
        exact ⟨by simp [HN.out], _, rfl⟩
  · have HN : Hid (¬ z1 = z2) := fun e => hn (by rw [← h1.1, ← h2.1, e])
    have hb : ((n1 : Int) != (n2 : Int)) = true := by simp; omega
    clear hn h1 h2
    go_enter Try.func38, Try.ntmps38
    go_wp2
    go_ret
    exact ⟨by simp [HN.out], 0, rfl⟩

/-- The first k of zs, then false. -/
def fillB (zs : List Bool) (n k : Nat) : List Bool := zs.take k ++ List.replicate (n - k) false
theorem fillB_len {zs : List Bool} {n k : Nat} (hl : zs.length = n) (hk : k ≤ n) : (fillB zs n k).length = n := by simp [fillB]; omega
theorem fillB_next {zs : List Bool} {n k : Nat} (hl : zs.length = n) (hk : k < n) : (fillB zs n k).set k (zs[k]?.getD false) = fillB zs n (k + 1) := by
  have h1 : k < zs.length := by omega
  unfold fillB
  rw [List.take_succ_eq_append_getElem h1, show n - k = (n - (k + 1)) + 1 from by omega, List.replicate_succ, List.set_append]
  simp only [List.getElem?_eq_getElem h1, Option.getD_some, List.length_take, Nat.min_eq_left (Nat.le_of_lt h1), Nat.lt_irrefl, if_false, Nat.sub_self, List.set_cons_zero, List.append_assoc, List.cons_append, List.nil_append]
theorem fillB_all {zs : List Bool} {n k : Nat} (hl : zs.length = n) (hk : n ≤ k) : fillB zs n k = zs := by
  unfold fillB
  rw [List.take_of_length_le (by omega), show n - k = 0 from by omega]; simp

set_option maxHeartbeats 1000000 in
theorem toB_any (A : Option Addr) (n c B : Nat) (zs : List Bool) (w : World) (h : RdB w B A n zs) (hB : B ≤ w.heap.size) (hn : n ≤ 1048576) :
    Calls Try.prog 37 #[.slice A n c] w fun e w' => ∃ g, e = .returned (.slice (some ⟨g, 0, none⟩) n n) ∧ OwnB w' w.heap.size (some ⟨g, 0, none⟩) n n zs ∧ Below w.heap.size w w' := by
  obtain ⟨i0, hi, hz0, hz1, hz2⟩ := info_parts info_bool
  have hb2 : i0.bytes * n ≤ 281474976710656 := by rw [hz2]; omega
  have hb3 : n ≤ maxLen := by unfold maxLen; omega
  have HL := Lib.hid h.1
  have H2 := Lib.hid h.2
  have HI := Lib.hid hi
  have HZ0 := Lib.hid hz0
  have HZ1 := Lib.hid hz1
  clear h hi hz0 hz1 hz2
  go_enter Try.func37, Try.ntmps37
  go_wp2_with (at_make; refine wpList_make_full _ rfl _ _ 29 rfl w.heap.size 4 i0 (.bool false) 1 Try.underlying29 HI.out HZ0.out HZ1.out .i64 .i64 _ _ n rfl rfl rfl rfl hb2 hb3 (Nat.le_refl _) ?_)
  intro w1 hown hgr
  have HO : Hid (OwnB w1 w.heap.size (some ⟨w.heap.size, 0, none⟩) n n (fillB zs n 0)) := by
    have := toList_madeCells_one (.bool false) n
    have h3 : w1.ownsRow w.heap.size 4 1 (.slice (some ⟨w.heap.size, 0, none⟩) n n) n (List.replicate n (.bool false)) := this ▸ hown
    show w1.ownsRow _ _ _ _ _ ((fillB zs n 0).map _)
    simpa [fillB] using h3
  have HB : Hid (Below w.heap.size w w1) := (Below.refl _ _).grown hgr (Nat.le_refl _) (by simp)
  clear hown hgr
  go_wp2
  go_loopw [4] (fun i wr => ∃ k : Nat, k ≤ n ∧ i = .int .i64 k ∧ Hid (OwnB wr w.heap.size (some ⟨w.heap.size, 0, none⟩) n n (fillB zs n k)) ∧ Hid (Below w.heap.size w wr)) (fun i _ => n - (intOf i).toNat)
  case atStart => exact ⟨0, Nat.zero_le _, rfl, HO, HB⟩
  case round =>
    obtain ⟨k, hk, rfl, HOr, HBr⟩ := hrel
    clear HO HB
    by_cases hlt : k < n
    · obtain ⟨g, o, rfl, hg, hc⟩ := H2.out (by omega)
      have c1 : wr.cell? ⟨g, o + k, none⟩ = some (.bool (zs[k]?.getD false)) := (HBr.out.cell (p := ⟨g, o + k, none⟩) (by show g < _; omega)).trans (hc k hlt)
      have c2 := HOr.out.cell rfl hlt
      have f2 := HOr.out.free rfl k
      have HN : Hid (OwnB (wr.setCell ⟨w.heap.size, k, none⟩ (.bool (zs[k]?.getD false))) w.heap.size (some ⟨w.heap.size, 0, none⟩) n n (fillB zs n (k + 1))) := by
        rw [← fillB_next HL.out hlt]; exact HOr.out.store
      have HM : Hid (Below w.heap.size w (wr.setCell ⟨w.heap.size, k, none⟩ (.bool (zs[k]?.getD false)))) := HBr.out.setCell (Nat.le_refl _) _
      clear hc HOr HBr
      go_wp2
      go_roundw
      case rel => exact ⟨k + 1, by omega, by go_num, HN, HM⟩
      case measure => simp [intOf]; omega
    · go_wp2
      go_ret
      refine ⟨w.heap.size, rfl, ?_, HBr.out⟩
      have := HOr.out
      rwa [fillB_all HL.out (by omega)] at this

theorem cells_bool : Try.prog.cellsOf 4 = 1 := by kernel_rfl

section
open Go.ChangeShapes Go.WideShapes Go.ChangeAt
theorem open_boolS {H : Type} {enc : TypeId × Value → H} {W : World} {base : Nat} {v : Value} {d : DataW H} {p : List MemPlace} (hv : Value.okWide Try.prog W .any base 29 v)
    (h : DataW.Trod enc Try.prog W 0 (fun _ => true) true 29 v d p) :
    ∃ A n c bs, v = .slice A n c ∧ n ≤ maxLen ∧ RdB W W.heap.size A n bs ∧ True := by
  obtain ⟨a0, l0, c0, rfl⟩ := okWide_slice Try.underlying29 hv
  obtain ⟨fuel, hf⟩ := h
  rcases Deep.open_bools Try.underlying29 Try.underlying4 cells_bool hf with ⟨hcs, _⟩ | ⟨x, l, c, zs, hcs, _, hl, hm, _, hcell⟩
  · simp [Value.cells] at hcs
    obtain ⟨rfl, rfl, rfl⟩ := hcs
    exact ⟨_, _, _, [], rfl, by unfold maxLen; omega, RdB.zero, trivial⟩
  · simp [Value.cells] at hcs
    obtain ⟨rfl, rfl, rfl⟩ := hcs
    refine ⟨_, _, _, (List.range l0).map zs, rfl, by omega, ⟨by simp, fun hn => ?_⟩, trivial⟩
    obtain ⟨b, off, spot⟩ := x
    have h0 := hcell 0 (by omega)
    have hspot : spot = none := by simpa [Addr.add] using World.cell?_spot h0
    subst hspot
    have hblk := World.block_lt_of_cell? W _ h0
    refine ⟨b, off, rfl, by simpa [Addr.add] using hblk, fun i hi => ?_⟩
    have := hcell i (by omega)
    have e : ((List.range l0).map zs)[i]?.getD false = zs i := by simp [hi]
    rw [e, ← this]
    congr 1
    unfold Addr.add; split <;> simp_all
end

end Go.Proofs.Ytgaphgffchifcaa
