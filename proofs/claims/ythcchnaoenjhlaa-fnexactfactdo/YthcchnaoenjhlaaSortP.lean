/- The contract of slices.SortFunc at lists of blocks of the call's own: behind it the list is sorted. -/
import Derived.Test.YthcchnaoenjhlaaCmpP
namespace Go.Proofs.Ythcchnaoenjhlaa
open Go.RowKit Go.Sort Go.Shelf Go.Lib

/-- Less by address, then by size. -/
def ltP (x y : Int × Int) : Bool := decide (x.1 < y.1 ∨ x.1 = y.1 ∧ x.2 < y.2)
theorem ltOf_cfP (x y : Int × Int) : ltOf cfP x y = ltP x y := by
  unfold ltOf cfP ltP orV Lib.compareInt
  by_cases h1 : x.1 < y.1
  · simp [h1]
  · by_cases h2 : y.1 < x.1
    · have h3 : ¬ x.1 = y.1 := by omega
      simp [h1, h2, h3]
    · have h3 : x.1 = y.1 := by omega
      by_cases h4 : x.2 < y.2
      · simp [h3, h4]
      · by_cases h5 : y.2 < x.2 <;> simp [h3, h4, h5]
theorem swoP : SWO (ltOf cfP) where
  irrefl x := by rw [ltOf_cfP]; simp [ltP]
  trans x y z h1 h2 := by rw [ltOf_cfP] at *; simp [ltP] at *; omega
  ntrans x y z h1 h2 := by rw [ltOf_cfP] at *; simp [ltP] at *; omega
theorem oneP (x y : Int × Int) (h1 : ltOf cfP x y = false) (h2 : ltOf cfP y x = false) : x = y := by
  rw [ltOf_cfP] at *
  simp [ltP] at *
  exact Prod.ext (by omega) (by omega)

/-- The sorted list. -/
def sortV (ps : List (Int × Int)) : List (Int × Int) := ps.mergeSort fun x y => !ltOf cfP y x
theorem sortV_len (ps : List (Int × Int)) : (sortV ps).length = ps.length := List.length_mergeSort _
theorem sortV_perm (ps : List (Int × Int)) : (sortV ps).Perm ps := List.mergeSort_perm _ _
/-- A list with the same blocks that rises is the sorted one. -/
theorem sortV_eq {ps qs : List (Int × Int)} (hp : qs.Perm ps) (hs : qs.Pairwise fun x y => ltP x y = true) : sortV ps = qs := by
  have hpw : (sortV ps).Pairwise fun x y => (!ltOf cfP y x) = true := by
    apply List.pairwise_mergeSort
    · intro a b c h1 h2
      simp only [Bool.not_eq_true'] at *
      exact swoP.ntrans _ _ _ h2 h1
    · intro a b
      simp only [Bool.or_eq_true, Bool.not_eq_true']
      rw [ltOf_cfP, ltOf_cfP]
      simp [ltP]
      omega
  have hqs : qs.Pairwise fun x y => (!ltOf cfP y x) = true := hs.imp fun {a b} h => by
    rw [ltOf_cfP]
    simp [ltP] at *
    omega
  refine List.Perm.eq_of_pairwise (le := fun x y => (!ltOf cfP y x) = true) ?_ hpw hqs ((sortV_perm ps).trans hp.symm)
  intro a b _ _ h1 h2
  simp only [Bool.not_eq_true'] at h1 h2
  exact oneP a b h2 h1

theorem flatK_flat (ps : List (Int × Int)) : (flatK encP 2 ps.toArray).toList = flatP ps := by
  apply List.ext_getElem?
  intro j
  by_cases hj : j < ps.length * 2
  · have e0 : (flatK encP 2 ps.toArray).toList[j]? = some ((encP ps.toArray[j / 2]!)[j % 2]!) := by
      rw [Array.getElem?_toList]
      simp [flatK, hj]
    have h2 : j / 2 < ps.length := by omega
    have e1 : ps.toArray[j / 2]! = (pa ps (j / 2), pb ps (j / 2)) := by simp [h2, pa, pb]
    rw [e0, e1]
    rcases Nat.mod_two_eq_zero_or_one j with h | h
    · have e : j = (j / 2) * 2 := by omega
      rw [h]
      conv => rhs; rw [e, flatP_even ps _ h2]
      simp [encP]
    · have e : j = (j / 2) * 2 + 1 := by omega
      rw [h]
      conv => rhs; rw [e, flatP_odd ps _ h2]
      simp [encP]
  · rw [List.getElem?_eq_none (by simp; omega), List.getElem?_eq_none (by rw [flatP_len]; omega)]

theorem holds_of_own {w : World} {b0 g n c : Nat} {ps : List (Int × Int)} (h : OwnP w b0 (some ⟨g, 0, none⟩) n c ps) : HoldsK encP 2 w g 0 ps.toArray := by
  intro j hj
  have hj' : j < ps.length * 2 := by simpa using hj
  refine ⟨?_, by rw [Nat.zero_add]; exact World.ownsRow.frozenAt h j⟩
  rw [Nat.zero_add, World.ownsRow.cellAt h j (by rw [← h.len]; exact hj'), ← flatK_flat ps, Array.getElem?_toList]
  rw [getElem!_pos _ j (by simpa using hj')]
  exact Array.getElem?_eq_getElem _

/-- Behind the sort the same slice owns the sorted list. -/
theorem own_sorted {w : World} {b0 g n c m : Nat} {ps ts : List (Int × Int)} {os : Array Obj} (h : OwnP w b0 (some ⟨g, 0, none⟩) n c ps) (hl : ts.length = ps.length) : OwnP (sortWorldK encP 2 w g 0 m ts.toArray os) b0 (some ⟨g, 0, none⟩) n c ts := by
  have hn := h.len
  rcases h.2 with ⟨e0, _⟩ | ⟨g', cap', cur, e0, hb, hg, hnc, hm, hs, ht⟩
  · cases e0
  · injection e0 with e1 _ e3
    injection e1 with e1
    injection e1 with e1
    subst e1; subst e3
    have hlt : g < w.heap.size := (Array.getElem?_eq_some_iff.1 hg).1
    have hsz : ts.length * 2 ≤ cur.size := by rw [hs, hl, hn]; omega
    refine ⟨by rw [flatP_len, hl, hn], .inr ⟨g, c, putCells id 0 (flatK encP 2 ts.toArray) cur, rfl, hb, ?_, hnc, hm, by simpa [putCells] using hs, ?_⟩⟩
    · unfold sortWorldK
      rw [heap_grow_old _ _ (by simpa [putRowK, putRow, mapBlock, Sort.ahead] using hlt)]
      simp [putRowK, putRow, mapBlock, Sort.ahead, Array.getElem?_modify, hg, onCells]
    · rw [← flatK_flat ts]
      apply List.ext_getElem?
      intro j
      by_cases hj : j < n * 2
      · rw [List.getElem?_take_of_lt hj, Array.getElem?_toList, Array.getElem?_toList]
        have h1 : j < cur.size := by omega
        have h2 : j < (flatK encP 2 ts.toArray).size := by simp; omega
        simp only [putCells, Array.getElem?_mapIdx, Array.getElem?_eq_getElem h1, Option.map_some, Array.getElem?_eq_getElem h2]
        rw [if_pos (by simp at h2 ⊢; omega)]
        simp
        exact getElem!_pos _ j h2
      · rw [List.getElem?_take_eq_none (by omega), List.getElem?_eq_none (by simp; omega)]
theorem grown_sorted {w : World} {g m : Nat} {ts : List (Int × Int)} {os : Array Obj} : w.grownBy (sortWorldK encP 2 w g 0 m ts.toArray os) (some g) := by
  refine ⟨rfl, rfl, rfl, by simp [sortWorldK, putRowK, putRow, mapBlock, Sort.ahead], fun k hk hne => ?_⟩
  unfold sortWorldK
  rw [heap_grow_old _ _ (by simpa [putRowK, putRow, mapBlock, Sort.ahead] using hk)]
  have : g ≠ k := fun e => hne (by rw [e])
  simp [putRowK, putRow, mapBlock, Sort.ahead, Array.getElem?_modify, this]

/-- slices.SortFunc. -/
theorem sortFunc_any (A : Option Addr) (n c b0 : Nat) (ps : List (Int × Int)) (w : World) (h : OwnP w b0 A n c ps) (hn : n ≤ 1048640) :
    Calls Try.prog 104 #[.slice A n c, .func (.func 100) #[] #[]] w fun e w' => e = .returned (.tuple #[]) ∧ OwnP w' b0 A n c (sortV ps) ∧ Below b0 w w' := by
  rcases h.2 with ⟨hv, h0⟩ | ⟨g, cap, cur, hv, hb, hg, _⟩
  · injection hv with h1 h2 h3
    subst h1 h2 h3
    have hps : ps = [] := List.eq_nil_of_length_eq_zero h.len
    subst hps
    have hse : sortV [] = [] := by simp [sortV]
    rw [hse]
    exact (AnyF.slices_SortFunc_none sortB none 0 (.func (.func 100) #[] #[]) w).mono fun e w' ⟨he, hw⟩ => ⟨he, hw ▸ h, hw ▸ Below.refl _ _⟩
  · injection hv with h1 h2 h3
    subst h1 h3
    have hlt : g < w.heap.size := (Array.getElem?_eq_some_iff.1 hg).1
    have eg : ∀ args w, (callFunc 100 args).run Try.prog w = .ok (.enter 100 args) w := enters_of Try.func100 (by kernel_rfl) rfl
    have hsz : ps.toArray.size = n := by simp [h.len]
    have hcon := AnyQ.slices_SortFunc_total sortB 2 Try.isAgg71 Try.sizeOf71 encP (fun _ => rfl) (fun x v hv => by simp [encP] at hv; rcases hv with rfl | rfl <;> rfl) cfP swoP 100 #[] g 0 c ps.toArray w eg (fun _ _ _ _ x y => closure_any x y _) (holds_of_own h) hlt (by rw [hsz]; omega) oneP
    rw [hsz] at hcon
    refine hcon.mono fun e w' ⟨he, m, os, hw⟩ => ?_
    have e2 : (ps.toArray.toList.mergeSort fun x y => !ltOf cfP y x).toArray = (sortV ps).toArray := by simp [sortV]
    rw [e2] at hw
    subst hw
    exact ⟨he, own_sorted h (sortV_len ps), (Below.refl _ _).grown grown_sorted (by have := hlt; omega) (fun k hk => by injection hk with hk; omega)⟩

end Go.Proofs.Ythcchnaoenjhlaa
