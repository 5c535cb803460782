/- How an argument of these statements is opened: a machine, an event. -/
/- GiveAll of the program answers as the model at every argument, in memory of its own. No condition. -/
import Derived.Test.YtefcaeldkdbjdaaGreatOpenW
import Derived.Test.YtefcaeldkdbjdaaGreatOwnM
import Derived.Deep.Slices
import Derived.Test.YtefcaeldkdbjdaaGreatLawGA
import Derived.Test.YtefcaeldkdbjdaaGreatSGive
import Derived.Test.YtefcaeldkdbjdaaGreatMachI
import Derived.Test.YtefcaeldkdbjdaaGreatMachS
import Derived.Test.YtefcaeldkdbjdaaGreatIAudit
import Derived.Test.YtefcaeldkdbjdaaGreatSAudit
namespace Go.Proofs.YtefcaeldkdbjdaaGreat
open Go.ChangeShapes Go.WideShapes Go.ChangeAt Go.RowKit Go.Deep Go.Joins

theorem cells_machL : Tryz.prog.cellsOf 27 = 2 := by kernel_rfl

theorem cells_memW : Tryz.prog.cellsOf 24 = 1 := by kernel_rfl

theorem cells_u32W : Tryz.prog.cellsOf 47 = 1 := by kernel_rfl

theorem cells_u32sW : Tryz.prog.cellsOf 22 = 1 := by kernel_rfl

set_option maxRecDepth 100000 in
theorem u32s_cellW {H : Type} {enc : TypeId × Value → H} {W : World} {n : Nat} {v : Value} {y : DataW H × List MemPlace} (h : DataW.trod enc Tryz.prog W 0 (fun _ => true) true n 22 [v] = some y) :
    ∃ A n c zs, v = .slice A n c ∧ n ≤ maxLen ∧ RdK .u32 W W.heap.size A n zs ∧ ∀ z ∈ zs, 0 ≤ z ∧ z < 4294967296 := by
  rcases open_ints Tryz.underlying22 Tryz.underlying47 cells_u32W h with ⟨hcs, _⟩ | ⟨x, l, c, zs, hcs, _, hl, hm, hz, _, hcell, hwz⟩
  · simp at hcs
    subst hcs
    exact ⟨_, _, _, [], rfl, by unfold maxLen; omega, RdK.zero, by intro z hz; simp at hz⟩
  · simp at hcs
    subst hcs
    have hz' : zs.length = c := by simpa using hz
    refine ⟨_, _, _, zs.take l, rfl, by omega, ⟨by simp; omega, fun hn => ?_⟩, fun z hzz => by
      obtain ⟨X, rfl, hX⟩ := nat_of_wf (hwz z (List.mem_of_mem_take hzz)); omega⟩
    obtain ⟨b, off, spot⟩ := x
    have h0 := hcell 0 (by omega)
    have hspot : spot = none := by simpa [Addr.add] using World.cell?_spot h0
    subst hspot
    have hblk := World.block_lt_of_cell? W _ h0
    refine ⟨b, off, rfl, by simpa [Addr.add] using hblk, fun i hi => ?_⟩
    have := hcell i (by omega)
    have e : (zs.take l)[i]?.getD 0 = zs.getD i 0 := by simp [hi]
    rw [e, ← this]
    congr 1
    unfold Addr.add; split <;> simp_all

set_option maxRecDepth 100000 in
/-- The eight cells of a warp that is read. -/
theorem warp_cells {H : Type} {enc : TypeId × Value → H} {W : World} {n : Nat} {cs : List Value} {x : DataW H × List MemPlace} (h : DataW.trod enc Tryz.prog W 0 (fun _ => true) true n 68 cs = some x) :
    ∃ x : Wc, cs = x.cells ∧ x.Rows W W.heap.size ∧ x.v.Fit := by
  have hu := Tryz.underlying68
  obtain ⟨ys, k, _, _, hl, hlen, hg⟩ := DataW.trod_struct hu h
  rw [cells_warpL] at hl
  match cs, hl with
  | [c0, c1, c2, c3, c4, c5, c6, c7], _ =>
    have k1 := cells_int1
    have k2 := cells_ints1
    have k3 : Tryz.prog.cellsOf 47 = 1 := by kernel_rfl
    have g0 := hg 0 _ rfl
    have g1 := hg 1 _ rfl
    have g2 := hg 2 _ rfl
    have g3 := hg 3 _ rfl
    have g4 := hg 4 _ rfl
    have g5 := hg 5 _ rfl
    have g6 := hg 6 _ rfl
    have g7 := hg 7 _ rfl
    have hsz : ys.length = 8 := hlen
    simp [k1] at g0
    simp [k2] at g1 g2
    simp [k3] at g3 g7
    simp [k1] at g4 g5 g6
    rw [List.getElem?_eq_getElem (by omega)] at g0 g1 g2 g3 g4 g5 g6 g7
    obtain ⟨kd, rfl, wk⟩ := int_cellW Tryz.underlying3 g0
    obtain ⟨A, n, c, vs, rfl, hm, hr, hfv⟩ := ints_cellW g1
    obtain ⟨B, m, e, gs, rfl, hm2, hr2, hfg⟩ := ints_cellW g2
    obtain ⟨td, rfl, wt⟩ := nat_cellW Tryz.underlying47 g3
    obtain ⟨ph, rfl, wp⟩ := int_cellW Tryz.underlying3 g4
    obtain ⟨pr, rfl, wr⟩ := int_cellW Tryz.underlying3 g5
    obtain ⟨hd, rfl, wh⟩ := int_cellW Tryz.underlying3 g6
    obtain ⟨sn, rfl, ws⟩ := nat_cellW Tryz.underlying47 g7
    have l1 := hr.1
    have l2 := hr2.1
    subst l1 l2
    exact ⟨⟨⟨kd, vs, gs, td, ph, pr, hd, sn⟩, A, c, B, e⟩, rfl, ⟨hr, hr2⟩, hm, hm2, wt, ws, wr⟩

set_option maxRecDepth 100000 in
theorem open_mach {H : Type} {enc : TypeId × Value → H} {W : World} {base : Nat} {v : Value} {d : DataW H} {p : List MemPlace} (hv : Value.okWide Tryz.prog W .any base 27 v)
    (h : DataW.Trod enc Tryz.prog W 0 (fun _ => true) true 27 v d p) :
    ∃ (A : Option Addr) (n c : Nat) (zs : List Int) (B : Option Addr) (m e : Nat) (xs : List Wc), v = .agg #[.slice A n c, .slice B m e] ∧
      (n ≤ maxLen ∧ RdK .u32 W W.heap.size A n zs ∧ ∀ z ∈ zs, 0 ≤ z ∧ z < 4294967296) ∧ (m ≤ maxLen ∧ RdW W W.heap.size B m xs ∧ ∀ x ∈ xs, x.v.Fit) := by
  obtain ⟨c0, c1, y0, y1, k, rfl, _, _, h0, h1⟩ := Joins.open_agg2 Tryz.underlying27 (by kernel_rfl) cells_machL hv h
  obtain ⟨z0, k0, _, _, hy⟩ := trod_struct1 Tryz.underlying24 h0
  simp only [cells_u32sW, List.drop_zero, List.take_succ_cons, List.take_zero] at hy
  obtain ⟨A, n, c, zs, rfl, hm, hr, hf⟩ := u32s_cellW hy
  rcases Deep.open_slice Tryz.underlying25 h1 with ⟨hcs, _⟩ | ⟨x, l, c', m, n', D, Pl, hcs, _, hl, hm2, hmm, _, hel⟩
  · simp at hcs
    subst hcs
    exact ⟨A, n, c, zs, _, _, _, [], rfl, ⟨hm, hr, hf⟩, by unfold maxLen; omega, RdW.zero, by intro x hx; simp at hx⟩
  · simp at hcs
    subst hcs
    simp at hmm
    subst hmm
    rw [cells_warpL] at hel
    have hel2 : ∀ i, i < l → ∃ q : Wc, (∀ k v, q.cells[k]? = some v → W.cell? (x.add (i * 8 + k)) = some v) ∧ q.Rows W W.heap.size ∧ q.v.Fit := by
      intro i hi
      obtain ⟨cs', h1, h2⟩ := hel i (by omega)
      obtain ⟨q, rfl, hq, hf⟩ := warp_cells h2
      refine ⟨q, fun k v hk => ?_, hq, hf⟩
      have h3 := (World.cells?_some h1).2.2
      have hlt : k < 8 := by
        have := (List.getElem?_eq_some_iff.1 hk).1
        simpa [Wc.cells] using this
      have e0 := h3 k hlt
      rw [Deep.add_add] at e0
      rw [e0]
      simpa using hk
    obtain ⟨f, hf2⟩ := Deep.choose_lt hel2
    have hw : ∀ i, i < l → wat ((List.range l).map f) i = f i := by
      intro i hi
      simp [wat, hi]
    refine ⟨A, n, c, zs, _, _, _, (List.range l).map f, rfl, ⟨hm, hr, hf⟩, by omega, ⟨by simp, fun i hi => ?_, fun hn => ?_⟩, ?_⟩
    · rw [hw i hi]; exact (hf2 i hi).2.1
    · obtain ⟨b, off, spot⟩ := x
      have h0 := (hf2 0 (by omega)).1 0 _ rfl
      have hspot : spot = none := by simpa [Addr.add] using World.cell?_spot h0
      subst hspot
      have hblk := World.block_lt_of_cell? W _ h0
      refine ⟨b, off, rfl, by simpa [Addr.add] using hblk, fun i hi k v hk => ?_⟩
      rw [hw i hi] at hk
      rw [← (hf2 i hi).1 k v hk]
      congr 1
      unfold Addr.add; split <;> simp_all
      omega
    · intro q hq
      obtain ⟨i, hi, rfl⟩ := List.mem_map.1 hq
      exact (hf2 i (by simpa using hi)).2.2

end Go.Proofs.YtefcaeldkdbjdaaGreat

namespace Go.Proofs.YtefcaeldkdbjdaaGreat
open Go.ChangeShapes Go.WideShapes Go.ChangeAt Go.RowKit
set_option linter.unusedVariables false

theorem owns_heap {ws : List Nat} {m : Nat} {V : Nat → WV} (h : (ownsM ws m V).isSome = true) : HeapOk ws := by
  unfold ownsM at h
  by_cases hp : PartsOk ws m V
  · unfold PartsOk at hp
    exact hp.1
  · rw [if_neg hp] at h
    cases h

theorem fnExactGiveAll_walk (A : Option Addr) (n c : Nat) (zs : List Int) (B : Option Addr) (m d : Nat) (xs : List Wc) (wi : Int) (w : World) (hr : n ≤ maxLen ∧ RdK .u32 w w.heap.size A n zs ∧ ∀ z ∈ zs, 0 ≤ z ∧ z < 4294967296) (hx : m ≤ maxLen ∧ RdW w w.heap.size B m xs ∧ ∀ x ∈ xs, x.v.Fit) (hwi : (Lit.int .i64 wi).wf = true) :
    Calls Tryz.prog 3 #[.agg #[.slice A n c, .slice B m d], .int .i64 wi] w fun e w' => e = .returned (.bool true) ∧ Below w.heap.size w w' := by
  obtain ⟨hm1, h1, hz⟩ := hr
  obtain ⟨hm2, h2, hfx⟩ := hx
  have hfit : ∀ i, i < m → (wat xs i).v.Fit := fun i hi => hfx _ (wat_mem (by rw [h2.1]; exact hi))
  obtain ⟨ws, rfl⟩ : ∃ ws : List Nat, zs = ints ws := ⟨zs.map Int.toNat, by
    unfold ints
    rw [List.map_map]
    conv => lhs; rw [← List.map_id zs]
    exact List.map_congr_left fun z hz2 => by have := (hz z hz2).1; simp; omega⟩
  have hX : ∀ X ∈ ws, X < 4294967296 := fun X hX => by
    have := (hz (X : Int) (List.mem_map.2 ⟨X, hX, rfl⟩)).2
    omega
  have hV : ∀ ys : List Wc, ys.length = m → vals8 ys = vals8 xs → ∀ i, i < m → (wat ys i).v = (wat xs i).v := fun ys hl hv i hi => by
    rw [wat_v (xs := ys) rfl (by rw [hl]; exact hi), hv, ← wat_v (xs := xs) rfl (by rw [h2.1]; exact hi)]
  have hS : ∀ W g g2 ys, Rd W W.heap.size (some ⟨g, 0, none⟩) n (ints ws) → RdW W W.heap.size (some ⟨g2, 0, none⟩) m ys → vals8 ys = vals8 xs → ∀ W1, Below W.heap.size W W1 → Calls Tryz.prog 15 #[.agg #[.slice (some ⟨g, 0, none⟩) n n, .slice (some ⟨g2, 0, none⟩) m m]] W1 fun e w' => e = .returned (.bool (ownsM ws m (fun i => (wat xs i).v)).isSome) ∧ Below W1.heap.size W1 w' := fun W g g2 ys k1 k2 k3 W1 hb => sMachOk_any _ n n _ ws _ m m _ ys (fun i => (wat xs i).v) W1 (k1.below hb) hb.size hX hm1 (k2.below hb) hb.size hm2 (hV ys k2.1 k3) hfit
  have hI : ∀ W g g2 ys, Rd W W.heap.size (some ⟨g, 0, none⟩) n (ints ws) → RdW W W.heap.size (some ⟨g2, 0, none⟩) m ys → vals8 ys = vals8 xs → ∀ W1, Below W.heap.size W W1 → Calls Tryz.prog 40 #[.agg #[.slice (some ⟨g, 0, none⟩) n n, .slice (some ⟨g2, 0, none⟩) m m]] W1 fun e w' => e = .returned (.bool (ownsM ws m (fun i => (wat xs i).v)).isSome) ∧ Below W1.heap.size W1 w' := fun W g g2 ys k1 k2 k3 W1 hb => machOk_any _ n n _ ws _ m m _ ys (fun i => (wat xs i).v) W1 (k1.below hb) hb.size hX hm1 (k2.below hb) hb.size hm2 (hV ys k2.1 k3) hfit
  have hlen : ∀ i, i < m → (wat xs i).v.vs.length ≤ maxLen ∧ (wat xs i).v.gs.length ≤ maxLen := fun i hi => ⟨(hfit i hi).1, (hfit i hi).2.1⟩
  cases ho : (ownsM ws m (fun i => (wat xs i).v)).isSome with
  | false =>
    rw [ho] at hS hI
    exact fnExactGiveAll_all A n c (ints ws) B m d xs wi 0 false 0 [] w (by omega) h1 hm1 h2 hm2 hlen
      (fun W g g2 ys k1 k2 k3 => (sGiveAll_no0 _ _ _ _ _ _ wi W (hS W g g2 ys k1 k2 k3)).mono fun e w' ⟨he, hb⟩ => ⟨none, 0, he, World.ownsRow_nil _ _ _ _, hb⟩)
      (fun W g g2 ys k1 k2 k3 => (giveAll_no0 _ _ _ _ _ _ wi W (fun W1 hb1 => (hasWarp_of _ _ _ _ _ _ wi false W1 (fun W2 hb2 => hI W g g2 ys k1 k2 k3 W2 (hb1.trans (hb2.mono hb1.size)))).mono fun e w' ⟨he, hb⟩ => ⟨by rw [he]; rfl, hb⟩)).mono fun e w' ⟨he, hb⟩ => ⟨none, 0, he, World.ownsRow_nil _ _ _ _, hb⟩)
  | true =>
    rw [ho] at hS hI
    have hW : ∀ (r : Bool), r = decide (0 ≤ wi ∧ wi < (m : Int)) → ∀ W g g2 ys, Rd W W.heap.size (some ⟨g, 0, none⟩) n (ints ws) → RdW W W.heap.size (some ⟨g2, 0, none⟩) m ys → vals8 ys = vals8 xs → ∀ W1, Below W.heap.size W W1 → Calls Tryz.prog 20 #[.agg #[.slice (some ⟨g, 0, none⟩) n n, .slice (some ⟨g2, 0, none⟩) m m], .int .i64 wi] W1 fun e w' => e = .returned (.bool r) ∧ Below W1.heap.size W1 w' := fun r hr W g g2 ys k1 k2 k3 W1 hb1 => (hasWarp_of _ _ _ _ _ _ wi true W1 (fun W2 hb2 => hI W g g2 ys k1 k2 k3 W2 (hb1.trans (hb2.mono hb1.size)))).mono fun e w' ⟨he, hb⟩ => ⟨by rw [he, hr]; rfl, hb⟩
    by_cases hw : 0 ≤ wi ∧ wi < (m : Int)
    · obtain ⟨i, rfl⟩ := Int.eq_ofNat_of_zero_le hw.1
      have hi : i < m := by omega
      by_cases hk : (wat xs i).v.kd = 0
      · have hh := owns_heap ho
        have hA : ∀ W g g2 ys, Rd W W.heap.size (some ⟨g, 0, none⟩) n (ints ws) → RdW W W.heap.size (some ⟨g2, 0, none⟩) m ys → vals8 ys = vals8 xs → ∀ W1, Below W.heap.size W W1 → (Calls Tryz.prog 22 #[.agg #[.slice (some ⟨g, 0, none⟩) n n]] W1 fun e w' => ∃ A' c', e = .returned (.tuple #[.slice A' (auditV ws).length c', .bool true]) ∧ OwnP w' W1.heap.size A' (auditV ws).length c' (auditV ws) ∧ Below W1.heap.size W1 w') ∧ (Calls Tryz.prog 16 #[.agg #[.slice (some ⟨g, 0, none⟩) n n]] W1 fun e w' => ∃ A' c', e = .returned (.tuple #[.slice A' (auditV ws).length c', .bool true]) ∧ OwnP w' W1.heap.size A' (auditV ws).length c' (auditV ws) ∧ Below W1.heap.size W1 w') := fun W g g2 ys k1 k2 k3 W1 hb => by
          have e1 := audit_any _ n n _ ws W1 (k1.below hb) hb.size hX hm1
          have e2 := sAudit_any _ n n _ ws W1 (k1.below hb) hb.size hX hm1
          rw [decide_eq_true hh] at e1 e2
          exact ⟨e1, e2⟩
        exact fnExactGiveAll_all A n c (ints ws) B m d xs (i : Int) 2 true 8 (giveK (auditV ws) (min 8 (auditV ws).length)) w (by omega) h1 hm1 h2 hm2 hlen
          (fun W g g2 ys k1 k2 k3 => sGiveAll_yes _ n n _ m m _ ys (fun i => (wat xs i).v) i (auditV ws) W k2 (Nat.le_refl _) hm2 (hV ys k2.1 k3) hi hk _ rfl (hS W g g2 ys k1 k2 k3) (fun W1 hb => (hA W g g2 ys k1 k2 k3 W1 hb).2))
          (fun W g g2 ys k1 k2 k3 => giveAll_yes _ n n _ m m _ ys (fun i => (wat xs i).v) i (auditV ws) W k2 (Nat.le_refl _) hm2 (hV ys k2.1 k3) hi hk _ rfl (hW true (decide_eq_true hw).symm W g g2 ys k1 k2 k3) (fun W1 hb => (hA W g g2 ys k1 k2 k3 W1 hb).1))
      · exact fnExactGiveAll_all A n c (ints ws) B m d xs (i : Int) 0 false 0 [] w (by omega) h1 hm1 h2 hm2 hlen
          (fun W g g2 ys k1 k2 k3 => (sGiveAll_no3 _ n n _ m m _ ys (fun i => (wat xs i).v) i W k2 (Nat.le_refl _) hm2 (hV ys k2.1 k3) hi hk (hS W g g2 ys k1 k2 k3)).mono fun e w' ⟨he, hb⟩ => ⟨none, 0, he, World.ownsRow_nil _ _ _ _, hb⟩)
          (fun W g g2 ys k1 k2 k3 => (giveAll_no1 _ n n _ m m _ ys (fun i => (wat xs i).v) i W k2 (Nat.le_refl _) hm2 (hV ys k2.1 k3) hi hk (hW true (decide_eq_true hw).symm W g g2 ys k1 k2 k3)).mono fun e w' ⟨he, hb⟩ => ⟨none, 0, he, World.ownsRow_nil _ _ _ _, hb⟩)
    · have hno : ∀ W g g2 ys, Rd W W.heap.size (some ⟨g, 0, none⟩) n (ints ws) → RdW W W.heap.size (some ⟨g2, 0, none⟩) m ys → vals8 ys = vals8 xs → Calls Tryz.prog 5 #[.agg #[.slice (some ⟨g, 0, none⟩) n n, .slice (some ⟨g2, 0, none⟩) m m], .int .i64 wi] W fun e w' => e = .returned (.tuple #[.agg #[.int .i64 0, .slice none 0 0], .bool false]) ∧ Below W.heap.size W w' := fun W g g2 ys k1 k2 k3 => by
        by_cases h0 : wi < 0
        · exact sGiveAll_no1 _ _ _ _ _ _ wi W h0 (hS W g g2 ys k1 k2 k3)
        · exact sGiveAll_no2 _ _ _ _ _ _ wi W (by omega) (hS W g g2 ys k1 k2 k3)
      exact fnExactGiveAll_all A n c (ints ws) B m d xs wi 0 false 0 [] w (by omega) h1 hm1 h2 hm2 hlen
        (fun W g g2 ys k1 k2 k3 => (hno W g g2 ys k1 k2 k3).mono fun e w' ⟨he, hb⟩ => ⟨none, 0, he, World.ownsRow_nil _ _ _ _, hb⟩)
        (fun W g g2 ys k1 k2 k3 => (giveAll_no0 _ _ _ _ _ _ wi W (hW false (decide_eq_false hw).symm W g g2 ys k1 k2 k3)).mono fun e w' ⟨he, hb⟩ => ⟨none, 0, he, World.ownsRow_nil _ _ _ _, hb⟩)

set_option maxRecDepth 100000 in
theorem fnExactGiveAll_lifted (os : Os) (started : os.Started) (H : Type) (enc : TypeId × Value → H) :
    ReturnsInHanded {} Tryz.checked os 3 .any (Rows.fnExactGiveAllSpec.pre6 enc Tryz.prog Tryz.f3 Rows.fnExactGiveAllRow.domain false) (Rows.fnExactGiveAllSpec.post enc Tryz.prog Tryz.f3 false true false false) := by
  refine returnsInHanded_of_change (C := Tryz.checked) own started (by kernel_rfl) Tryz.func3
    (ChangeSpec.witness6 (enc := enc) (C := Tryz.checked) false ⟨#[], #[.agg #[.slice none 0 0, .slice none 0 0], .int .i64 0], []⟩ 8 (by kernel_rfl) (by kernel_rfl) (by kernel_rfl) (by kernel_rfl)) ?_
  intro W base args ds gs before hval0 hW hcnd _
  have hval : ∀ (j : Nat) t v, Tryz.f3.params[j]? = some t → args[j]? = some v → Value.okWide Tryz.prog W .any base t v := hval0
  have hW' := hW
  obtain ⟨p, q, hA0, hV, rfl, hfz, hnd⟩ := hW
  have hA : DataW.TrodAll enc Tryz.prog W 0 (fun _ => true) true Tryz.f3.params.toList args.toList ds p := hA0
  rw [Tryz.params3] at hA hval
  obtain ⟨v0, vs0, d0, ds0, p0, q0, hargs, rfl, rfl, h0, r0⟩ := trodAll_cons hA
  obtain ⟨v1, vs1, d1, ds1, p1, q1, rfl, rfl, rfl, h1, r1⟩ := trodAll_cons r0
  obtain ⟨rfl, rfl, rfl⟩ := trodAll_nil r1
  obtain rfl : args = #[v0, v1] := by cases args; simp_all
  obtain ⟨rfl, rfl⟩ := trodVars_none hV
  have k0 := h0
  have lt0 : ∀ x ∈ p0, x.block < W.heap.size := by obtain ⟨m, hm⟩ := k0; exact DataW.trod_lt m _ _ _ hm
  obtain ⟨A0, n0, c0, z0, B0, m0, e0, xs0, rfl, rm0, rw0⟩ := open_mach (hval 0 27 v0 rfl rfl) h0
  obtain ⟨a1, rfl, rfl, rfl, w1⟩ := open_int Tryz.underlying3 (hval 1 3 v1 rfl rfl) h1
  clear hA0 hval0
  refine (fnExactGiveAll_walk A0 n0 c0 z0 B0 m0 e0 xs0 a1 W rm0 rw0 w1).mono fun e W' ⟨he, bel⟩ => ?_
  subst he
  exact ⟨_, rfl, _, _, _, [], _, [], hW', trodAll_mk1 (shut_bool Tryz.underlying4 _), (trodAll_cons_mk (Below.trod laidOut (by kernel_rfl) (of_decide_eq_true (by kernel_rfl)) k0 bel lt0) (trodAll_cons_mk (shut_int Tryz.underlying3 w1) (trodAll_mk0))), rfl, bel.frame _, fun h => by cases h⟩

/-- The given statement: for every input the law returns true, and its arguments read as before. -/
theorem fnExactGiveAll_holds : Rows.FnExactGiveAllSaid :=
  OpenClaim.holds_of_wide 3 Tryz.f3 rfl rfl rfl rfl rfl rfl rfl ⟨rfl, rfl, rfl, rfl, rfl⟩ rfl rfl rfl rfl rfl (by kernel_rfl) Tryz.func3 (by kernel_rfl)
    (of_decide_eq_true (by kernel_rfl)) (by unfold Func.isWrapper; first | (rw [if_pos (by decide +kernel)]; kernel_rfl) | (rw [if_neg (by decide +kernel)]; exact ⟨rfl, rfl⟩))
    (fun os started H enc _ => fnExactGiveAll_lifted os started H enc)
#print axioms fnExactGiveAll_holds
end Go.Proofs.YtefcaeldkdbjdaaGreat
