/- Owners of the program and of the model: the list, or nothing where the machine is not well formed. -/
/- Owners of the program answers as the model at every argument, in memory of its own. No condition. -/
import Derived.Test.YtooegpebimpjcaaGreatMachI
import Derived.Test.YtooegpebimpjcaaGreatMachS
import Derived.Test.YtooegpebimpjcaaGreatLawOw
import Derived.Test.YtooegpebimpjcaaGreatOpenM
namespace Go.Proofs.YtooegpebimpjcaaGreat
open Go.ChangeShapes Go.RowKit
set_option linter.unusedVariables false

/-- The list that Owners gives. -/
def ownsL (ws : List Nat) (m : Nat) (V : Nat → WV) : List Int := (ownsM ws m V).getD []

theorem putsP_len : ∀ {L : List (Nat × Int)} {H : Nat → Bool} {O O' : List Int}, putsP H O L = some O' → O'.length = O.length
  | [], H, O, O', h => by
    simp only [putsP, Option.some.injEq] at h
    rw [h]
  | p :: C, H, O, O', h => by
    simp only [putsP] at h
    cases e : putP H O p with
    | none => rw [e] at h; cases h
    | some O2 =>
      rw [e] at h
      have h2 := putsP_len (L := C) (H := H) (O := O2) (O' := O') h
      unfold putP at e
      split at e
      · cases e; rw [h2, List.length_set]
      · cases e
theorem ownsL_len (ws : List Nat) (m : Nat) (V : Nat → WV) : (ownsL ws m V).length ≤ 1048640 := by
  unfold ownsL ownsM
  split
  · rename_i e0
    have hl : ws.length ≤ 16 := e0.1.1
    rw [← own_same]
    cases hO : ownS ws (heldL V m) with
    | none => simp
    | some O =>
      unfold ownS at hO
      cases hP : putsP (fun _ => true) (emptyO ws.length) (headC ws ws.length ++ warpC (heldL V m) (heldL V m).length) with
      | none => rw [hP] at hO; cases hO
      | some O2 =>
        rw [hP] at hO
        have h2 := putsP_len hP
        simp only [Option.bind_some] at hO
        split at hO
        · cases hO
          simp only [Option.getD_some, h2, emptyO, List.length_replicate]
          omega
        · cases hO
  · simp

set_option maxHeartbeats 1000000 in
theorem iOwners_any (A : Option Addr) (n c Q1 : Nat) (ws : List Nat) (B : Option Addr) (m d Q2 : Nat) (xs : List Wc) (V : Nat → WV) (w : World) (h1 : Rd w Q1 A n (ints ws)) (hQ1 : Q1 ≤ w.heap.size) (hX : ∀ X ∈ ws, X < 4294967296) (hn : n ≤ maxLen) (h2 : RdW w Q2 B m xs) (hQ2 : Q2 ≤ w.heap.size) (hm : m ≤ maxLen) (hV : ∀ i, i < m → (wat xs i).v = V i) (hf : ∀ i, i < m → (V i).Fit) :
    Calls Tryz.prog 57 #[.agg #[.slice A n c, .slice B m d]] w fun e w' => ∃ Ao co, e = .returned (.slice Ao (ownsL ws m V).length co) ∧ OwnK 3 .i64 w' w.heap.size Ao (ownsL ws m V).length co (ownsL ws m V) ∧ Below w.heap.size w w' := by
  have HO : Hid (∀ W, Below w.heap.size w W → Calls Tryz.prog 136 #[.agg #[.slice A n c, .slice B m d]] W fun e w' => ∃ Ao k co, e = .returned (.tuple #[.slice Ao k co, .bool (ownsM ws m V).isSome]) ∧ (∀ O, ownsM ws m V = some O → k = n ∧ OwnK 3 .i64 w' W.heap.size Ao k co O) ∧ Below W.heap.size W w') := fun W hb => owners_any A n c Q1 ws B m d Q2 xs V W (h1.below (hb.mono hQ1)) (Nat.le_trans hQ1 hb.size) hX hn (h2.below (hb.mono hQ2)) (Nat.le_trans hQ2 hb.size) hm hV hf
  have HB0 := Lib.hid (bel1 w (.cells #[.slice A n c, .slice B m d] 70))
  clear h1 h2 hV hf hX
  have zs : w.heap.size ≤ (w.alloc (.cells #[.slice A n c, .slice B m d] 70)).heap.size := HB0.out.size
  unfold ownsL
  cases hM : ownsM ws m V with
  | none =>
    rw [hM] at HO
    clear hM zs
    go_enter Tryz.func57, Tryz.ntmps57
    go_wp2_with fail
    refine (HO.out _ HB0.out).mono ?_
    rintro e w1 ⟨Ao, k, co, rfl, hO, hb⟩
    have B1 := Lib.hid (HB0.out.trans (hb.mono HB0.out.size))
    clear hb HO HB0 hO
    go_wp2
    go_ret
    exact ⟨none, 0, rfl, World.ownsRow_nil _ _ _ _, B1.out⟩
  | some O =>
    rw [hM] at HO
    clear hM
    go_enter Tryz.func57, Tryz.ntmps57
    go_wp2_with fail
    refine (HO.out _ HB0.out).mono ?_
    rintro e w1 ⟨Ao, k, co, rfl, hO, hb⟩
    have B1 := Lib.hid (HB0.out.trans (hb.mono HB0.out.size))
    obtain ⟨-, ho⟩ := hO O rfl
    have HL := Lib.hid ho.len
    have H3 := Lib.hid (ho.from_ zs)
    clear hb HO HB0 hO ho zs
    go_wp2
    go_ret
    exact ⟨Ao, co, by rw [Option.getD_some, HL.out]; rfl, by rw [Option.getD_some, HL.out]; exact H3.out, B1.out⟩

set_option maxHeartbeats 1000000 in
theorem sOwners_any (A : Option Addr) (n c Q1 : Nat) (ws : List Nat) (B : Option Addr) (m d Q2 : Nat) (xs : List Wc) (V : Nat → WV) (w : World) (h1 : Rd w Q1 A n (ints ws)) (hQ1 : Q1 ≤ w.heap.size) (hX : ∀ X ∈ ws, X < 4294967296) (hn : n ≤ maxLen) (h2 : RdW w Q2 B m xs) (hQ2 : Q2 ≤ w.heap.size) (hm : m ≤ maxLen) (hV : ∀ i, i < m → (wat xs i).v = V i) (hf : ∀ i, i < m → (V i).Fit) :
    Calls Tryz.prog 56 #[.agg #[.slice A n c, .slice B m d]] w fun e w' => ∃ Ao co, e = .returned (.slice Ao (ownsL ws m V).length co) ∧ OwnK 3 .i64 w' w.heap.size Ao (ownsL ws m V).length co (ownsL ws m V) ∧ Below w.heap.size w w' := by
  have hl : ws.length = n := by rw [← intsW_len]; exact h1.1
  have HM : Hid (∀ W, Below w.heap.size w W → Calls Tryz.prog 63 #[.agg #[.slice A n c, .slice B m d]] W fun e w' => e = .returned (.bool (ownsM ws m V).isSome) ∧ Below W.heap.size W w') := fun W hb => sMachOk_any A n c Q1 ws B m d Q2 xs V W (h1.below (hb.mono hQ1)) (Nat.le_trans hQ1 hb.size) hX hn (h2.below (hb.mono hQ2)) (Nat.le_trans hQ2 hb.size) hm hV hf
  have HB0 := Lib.hid (bel1 w (.cells #[.slice A n c, .slice B m d] 70))
  unfold ownsL
  cases hM : ownsM ws m V with
  | none =>
    rw [hM] at HM
    clear h1 h2 hV hf hX hM
    go_enter Tryz.func56, Tryz.ntmps56
    go_wp2_with fail
    refine (HM.out _ HB0.out).mono ?_
    rintro e w1 ⟨rfl, hb⟩
    have B1 := Lib.hid (HB0.out.trans (hb.mono HB0.out.size))
    clear hb HM HB0
    go_wp2
    go_ret
    exact ⟨none, 0, rfl, World.ownsRow_nil _ _ _ _, B1.out⟩
  | some O =>
    have e0 : PartsOk ws m V := by
      unfold ownsM at hM
      split at hM
      · assumption
      · cases hM
    have hS : ownS ws (heldL V m) = some O := by
      unfold ownsM at hM
      rw [if_pos e0] at hM
      rw [own_same]; exact hM
    have hn16 : n ≤ 16 := by rw [← hl]; exact e0.1.1
    have hm4 : m ≤ 4 := e0.2.2.1
    have HO : Hid (∀ W, Below w.heap.size w W → Calls Tryz.prog 135 #[.agg #[.slice A n c, .slice B m d]] W fun e w' => ∃ Ao k co, e = .returned (.tuple #[.slice Ao k co, .bool (ownS ws (heldL V m)).isSome]) ∧ (∀ O, ownS ws (heldL V m) = some O → k = n ∧ OwnK 3 .i64 w' W.heap.size Ao k co O) ∧ Below W.heap.size W w') := fun W hb => l08Owners_any A n c Q1 ws B m d Q2 xs V W (h1.below (hb.mono hQ1)) (Nat.le_trans hQ1 hb.size) hX hn16 (h2.below (hb.mono hQ2)) (Nat.le_trans hQ2 hb.size) hm4 hV (fun i hi => good_held (e0.2.2.2 i hi))
    rw [hM] at HM
    rw [hS] at HO
    clear h1 h2 hV hf hX hM e0 hS
    go_enter Tryz.func56, Tryz.ntmps56
    go_wp2_with fail
    refine (HM.out _ HB0.out).mono ?_
    rintro e w1 ⟨rfl, hb⟩
    obtain ⟨hA, hB1, z1⟩ := nw1 hb
    have B1 := Lib.hid hB1
    have a0 := blkc hA 0 rfl
    have a1 := blkc hA 1 rfl
    clear hb hA hB1 HM HB0
    go_wp2_with fail
    clear a0 a1
    refine (HO.out _ B1.out).mono ?_
    rintro e w2 ⟨Ao, k, co, rfl, hO, hb⟩
    obtain ⟨-, ho⟩ := hO O rfl
    have HL := Lib.hid ho.len
    have H3 := Lib.hid (ho.from_ B1.out.size)
    have B2 := Lib.hid (B1.out.trans (hb.mono B1.out.size))
    clear hb HO hO ho B1
    go_wp2
    go_ret
    exact ⟨Ao, co, by rw [Option.getD_some, HL.out]; rfl, by rw [Option.getD_some, HL.out]; exact H3.out, B2.out⟩

end Go.Proofs.YtooegpebimpjcaaGreat

namespace Go.Proofs.YtooegpebimpjcaaGreat
open Go.ChangeShapes Go.WideShapes Go.ChangeAt Go.RowKit
set_option linter.unusedVariables false

theorem fnExactOwners_walk (A : Option Addr) (n c : Nat) (zs : List Int) (B : Option Addr) (m d : Nat) (xs : List Wc) (w : World) (hr : n ≤ maxLen ∧ RdK .u32 w w.heap.size A n zs ∧ ∀ z ∈ zs, 0 ≤ z ∧ z < 4294967296) (hx : m ≤ maxLen ∧ RdW w w.heap.size B m xs ∧ ∀ x ∈ xs, x.v.Fit) :
    Calls Tryz.prog 9 #[.agg #[.slice A n c, .slice B m d]] w fun e w' => e = .returned (.bool true) ∧ Below w.heap.size w w' := by
  obtain ⟨hm1, h1, hz⟩ := hr
  obtain ⟨hm2, h2, hfx⟩ := hx
  have hfit : ∀ i, i < m → (wat xs i).v.Fit := fun i hi => hfx _ (wat_mem (by rw [h2.1]; exact hi))
  obtain ⟨ws, rfl⟩ : ∃ ws : List Nat, zs = ints ws := ⟨zs.map Int.toNat, by
    unfold ints
    rw [List.map_map]
    conv => lhs; rw [← List.map_id zs]
    exact List.map_congr_left fun z hz2 => by have := (hz z hz2).1; simp; omega⟩
  have hX : ∀ X ∈ ws, X < 4294967296 := fun X hX => by
    have := (hz (X : Int) (List.mem_map.2 ⟨X, hX, rfl⟩)).2
    omega
  have hV : ∀ ys : List Wc, ys.length = m → vals8 ys = vals8 xs → ∀ i, i < m → (wat ys i).v = (wat xs i).v := fun ys hl hv i hi => by
    rw [wat_v (xs := ys) rfl (by rw [hl]; exact hi), hv, ← wat_v (xs := xs) rfl (by rw [h2.1]; exact hi)]
  exact fnExactOwners_all A n c (ints ws) B m d xs _ (ownsL ws m (fun i => (wat xs i).v)) w (ownsL_len _ _ _) h1 hm1 h2 hm2 (fun i hi => ⟨(hfit i hi).1, (hfit i hi).2.1⟩)
    (fun W g g2 ys k1 k2 k3 => sOwners_any _ n n _ ws _ m m _ ys (fun i => (wat xs i).v) W k1 (Nat.le_refl _) hX hm1 k2 (Nat.le_refl _) hm2 (hV ys k2.1 k3) hfit)
    (fun W g g2 ys k1 k2 k3 => iOwners_any _ n n _ ws _ m m _ ys (fun i => (wat xs i).v) W k1 (Nat.le_refl _) hX hm1 k2 (Nat.le_refl _) hm2 (hV ys k2.1 k3) hfit)

set_option maxRecDepth 100000 in
theorem fnExactOwners_lifted (os : Os) (started : os.Started) (H : Type) (enc : TypeId × Value → H) :
    ReturnsInHanded {} Tryz.checked os 9 .any (Rows.fnExactOwnersSpec.pre6 enc Tryz.prog Tryz.f9 Rows.fnExactOwnersRow.domain false) (Rows.fnExactOwnersSpec.post enc Tryz.prog Tryz.f9 false true false false) := by
  refine returnsInHanded_of_change (C := Tryz.checked) own started (by kernel_rfl) Tryz.func9
    (ChangeSpec.witness6 (enc := enc) (C := Tryz.checked) false ⟨#[], #[.agg #[.slice none 0 0, .slice none 0 0]], []⟩ 8 (by kernel_rfl) (by kernel_rfl) (by kernel_rfl) (by kernel_rfl)) ?_
  intro W base args ds gs before hval0 hW hcnd _
  have hval : ∀ (j : Nat) t v, Tryz.f9.params[j]? = some t → args[j]? = some v → Value.okWide Tryz.prog W .any base t v := hval0
  have hW' := hW
  obtain ⟨p, q, hA0, hV, rfl, hfz, hnd⟩ := hW
  have hA : DataW.TrodAll enc Tryz.prog W 0 (fun _ => true) true Tryz.f9.params.toList args.toList ds p := hA0
  rw [Tryz.params9] at hA hval
  obtain ⟨v0, vs0, d0, ds0, p0, q0, hargs, rfl, rfl, h0, r0⟩ := trodAll_cons hA
  obtain ⟨rfl, rfl, rfl⟩ := trodAll_nil r0
  obtain rfl : args = #[v0] := by cases args; simp_all
  obtain ⟨rfl, rfl⟩ := trodVars_none hV
  have k0 := h0
  have lt0 : ∀ x ∈ p0, x.block < W.heap.size := by obtain ⟨m, hm⟩ := k0; exact DataW.trod_lt m _ _ _ hm
  obtain ⟨A0, n0, c0, z0, B0, m0, e0, xs0, rfl, rm0, rw0⟩ := open_mach (hval 0 62 v0 rfl rfl) h0
  clear hA0 hval0
  refine (fnExactOwners_walk A0 n0 c0 z0 B0 m0 e0 xs0 W rm0 rw0).mono fun e W' ⟨he, bel⟩ => ?_
  subst he
  exact ⟨_, rfl, _, _, _, [], _, [], hW', trodAll_mk1 (shut_bool Tryz.underlying4 _), (trodAll_cons_mk (Below.trod laidOut (by kernel_rfl) (of_decide_eq_true (by kernel_rfl)) k0 bel lt0) (trodAll_mk0)), rfl, bel.frame _, fun h => by cases h⟩

/-- The given statement: for every input the law returns true, and its arguments read as before. -/
theorem fnExactOwners_holds : Rows.FnExactOwnersSaid :=
  OpenClaim.holds_of_wide 9 Tryz.f9 rfl rfl rfl rfl rfl rfl rfl ⟨rfl, rfl, rfl, rfl, rfl⟩ rfl rfl rfl rfl rfl (by kernel_rfl) Tryz.func9 (by kernel_rfl)
    (of_decide_eq_true (by kernel_rfl)) (by unfold Func.isWrapper; first | (rw [if_pos (by decide +kernel)]; kernel_rfl) | (rw [if_neg (by decide +kernel)]; exact ⟨rfl, rfl⟩))
    (fun os started H enc _ => fnExactOwners_lifted os started H enc)
#print axioms fnExactOwners_holds
end Go.Proofs.YtooegpebimpjcaaGreat
