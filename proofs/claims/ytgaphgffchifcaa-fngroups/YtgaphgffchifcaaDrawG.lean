/- DrawBallot hands out a list of bools; DrawGroups and DrawGather a row and a mask; nothing old has turned. -/
import Derived.Test.YtgaphgffchifcaaDrawR
namespace Go.Proofs.Ytgaphgffchifcaa
open Go.RowKit

/-- 'append(s, x)' onto a slice of bools that the call owns, and what it leaves alone. -/
theorem wpList_push_bool {w : World} {ops : Array Oper} {rest : List Oper} {o : Oper} {a : Act} {Q : Exit → Act → World → Prop} (hgd : o.guard = none) (s x : Operand)
    (ho : o.op = .call { callee := .builtin .append, args := #[s, x], argTypes := #[29, 29] })
    (b0 n c : Nat) (A : Option Addr) (zs : List Bool) (z : Bool) (hs : a.eval s = .slice A n c) (hx : a.eval x = .slice (some ⟨w.heap.size, 0, none⟩) 1 1)
    (hO : OwnB w b0 A n c zs) (hn : n ≤ 1000000) (hb : b0 ≤ w.heap.size)
    (h : ∀ A' c' w', Hid (OwnB w' b0 A' (n + 1) c' (zs ++ [z])) → Hid (w.grownBy w' (Value.slice A n c).ownBlock) → Hid (∀ g, (Value.slice A' (n + 1) c').ownBlock = some g → (Value.slice A n c).ownBlock = some g ∨ w.heap.size ≤ g) → wpList Try.prog ops Q rest (a.put o.dst (.slice A' (n + 1) c')) w') :
    wpList Try.prog ops Q (o :: rest) a (w.alloc (.cells #[.bool z] 4)) := by
  obtain ⟨i0, hi, hz0, hz1, hz2⟩ := info_parts info_bool
  refine wpList_append_own_at _ hgd s x 29 ho b0 4 i0 (.bool false) 1 1 Try.underlying29 hi hz0 hz1 hz2 rfl (by omega) (.slice A n c) n _ hs (hO.alloc _) ⟨w.heap.size, 0, none⟩ 1 1 [.bool z] hx rfl ?_ (by simp [Value.oneCell']) (by unfold maxLen; omega) (by omega) (by simp; omega) ?_
  · intro j u hj
    match j, hj with
    | 0, hj => simp at hj; subst hj; simp [Addr.add]
  · intro v' w' h1 h2 _ h4
    have h3 : w'.ownsRow b0 4 1 v' (n + 1) ((zs ++ [z]).map Value.bool) := by simpa using h1
    obtain ⟨A', c', rfl, h5⟩ := OwnB.shape h3
    refine h A' c' w' h5 ?_ ?_
    · exact ⟨h2.os, h2.tape, h2.output, Nat.le_trans (by simp) h2.size, fun i hi hne => (h2.block i (by simp; omega) hne).trans (Below.heap_alloc w _ i hi)⟩
    · intro g hg
      rcases h4 with h4 | h4
      · exact .inl (h4 ▸ hg)
      · rw [hg] at h4
        refine .inr ?_
        injection h4 with h4
        simp at h4
        omega

/-- A list of bools is drawn. -/
def DrawnB (w : World) (e : Ending) (w' : World) : Prop := ∃ (A' : Option Addr) (m c' : Nat) (us : List Bool), e = .returned (.slice A' m c') ∧ m ≤ 12 ∧ OwnB w' w.heap.size A' m c' us ∧ Below w.heap.size w w'
/-- A row and a mask are drawn. -/
def DrawnRM (w : World) (e : Ending) (w' : World) : Prop := ∃ (A' : Option Addr) (m c' : Nat) (zs : List Int) (X : Nat), e = .returned (.tuple #[.slice A' m c', .int .u32 (X : Int)]) ∧ m ≤ 9 ∧ Fit64 zs ∧ X < 4294967296 ∧ RdN .i64 w' w.heap.size A' m zs ∧ Below w.heap.size w w'

set_option maxRecDepth 100000 in
set_option maxHeartbeats 4000000 in
theorem drawBallot (A : Option Addr) (n c : Nat) (bs : List Int) (w : World) (h : RdK .u8 w w.heap.size A n bs) (hf : ∀ z ∈ bs, 0 ≤ z ∧ z < 256) (hn : n ≤ 1048576) :
    Calls Try.prog 20 #[.slice A n c] w (DrawnB w) := by
  have H := Lib.hid h
  have HF := Lib.hid hf
  clear h hf
  go_enter Try.func20, Try.ntmps20
  go_wp2_with fail
  refine (open_cur A n c bs _ H.out HF.out hn).mono ?_
  rintro e w1 ⟨rfl, C1, B1⟩
  have z1 := C1.out.lt
  clear H HF
  go_wp2_with fail
  refine (once_any w.heap.size A n c bs 0 9 _ (C1.out.alloc _) (by omega) (by omega) (by omega)).mono ?_
  rintro e w2 ⟨r2, rfl, C2, G2⟩
  have O2 : Hid (OwnB w2 w1.heap.size (some ⟨w1.heap.size, 0, none⟩) 0 0 []) := by
    have h1 : OwnB (w1.alloc (.cells #[] 4)) w1.heap.size (some ⟨w1.heap.size, 0, none⟩) 0 0 [] := World.ownsRow_made w1 #[] 0 (Nat.le_refl _) (by unfold maxLen; omega) rfl
    exact h1.far G2.out (fun g hg e => by injection e with e; have := (OwnB.range h1 g hg).1; omega)
  have G2' : Hid (w1.grownBy w2 (some w.heap.size)) := gtrans (World.grownBy_alloc w1 _ _) G2.out
  have z2 := G2.out.size
  simp only [World.size_alloc] at z2
  clear C1 G2
  cases r2 with
  | false =>
    go_wp2
    go_loopw [4, 6] (fun v i wr => ∃ (k : Nat) (A' : Option Addr) (c' : Nat) (us : List Bool), k ≤ 8 ∧ i = .int .i64 k ∧ v = .slice A' k c' ∧ Hid (OwnB wr w1.heap.size A' k c' us) ∧ Hid (Cur wr w.heap.size A n c bs (2 + k)) ∧ Hid (w1.grownBy wr (some w.heap.size))) (fun _ i _ => 8 - (intOf i).toNat)
    case atStart => exact ⟨0, _, _, [], by omega, rfl, rfl, O2, C2.out.mono (by omega), G2'⟩
    case round =>
      obtain ⟨k, A', c', us, hk, rfl, rfl, HO, HC, HG⟩ := hrel
      clear O2 C2 G2'
      have hs : w1.heap.size ≤ wr.heap.size := HG.out.size
      by_cases hlt : k < 8
      · have hlt' : (k : Int) < 8 := by omega
        go_wp2_with fail
        refine (once_any w.heap.size A n c bs (2 + k) 2 _ HC.out (by omega) (by omega) (by omega)).mono ?_
        rintro e w3 ⟨r3, rfl, C3, G3⟩
        have O3 : Hid (OwnB w3 w1.heap.size A' k c' us) := HO.out.far G3.out (fun g hg e => by injection e with e; have := (OwnB.range HO.out g hg).1; omega)
        have hs3 : w1.heap.size ≤ w3.heap.size := Nat.le_trans hs G3.out.size
        have G3' : Hid (w1.grownBy w3 (some w.heap.size)) := gtrans HG.out G3.out
        clear HO HC HG G3
        go_wp2_with (at_builtin; refine wpList_push_bool rfl (.tmp 19) (.tmp 22) rfl w1.heap.size k c' A' us _ rfl rfl O3.out (by omega) hs3 ?_)
        intro A4 c4 w4 O4 G4 N4
        have G4' : Hid (w1.grownBy w4 (some w.heap.size)) := ⟨G4.out.os.trans G3'.out.os, G4.out.tape.trans G3'.out.tape, G4.out.output.trans G3'.out.output, Nat.le_trans hs3 G4.out.size, fun i hi hne => (G4.out.block i (by omega) (fun e => by have := (OwnB.range O3.out i e.symm).1; omega)).trans (G3'.out.block i hi hne)⟩
        have C4 : Hid (Cur w4 w.heap.size A n c bs (2 + (k + 1))) := C3.out.keep fun j hj => G4.out.block j (by omega) (fun e => by have := (OwnB.range O3.out j e.symm).1; omega)
        clear O3 C3 G3' G4 N4
        go_wp2
        go_roundw
        case rel => exact ⟨k + 1, A4, c4, us ++ [r3], by omega, by go_num, rfl, O4, C4, G4'⟩
        case measure => simp [intOf]; omega
      · obtain rfl : k = 8 := by omega
        go_wp2
        go_ret
        exact ⟨A', 8, c', us, rfl, by omega, HO.out.from_ (by omega), below_of_grown B1.out HG.out (Nat.le_refl _) (by omega)⟩
  | true =>
    go_wp2_with fail
    refine (pick_any w.heap.size A n c bs 1 12 _ (C2.out.mono (by omega)) (by omega) (by omega)).mono ?_
    rintro e w5 ⟨x, rfl, ⟨x0, x1⟩, C5, G5⟩
    have O5 : Hid (OwnB w5 w1.heap.size (some ⟨w1.heap.size, 0, none⟩) 0 0 []) := O2.out.far G5.out (fun g hg e => by injection e with e; have := (OwnB.range O2.out g hg).1; omega)
    have G5' : Hid (w1.grownBy w5 (some w.heap.size)) := gtrans G2'.out G5.out
    obtain ⟨N, rfl⟩ := Int.eq_ofNat_of_zero_le x0
    have hN12 : N ≤ 12 := by omega
    clear C2 O2 G2' G5 x1
    go_wp2
    go_loopw [4, 6] (fun v i wr => ∃ (k : Nat) (A' : Option Addr) (c' : Nat) (us : List Bool), k ≤ N ∧ i = .int .i64 k ∧ v = .slice A' k c' ∧ Hid (OwnB wr w1.heap.size A' k c' us) ∧ Hid (Cur wr w.heap.size A n c bs (2 + k)) ∧ Hid (w1.grownBy wr (some w.heap.size))) (fun _ i _ => N - (intOf i).toNat)
    case atStart => exact ⟨0, _, _, [], by omega, rfl, rfl, O5, C5.out.mono (by omega), G5'⟩
    case round =>
      obtain ⟨k, A', c', us, hk, rfl, rfl, HO, HC, HG⟩ := hrel
      clear O5 C5 G5'
      have hs : w1.heap.size ≤ wr.heap.size := HG.out.size
      by_cases hlt : k < N
      · have hlt' : (k : Int) < (N : Int) := by omega
        go_wp2_with fail
        refine (once_any w.heap.size A n c bs (2 + k) 2 _ HC.out (by omega) (by omega) (by omega)).mono ?_
        rintro e w3 ⟨r3, rfl, C3, G3⟩
        have O3 : Hid (OwnB w3 w1.heap.size A' k c' us) := HO.out.far G3.out (fun g hg e => by injection e with e; have := (OwnB.range HO.out g hg).1; omega)
        have hs3 : w1.heap.size ≤ w3.heap.size := Nat.le_trans hs G3.out.size
        have G3' : Hid (w1.grownBy w3 (some w.heap.size)) := gtrans HG.out G3.out
        clear HO HC HG G3
        go_wp2_with (at_builtin; refine wpList_push_bool rfl (.tmp 19) (.tmp 22) rfl w1.heap.size k c' A' us _ rfl rfl O3.out (by omega) hs3 ?_)
        intro A4 c4 w4 O4 G4 N4
        have G4' : Hid (w1.grownBy w4 (some w.heap.size)) := ⟨G4.out.os.trans G3'.out.os, G4.out.tape.trans G3'.out.tape, G4.out.output.trans G3'.out.output, Nat.le_trans hs3 G4.out.size, fun i hi hne => (G4.out.block i (by omega) (fun e => by have := (OwnB.range O3.out i e.symm).1; omega)).trans (G3'.out.block i hi hne)⟩
        have C4 : Hid (Cur w4 w.heap.size A n c bs (2 + (k + 1))) := C3.out.keep fun j hj => G4.out.block j (by omega) (fun e => by have := (OwnB.range O3.out j e.symm).1; omega)
        clear O3 C3 G3' G4 N4
        go_wp2
        go_roundw
        case rel => exact ⟨k + 1, A4, c4, us ++ [r3], by omega, by go_num, rfl, O4, C4, G4'⟩
        case measure => simp [intOf]; omega
      · obtain rfl : k = N := by omega
        go_wp2
        go_ret
        exact ⟨A', k, c', us, rfl, by omega, HO.out.from_ (by omega), below_of_grown B1.out HG.out (Nat.le_refl _) (by omega)⟩

set_option maxRecDepth 100000 in
set_option maxHeartbeats 1000000 in
theorem drawGroups (A : Option Addr) (n c : Nat) (bs : List Int) (w : World) (h : RdK .u8 w w.heap.size A n bs) (hf : ∀ z ∈ bs, 0 ≤ z ∧ z < 256) (hn : n ≤ 1048576) :
    Calls Try.prog 23 #[.slice A n c] w (DrawnRM w) := by
  have H := Lib.hid h
  have HF := Lib.hid hf
  clear h hf
  go_enter Try.func23, Try.ntmps23
  go_wp2_with fail
  refine (open_cur A n c bs _ H.out HF.out hn).mono ?_
  rintro e w1 ⟨rfl, C1, B1⟩
  have z1 := C1.out.lt
  clear H HF
  go_wp2_with fail
  refine (crow_any w.heap.size A n c bs 0 _ C1.out (by omega)).mono ?_
  rintro e w2 ⟨A2, m2, c2, zs, rfl, hm, _, _, _, F2, R2, C2, G2⟩
  go_wp2_with fail
  refine (cmask_any w.heap.size A n c bs 11 _ (C2.out.mono (by omega)) (by omega)).mono ?_
  rintro e w3 ⟨X, rfl, HX, C3, G3⟩
  have R3 : Hid (RdN .i64 w3 w.heap.size A2 m2 zs) := (R2.out.grown G3.out z1).from_ (by omega)
  have B3 : Hid (Below w.heap.size w w3) := below_of_grown (below_of_grown B1.out G2.out (Nat.le_refl _) (by omega)) G3.out (Nat.le_refl _) (Nat.le_trans (by omega) G2.out.size)
  clear R2 B1 G2 G3 C1 C2 C3
  go_wp2
  refine bodyPost_ret (results_tmp2 rfl _ _ _) rfl ?_
  exact ⟨A2, m2, c2, zs, X, rfl, hm, F2.out, HX.out, R3.out, B3.out⟩

set_option maxRecDepth 100000 in
set_option maxHeartbeats 1000000 in
theorem drawGather (A : Option Addr) (n c : Nat) (bs : List Int) (w : World) (h : RdK .u8 w w.heap.size A n bs) (hf : ∀ z ∈ bs, 0 ≤ z ∧ z < 256) (hn : n ≤ 1048576) :
    Calls Try.prog 29 #[.slice A n c] w (DrawnRM w) := by
  have H := Lib.hid h
  have HF := Lib.hid hf
  clear h hf
  go_enter Try.func29, Try.ntmps29
  go_wp2_with fail
  refine (open_cur A n c bs _ H.out HF.out hn).mono ?_
  rintro e w1 ⟨rfl, C1, B1⟩
  have z1 := C1.out.lt
  clear H HF
  go_wp2_with fail
  refine (crow_any w.heap.size A n c bs 0 _ C1.out (by omega)).mono ?_
  rintro e w2 ⟨A2, m2, c2, zs, rfl, hm, _, _, _, F2, R2, C2, G2⟩
  go_wp2_with fail
  refine (cmask_any w.heap.size A n c bs 11 _ (C2.out.mono (by omega)) (by omega)).mono ?_
  rintro e w3 ⟨X, rfl, HX, C3, G3⟩
  have R3 : Hid (RdN .i64 w3 w.heap.size A2 m2 zs) := (R2.out.grown G3.out z1).from_ (by omega)
  have B3 : Hid (Below w.heap.size w w3) := below_of_grown (below_of_grown B1.out G2.out (Nat.le_refl _) (by omega)) G3.out (Nat.le_refl _) (Nat.le_trans (by omega) G2.out.size)
  clear R2 B1 G2 G3 C1 C2 C3
  go_wp2
  refine bodyPost_ret (results_tmp2 rfl _ _ _) rfl ?_
  exact ⟨A2, m2, c2, zs, X, rfl, hm, F2.out, HX.out, R3.out, B3.out⟩

end Go.Proofs.Ytgaphgffchifcaa
