/- Append of a warp onto a list of warps that the call owns; MachNew of the program and of the model. -/
import Derived.Test.YtooegpebimpjcaaLawMach
import Derived.Test.YtooegpebimpjcaaMemG
import Derived.Test.YtooegpebimpjcaaINew
import Derived.Test.YtooegpebimpjcaaSNew
import Derived.Deep.RegionLaw
import Derived.Maps.AppendAt
namespace Go.Proofs.Ytooegpebimpjcaa
open Go.RowKit
set_option linter.unusedVariables false

/-- What a new warp says. -/
def newV : WV := ⟨0, List.replicate 8 (-1), List.replicate 8 (-1), 0, 0, 0, 0, 0⟩

theorem wat_app {xs l : List Wc} {i : Nat} (h : i < xs.length) : wat (xs ++ l) i = wat xs i := by
  unfold wat
  rw [List.getElem?_append_left h]
theorem wat_last {xs : List Wc} {y : Wc} : wat (xs ++ [y]) xs.length = y := by simp [wat]
theorem Inner.app {w : World} {b0 n : Nat} {xs l : List Wc} (h : Inner w b0 n xs) (hn : n ≤ xs.length) : Inner w b0 n (xs ++ l) := fun i hi => by
  rw [wat_app (by omega)]; exact h i hi
theorem rowA_app {xs l : List Wc} {i : Nat} (h : i < xs.length) : rowA (xs ++ l) i = rowA xs i := by unfold rowA; rw [wat_app h]
theorem rowB_app {xs l : List Wc} {i : Nat} (h : i < xs.length) : rowB (xs ++ l) i = rowB xs i := by unfold rowB; rw [wat_app h]
theorem Dis.re {g g' : Option Nat} {n : Nat} {xs : List Wc} (h : Dis g n xs) (hg : ∀ i, i < n → ∀ q, rowA xs i = some q ∨ rowB xs i = some q → g' ≠ some q) : Dis g' n xs := by
  intro i hi q
  obtain ⟨h1, h2⟩ := h i hi q
  exact ⟨fun hq => ⟨hg i hi q (.inl hq), (h1 hq).2⟩, fun hq => ⟨hg i hi q (.inr hq), (h2 hq).2⟩⟩
theorem Dis.app {g : Option Nat} {n : Nat} {xs l : List Wc} (h : Dis g n xs) (hn : n ≤ xs.length) : Dis g n (xs ++ l) := by
  intro i hi q
  rw [rowA_app (by omega), rowB_app (by omega)]
  obtain ⟨h1, h2⟩ := h i hi q
  refine ⟨fun hq => ?_, fun hq => ?_⟩
  · obtain ⟨x1, x2, x3⟩ := h1 hq
    exact ⟨x1, fun j hj => by rw [rowB_app (by omega)]; exact x2 j hj, fun j hj hne => by rw [rowA_app (by omega)]; exact x3 j hj hne⟩
  · obtain ⟨x1, x2⟩ := h2 hq
    exact ⟨x1, fun j hj hne => by rw [rowB_app (by omega)]; exact x2 j hj hne⟩
theorem set_last {xs : List Wc} {y z : Wc} : (xs ++ [z]).set xs.length y = xs ++ [y] := by simp
theorem OwnW.shape {w : World} {b0 n : Nat} {xs : List Wc} {v : Value} (h : w.ownsRow b0 35 8 v n (flatW xs)) : ∃ A c, v = .slice A n c ∧ OwnW w b0 A n c xs := by
  rcases h.2 with ⟨rfl, rfl⟩ | ⟨g, cap, cur, rfl, r⟩
  · exact ⟨_, _, rfl, h⟩
  · exact ⟨_, _, rfl, h⟩
theorem flatW_one {xs : List Wc} : ∀ u ∈ flatW xs, u.oneCell' = true := by
  intro u hu
  obtain ⟨p, _, hp⟩ := List.mem_flatMap.1 hu
  simp [Wc.cells] at hp
  rcases hp with rfl | rfl | rfl | rfl | rfl | rfl | rfl | rfl <;> rfl

set_option maxRecDepth 100000 in
set_option maxHeartbeats 1000000 in
/-- 'append(s, w)': w is a new warp, laid in a block of its own first. -/
theorem run_push_w {w : World} (ty : TypeId) (b0 n c g g2 c1 d1 lo : Nat) (A : Option Addr) (xs : List Wc) (hO : OwnM w b0 A n c xs) (hlo : ∀ q, InM A n c xs q → q < lo) (h1 : OwnK 3 .i64 w lo (some ⟨g, 0, none⟩) 8 c1 (List.replicate 8 (-1))) (h2 : OwnK 3 .i64 w (g + 1) (some ⟨g2, 0, none⟩) 8 d1 (List.replicate 8 (-1))) (hb0 : b0 ≤ lo) (hn : n ≤ 1000) (hb : b0 ≤ w.heap.size) :
    ∃ A' c' w', (Builtin.append_ #[49, 49] ty #[.slice A n c, .slice (some ⟨w.heap.size, 0, none⟩) 1 1]).run Try.prog (w.alloc (.cells #[.int .i64 0, .slice (some ⟨g, 0, none⟩) 8 c1, .slice (some ⟨g2, 0, none⟩) 8 d1, .int .u32 0, .int .i64 0, .int .i64 0, .int .i64 0, .int .u32 0] 35)) = .ok (.slice A' (n + 1) c') w' ∧ OwnM w' b0 A' (n + 1) c' (xs ++ [⟨newV, some ⟨g, 0, none⟩, c1, some ⟨g2, 0, none⟩, d1⟩]) ∧ Kp (fun k => some k = (Value.slice A n c).ownBlock) w w' := by
  obtain ⟨i0, hi, hz0, hz1, hz2⟩ := info_parts info_warpW
  have hOa := hO.alloc (.cells #[.int .i64 0, .slice (some ⟨g, 0, none⟩) 8 c1, .slice (some ⟨g2, 0, none⟩) 8 d1, .int .u32 0, .int .i64 0, .int .i64 0, .int .i64 0, .int .u32 0] 35)
  have hl := hO.len
  have q1 := World.ownsRow.lt h1 g rfl
  have q2 := World.ownsRow.lt h2 g2 rfl
  obtain ⟨v', w', hr, h3, h4, _, h6⟩ := run_append_own_at (P := Try.prog) (w.alloc (.cells #[.int .i64 0, .slice (some ⟨g, 0, none⟩) 8 c1, .slice (some ⟨g2, 0, none⟩) 8 d1, .int .u32 0, .int .i64 0, .int .i64 0, .int .i64 0, .int .u32 0] 35)) b0 49 ty 35 i0 (.agg #[.int .i64 0, .slice none 0 0, .slice none 0 0, .int .u32 0, .int .i64 0, .int .i64 0, .int .i64 0, .int .u32 0]) 8 96 Try.underlying49 hi hz0 hz1 hz2 rfl (by omega) (.slice A n c) n _ hOa.1 ⟨w.heap.size, 0, none⟩ 1 1 (flatW [⟨newV, some ⟨g, 0, none⟩, c1, some ⟨g2, 0, none⟩, d1⟩]) (by rw [flatW_len]; rfl)
    (by
      intro j u hj
      have hj8 : j < 8 := by
        have := (List.getElem?_eq_some_iff.1 hj).1
        rw [flatW_len] at this
        simpa using this
      have e : (⟨w.heap.size, 0, none⟩ : Addr).add j = ⟨w.heap.size, j, none⟩ := by unfold Addr.add; split <;> simp_all
      rw [e]
      refine blkc (heap_alloc_new _ _) j ?_
      rcases (by omega : j = 0 ∨ j = 1 ∨ j = 2 ∨ j = 3 ∨ j = 4 ∨ j = 5 ∨ j = 6 ∨ j = 7) with rfl | rfl | rfl | rfl | rfl | rfl | rfl | rfl <;> (simp [flatW, Wc.cells, newV] at hj; simp [hj])) flatW_one (by unfold maxLen; omega) (by omega) (by simp; omega)
  rw [← flatW_app] at h3
  obtain ⟨A', c', rfl, h5⟩ := OwnW.shape h3
  have K1 : Kp (fun k => some k = (Value.slice A n c).ownBlock) (w.alloc (.cells #[.int .i64 0, .slice (some ⟨g, 0, none⟩) 8 c1, .slice (some ⟨g2, 0, none⟩) 8 d1, .int .u32 0, .int .i64 0, .int .i64 0, .int .i64 0, .int .u32 0] 35)) w' := Kp.of_grown h4 (fun k hk => hk)
  have hrow : ∀ i, i < n → ∀ q, rowA xs i = some q ∨ rowB xs i = some q → ¬ some q = (Value.slice A n c).ownBlock := fun i hi q hq e => by
    obtain ⟨d1', d2'⟩ := hO.2.2 i hi q
    rcases hq with hq | hq
    · exact (d1' hq).1 e.symm
    · exact (d2' hq).1 e.symm
  have hgo : ∀ q, lo ≤ q → ¬ some q = (Value.slice A n c).ownBlock := fun q hq e => by have := hlo q (.inl e.symm); omega
  have O1 : OwnK 3 .i64 w' b0 (some ⟨g, 0, none⟩) 8 c1 (List.replicate 8 (-1)) := ((h1.alloc _).kp K1 (fun q hq => hgo q (World.ownsRow.lt h1 q hq).1)).from_ hb0
  have O2 : OwnK 3 .i64 w' b0 (some ⟨g2, 0, none⟩) 8 d1 (List.replicate 8 (-1)) := ((h2.alloc _).kp K1 (fun q hq => hgo q (by have := World.ownsRow.lt h2 q hq; omega))).from_ (by omega)
  have hln : n < (xs ++ [(default : Wc)]).length := by simp [hl]
  have hI : Inner w' b0 (n + 1) (xs ++ [⟨newV, some ⟨g, 0, none⟩, c1, some ⟨g2, 0, none⟩, d1⟩]) := by
    have h7 := (((hOa.2.1.kp K1 hrow).app (l := [default]) (by omega))).next (y := ⟨newV, some ⟨g, 0, none⟩, c1, some ⟨g2, 0, none⟩, d1⟩) hln O1 O2
    rw [← hl, set_last] at h7
    rw [← hl]
    exact h7
  have hrl : ∀ i, i < n → ∀ q, rowA xs i = some q ∨ rowB xs i = some q → q < lo := fun i hi q hq => hlo q (.inr ⟨i, hi, hq⟩)
  have hD0 : Dis none (n + 1) (xs ++ [⟨newV, some ⟨g, 0, none⟩, c1, some ⟨g2, 0, none⟩, d1⟩]) := by
    have h7 := ((hO.2.2.re (g' := none) (fun _ _ _ _ h => by cases h)).app (l := [default]) (by omega)).next (lo := lo) (y := ⟨newV, some ⟨g, 0, none⟩, c1, some ⟨g2, 0, none⟩, d1⟩) hln (fun i hi q hq => by rw [rowA_app (by omega), rowB_app (by omega)] at hq; exact hrl i hi q hq) (fun q hq => by cases hq)
      (fun q hq => ⟨(World.ownsRow.lt h1 q hq).1, fun hh => by have := World.ownsRow.lt h2 q hh; (have e3 : g = q := by simpa [Value.ownBlock] using hq); omega⟩) (fun q hq => by have := World.ownsRow.lt h2 q hq; omega)
    rw [← hl, set_last] at h7
    rw [← hl]
    exact h7
  have hnew : ∀ i, i < n + 1 → ∀ q, rowA (xs ++ [⟨newV, some ⟨g, 0, none⟩, c1, some ⟨g2, 0, none⟩, d1⟩]) i = some q ∨ rowB (xs ++ [⟨newV, some ⟨g, 0, none⟩, c1, some ⟨g2, 0, none⟩, d1⟩]) i = some q → (q < lo ∧ i < n ∧ (rowA xs i = some q ∨ rowB xs i = some q)) ∨ (lo ≤ q ∧ q < w.heap.size) := by
    intro i hi q hq
    by_cases e : i < n
    · rw [rowA_app (by omega), rowB_app (by omega)] at hq
      exact .inl ⟨hrl i e q hq, e, hq⟩
    · obtain rfl : i = xs.length := by omega
      unfold rowA rowB at hq
      rw [wat_last] at hq
      rcases hq with hq | hq
      · exact .inr (World.ownsRow.lt h1 q hq)
      · have := World.ownsRow.lt h2 q hq
        exact .inr (by omega)
  refine ⟨A', c', w', hr, ⟨h5, hI, hD0.re (fun i hi q hq e => ?_)⟩, (Kp.of_below (bel1 w _)).trans K1⟩
  rcases h6 with h6 | h6
  · rw [h6] at e
    rcases hnew i hi q hq with ⟨_, hin, hq2⟩ | ⟨hq2, _⟩
    · exact hrow i hin q hq2 e.symm
    · exact hgo q hq2 e.symm
  · rw [h6] at e
    injection e with e
    rw [sz1] at e
    rcases hnew i hi q hq with ⟨_, hin, hq2⟩ | ⟨_, hq2⟩
    · have := hO.lt (.inr ⟨i, hin, hq2⟩); omega
    · omega

theorem step_push_w {w : World} {ops : Array Oper} {o : Oper} {a : Act} {K : Act → World → Prop} {Q : Exit → Act → World → Prop} {E : Prop} (hgd : o.guard = none) (s x : Operand)
    (ho : o.op = .call { callee := .builtin .append, args := #[s, x], argTypes := #[49, 49] })
    (b0 n c g g2 c1 d1 lo : Nat) (A : Option Addr) (xs : List Wc) (hs : a.eval s = .slice A n c) (hx : a.eval x = .slice (some ⟨w.heap.size, 0, none⟩) 1 1)
    (hO : OwnM w b0 A n c xs) (hlo : ∀ q, InM A n c xs q → q < lo) (h1 : OwnK 3 .i64 w lo (some ⟨g, 0, none⟩) 8 c1 (List.replicate 8 (-1))) (h2 : OwnK 3 .i64 w (g + 1) (some ⟨g2, 0, none⟩) 8 d1 (List.replicate 8 (-1))) (hb0 : b0 ≤ lo) (hn : n ≤ 1000) (hb : b0 ≤ w.heap.size)
    (h : ∀ A' c' w', Hid (OwnM w' b0 A' (n + 1) c' (xs ++ [⟨newV, some ⟨g, 0, none⟩, c1, some ⟨g2, 0, none⟩, d1⟩])) → Hid (Kp (fun k => some k = (Value.slice A n c).ownBlock) w w') → K (a.put o.dst (.slice A' (n + 1) c')) w') :
    if Region.wanted o (yielded ops a.tmps) = true then Oper.wp Try.prog o a (w.alloc (.cells #[.int .i64 0, .slice (some ⟨g, 0, none⟩) 8 c1, .slice (some ⟨g2, 0, none⟩) 8 d1, .int .u32 0, .int .i64 0, .int .i64 0, .int .i64 0, .int .u32 0] 35)) K Q else E := by
  have hw : Region.wanted o (yielded ops a.tmps) = true := by simp [Region.wanted, hgd]
  rw [if_pos hw]
  obtain ⟨A', c', w', hrun, h3, h4⟩ := run_push_w o.type b0 n c g g2 c1 d1 lo A xs hO hlo h1 h2 hb0 hn hb
  unfold Oper.wp execOp
  simp only [ho, resolve, invoke, builtin, Sem.run_bind, Sem.run_pure, Result.andThen_ok, List.map_toArray, List.map_cons, List.map_nil, hs, hx, hrun]
  exact h A' c' w' h3 h4

end Go.Proofs.Ytooegpebimpjcaa
