/- The law of a copy of a whole list of ints into a slice that the call has made. -/
import Derived.Test.YtooegpebimpjcaaRepI
import Derived.Test.YtooegpebimpjcaaKp
import Derived.Laws.CopyOwn
namespace Go.Proofs.Ytooegpebimpjcaa
open Go.RowKit
set_option linter.unusedVariables false

theorem Kp.setCell (w : World) (p : Addr) (u : Value) : Kp (fun k => k = p.block) w (w.setCell p u) := ⟨rfl, rfl, rfl, by simp, fun k _ hn => Below.heap_setCell w p u k hn⟩
/-- An owned slice is kept by a store into another block. -/
theorem OwnK.apart {e : TypeId} {kd : IntKind} {w : World} {b0 n c : Nat} {A : Option Addr} {zs : List Int} {p : Addr} (h : OwnK e kd w b0 A n c zs) (hp : ∀ g, (Value.slice A n c).ownBlock = some g → g ≠ p.block) (u : Value) : OwnK e kd (w.setCell p u) b0 A n c zs := h.kp (Kp.setCell w p u) hp

theorem wpList_copy_int {w : World} {ops : Array Oper} {rest : List Oper} {o : Oper} {a : Act} {Q : Exit → Act → World → Prop} (hgd : o.guard = none) (d s : Operand)
    (ho : o.op = .call { callee := .builtin .copy, args := #[d, s], argTypes := #[27, 27] })
    (g n c c2 B b0 : Nat) (A : Option Addr) (ys zs : List Int) (hd : a.eval d = .slice (some ⟨g, 0, none⟩) n c) (hs : a.eval s = .slice A n c2) (h0 : 0 < n)
    (hO : OwnK 3 .i64 w b0 (some ⟨g, 0, none⟩) n c ys) (hR : RdK .i64 w B A n zs)
    (h : ∀ w', Hid (OwnK 3 .i64 w' b0 (some ⟨g, 0, none⟩) n c zs) → Hid (Kp (fun k => k = g) w w') → wpList Try.prog ops Q rest (a.put o.dst (goInt n)) w') : wpList Try.prog ops Q (o :: rest) a w := by
  have hz := hR.1
  rcases hO.2 with ⟨hv, _⟩ | ⟨g', cap, cur, hv, hb, hh, hcn, hcm, hsz, ht⟩
  · simp at hv
  · obtain ⟨rfl, rfl⟩ : g = g' ∧ c = cap := by injection hv with h1 h2 h3; injection h1 with h1; injection h1 with h1; exact ⟨h1, h3⟩
    obtain ⟨g1, o1, rfl, _, hc⟩ := hR.2 h0
    have hlen : (zs.map (Value.int .i64)).length = n := by simp [hz]
    have hsrc : ∀ j v, (zs.map (Value.int .i64))[j]? = some v → w.cell? ((⟨g1, o1, none⟩ : Addr).add j) = some v := by
      intro j v hj
      have hlt : j < n := by
        have := (List.getElem?_eq_some_iff.1 hj).1
        simpa [hz] using this
      have e : v = .int .i64 (zs[j]?.getD 0) := by
        have hj' : j < zs.length := by omega
        simp [hj'] at hj ⊢
        exact hj.symm
      rw [e, ← hc j hlt]
      congr 1
      unfold Addr.add; split <;> simp_all
    have hfit : 0 + (zs.map (Value.int .i64)).length ≤ cur.size := by rw [hlen, hsz]; omega
    have e1 : ∀ v ∈ zs.map (Value.int .i64), v.oneCell' = true := by
      intro v hv
      obtain ⟨z, _, rfl⟩ := List.mem_map.1 hv
      rfl
    refine wpList_copy_own hgd d s 27 27 ho 3 Try.underlying27 size_int1 g 0 n c ⟨g1, o1, none⟩ n c2 hd hs cur _ hh (zs.map (Value.int .i64)) (by rw [hlen]; simp) hsrc hfit e1 ?_
    have hw := setRow_heap w g cur (cur.toList.take 0 ++ (zs.map (Value.int .i64) ++ cur.toList.drop (0 + (zs.map (Value.int .i64)).length))).toArray _ (0, 0) hh
    rw [hlen] at hw ⊢
    refine h _ ⟨by simp [hz], .inr ⟨g, c, _, rfl, hb, hw, hcn, hcm, ?_, ?_⟩⟩ ⟨rfl, rfl, rfl, by simp [World.setRow], fun k hk hn => setRow_other w g k _ hn⟩
    · simp [hz, hsz]; omega
    · simp [hz]

end Go.Proofs.Ytooegpebimpjcaa
