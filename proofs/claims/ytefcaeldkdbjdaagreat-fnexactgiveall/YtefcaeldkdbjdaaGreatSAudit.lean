/- Lists of facts: how they lie, what is read of them, what a call owns. -/
/- Owned lists of facts and of blocks where all is kept but some rows. -/
/- Audit of the model. -/
import Derived.Test.YtefcaeldkdbjdaaGreatWarpM
import Derived.Maps.AppendAt
import Derived.Test.YtefcaeldkdbjdaaGreatCopyI
import Derived.Test.YtefcaeldkdbjdaaGreatIGive
import Derived.Test.YtefcaeldkdbjdaaGreatIAudit
import Derived.Deep.RegionLaw
namespace Go.Proofs.YtefcaeldkdbjdaaGreat
open Go.RowKit
set_option linter.unusedVariables false

def flatF (fs : List Fc) : List Value := fs.flatMap Fc.cells
theorem flatF_cons (x : Fc) (fs : List Fc) : flatF (x :: fs) = .int .i64 x.k :: .int .i64 x.i :: .int .i64 x.l :: .int .i64 x.a :: .int .i64 x.s :: flatF fs := rfl
theorem flatF_app (xs ys : List Fc) : flatF (xs ++ ys) = flatF xs ++ flatF ys := by simp [flatF]
theorem flatF_len : ∀ fs : List Fc, (flatF fs).length = fs.length * 5
  | [] => rfl
  | x :: xs => by rw [flatF_cons]; simp [flatF_len xs]; omega
theorem flatF_at : ∀ (xs : List Fc) (i k : Nat), i < xs.length → k < 5 → (flatF xs)[i * 5 + k]? = (fat xs i).cells[k]?
  | [], i, k, h, _ => by simp at h
  | x :: xs, 0, k, _, hk => by
    show (x.cells ++ flatF xs)[0 * 5 + k]? = _
    rw [List.getElem?_append_left (by simp [Fc.cells]; omega)]
    simp [fat]
  | x :: xs, i + 1, k, h, hk => by
    have := flatF_at xs i k (by simpa using h) hk
    have e : fat (x :: xs) (i + 1) = fat xs i := rfl
    rw [e, ← this]
    show (x.cells ++ flatF xs)[(i + 1) * 5 + k]? = _
    rw [List.getElem?_append_right (by simp [Fc.cells]; omega)]
    congr 1
    simp [Fc.cells]
    omega
theorem flatF_set : ∀ (xs : List Fc) (i : Nat) (y : Fc), i < xs.length → ((((((flatF xs).set (i * 5) (.int .i64 y.k)).set (i * 5 + 1) (.int .i64 y.i)).set (i * 5 + 2) (.int .i64 y.l)).set (i * 5 + 3) (.int .i64 y.a)).set (i * 5 + 4) (.int .i64 y.s)) = flatF (xs.set i y)
  | [], i, _, h => by simp at h
  | x :: xs, 0, y, _ => by simp [flatF_cons]
  | x :: xs, i + 1, y, h => by
    have := flatF_set xs i y (by simpa using h)
    rw [flatF_cons, show (i + 1) * 5 = i * 5 + 1 + 1 + 1 + 1 + 1 by omega]
    simp only [show ∀ k q : Nat, k + 1 + 1 + 1 + 1 + 1 + q = k + q + 1 + 1 + 1 + 1 + 1 from fun k q => by omega, List.set_cons_succ]
    rw [this]
    rfl

/-- The five cells of a fact. -/
def At5 (w : World) (g p : Nat) (x : Fc) : Prop :=
  w.cell? ⟨g, p, none⟩ = some (.int .i64 x.k) ∧ w.cell? ⟨g, p + 1, none⟩ = some (.int .i64 x.i) ∧ w.cell? ⟨g, p + 2, none⟩ = some (.int .i64 x.l) ∧ w.cell? ⟨g, p + 3, none⟩ = some (.int .i64 x.a) ∧ w.cell? ⟨g, p + 4, none⟩ = some (.int .i64 x.s)
theorem At5.of {w : World} {g p : Nat} {x : Fc} (h : ∀ k v, x.cells[k]? = some v → w.cell? ⟨g, p + k, none⟩ = some v) : At5 w g p x := ⟨h 0 _ rfl, h 1 _ rfl, h 2 _ rfl, h 3 _ rfl, h 4 _ rfl⟩
theorem At5.below {B : Nat} {w w' : World} {g p : Nat} {x : Fc} (h : At5 w g p x) (hb : Below B w w') (hg : g < B) : At5 w' g p x := by
  obtain ⟨a, b, c, d, e⟩ := h
  exact ⟨(hb.cell (p := ⟨g, p, none⟩) hg).trans a, (hb.cell (p := ⟨g, p + 1, none⟩) hg).trans b, (hb.cell (p := ⟨g, p + 2, none⟩) hg).trans c, (hb.cell (p := ⟨g, p + 3, none⟩) hg).trans d, (hb.cell (p := ⟨g, p + 4, none⟩) hg).trans e⟩
theorem At5.cell {w : World} {g p : Nat} {x : Fc} (h : At5 w g p x) {k : Nat} {v : Value} (hv : x.cells[k]? = some v) : w.cell? ⟨g, p + k, none⟩ = some v := by
  obtain ⟨a, b, c, d, e⟩ := h
  match k, hv with
  | 0, hv => simpa [Fc.cells] using a.trans (by simpa [Fc.cells] using hv)
  | 1, hv => exact b.trans (by simpa [Fc.cells] using hv)
  | 2, hv => exact c.trans (by simpa [Fc.cells] using hv)
  | 3, hv => exact d.trans (by simpa [Fc.cells] using hv)
  | 4, hv => exact e.trans (by simpa [Fc.cells] using hv)
  | k + 5, hv => simp [Fc.cells] at hv

theorem flatF_one {fs : List Fc} : ∀ u ∈ flatF fs, u.oneCell' = true := by
  intro u hu
  obtain ⟨p, _, hp⟩ := List.mem_flatMap.1 hu
  simp [Fc.cells] at hp
  rcases hp with rfl | rfl | rfl | rfl | rfl <;> rfl
theorem add_atF (g off j : Nat) : (⟨g, off, none⟩ : Addr).add j = ⟨g, off + j, none⟩ := by unfold Addr.add; split <;> simp_all
theorem flatF_zeros (n : Nat) : flatF (List.replicate n default) = (madeCells #[.int .i64 0, .int .i64 0, .int .i64 0, .int .i64 0, .int .i64 0] (n * 5)).toList := by
  have hl : (flatF (List.replicate n (default : Fc))).length = n * 5 := by rw [flatF_len]; simp
  apply List.ext_getElem?
  intro j
  by_cases hj : j < n * 5
  · have e : j / 5 * 5 + j % 5 = j := by omega
    have h1 := flatF_at (List.replicate n (default : Fc)) (j / 5) (j % 5) (by simp; omega) (by omega)
    rw [e, fat_replicate n (j / 5) (by omega)] at h1
    rw [h1]
    rcases (by omega : j % 5 = 0 ∨ j % 5 = 1 ∨ j % 5 = 2 ∨ j % 5 = 3 ∨ j % 5 = 4) with h | h | h | h | h <;> simp [madeCells, hj, h, default, Fc.cells]
  · rw [List.getElem?_eq_none (by omega), List.getElem?_eq_none (by simp [madeCells]; omega)]

/-- The cells of a list that is read, one by one. -/
theorem cells_ofF {w : World} {g off m : Nat} {qs : List Fc} (hl : qs.length = m) (hc : ∀ i, i < m → At5 w g (off + i * 5) (fat qs i)) :
    ∀ j u, (flatF qs)[j]? = some u → w.cell? ((⟨g, off, none⟩ : Addr).add j) = some u := by
  intro j u hj
  obtain ⟨hj1, _⟩ := List.getElem?_eq_some_iff.1 hj
  rw [flatF_len] at hj1
  rw [add_atF]
  have e : j / 5 * 5 + j % 5 = j := by omega
  have h1 := flatF_at qs (j / 5) (j % 5) (by omega) (by omega)
  rw [e, hj] at h1
  have h2 := (hc (j / 5) (by omega)).cell h1.symm
  rw [show off + j / 5 * 5 + j % 5 = off + j by omega] at h2
  exact h2

end Go.Proofs.YtefcaeldkdbjdaaGreat

namespace Go.Proofs.YtefcaeldkdbjdaaGreat
open Go.RowKit

theorem OwnP.kp {w w' : World} {r : Nat → Prop} {b0 n c : Nat} {A : Option Addr} {ps : List (Int × Int)} (h : OwnP w b0 A n c ps) (k : Kp r w w') (hn : ∀ g, (Value.slice A n c).ownBlock = some g → ¬ r g) : OwnP w' b0 A n c ps := row_kp h k hn

end Go.Proofs.YtefcaeldkdbjdaaGreat

namespace Go.Proofs.YtefcaeldkdbjdaaGreat
open Go.RowKit
set_option linter.unusedVariables false

theorem one_cells (w : World) (u v : Int) (i : Nat) (hi : i < 1) : (w.alloc (.cells #[.int .i64 u, .int .i64 v] 55)).cell? ⟨w.heap.size, 0 + i * 2, none⟩ = some (.int .i64 (pa [(u, v)] i)) ∧ (w.alloc (.cells #[.int .i64 u, .int .i64 v] 55)).cell? ⟨w.heap.size, 0 + i * 2 + 1, none⟩ = some (.int .i64 (pb [(u, v)] i)) := by
  obtain rfl : i = 0 := by omega
  simp [pa, pb]

/-- 'append(s, b)': b was laid in a block of its own first; the new row is the old one or a new block. -/
theorem run_push_p3 {w : World} (ty : TypeId) (b0 n c : Nat) (A : Option Addr) (ps : List (Int × Int)) (u v : Int) (hO : OwnP w b0 A n c ps) (hn : n + 1 ≤ 2000000) (hb : b0 ≤ w.heap.size) :
    ∃ A' c' w', (Builtin.append_ #[50, 50] ty #[.slice A n c, .slice (some ⟨w.heap.size, 0, none⟩) 1 1]).run Tryz.prog (w.alloc (.cells #[.int .i64 u, .int .i64 v] 55)) = .ok (.slice A' (n + 1) c') w' ∧ OwnP w' b0 A' (n + 1) c' (ps ++ [(u, v)]) ∧ Kp (fun q => some q = (Value.slice A n c).ownBlock) w w' ∧ (∀ g, (Value.slice A' (n + 1) c').ownBlock = some g → (Value.slice A n c).ownBlock = some g ∨ w.heap.size ≤ g) := by
  obtain ⟨i0, hi, hz0, hz1, hz2⟩ := info_parts info_blk
  obtain ⟨v', w', hr, h2, h3, _, h6⟩ := run_append_own_at (P := Tryz.prog) (w.alloc (.cells #[.int .i64 u, .int .i64 v] 55)) b0 50 ty 55 i0 (.agg #[.int .i64 0, .int .i64 0]) 2 16 Tryz.underlying50 hi hz0 hz1 hz2 rfl (by omega) (.slice A n c) n _ (hO.alloc _) ⟨w.heap.size, 0, none⟩ 1 1 (flatP [(u, v)]) (by rw [flatP_len]; rfl) (cells_of (qs := [(u, v)]) (m := 1) rfl (fun i hi => one_cells w u v i hi)) flatP_one (by unfold maxLen; omega) (by omega) (by simp; omega)
  rw [← flatP_app] at h2
  obtain ⟨A', c', rfl, h5⟩ := OwnP.shape h2
  refine ⟨A', c', w', hr, h5, (Kp.of_below (bel1 w _)).trans (Kp.of_grown h3 (fun k hk => hk)), fun g hg => ?_⟩
  rcases h6 with h6 | h6
  · exact .inl (h6 ▸ hg)
  · rw [h6] at hg
    injection hg with hg
    rw [sz1] at hg
    exact .inr (by omega)

/-- The same as one step of a region that draws its order. -/
theorem step_push_p3 {w : World} {ops : Array Oper} {o : Oper} {a : Act} {K : Act → World → Prop} {Q : Exit → Act → World → Prop} {E : Prop} (hgd : o.guard = none) (s x : Operand)
    (ho : o.op = .call { callee := .builtin .append, args := #[s, x], argTypes := #[50, 50] })
    (b0 n c : Nat) (A : Option Addr) (ps : List (Int × Int)) (u v : Int) (hs : a.eval s = .slice A n c) (hx : a.eval x = .slice (some ⟨w.heap.size, 0, none⟩) 1 1) (hO : OwnP w b0 A n c ps) (hn : n + 1 ≤ 2000000) (hb : b0 ≤ w.heap.size)
    (h : ∀ A' c' w', Hid (OwnP w' b0 A' (n + 1) c' (ps ++ [(u, v)])) → Hid (Kp (fun q => some q = (Value.slice A n c).ownBlock) w w') → Hid (∀ g, (Value.slice A' (n + 1) c').ownBlock = some g → (Value.slice A n c).ownBlock = some g ∨ w.heap.size ≤ g) → K (a.put o.dst (.slice A' (n + 1) c')) w') :
    if Region.wanted o (yielded ops a.tmps) = true then Oper.wp Tryz.prog o a (w.alloc (.cells #[.int .i64 u, .int .i64 v] 55)) K Q else E := by
  have hw : Region.wanted o (yielded ops a.tmps) = true := by simp [Region.wanted, hgd]
  rw [if_pos hw]
  obtain ⟨A', c', w', hr, h2, h3, h4⟩ := run_push_p3 o.type b0 n c A ps u v hO hn hb
  unfold Oper.wp execOp
  simp only [ho, resolve, invoke, builtin, Sem.run_bind, Sem.run_pure, Result.andThen_ok, List.map_toArray, List.map_cons, List.map_nil, hs, hx, hr]
  exact h A' c' w' h2 h3 h4

/-- What holds within a chunk: its control state and its bits lie where they lay, the row is older or newer. -/
def InCh (w4 wr : World) (b0 lim : Nat) (A : Option Addr) (m c : Nat) (ps : List (Int × Int)) : Prop :=
  OwnP wr b0 A m c ps ∧ (∀ g, (Value.slice A m c).ownBlock = some g → g < lim ∨ w4.heap.size ≤ g) ∧ Kp (fun q => b0 ≤ q ∧ q < lim) w4 wr
theorem InCh.push {w4 wr wd w' : World} {b0 lim : Nat} {A A' : Option Addr} {m c c' : Nat} {ps : List (Int × Int)} {p : Int × Int} (h : InCh w4 wr b0 lim A m c ps) (hd : Below wr.heap.size wr wd) (h1 : OwnP w' b0 A' (m + 1) c' (ps ++ [p])) (h2 : Kp (fun q => some q = (Value.slice A m c).ownBlock) wd w') (h3 : ∀ g, (Value.slice A' (m + 1) c').ownBlock = some g → (Value.slice A m c).ownBlock = some g ∨ wd.heap.size ≤ g) : InCh w4 w' b0 lim A' (m + 1) c' (ps ++ [p]) := by
  refine ⟨h1, fun g hg => ?_, ?_⟩
  · rcases h3 g hg with h9 | hh
    · exact h.2.1 g h9
    · have := h.2.2.size
      have := hd.size
      exact .inr (by omega)
  · have k2 := h.2.2.trans (Kp.of_below hd)
    refine ⟨h2.os.trans k2.os, h2.tape.trans k2.tape, h2.output.trans k2.output, Nat.le_trans k2.size h2.size, fun k hk hn => ?_⟩
    rw [h2.block k (Nat.lt_of_lt_of_le hk k2.size) (fun e => ?_), k2.block k hk hn]
    have hr := (World.ownsRow.lt h.1 k e.symm).1
    rcases h.2.1 k e.symm with h5 | h5
    · exact hn ⟨hr, h5⟩
    · omega

theorem mixedS : Tryz.prog.follows .mixedOrders = true := by kernel_rfl

set_option maxRecDepth 100000 in
set_option maxHeartbeats 8000000 in
theorem sAudit_any (A : Option Addr) (n c B : Nat) (ws : List Nat) (w : World) (h : Rd w B A n (ints ws)) (hB : B ≤ w.heap.size) (hX : ∀ X ∈ ws, X < 4294967296) (hm : n ≤ maxLen) :
    Calls Tryz.prog 16 #[.agg #[.slice A n c]] w fun e w' => ∃ A' c', e = .returned (.tuple #[.slice A' (auditV ws).length c', .bool (decide (HeapOk ws))]) ∧ OwnP w' w.heap.size A' (auditV ws).length c' (auditV ws) ∧ Below w.heap.size w w' := by
  have hl : ws.length = n := by rw [← intsW_len]; exact h.1
  have HM : Hid (∀ W, Below w.heap.size w W → Calls Tryz.prog 32 #[.agg #[.slice A n c]] W fun e w' => e = .returned (.bool (decide (HeapOk ws))) ∧ Below W.heap.size W w') := fun W hb => sMemOk_any A n c B ws W (h.below (hb.mono hB)) (Nat.le_trans hB hb.size) hX hm
  have HB0 := Lib.hid (bel1 w (.cells #[.slice A n c] 34))
  by_cases hg : HeapOk ws
  · rw [decide_eq_true hg] at HM ⊢
    have HR : Hid (auditV ws = audTo ws n) := (show _ = _ from by unfold auditV; rw [if_pos hg, hl])
    have hn : n ≤ 16 := by rw [← hl]; exact hg.1
    have H2 := Lib.hid h.2
    have HX := Lib.hid hX
    have HL := Lib.hid hl
    have HG := Lib.hid hg.2
    clear h hX hl hm hg
    go_enter Tryz.func16, Tryz.ntmps16
    go_wp2_with fail
    refine (HM.out _ HB0.out).mono ?_
    rintro e w1 ⟨rfl, hb⟩
    obtain ⟨hA, hB1, z1⟩ := nw1 hb
    have M1 : Hid ((w1.alloc (.cells #[] 55)).heap[w.heap.size]? = some (.cells #[.slice A n c] 34 (0, 0))) := ((bel1 w1 (.cells #[] 55)).block _ (by omega)).trans hA
    have B1 := Lib.hid (hB1.alloc hB1.size (.cells #[] 55))
    have O0 : Hid (OwnP (w1.alloc (.cells #[] 55)) (w.heap.size + 1) (some ⟨w1.heap.size, 0, none⟩) 0 0 (audTo ws 0)) := World.ownsRow_made w1 #[] 0 (by omega) (Nat.zero_le _) (by simp)
    clear hA hb hB1 HM
    go_wp2
    go_loopw [4, 5] (fun v i wr => ∃ (k m : Nat) (A1 : Option Addr) (c1 : Nat), k ≤ n ∧ i = .int .i64 k ∧ v = .slice A1 m c1 ∧ Hid (OwnP wr (w.heap.size + 1) A1 m c1 (audTo ws k)) ∧ Hid (wr.heap[w.heap.size]? = some (.cells #[.slice A n c] 34 (0, 0))) ∧ Hid (Below w.heap.size w wr)) (fun _ i _ => n - (intOf i).toNat)
    case atStart => exact ⟨0, 0, _, 0, Nat.zero_le _, rfl, rfl, O0, M1, B1⟩
    case round =>
      obtain ⟨k, m, A1, c1, hk, rfl, rfl, HP, HA, HB⟩ := hrel
      clear O0 B1 M1
      have a0 := blkc HA.out 0 rfl
      have zA : w.heap.size < wr.heap.size := (Array.getElem?_eq_some_iff.1 HA.out).1
      have R1 := Lib.hid (World.ownsRow.lt HP.out)
      have hml := HP.out.len
      have hm9 := audTo_len ws k
      by_cases hlt : k < n
      · obtain ⟨g, o, rfl, hg, hc⟩ := H2.out (by omega)
        have y1 : wr.cell? ⟨g, o + k, none⟩ = some (.int .u32 ((ws[k]?.getD 0 : Nat) : Int)) := by
          rw [← intsW_at]; exact (HB.out.cell (p := ⟨g, o + k, none⟩) (by show g < _; omega)).trans (hc k hlt)
        clear hc
        have hkl : k < ws.length := by rw [HL.out]; exact hlt
        have hgx : GoodX (ws[k]?.getD 0) := by rw [List.getElem?_eq_getElem hkl]; exact HG.out _ (List.getElem_mem hkl)
        have hXk := word_lt HX.out k
        have HN : Hid (audTo ws (k + 1) = audTo ws k ++ wdL (16 * (k : Int)) (ws[k]?.getD 0)) := (show _ = _ from rfl)
        have gw : IntKind.i64.wrap (16 * (k : Int)) = 16 * (k : Int) := IntWalk.i64_in _ (by omega)
        generalize ws[k]?.getD 0 = X at *
        have HC := Lib.hid (fun W => sRead_st X hXk hgx (stOf X) rfl W)
        have HW : Hid (wdL (16 * (k : Int)) X = pgL (16 * (k : Int)) (sizeV (clOf X)) (onesTo (mpOf X) 32) ++ (if (stOf X : Int) = 2 then [(16 * (k : Int), 16 * (rnOf X : Int))] else [])) := (show _ = _ from by
          rcases st_cases hgx with hs | hs | hs | hs
          · rw [if_neg (by omega), map_none hgx (by omega)]; unfold wdL; rw [if_neg (by omega), if_neg (by omega)]; rfl
          · rw [if_neg (by omega)]; unfold wdL; rw [if_pos (by omega), List.append_nil]
          · rw [if_pos hs, map_none hgx (by omega)]; unfold wdL; rw [if_neg (by omega), if_pos (by omega)]; rfl
          · rw [if_neg (by omega), map_none hgx (by omega)]; unfold wdL; rw [if_neg (by omega), if_neg (by omega)]; rfl)
        have HNW := Lib.hid (HN.out.trans (congrArg (audTo ws k ++ ·) HW.out))
        clear HN HW
        have hz : sizeV (clOf X) ≤ 16 ∧ 0 ≤ sizeV (clOf X) := by unfold sizeV; repeat' (split <;> try omega)
        have HL2 := Lib.hid (fun W => sBitList_any (mpOf X) W (map_small X))
        have HZ := Lib.hid (fun W => sClassSize_any (clOf X) W)
        have hlen32 := ones_len32 (mpOf X)
        have H32 := Lib.hid (fun j (hj : j < (onesTo (mpOf X) 32).length) => (mem_ones.1 (List.getElem_mem hj)).1)
        have hrn := run_small hXk
        have hrn0 : (0 : Int) ≤ (rnOf X : Int) := by omega
        have hst0 : (0 : Int) ≤ (stOf X : Int) := by omega
        clear hgx hXk
        generalize onesTo (mpOf X) 32 = l at *
        generalize mpOf X = mp at *
        generalize (rnOf X : Int) = rn at *
        generalize (stOf X : Int) = st at *
        generalize sizeV (clOf X) = z at *
        generalize (clOf X : Int) = cl at *
        have gr : IntKind.i64.wrap (16 * rn) = 16 * rn := IntWalk.i64_in _ (by omega)
        go_wp2_with fail
        refine (HC.out _).mono ?_
        rintro e w2 ⟨rfl, hb⟩
        have z2 := hb.size
        have hk2 := bel1 w2 (.cells #[.int .i64 st, .int .i64 cl, .int .u32 (mp : Int), .int .i64 rn] 74)
        have HP2 := Lib.hid ((HP.out.below hb).below hk2)
        have HA2 := Lib.hid ((hk2.block _ (by omega)).trans ((hb.block _ (by omega)).trans HA.out))
        have HB2 := Lib.hid ((HB.out.trans (hb.mono HB.out.size)).alloc (HB.out.trans (hb.mono HB.out.size)).size (.cells #[.int .i64 st, .int .i64 cl, .int .u32 (mp : Int), .int .i64 rn] 74))
        have HT2 : Hid ((w2.alloc (.cells #[.int .i64 st, .int .i64 cl, .int .u32 (mp : Int), .int .i64 rn] 74)).heap[w2.heap.size]? = some (.cells #[.int .i64 st, .int .i64 cl, .int .u32 (mp : Int), .int .i64 rn] 74 (0, 0))) := heap_alloc_new _ _
        have zz := sz1 w2 (.cells #[.int .i64 st, .int .i64 cl, .int .u32 (mp : Int), .int .i64 rn] 74)
        clear hb hk2 HP HA HB HC y1 a0
        have t2 := blkc HT2.out 2 rfl
        go_wp2_with fail
        clear t2
        refine (HL2.out _).mono ?_
        rintro e w4 ⟨Ab, cb, rfl, hob, hb⟩
        have z4 := hb.size
        have HP4 := Lib.hid (HP2.out.below hb)
        have HA4 := Lib.hid ((hb.block _ (by omega)).trans HA2.out)
        have HT4 := Lib.hid ((hb.block _ (by omega)).trans HT2.out)
        have HB4 := Lib.hid (HB2.out.trans (hb.mono HB2.out.size))
        have HO4 := Lib.hid hob
        have hlim : wr.heap.size ≤ w2.heap.size := z2
        have HI0 : Hid (InCh w4 w4 (w.heap.size + 1) w2.heap.size A1 (m + 0) c1 (audTo ws k ++ pgL (16 * (k : Int)) z (l.take 0))) := (show InCh _ _ _ _ _ _ _ _ from ⟨by simpa [pgL] using HP4.out, fun g hg => .inl (by have := R1.out g hg; omega), Kp.refl _ _⟩)
        have hz4 : w2.heap.size + 1 ≤ w4.heap.size := by omega
        have zA4 : w.heap.size < w2.heap.size := by omega
        clear HP2 HA2 HB2 HT2 HP4 hob hb HL2 R1 zA
        go_wp2
        go_loopw [4, 9] (fun v i wr => ∃ (j : Nat) (A2 : Option Addr) (c2 : Nat), j ≤ l.length ∧ i = .int .i64 j ∧ v = .slice A2 (m + j) c2 ∧ Hid (InCh w4 wr (w.heap.size + 1) w2.heap.size A2 (m + j) c2 (audTo ws k ++ pgL (16 * (k : Int)) z (l.take j)))) (fun _ i _ => l.length - (intOf i).toNat)
        case atStart => exact ⟨0, _, _, Nat.zero_le _, rfl, rfl, HI0⟩
        case round =>
          obtain ⟨j, A2, c2, hj, rfl, rfl, HI⟩ := hrel
          clear HI0
          have hzr := HI.out.2.2.size
          have HT5 := Lib.hid ((HI.out.2.2.block w2.heap.size (by omega) (fun h => by omega)).trans HT4.out)
          by_cases hjl : j < l.length
          · have HOr := Lib.hid (HO4.out.kp HI.out.2.2 (fun q hq h => by have := World.ownsRow.lt HO4.out q hq; omega))
            obtain ⟨gb, rfl, hgb1, hgb2⟩ := HOr.out.form (by omega)
            have c0 : wr.cell? ⟨gb, j, none⟩ = some (.int .i64 (l[j] : Int)) := by
              have := HOr.out.cell rfl hjl
              rw [show (ints l)[j]?.getD 0 = (l[j] : Int) by simp [ints, hjl]] at this
              exact this
            have h32 := H32.out j hjl
            have HNj := Lib.hid (pgL_take (16 * (k : Int)) z hjl)
            generalize l[j] = b at *
            have m0 : 0 ≤ (b : Int) * z := Int.mul_nonneg (by omega) (by omega)
            have m1 : (b : Int) * z ≤ 32 * 16 := Int.mul_le_mul (by omega) hz.1 (by omega) (by omega)
            have gm : IntKind.i64.wrap ((b : Int) * z) = (b : Int) * z := IntWalk.i64_in _ (by omega)
            have ga : IntKind.i64.wrap (16 * (k : Int) + (b : Int) * z) = 16 * (k : Int) + (b : Int) * z := IntWalk.i64_in _ (by omega)
            have t1 := blkc HT5.out 1 rfl
            have HPd : Hid (OwnP wr.drew (w.heap.size + 1) A2 (m + j) c2 (audTo ws k ++ pgL (16 * (k : Int)) z (l.take j))) := HI.out.1
            have hbd : w.heap.size + 1 ≤ wr.drew.heap.size := (show w.heap.size + 1 ≤ wr.heap.size by omega)
            have hmj : m + j + 1 ≤ 2000000 := by omega
            have hmx := mixedS
            clear HOr HT5 HO4 HT4
            go_wp2
            go_region_law (first
              | (refine step_push_p3 rfl (.tmp 39) (.tmp 55) rfl (w.heap.size + 1) (m + j) c2 A2 _ (16 * (k : Int) + (b : Int) * z) z (by rfl) (by rfl) HPd.out hmj hbd ?_; intro A' c' w' O3 K3 P3)
              | (go_simp; go_at_call 37; refine (HZ.out _).mono ?_; rintro e w5 ⟨rfl, rfl⟩))
            all_goals
              have HI2 : Hid (InCh w4 w' (w.heap.size + 1) w2.heap.size A' (m + j + 1) c' (audTo ws k ++ pgL (16 * (k : Int)) z (l.take (j + 1)))) := (show InCh _ _ _ _ _ _ _ _ from by
                have h9 := HI.out.push ((Below.refl _ _).drew) O3.out K3.out P3.out
                rw [List.append_assoc, ← HNj.out] at h9
                exact h9)
              clear O3 K3 P3
              go_wp2
              go_roundw
              case rel => exact ⟨j + 1, A', c', by omega, by go_num, rfl, HI2⟩
              case measure => simp [intOf]; omega
          · have hje : j = l.length := by omega
            subst hje
            have HA5 := Lib.hid ((HI.out.2.2.block w.heap.size (by omega) (fun h => by omega)).trans HA4.out)
            have HB5 := Lib.hid (HI.out.2.2.bel HB4.out (by omega) (fun q hq => by omega))
            have HP5 : Hid (OwnP wr (w.heap.size + 1) A2 (m + l.length) c2 (audTo ws k ++ pgL (16 * (k : Int)) z l)) := (show OwnP _ _ _ _ _ _ from by have := HI.out.1; rwa [List.take_length] at this)
            have t0 := blkc HT5.out 0 rfl
            have t3 := blkc HT5.out 3 rfl
            clear HI
            by_cases hst : st = 2
            · have e1 : (st == 2) = true := by simp [hst]
              rw [if_pos hst, ← List.append_assoc] at HNW
              have hmj : m + l.length + 1 ≤ 2000000 := by omega
              have hbw : w.heap.size + 1 ≤ wr.heap.size := by omega
              clear hst
              go_wp2_with (at_builtin; refine wpList_push_p rfl (.tmp 60) (.tmp 67) rfl (w.heap.size + 1) (m + l.length) c2 A2 _ (16 * (k : Int)) (16 * rn) wr.heap.size rfl rfl rfl HP5.out hmj hbw ?_)
              intro A' c' w' HO' HB' _
              have HA6 := Lib.hid ((HB'.out.block _ (by omega)).trans HA5.out)
              have HB6 := Lib.hid (HB5.out.trans (HB'.out.mono (by omega)))
              have HP6 : Hid (OwnP w' (w.heap.size + 1) A' (m + l.length + 1) c' (audTo ws (k + 1))) := (show OwnP _ _ _ _ _ _ from by rw [HNW.out]; first | exact HO'.out | (rw [List.append_assoc]; exact HO'.out))
              clear HO' HB' HA5 HB5 HP5 t0 t3
              go_wp2
              go_roundw
              case rel => exact ⟨k + 1, m + l.length + 1, A', c', by omega, by go_num, rfl, HP6, HA6, HB6⟩
              case measure => simp [intOf]; omega
            · have e1 : (st == 2) = false := by simp [hst]
              rw [if_neg hst, List.append_nil] at HNW
              have HP6 : Hid (OwnP wr (w.heap.size + 1) A2 (m + l.length) c2 (audTo ws (k + 1))) := (show OwnP _ _ _ _ _ _ from by rw [HNW.out]; exact HP5.out)
              clear hst
              go_wp2
              go_roundw
              case rel => exact ⟨k + 1, m + l.length, A2, c2, by omega, by go_num, rfl, HP6, HA5, HB5⟩
              case measure => simp [intOf]; omega
      · have hkn : k = n := by omega
        subst hkn
        go_wp2
        refine bodyPost_ret (results_tmp2 rfl _ _ _) rfl ?_
        rw [HR.out, hml]
        exact ⟨A1, c1, rfl, HP.out.from_ (by omega), HB.out⟩
  · rw [decide_eq_false hg] at HM ⊢
    have HR : Hid (auditV ws = []) := (show _ = _ from by unfold auditV; rw [if_neg hg])
    clear h hX hl hg
    go_enter Tryz.func16, Tryz.ntmps16
    go_wp2_with fail
    refine (HM.out _ HB0.out).mono ?_
    rintro e w1 ⟨rfl, hb⟩
    have B1 := Lib.hid (HB0.out.trans (hb.mono HB0.out.size))
    clear hb
    go_wp2
    refine bodyPost_ret (results_tmp2 rfl _ _ _) rfl ?_
    rw [HR.out]
    exact ⟨none, 0, rfl, OwnP.zero, B1.out⟩

end Go.Proofs.YtefcaeldkdbjdaaGreat
