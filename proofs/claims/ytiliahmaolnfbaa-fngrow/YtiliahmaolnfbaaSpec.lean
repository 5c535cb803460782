/- The contracts of the model's memory operations (spec): MemLoad, MemStore, MemCas, MemAdd. Conditions: at most 2^20 words. -/
import Derived.Test.YtiliahmaolnfbaaImpl
import Derived.Test.YtiliahmaolnfbaaApp
namespace Go.Proofs.Ytiliahmaolnfbaa
open Go.RowKit

set_option maxHeartbeats 1000000 in
theorem sLoad (A : Option Addr) (n c B k : Nat) (zs : List Int) (w : World) (h : Rd w B A n zs) (hB : B ≤ w.heap.size) (hn : n ≤ 64) (hk : k < n) :
    Calls Try.prog 42 #[.agg #[.slice A n c], .int .i64 k] w fun e w' => e = .returned (.tuple #[.int .u32 (zs[k]?.getD 0), .bool true]) ∧ Below w.heap.size w w' := by
  have H := Lib.hid h
  clear h
  go_enter Try.func42, Try.ntmps42
  go_wp2_with fail
  refine (hasS_yes A n c k _ hn hk).mono ?_
  rintro e w1 ⟨rfl, hb1⟩
  have a1 : w1.cell? ⟨w.heap.size, 0, none⟩ = some (.slice A n c) := later hb1 (by simp)
  have BB1 : Hid (Below w.heap.size w w1) := (by repeat (first | exact Below.refl _ _ | refine Below.drew ?_ | refine Below.setCell ?_ (by first | omega | (simp; done) | (simp; omega) | (simp [*]; done)) _ | refine Below.alloc ?_ (by first | omega | (simp; done) | (simp; omega) | (simp [*]; done)) _ | refine Below.trans ?_ (Below.mono (hb1) (by first | omega | (simp; done) | (simp; omega) | (simp [*]; done)))))
  have H1 : Hid (Rd w1 B A n zs) := H.out.below (BB1.out.mono hB)
  clear hb1
  obtain ⟨g, o, rfl, _, hc⟩ := H1.out.2 (by omega)
  have ck := hc k hk
  clear hc
  go_wp2
  go_ret2
  exact ⟨rfl, BB1.out⟩

set_option maxHeartbeats 1000000 in
theorem sLoad_no (A : Option Addr) (n c : Nat) (at_ : Int) (w : World) (h : ¬ HasW n at_) (hn : n ≤ 1048576) :
    Calls Try.prog 42 #[.agg #[.slice A n c], .int .i64 at_] w fun e w' => e = .returned (.tuple #[.int .u32 0, .bool false]) ∧ Below w.heap.size w w' := by
  have H := Lib.hid h
  clear h
  go_enter Try.func42, Try.ntmps42
  go_wp2_with fail
  refine (hasS_no A n c at_ _ H.out hn).mono ?_
  rintro e w1 ⟨rfl, hb1⟩
  have BB1 : Hid (Below w.heap.size w w1) := (by repeat (first | exact Below.refl _ _ | refine Below.drew ?_ | refine Below.setCell ?_ (by first | omega | (simp; done) | (simp; omega) | (simp [*]; done)) _ | refine Below.alloc ?_ (by first | omega | (simp; done) | (simp; omega) | (simp [*]; done)) _ | refine Below.trans ?_ (Below.mono (hb1) (by first | omega | (simp; done) | (simp; omega) | (simp [*]; done)))))
  clear hb1
  go_wp2
  go_ret2
  exact ⟨rfl, BB1.out⟩

set_option maxHeartbeats 1000000 in
theorem sStore_no (A : Option Addr) (n c : Nat) (at_ : Int) (x : Int) (w : World) (h : ¬ HasW n at_) (hn : n ≤ 1048576) :
    Calls Try.prog 33 #[.agg #[.slice A n c], .int .i64 at_, .int .u32 x] w fun e w' => e = .returned (.tuple #[.agg #[.slice none 0 0], .bool false]) ∧ Below w.heap.size w w' := by
  have H := Lib.hid h
  clear h
  go_enter Try.func33, Try.ntmps33
  go_wp2_with fail
  refine (hasS_no A n c at_ _ H.out hn).mono ?_
  rintro e w1 ⟨rfl, hb1⟩
  have r1 : w1.cell? ⟨w.heap.size + 1, 0, none⟩ = some (.slice none 0 0) := later hb1 (by simp)
  have f1 : w1.frozen? ⟨w.heap.size + 1, 0, none⟩ = false := later_free hb1 (by simp) (by simp)
  have BB1 : Hid (Below w.heap.size w w1) := (by repeat (first | exact Below.refl _ _ | refine Below.drew ?_ | refine Below.setCell ?_ (by first | omega | (simp; done) | (simp; omega) | (simp [*]; done)) _ | refine Below.alloc ?_ (by first | omega | (simp; done) | (simp; omega) | (simp [*]; done)) _ | refine Below.trans ?_ (Below.mono (hb1) (by first | omega | (simp; done) | (simp; omega) | (simp [*]; done)))))
  clear hb1
  go_wp2
  exact bodyPost_ret (v := .tuple #[.agg #[.slice none 0 0], .bool false]) (by simp [results, Try.results33, go_sem, r1]) rfl ⟨rfl, BB1.out.setCell (by simp) _⟩

set_option maxHeartbeats 1000000 in
theorem sStore (A : Option Addr) (n c B k : Nat) (x : Int) (zs : List Int) (w : World) (h : Rd w B A n zs) (hB : B ≤ w.heap.size) (hn : n ≤ 64) (hk : k < n) :
    Calls Try.prog 33 #[.agg #[.slice A n c], .int .i64 k, .int .u32 x] w fun e w' => ∃ A' c', e = .returned (.tuple #[.agg #[.slice A' n c'], .bool true]) ∧ Own w' w.heap.size A' n c' (zs.set k x) ∧ Below w.heap.size w w' := by
  have H := Lib.hid h
  clear h
  go_enter Try.func33, Try.ntmps33
  go_wp2_with fail
  refine (hasS_yes A n c k _ hn hk).mono ?_
  rintro e w1 ⟨rfl, hb1⟩
  have a1 : w1.cell? ⟨w.heap.size, 0, none⟩ = some (.slice A n c) := later hb1 (by simp)
  have r1 : w1.cell? ⟨w.heap.size + 1, 0, none⟩ = some (.slice none 0 0) := later hb1 (by simp)
  have f1 : w1.frozen? ⟨w.heap.size + 1, 0, none⟩ = false := later_free hb1 (by simp) (by simp)
  have z1 : w.heap.size + 1 < w1.heap.size := by have := hb1.size; simp at this; omega
  have BB1 : Hid (Below w.heap.size w w1) := (by repeat (first | exact Below.refl _ _ | refine Below.drew ?_ | refine Below.setCell ?_ (by first | omega | (simp; done) | (simp; omega) | (simp [*]; done)) _ | refine Below.alloc ?_ (by first | omega | (simp; done) | (simp; omega) | (simp [*]; done)) _ | refine Below.trans ?_ (Below.mono (hb1) (by first | omega | (simp; done) | (simp; omega) | (simp [*]; done)))))
  have H1 : Hid (Rd w1 B A n zs) := H.out.below (BB1.out.mono hB)
  clear hb1
  have z0 : w.heap.size < w1.heap.size := by omega
  have HO : Hid (Own (w1.alloc (.cells #[] 27)) w1.heap.size (some ⟨w1.heap.size, 0, none⟩) 0 0 []) := World.ownsRow_made w1 #[] 0 (Nat.le_refl _) (by unfold maxLen; omega) rfl
  have H1' : Hid (Rd (w1.alloc (.cells #[] 27)) B A n zs) := H1.out.alloc (by omega) _
  go_wp2_with (at_builtin; refine wpList_append_fresh rfl (.tmp 14) (.tmp 16) rfl w1.heap.size B n c 0 (some ⟨w1.heap.size, 0, none⟩) A zs rfl rfl HO.out H1'.out (by omega) (by simp) ?_)
  intro A' c' w2 O2 B2
  obtain ⟨g, hA, hg, hlt⟩ := O2.out.form (by omega)
  subst hA
  have r2 := later_at B2.out (older r1 _) (by omega)
  have f2 : w2.frozen? ⟨w.heap.size + 1, 0, none⟩ = false := later_free B2.out (older_free f1 z1 _) (by omega)
  have z2 : w1.heap.size < w2.heap.size := by have := B2.out.size; simp at this; omega
  have ck := O2.out.cell rfl hk
  have fk := O2.out.free rfl k
  have y0 : w.heap.size + 1 < w2.heap.size := by omega
  have hne : ¬ w2.heap.size = g := by omega
  have hne' : ¬ g = w2.heap.size := by omega
  have hr1 : ¬ g = w.heap.size + 1 := by omega
  have hr2 : ¬ w.heap.size + 1 = g := by omega
  have BB2 : Hid (Below w.heap.size w w2) := (BB1.out.alloc (by omega) _).trans (B2.out.mono (by omega))
  clear a1 r1 f1
  go_wp2
  refine bodyPost_ret (v := .tuple #[.agg #[.slice (some ⟨g, 0, none⟩) n c'], .bool true]) (by simp [results, Try.results33, go_sem, r2, y0]) rfl ⟨_, _, rfl, ?_, ?_⟩
  · exact (((O2.out.store).low (by simpa using z1) _).alloc _).from_ (by omega)
  · exact ((BB2.out.setCell (by simp; omega) _).setCell (by simp) _).alloc (by simp; omega) _


set_option maxHeartbeats 1000000 in
theorem sCas_none (A : Option Addr) (n c : Nat) (at_ was x : Int) (w : World) (h : ¬ HasW n at_) (hn : n ≤ 1048576) :
    Calls Try.prog 26 #[.agg #[.slice A n c], .int .i64 at_, .int .u32 was, .int .u32 x] w fun e w' => e = .returned (.tuple #[.agg #[.slice none 0 0], .bool false, .bool false]) ∧ Below w.heap.size w w' := by
  have H := Lib.hid h
  clear h
  go_enter Try.func26, Try.ntmps26
  go_wp2_with fail
  refine (hasS_no A n c at_ _ H.out hn).mono ?_
  rintro e w1 ⟨rfl, hb1⟩
  have a1 : w1.cell? ⟨w.heap.size, 0, none⟩ = some (.slice A n c) := later hb1 (by simp)
  have r1 : w1.cell? ⟨w.heap.size + 1, 0, none⟩ = some (.slice none 0 0) := later hb1 (by simp)
  have f1 : w1.frozen? ⟨w.heap.size + 1, 0, none⟩ = false := later_free hb1 (by simp) (by simp)
  have z1 : w.heap.size + 1 < w1.heap.size := by have := hb1.size; simp at this; omega
  have z0 : w.heap.size < w1.heap.size := by omega
  have BB1 : Hid (Below w.heap.size w w1) := (by repeat (first | exact Below.refl _ _ | refine Below.drew ?_ | refine Below.setCell ?_ (by first | omega | (simp; done) | (simp; omega) | (simp [*]; done)) _ | refine Below.alloc ?_ (by first | omega | (simp; done) | (simp; omega) | (simp [*]; done)) _ | refine Below.trans ?_ (Below.mono (hb1) (by first | omega | (simp; done) | (simp; omega) | (simp [*]; done)))))
  clear hb1
  go_wp2
  exact bodyPost_ret (v := .tuple #[.agg #[.slice none 0 0], .bool false, .bool false]) (by simp [results, Try.results26, go_sem, r1]) rfl ⟨rfl, BB1.out.setCell (by simp) _⟩

set_option maxHeartbeats 1000000 in
theorem sCas_no (A : Option Addr) (n c B k : Nat) (was x : Int) (zs : List Int) (w : World) (h : Rd w B A n zs) (hB : B ≤ w.heap.size) (hn : n ≤ 64) (hk : k < n) (he : (zs[k]?.getD 0 != was) = true) :
    Calls Try.prog 26 #[.agg #[.slice A n c], .int .i64 k, .int .u32 was, .int .u32 x] w fun e w' => ∃ A' c', e = .returned (.tuple #[.agg #[.slice A' n c'], .bool false, .bool true]) ∧ Own w' w.heap.size A' n c' zs ∧ Below w.heap.size w w' := by
  have H := Lib.hid h
  clear h
  go_enter Try.func26, Try.ntmps26
  go_wp2_with fail
  refine (hasS_yes A n c k _ hn hk).mono ?_
  rintro e w1 ⟨rfl, hb1⟩
  have a1 : w1.cell? ⟨w.heap.size, 0, none⟩ = some (.slice A n c) := later hb1 (by simp)
  have r1 : w1.cell? ⟨w.heap.size + 1, 0, none⟩ = some (.slice none 0 0) := later hb1 (by simp)
  have f1 : w1.frozen? ⟨w.heap.size + 1, 0, none⟩ = false := later_free hb1 (by simp) (by simp)
  have z1 : w.heap.size + 1 < w1.heap.size := by have := hb1.size; simp at this; omega
  have z0 : w.heap.size < w1.heap.size := by omega
  have BB1 : Hid (Below w.heap.size w w1) := (by repeat (first | exact Below.refl _ _ | refine Below.drew ?_ | refine Below.setCell ?_ (by first | omega | (simp; done) | (simp; omega) | (simp [*]; done)) _ | refine Below.alloc ?_ (by first | omega | (simp; done) | (simp; omega) | (simp [*]; done)) _ | refine Below.trans ?_ (Below.mono (hb1) (by first | omega | (simp; done) | (simp; omega) | (simp [*]; done)))))
  have H1 : Hid (Rd w1 B A n zs) := H.out.below (BB1.out.mono hB)
  clear hb1
  obtain ⟨gA, oA, rfl, _, hc⟩ := H1.out.2 (by omega)
  have ck := hc k hk
  clear hc
  have HO : Hid (Own (w1.alloc (.cells #[] 27)) w1.heap.size (some ⟨w1.heap.size, 0, none⟩) 0 0 []) := World.ownsRow_made w1 #[] 0 (Nat.le_refl _) (by unfold maxLen; omega) rfl
  have H1' : Hid (Rd (w1.alloc (.cells #[] 27)) B (some ⟨gA, oA, none⟩) n zs) := H1.out.alloc (by omega) _
  go_wp2_with (at_builtin; refine wpList_append_fresh rfl (.tmp 25) (.tmp 27) rfl w1.heap.size B n c 0 (some ⟨w1.heap.size, 0, none⟩) (some ⟨gA, oA, none⟩) zs rfl rfl HO.out H1'.out (by omega) (by simp) ?_)
  intro A' c' w2 O2 B2
  have r2 := later_at B2.out (older r1 _) (by omega)
  have f2 : w2.frozen? ⟨w.heap.size + 1, 0, none⟩ = false := later_free B2.out (older_free f1 z1 _) (by omega)
  have z2 : w1.heap.size < w2.heap.size := by have := B2.out.size; simp at this; omega
  have y0 : w.heap.size + 1 < w2.heap.size := by omega
  have BB2 : Hid (Below w.heap.size w w2) := (BB1.out.alloc (by omega) _).trans (B2.out.mono (by omega))
  clear a1 r1 f1 ck
  go_wp2
  refine bodyPost_ret (v := .tuple #[.agg #[.slice A' n c'], .bool false, .bool true]) (by simp [results, Try.results26, go_sem, r2]) rfl ⟨_, _, rfl, ?_, ?_⟩
  · exact (O2.out.low (by simpa using z1) _).from_ (by omega)
  · exact BB2.out.setCell (by simp) _

set_option maxHeartbeats 1000000 in
theorem sCas_yes (A : Option Addr) (n c B k : Nat) (was x : Int) (zs : List Int) (w : World) (h : Rd w B A n zs) (hB : B ≤ w.heap.size) (hn : n ≤ 64) (hk : k < n) (he : (zs[k]?.getD 0 != was) = false) :
    Calls Try.prog 26 #[.agg #[.slice A n c], .int .i64 k, .int .u32 was, .int .u32 x] w fun e w' => ∃ A' c', e = .returned (.tuple #[.agg #[.slice A' n c'], .bool true, .bool true]) ∧ Own w' w.heap.size A' n c' (zs.set k x) ∧ Below w.heap.size w w' := by
  have H := Lib.hid h
  clear h
  go_enter Try.func26, Try.ntmps26
  go_wp2_with fail
  refine (hasS_yes A n c k _ hn hk).mono ?_
  rintro e w1 ⟨rfl, hb1⟩
  have a1 : w1.cell? ⟨w.heap.size, 0, none⟩ = some (.slice A n c) := later hb1 (by simp)
  have r1 : w1.cell? ⟨w.heap.size + 1, 0, none⟩ = some (.slice none 0 0) := later hb1 (by simp)
  have f1 : w1.frozen? ⟨w.heap.size + 1, 0, none⟩ = false := later_free hb1 (by simp) (by simp)
  have z1 : w.heap.size + 1 < w1.heap.size := by have := hb1.size; simp at this; omega
  have z0 : w.heap.size < w1.heap.size := by omega
  have BB1 : Hid (Below w.heap.size w w1) := (by repeat (first | exact Below.refl _ _ | refine Below.drew ?_ | refine Below.setCell ?_ (by first | omega | (simp; done) | (simp; omega) | (simp [*]; done)) _ | refine Below.alloc ?_ (by first | omega | (simp; done) | (simp; omega) | (simp [*]; done)) _ | refine Below.trans ?_ (Below.mono (hb1) (by first | omega | (simp; done) | (simp; omega) | (simp [*]; done)))))
  have H1 : Hid (Rd w1 B A n zs) := H.out.below (BB1.out.mono hB)
  clear hb1
  obtain ⟨gA, oA, rfl, _, hc⟩ := H1.out.2 (by omega)
  have ck := hc k hk
  clear hc
  go_wp2_with fail
  refine (sStore _ n c B k x zs _ H1.out (by omega) hn hk).mono ?_
  rintro e w2 ⟨A', c', rfl, ho2, hb2⟩
  have r2 := later hb2 r1
  have f2 := later_free hb2 f1 z1
  have z2 := hb2.size
  have y0 : w.heap.size + 1 < w2.heap.size := by omega
  have BB2 : Hid (Below w.heap.size w w2) := BB1.out.trans (hb2.mono (by omega))
  have O2 := Lib.hid ho2
  clear a1 r1 f1 ck hb2 ho2
  go_wp2
  refine bodyPost_ret (v := .tuple #[.agg #[.slice A' n c'], .bool true, .bool true]) (by simp [results, Try.results26, go_sem, r2, y0]) rfl ⟨_, _, rfl, ?_, ?_⟩
  · exact (by refine Own.from_ (b0 := w1.heap.size) ?_ (by first | omega | (simp; done) | (simp; omega) | (simp [*]; done)); repeat (first | exact O2.out | refine Own.drew ?_ | refine Own.low ?_ (by first | omega | (simp; done) | (simp; omega) | (simp [*]; done)) _ | refine Own.alloc ?_ _))
  · exact (by repeat (first | exact Below.refl _ _ | refine Below.drew ?_ | refine Below.setCell ?_ (by first | omega | (simp; done) | (simp; omega) | (simp [*]; done)) _ | refine Below.alloc ?_ (by first | omega | (simp; done) | (simp; omega) | (simp [*]; done)) _ | refine Below.trans ?_ (Below.mono (BB2.out) (by first | omega | (simp; done) | (simp; omega) | (simp [*]; done)))))

set_option maxHeartbeats 1000000 in
theorem sAdd (A : Option Addr) (n c B k : Nat) (x : Int) (zs : List Int) (w : World) (h : Rd w B A n zs) (hB : B ≤ w.heap.size) (hn : n ≤ 64) (hk : k < n) (hz : 0 ≤ zs[k]?.getD 0 ∧ zs[k]?.getD 0 < 4294967296) (hx : 0 ≤ x ∧ x < 4294967296) :
    Calls Try.prog 18 #[.agg #[.slice A n c], .int .i64 k, .int .u32 x] w fun e w' => ∃ A' c', e = .returned (.tuple #[.agg #[.slice A' n c'], .int .u32 (zs[k]?.getD 0), .bool true]) ∧ Own w' w.heap.size A' n c' (zs.set k (addW (zs[k]?.getD 0) x)) ∧ Below w.heap.size w w' := by
  have H0 : Hid (Rd ((w.alloc (.cells #[.slice A n c] 26)).alloc (.cells #[.slice none 0 0] 26)) B A n zs) := (h.alloc hB _).alloc (by simp; omega) _
  clear h
  go_enter Try.func18, Try.ntmps18
  go_wp2_with fail
  refine (sLoad A n c B k zs _ H0.out (by simp; omega) hn hk).mono ?_
  rintro e w1 ⟨rfl, hb1⟩
  have a1 : w1.cell? ⟨w.heap.size, 0, none⟩ = some (.slice A n c) := later hb1 (by simp)
  have r1 : w1.cell? ⟨w.heap.size + 1, 0, none⟩ = some (.slice none 0 0) := later hb1 (by simp)
  have f1 : w1.frozen? ⟨w.heap.size + 1, 0, none⟩ = false := later_free hb1 (by simp) (by simp)
  have z1 : w.heap.size + 1 < w1.heap.size := by have := hb1.size; simp at this; omega
  have z0 : w.heap.size < w1.heap.size := by omega
  have BB1 : Hid (Below w.heap.size w w1) := (by repeat (first | exact Below.refl _ _ | refine Below.drew ?_ | refine Below.setCell ?_ (by first | omega | (simp; done) | (simp; omega) | (simp [*]; done)) _ | refine Below.alloc ?_ (by first | omega | (simp; done) | (simp; omega) | (simp [*]; done)) _ | refine Below.trans ?_ (Below.mono (hb1) (by first | omega | (simp; done) | (simp; omega) | (simp [*]; done)))))
  have H1 : Hid (Rd w1 B A n zs) := H0.out.below (hb1.mono (by simp; omega))
  clear hb1
  go_wp2_with fail
  refine (sStore A n c B k ((zs[k]?.getD 0 + x) % 4294967296) zs _ H1.out (by omega) hn hk).mono ?_
  rintro e w2 ⟨A', c', rfl, ho2, hb2⟩
  have r2 := later hb2 r1
  have f2 := later_free hb2 f1 z1
  have z2 := hb2.size
  have y0 : w.heap.size + 1 < w2.heap.size := by omega
  have BB2 : Hid (Below w.heap.size w w2) := BB1.out.trans (hb2.mono (by omega))
  have O2 := Lib.hid ho2
  clear a1 r1 f1 hb2 ho2
  go_wp2
  refine bodyPost_ret (v := .tuple #[.agg #[.slice A' n c'], .int .u32 (zs[k]?.getD 0), .bool true]) (by simp [results, Try.results18, go_sem, r2, y0]) rfl ⟨_, _, rfl, ?_, ?_⟩
  · exact (by refine Own.from_ (b0 := w1.heap.size) ?_ (by first | omega | (simp; done) | (simp; omega) | (simp [*]; done)); repeat (first | exact O2.out | refine Own.drew ?_ | refine Own.low ?_ (by first | omega | (simp; done) | (simp; omega) | (simp [*]; done)) _ | refine Own.alloc ?_ _))
  · exact (by repeat (first | exact Below.refl _ _ | refine Below.drew ?_ | refine Below.setCell ?_ (by first | omega | (simp; done) | (simp; omega) | (simp [*]; done)) _ | refine Below.alloc ?_ (by first | omega | (simp; done) | (simp; omega) | (simp [*]; done)) _ | refine Below.trans ?_ (Below.mono (BB2.out) (by first | omega | (simp; done) | (simp; omega) | (simp [*]; done)))))

set_option maxHeartbeats 1000000 in
theorem sAdd_no (A : Option Addr) (n c : Nat) (at_ x : Int) (w : World) (h : ¬ HasW n at_) (hn : n ≤ 1048576) (hx : 0 ≤ x ∧ x < 4294967296) :
    Calls Try.prog 18 #[.agg #[.slice A n c], .int .i64 at_, .int .u32 x] w fun e w' => e = .returned (.tuple #[.agg #[.slice none 0 0], .int .u32 0, .bool false]) ∧ Below w.heap.size w w' := by
  have H := Lib.hid h
  clear h
  go_enter Try.func18, Try.ntmps18
  go_wp2_with fail
  refine (sLoad_no A n c at_ _ H.out hn).mono ?_
  rintro e w1 ⟨rfl, hb1⟩
  have a1 : w1.cell? ⟨w.heap.size, 0, none⟩ = some (.slice A n c) := later hb1 (by simp)
  have r1 : w1.cell? ⟨w.heap.size + 1, 0, none⟩ = some (.slice none 0 0) := later hb1 (by simp)
  have f1 : w1.frozen? ⟨w.heap.size + 1, 0, none⟩ = false := later_free hb1 (by simp) (by simp)
  have z1 : w.heap.size + 1 < w1.heap.size := by have := hb1.size; simp at this; omega
  have z0 : w.heap.size < w1.heap.size := by omega
  have BB1 : Hid (Below w.heap.size w w1) := (by repeat (first | exact Below.refl _ _ | refine Below.drew ?_ | refine Below.setCell ?_ (by first | omega | (simp; done) | (simp; omega) | (simp [*]; done)) _ | refine Below.alloc ?_ (by first | omega | (simp; done) | (simp; omega) | (simp [*]; done)) _ | refine Below.trans ?_ (Below.mono (hb1) (by first | omega | (simp; done) | (simp; omega) | (simp [*]; done)))))
  clear hb1
  go_wp2_with fail
  refine (sStore_no A n c at_ _ _ H.out hn).mono ?_
  rintro e w2 ⟨rfl, hb2⟩
  have r2 := later hb2 r1
  have f2 := later_free hb2 f1 z1
  have z2 := hb2.size
  have y0 : w.heap.size + 1 < w2.heap.size := by omega
  have BB2 : Hid (Below w.heap.size w w2) := BB1.out.trans (hb2.mono (by omega))
  clear a1 r1 f1 hb2
  go_wp2
  refine bodyPost_ret (v := .tuple #[.agg #[.slice none 0 0], .int .u32 0, .bool false]) (by simp [results, Try.results18, go_sem, r2, y0]) rfl ⟨rfl, ?_⟩
  exact (by repeat (first | exact Below.refl _ _ | refine Below.drew ?_ | refine Below.setCell ?_ (by first | omega | (simp; done) | (simp; omega) | (simp [*]; done)) _ | refine Below.alloc ?_ (by first | omega | (simp; done) | (simp; omega) | (simp [*]; done)) _ | refine Below.trans ?_ (Below.mono (BB2.out) (by first | omega | (simp; done) | (simp; omega) | (simp [*]; done)))))

end Go.Proofs.Ytiliahmaolnfbaa
