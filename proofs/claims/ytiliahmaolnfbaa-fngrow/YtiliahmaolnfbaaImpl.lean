/- The contracts of the program's memory operations (impl): what each returns, in new memory, and that nothing old has turned. Conditions: at most 2^20 words. -/
import Derived.Test.YtiliahmaolnfbaaCopy
namespace Go.Proofs.Ytiliahmaolnfbaa
open Go.RowKit Go.MuLone

theorem later_free {w w' : World} {b o B : Nat} (hb : Below B w w') (h : w.frozen? ⟨b, o, none⟩ = false) (hl : b < B) : w'.frozen? ⟨b, o, none⟩ = false :=
  (hb.frozen (p := ⟨b, o, none⟩) hl).trans h
theorem older_free {w : World} {b o : Nat} (h : w.frozen? ⟨b, o, none⟩ = false) (hl : b < w.heap.size) (ob : Obj) : (w.alloc ob).frozen? ⟨b, o, none⟩ = false :=
  (World.frozen?_of_block (w := w) (a := ⟨b, o, none⟩) (Below.heap_alloc w ob b hl)).trans h
theorem later_at {w w' : World} {b o B : Nat} {v : Value} (hb : Below B w w') (h : w.cell? ⟨b, o, none⟩ = some v) (hl : b < B) : w'.cell? ⟨b, o, none⟩ = some v :=
  (hb.cell (p := ⟨b, o, none⟩) hl).trans h

set_option maxHeartbeats 1000000 in
theorem iStore (A : Option Addr) (n c B k : Nat) (x : Int) (zs : List Int) (w : World) (h : Rd w B A n zs) (hB : B ≤ w.heap.size) (hn : n ≤ 64) (hk : k < n) :
    Calls Try.prog 24 #[.agg #[.slice A n c], .int .i64 k, .int .u32 x] w fun e w' => ∃ A' c', e = .returned (.tuple #[.agg #[.slice A' n c'], .bool true]) ∧ Own w' w.heap.size A' n c' (zs.set k x) ∧ Below w.heap.size w w' := by
  have H := Lib.hid h
  clear h
  go_enter Try.func24, Try.ntmps24
  go_wp2_with fail
  refine (hasI_yes A n c k _ hn hk).mono ?_
  rintro e w1 ⟨rfl, hb1⟩
  have a1 : w1.cell? ⟨w.heap.size, 0, none⟩ = some (.slice A n c) := later hb1 (by simp)
  have r1 : w1.cell? ⟨w.heap.size + 1, 0, none⟩ = some (.slice none 0 0) := later hb1 (by simp)
  have f1 : w1.frozen? ⟨w.heap.size + 1, 0, none⟩ = false := later_free hb1 (by simp) (by simp)
  have z1 : w.heap.size + 1 < w1.heap.size := by have := hb1.size; simp at this; omega
  have BB1 : Hid (Below w.heap.size w w1) := (by repeat (first | exact Below.refl _ _ | refine Below.drew ?_ | refine Below.setCell ?_ (by first | omega | (simp; done) | (simp; omega) | (simp [*]; done)) _ | refine Below.alloc ?_ (by first | omega | (simp; done) | (simp; omega) | (simp [*]; done)) _ | refine Below.trans ?_ (Below.mono (hb1) (by first | omega | (simp; done) | (simp; omega) | (simp [*]; done)))))
  have H1 : Hid (Rd w1 B A n zs) := H.out.below (BB1.out.mono hB)
  clear hb1
  go_wp2_with fail
  refine (copyToBank_any A n c B zs _ H1.out (by omega) hn).mono ?_
  rintro e w2 ⟨b, g, rfl, hbb, hk2, ho2, hb2⟩
  have r2 := later hb2 r1
  have f2 := later_free hb2 f1 z1
  have BB2 := Lib.hid (BB1.out.trans (hb2.mono (by omega)))
  have K2 := Lib.hid hk2
  have O2 := Lib.hid ho2
  have z2 := hb2.size
  clear hb2 hk2 ho2 a1 r1 f1 BB1 H1
  go_wp2_with fail
  refine (bstore b _ g n n k x zs _ K2.out O2.out hbb hk hn).mono ?_
  rintro e w3 ⟨rfl, hk3, ho3, hb3⟩
  have r3 := later_at hb3 r2 z1
  have f3 := later_free hb3 f2 z1
  have k3 := hk3.cell2
  have O3 := Lib.hid ho3
  have BB3 := Lib.hid (BB2.out.trans (hb3.mono (by omega)))
  have z3 := hb3.size
  clear hb3 hk3 ho3 K2 O2 BB2 r2 f2
  go_wp2
  refine bodyPost_ret (v := .tuple #[.agg #[.slice (some ⟨g, 0, none⟩) n n], .bool true]) (by simp [results, Try.results24, go_sem, r3]) rfl ⟨some ⟨g, 0, none⟩, n, rfl, ?_, BB3.out.setCell (by simp) _⟩
  exact (O3.out.low (by simpa using z1) _).from_ (by omega)

set_option maxHeartbeats 1000000 in
theorem iAdd (A : Option Addr) (n c B k : Nat) (x : Int) (zs : List Int) (w : World) (h : Rd w B A n zs) (hB : B ≤ w.heap.size) (hn : n ≤ 64) (hk : k < n) (hz : 0 ≤ zs[k]?.getD 0 ∧ zs[k]?.getD 0 < 4294967296) (hx : 0 ≤ x ∧ x < 4294967296) :
    Calls Try.prog 19 #[.agg #[.slice A n c], .int .i64 k, .int .u32 x] w fun e w' => ∃ A' c', e = .returned (.tuple #[.agg #[.slice A' n c'], .int .u32 (zs[k]?.getD 0), .bool true]) ∧ Own w' w.heap.size A' n c' (zs.set k (addW (zs[k]?.getD 0) x)) ∧ Below w.heap.size w w' := by
  have H := Lib.hid h
  clear h
  go_enter Try.func19, Try.ntmps19
  go_wp2_with fail
  refine (hasI_yes A n c k _ hn hk).mono ?_
  rintro e w1 ⟨rfl, hb1⟩
  have a1 : w1.cell? ⟨w.heap.size, 0, none⟩ = some (.slice A n c) := later hb1 (by simp)
  have r1 : w1.cell? ⟨w.heap.size + 1, 0, none⟩ = some (.slice none 0 0) := later hb1 (by simp)
  have f1 : w1.frozen? ⟨w.heap.size + 1, 0, none⟩ = false := later_free hb1 (by simp) (by simp)
  have z1 : w.heap.size + 1 < w1.heap.size := by have := hb1.size; simp at this; omega
  have BB1 : Hid (Below w.heap.size w w1) := (by repeat (first | exact Below.refl _ _ | refine Below.drew ?_ | refine Below.setCell ?_ (by first | omega | (simp; done) | (simp; omega) | (simp [*]; done)) _ | refine Below.alloc ?_ (by first | omega | (simp; done) | (simp; omega) | (simp [*]; done)) _ | refine Below.trans ?_ (Below.mono (hb1) (by first | omega | (simp; done) | (simp; omega) | (simp [*]; done)))))
  have H1 : Hid (Rd w1 B A n zs) := H.out.below (BB1.out.mono hB)
  clear hb1
  go_wp2_with fail
  refine (copyToBank_any A n c B zs _ H1.out (by omega) hn).mono ?_
  rintro e w2 ⟨b, g, rfl, hbb, hk2, ho2, hb2⟩
  have r2 := later hb2 r1
  have f2 := later_free hb2 f1 z1
  have BB2 := Lib.hid (BB1.out.trans (hb2.mono (by omega)))
  have K2 := Lib.hid hk2
  have O2 := Lib.hid ho2
  have z2 := hb2.size
  clear hb2 hk2 ho2 a1 r1 f1 BB1 H1
  go_wp2_with fail
  refine (badd b _ g n n k x zs _ K2.out O2.out hbb hk hn hz hx).mono ?_
  rintro e w3 ⟨rfl, hk3, ho3, hb3⟩
  have r3 := later_at hb3 r2 z1
  have f3 := later_free hb3 f2 z1
  have k3 := hk3.cell2
  have O3 := Lib.hid ho3
  have BB3 := Lib.hid (BB2.out.trans (hb3.mono (by omega)))
  have z3 := hb3.size
  clear hb3 hk3 ho3 K2 O2 BB2 r2 f2
  go_wp2
  refine bodyPost_ret (v := .tuple #[.agg #[.slice (some ⟨g, 0, none⟩) n n], .int .u32 (zs[k]?.getD 0), .bool true]) (by simp [results, Try.results19, go_sem, r3]) rfl ⟨some ⟨g, 0, none⟩, n, rfl, ?_, BB3.out.setCell (by simp) _⟩
  exact (O3.out.low (by simpa using z1) _).from_ (by omega)

set_option maxHeartbeats 1000000 in
theorem iOr (A : Option Addr) (n c B k : Nat) (x : Int) (zs : List Int) (w : World) (h : Rd w B A n zs) (hB : B ≤ w.heap.size) (hn : n ≤ 64) (hk : k < n) :
    Calls Try.prog 21 #[.agg #[.slice A n c], .int .i64 k, .int .u32 x] w fun e w' => ∃ A' c', e = .returned (.tuple #[.agg #[.slice A' n c'], .int .u32 (zs[k]?.getD 0), .bool true]) ∧ Own w' w.heap.size A' n c' (zs.set k (bits .or .u32 (zs[k]?.getD 0) x)) ∧ Below w.heap.size w w' := by
  have H := Lib.hid h
  clear h
  go_enter Try.func21, Try.ntmps21
  go_wp2_with fail
  refine (hasI_yes A n c k _ hn hk).mono ?_
  rintro e w1 ⟨rfl, hb1⟩
  have a1 : w1.cell? ⟨w.heap.size, 0, none⟩ = some (.slice A n c) := later hb1 (by simp)
  have r1 : w1.cell? ⟨w.heap.size + 1, 0, none⟩ = some (.slice none 0 0) := later hb1 (by simp)
  have f1 : w1.frozen? ⟨w.heap.size + 1, 0, none⟩ = false := later_free hb1 (by simp) (by simp)
  have z1 : w.heap.size + 1 < w1.heap.size := by have := hb1.size; simp at this; omega
  have BB1 : Hid (Below w.heap.size w w1) := (by repeat (first | exact Below.refl _ _ | refine Below.drew ?_ | refine Below.setCell ?_ (by first | omega | (simp; done) | (simp; omega) | (simp [*]; done)) _ | refine Below.alloc ?_ (by first | omega | (simp; done) | (simp; omega) | (simp [*]; done)) _ | refine Below.trans ?_ (Below.mono (hb1) (by first | omega | (simp; done) | (simp; omega) | (simp [*]; done)))))
  have H1 : Hid (Rd w1 B A n zs) := H.out.below (BB1.out.mono hB)
  clear hb1
  go_wp2_with fail
  refine (copyToBank_any A n c B zs _ H1.out (by omega) hn).mono ?_
  rintro e w2 ⟨b, g, rfl, hbb, hk2, ho2, hb2⟩
  have r2 := later hb2 r1
  have f2 := later_free hb2 f1 z1
  have BB2 := Lib.hid (BB1.out.trans (hb2.mono (by omega)))
  have K2 := Lib.hid hk2
  have O2 := Lib.hid ho2
  have z2 := hb2.size
  clear hb2 hk2 ho2 a1 r1 f1 BB1 H1
  go_wp2_with fail
  refine (bor b _ g n n k x zs _ K2.out O2.out hbb hk hn).mono ?_
  rintro e w3 ⟨rfl, hk3, ho3, hb3⟩
  have r3 := later_at hb3 r2 z1
  have f3 := later_free hb3 f2 z1
  have k3 := hk3.cell2
  have O3 := Lib.hid ho3
  have BB3 := Lib.hid (BB2.out.trans (hb3.mono (by omega)))
  have z3 := hb3.size
  clear hb3 hk3 ho3 K2 O2 BB2 r2 f2
  go_wp2
  refine bodyPost_ret (v := .tuple #[.agg #[.slice (some ⟨g, 0, none⟩) n n], .int .u32 (zs[k]?.getD 0), .bool true]) (by simp [results, Try.results21, go_sem, r3]) rfl ⟨some ⟨g, 0, none⟩, n, rfl, ?_, BB3.out.setCell (by simp) _⟩
  exact (O3.out.low (by simpa using z1) _).from_ (by omega)

set_option maxHeartbeats 1000000 in
theorem iAnd (A : Option Addr) (n c B k : Nat) (x : Int) (zs : List Int) (w : World) (h : Rd w B A n zs) (hB : B ≤ w.heap.size) (hn : n ≤ 64) (hk : k < n) :
    Calls Try.prog 22 #[.agg #[.slice A n c], .int .i64 k, .int .u32 x] w fun e w' => ∃ A' c', e = .returned (.tuple #[.agg #[.slice A' n c'], .int .u32 (zs[k]?.getD 0), .bool true]) ∧ Own w' w.heap.size A' n c' (zs.set k (bits .and .u32 (zs[k]?.getD 0) x)) ∧ Below w.heap.size w w' := by
  have H := Lib.hid h
  clear h
  go_enter Try.func22, Try.ntmps22
  go_wp2_with fail
  refine (hasI_yes A n c k _ hn hk).mono ?_
  rintro e w1 ⟨rfl, hb1⟩
  have a1 : w1.cell? ⟨w.heap.size, 0, none⟩ = some (.slice A n c) := later hb1 (by simp)
  have r1 : w1.cell? ⟨w.heap.size + 1, 0, none⟩ = some (.slice none 0 0) := later hb1 (by simp)
  have f1 : w1.frozen? ⟨w.heap.size + 1, 0, none⟩ = false := later_free hb1 (by simp) (by simp)
  have z1 : w.heap.size + 1 < w1.heap.size := by have := hb1.size; simp at this; omega
  have BB1 : Hid (Below w.heap.size w w1) := (by repeat (first | exact Below.refl _ _ | refine Below.drew ?_ | refine Below.setCell ?_ (by first | omega | (simp; done) | (simp; omega) | (simp [*]; done)) _ | refine Below.alloc ?_ (by first | omega | (simp; done) | (simp; omega) | (simp [*]; done)) _ | refine Below.trans ?_ (Below.mono (hb1) (by first | omega | (simp; done) | (simp; omega) | (simp [*]; done)))))
  have H1 : Hid (Rd w1 B A n zs) := H.out.below (BB1.out.mono hB)
  clear hb1
  go_wp2_with fail
  refine (copyToBank_any A n c B zs _ H1.out (by omega) hn).mono ?_
  rintro e w2 ⟨b, g, rfl, hbb, hk2, ho2, hb2⟩
  have r2 := later hb2 r1
  have f2 := later_free hb2 f1 z1
  have BB2 := Lib.hid (BB1.out.trans (hb2.mono (by omega)))
  have K2 := Lib.hid hk2
  have O2 := Lib.hid ho2
  have z2 := hb2.size
  clear hb2 hk2 ho2 a1 r1 f1 BB1 H1
  go_wp2_with fail
  refine (band b _ g n n k x zs _ K2.out O2.out hbb hk hn).mono ?_
  rintro e w3 ⟨rfl, hk3, ho3, hb3⟩
  have r3 := later_at hb3 r2 z1
  have f3 := later_free hb3 f2 z1
  have k3 := hk3.cell2
  have O3 := Lib.hid ho3
  have BB3 := Lib.hid (BB2.out.trans (hb3.mono (by omega)))
  have z3 := hb3.size
  clear hb3 hk3 ho3 K2 O2 BB2 r2 f2
  go_wp2
  refine bodyPost_ret (v := .tuple #[.agg #[.slice (some ⟨g, 0, none⟩) n n], .int .u32 (zs[k]?.getD 0), .bool true]) (by simp [results, Try.results22, go_sem, r3]) rfl ⟨some ⟨g, 0, none⟩, n, rfl, ?_, BB3.out.setCell (by simp) _⟩
  exact (O3.out.low (by simpa using z1) _).from_ (by omega)

set_option maxHeartbeats 1000000 in
theorem iCas_yes (A : Option Addr) (n c B k : Nat) (was x : Int) (zs : List Int) (w : World) (h : Rd w B A n zs) (hB : B ≤ w.heap.size) (hn : n ≤ 64) (hk : k < n) (he : (zs[k]?.getD 0 != was) = false) :
    Calls Try.prog 27 #[.agg #[.slice A n c], .int .i64 k, .int .u32 was, .int .u32 x] w fun e w' => ∃ A' c', e = .returned (.tuple #[.agg #[.slice A' n c'], .bool true, .bool true]) ∧ Own w' w.heap.size A' n c' (zs.set k x) ∧ Below w.heap.size w w' := by
  have H := Lib.hid h
  clear h
  go_enter Try.func27, Try.ntmps27
  go_wp2_with fail
  refine (hasI_yes A n c k _ hn hk).mono ?_
  rintro e w1 ⟨rfl, hb1⟩
  have a1 : w1.cell? ⟨w.heap.size, 0, none⟩ = some (.slice A n c) := later hb1 (by simp)
  have r1 : w1.cell? ⟨w.heap.size + 1, 0, none⟩ = some (.slice none 0 0) := later hb1 (by simp)
  have f1 : w1.frozen? ⟨w.heap.size + 1, 0, none⟩ = false := later_free hb1 (by simp) (by simp)
  have z1 : w.heap.size + 1 < w1.heap.size := by have := hb1.size; simp at this; omega
  have BB1 : Hid (Below w.heap.size w w1) := (by repeat (first | exact Below.refl _ _ | refine Below.drew ?_ | refine Below.setCell ?_ (by first | omega | (simp; done) | (simp; omega) | (simp [*]; done)) _ | refine Below.alloc ?_ (by first | omega | (simp; done) | (simp; omega) | (simp [*]; done)) _ | refine Below.trans ?_ (Below.mono (hb1) (by first | omega | (simp; done) | (simp; omega) | (simp [*]; done)))))
  have H1 : Hid (Rd w1 B A n zs) := H.out.below (BB1.out.mono hB)
  clear hb1
  go_wp2_with fail
  refine (copyToBank_any A n c B zs _ H1.out (by omega) hn).mono ?_
  rintro e w2 ⟨b, g, rfl, hbb, hk2, ho2, hb2⟩
  have r2 := later hb2 r1
  have f2 := later_free hb2 f1 z1
  have BB2 := Lib.hid (BB1.out.trans (hb2.mono (by omega)))
  have K2 := Lib.hid hk2
  have O2 := Lib.hid ho2
  have z2 := hb2.size
  clear hb2 hk2 ho2 a1 r1 f1 BB1 H1
  go_wp2_with fail
  refine (bcas_yes b _ g n n k was x zs _ K2.out O2.out hbb hk hn he).mono ?_
  rintro e w3 ⟨rfl, hk3, ho3, hb3⟩
  have r3 := later_at hb3 r2 z1
  have f3 := later_free hb3 f2 z1
  have k3 := hk3.cell2
  have O3 := Lib.hid ho3
  have BB3 := Lib.hid (BB2.out.trans (hb3.mono (by omega)))
  have z3 := hb3.size
  clear hb3 hk3 ho3 K2 O2 BB2 r2 f2
  go_wp2
  refine bodyPost_ret (v := .tuple #[.agg #[.slice (some ⟨g, 0, none⟩) n n], .bool true, .bool true]) (by simp [results, Try.results27, go_sem, r3]) rfl ⟨some ⟨g, 0, none⟩, n, rfl, ?_, BB3.out.setCell (by simp) _⟩
  exact (O3.out.low (by simpa using z1) _).from_ (by omega)

set_option maxHeartbeats 1000000 in
theorem iCas_no (A : Option Addr) (n c B k : Nat) (was x : Int) (zs : List Int) (w : World) (h : Rd w B A n zs) (hB : B ≤ w.heap.size) (hn : n ≤ 64) (hk : k < n) (he : (zs[k]?.getD 0 != was) = true) :
    Calls Try.prog 27 #[.agg #[.slice A n c], .int .i64 k, .int .u32 was, .int .u32 x] w fun e w' => ∃ A' c', e = .returned (.tuple #[.agg #[.slice A' n c'], .bool false, .bool true]) ∧ Own w' w.heap.size A' n c' (zs) ∧ Below w.heap.size w w' := by
  have H := Lib.hid h
  clear h
  go_enter Try.func27, Try.ntmps27
  go_wp2_with fail
  refine (hasI_yes A n c k _ hn hk).mono ?_
  rintro e w1 ⟨rfl, hb1⟩
  have a1 : w1.cell? ⟨w.heap.size, 0, none⟩ = some (.slice A n c) := later hb1 (by simp)
  have r1 : w1.cell? ⟨w.heap.size + 1, 0, none⟩ = some (.slice none 0 0) := later hb1 (by simp)
  have f1 : w1.frozen? ⟨w.heap.size + 1, 0, none⟩ = false := later_free hb1 (by simp) (by simp)
  have z1 : w.heap.size + 1 < w1.heap.size := by have := hb1.size; simp at this; omega
  have BB1 : Hid (Below w.heap.size w w1) := (by repeat (first | exact Below.refl _ _ | refine Below.drew ?_ | refine Below.setCell ?_ (by first | omega | (simp; done) | (simp; omega) | (simp [*]; done)) _ | refine Below.alloc ?_ (by first | omega | (simp; done) | (simp; omega) | (simp [*]; done)) _ | refine Below.trans ?_ (Below.mono (hb1) (by first | omega | (simp; done) | (simp; omega) | (simp [*]; done)))))
  have H1 : Hid (Rd w1 B A n zs) := H.out.below (BB1.out.mono hB)
  clear hb1
  go_wp2_with fail
  refine (copyToBank_any A n c B zs _ H1.out (by omega) hn).mono ?_
  rintro e w2 ⟨b, g, rfl, hbb, hk2, ho2, hb2⟩
  have r2 := later hb2 r1
  have f2 := later_free hb2 f1 z1
  have BB2 := Lib.hid (BB1.out.trans (hb2.mono (by omega)))
  have K2 := Lib.hid hk2
  have O2 := Lib.hid ho2
  have z2 := hb2.size
  clear hb2 hk2 ho2 a1 r1 f1 BB1 H1
  go_wp2_with fail
  refine (bcas_no b _ g n n k was x zs _ K2.out O2.out hbb hk hn he).mono ?_
  rintro e w3 ⟨rfl, hk3, ho3, hb3⟩
  have r3 := later_at hb3 r2 z1
  have f3 := later_free hb3 f2 z1
  have k3 := hk3.cell2
  have O3 := Lib.hid ho3
  have BB3 := Lib.hid (BB2.out.trans (hb3.mono (by omega)))
  have z3 := hb3.size
  clear hb3 hk3 ho3 K2 O2 BB2 r2 f2
  go_wp2
  refine bodyPost_ret (v := .tuple #[.agg #[.slice (some ⟨g, 0, none⟩) n n], .bool false, .bool true]) (by simp [results, Try.results27, go_sem, r3]) rfl ⟨some ⟨g, 0, none⟩, n, rfl, ?_, BB3.out.setCell (by simp) _⟩
  exact (O3.out.low (by simpa using z1) _).from_ (by omega)

set_option maxHeartbeats 1000000 in
theorem iLoad (A : Option Addr) (n c B k : Nat) (zs : List Int) (w : World) (h : Rd w B A n zs) (hB : B ≤ w.heap.size) (hn : n ≤ 64) (hk : k < n) :
    Calls Try.prog 23 #[.agg #[.slice A n c], .int .i64 k] w fun e w' => e = .returned (.tuple #[.int .u32 (zs[k]?.getD 0), .bool true]) ∧ Below w.heap.size w w' := by
  have H := Lib.hid h
  clear h
  go_enter Try.func23, Try.ntmps23
  go_wp2_with fail
  refine (hasI_yes A n c k _ hn hk).mono ?_
  rintro e w1 ⟨rfl, hb1⟩
  have a1 : w1.cell? ⟨w.heap.size, 0, none⟩ = some (.slice A n c) := later hb1 (by simp)
  have z1 : w.heap.size < w1.heap.size := by have := hb1.size; simp at this; omega
  have BB1 : Hid (Below w.heap.size w w1) := (by repeat (first | exact Below.refl _ _ | refine Below.drew ?_ | refine Below.setCell ?_ (by first | omega | (simp; done) | (simp; omega) | (simp [*]; done)) _ | refine Below.alloc ?_ (by first | omega | (simp; done) | (simp; omega) | (simp [*]; done)) _ | refine Below.trans ?_ (Below.mono (hb1) (by first | omega | (simp; done) | (simp; omega) | (simp [*]; done)))))
  have H1 : Hid (Rd w1 B A n zs) := H.out.below (BB1.out.mono hB)
  clear hb1
  go_wp2_with fail
  refine (copyToBank_any A n c B zs _ H1.out (by omega) hn).mono ?_
  rintro e w2 ⟨b, g, rfl, hbb, hk2, ho2, hb2⟩
  have BB2 := Lib.hid (BB1.out.trans (hb2.mono (by omega)))
  have K2 := Lib.hid hk2
  have O2 := Lib.hid ho2
  clear hb2 hk2 ho2 a1 BB1 H1
  go_wp2_with fail
  refine (bload b _ g n n k zs _ K2.out O2.out hbb hk hn).mono ?_
  rintro e w3 ⟨rfl, hk3, ho3, hb3⟩
  have BB3 := Lib.hid (BB2.out.trans (hb3.mono (by omega)))
  clear hb3 hk3 ho3 K2 O2 BB2
  go_wp2
  go_ret2
  exact ⟨rfl, BB3.out⟩

set_option maxHeartbeats 1000000 in
theorem iLoad_no (A : Option Addr) (n c : Nat) (at_ : Int) (w : World) (h : ¬ HasW n at_) (hn : n ≤ 1048576) :
    Calls Try.prog 23 #[.agg #[.slice A n c], .int .i64 at_] w fun e w' => e = .returned (.tuple #[.int .u32 0, .bool false]) ∧ Below w.heap.size w w' := by
  have H := Lib.hid h
  clear h
  go_enter Try.func23, Try.ntmps23
  go_wp2_with fail
  refine (hasI_no A n c at_ _ H.out hn).mono ?_
  rintro e w1 ⟨rfl, hb1⟩
  have BB1 : Hid (Below w.heap.size w w1) := (by repeat (first | exact Below.refl _ _ | refine Below.drew ?_ | refine Below.setCell ?_ (by first | omega | (simp; done) | (simp; omega) | (simp [*]; done)) _ | refine Below.alloc ?_ (by first | omega | (simp; done) | (simp; omega) | (simp [*]; done)) _ | refine Below.trans ?_ (Below.mono (hb1) (by first | omega | (simp; done) | (simp; omega) | (simp [*]; done)))))
  clear hb1
  go_wp2
  go_ret2
  exact ⟨rfl, BB1.out⟩

set_option maxHeartbeats 1000000 in
theorem iStore_no (A : Option Addr) (n c : Nat) (at_ : Int) (x : Int) (w : World) (h : ¬ HasW n at_) (hn : n ≤ 1048576) :
    Calls Try.prog 24 #[.agg #[.slice A n c], .int .i64 at_, .int .u32 x] w fun e w' => e = .returned (.tuple #[.agg #[.slice none 0 0], .bool false]) ∧ Below w.heap.size w w' := by
  have H := Lib.hid h
  clear h
  go_enter Try.func24, Try.ntmps24
  go_wp2_with fail
  refine (hasI_no A n c at_ _ H.out hn).mono ?_
  rintro e w1 ⟨rfl, hb1⟩
  have r1 : w1.cell? ⟨w.heap.size + 1, 0, none⟩ = some (.slice none 0 0) := later hb1 (by simp)
  have f1 : w1.frozen? ⟨w.heap.size + 1, 0, none⟩ = false := later_free hb1 (by simp) (by simp)
  have BB1 : Hid (Below w.heap.size w w1) := (by repeat (first | exact Below.refl _ _ | refine Below.drew ?_ | refine Below.setCell ?_ (by first | omega | (simp; done) | (simp; omega) | (simp [*]; done)) _ | refine Below.alloc ?_ (by first | omega | (simp; done) | (simp; omega) | (simp [*]; done)) _ | refine Below.trans ?_ (Below.mono (hb1) (by first | omega | (simp; done) | (simp; omega) | (simp [*]; done)))))
  clear hb1
  go_wp2
  exact bodyPost_ret (v := .tuple #[.agg #[.slice none 0 0], .bool false]) (by simp [results, Try.results24, go_sem, r1]) rfl ⟨rfl, BB1.out.setCell (by simp) _⟩

set_option maxHeartbeats 1000000 in
theorem iAdd_no (A : Option Addr) (n c : Nat) (at_ : Int) (x : Int) (w : World) (h : ¬ HasW n at_) (hn : n ≤ 1048576) :
    Calls Try.prog 19 #[.agg #[.slice A n c], .int .i64 at_, .int .u32 x] w fun e w' => e = .returned (.tuple #[.agg #[.slice none 0 0], .int .u32 0, .bool false]) ∧ Below w.heap.size w w' := by
  have H := Lib.hid h
  clear h
  go_enter Try.func19, Try.ntmps19
  go_wp2_with fail
  refine (hasI_no A n c at_ _ H.out hn).mono ?_
  rintro e w1 ⟨rfl, hb1⟩
  have r1 : w1.cell? ⟨w.heap.size + 1, 0, none⟩ = some (.slice none 0 0) := later hb1 (by simp)
  have f1 : w1.frozen? ⟨w.heap.size + 1, 0, none⟩ = false := later_free hb1 (by simp) (by simp)
  have BB1 : Hid (Below w.heap.size w w1) := (by repeat (first | exact Below.refl _ _ | refine Below.drew ?_ | refine Below.setCell ?_ (by first | omega | (simp; done) | (simp; omega) | (simp [*]; done)) _ | refine Below.alloc ?_ (by first | omega | (simp; done) | (simp; omega) | (simp [*]; done)) _ | refine Below.trans ?_ (Below.mono (hb1) (by first | omega | (simp; done) | (simp; omega) | (simp [*]; done)))))
  clear hb1
  go_wp2
  exact bodyPost_ret (v := .tuple #[.agg #[.slice none 0 0], .int .u32 0, .bool false]) (by simp [results, Try.results19, go_sem, r1]) rfl ⟨rfl, BB1.out.setCell (by simp) _⟩

set_option maxHeartbeats 1000000 in
theorem iOr_no (A : Option Addr) (n c : Nat) (at_ : Int) (x : Int) (w : World) (h : ¬ HasW n at_) (hn : n ≤ 1048576) :
    Calls Try.prog 21 #[.agg #[.slice A n c], .int .i64 at_, .int .u32 x] w fun e w' => e = .returned (.tuple #[.agg #[.slice none 0 0], .int .u32 0, .bool false]) ∧ Below w.heap.size w w' := by
  have H := Lib.hid h
  clear h
  go_enter Try.func21, Try.ntmps21
  go_wp2_with fail
  refine (hasI_no A n c at_ _ H.out hn).mono ?_
  rintro e w1 ⟨rfl, hb1⟩
  have r1 : w1.cell? ⟨w.heap.size + 1, 0, none⟩ = some (.slice none 0 0) := later hb1 (by simp)
  have f1 : w1.frozen? ⟨w.heap.size + 1, 0, none⟩ = false := later_free hb1 (by simp) (by simp)
  have BB1 : Hid (Below w.heap.size w w1) := (by repeat (first | exact Below.refl _ _ | refine Below.drew ?_ | refine Below.setCell ?_ (by first | omega | (simp; done) | (simp; omega) | (simp [*]; done)) _ | refine Below.alloc ?_ (by first | omega | (simp; done) | (simp; omega) | (simp [*]; done)) _ | refine Below.trans ?_ (Below.mono (hb1) (by first | omega | (simp; done) | (simp; omega) | (simp [*]; done)))))
  clear hb1
  go_wp2
  exact bodyPost_ret (v := .tuple #[.agg #[.slice none 0 0], .int .u32 0, .bool false]) (by simp [results, Try.results21, go_sem, r1]) rfl ⟨rfl, BB1.out.setCell (by simp) _⟩

set_option maxHeartbeats 1000000 in
theorem iAnd_no (A : Option Addr) (n c : Nat) (at_ : Int) (x : Int) (w : World) (h : ¬ HasW n at_) (hn : n ≤ 1048576) :
    Calls Try.prog 22 #[.agg #[.slice A n c], .int .i64 at_, .int .u32 x] w fun e w' => e = .returned (.tuple #[.agg #[.slice none 0 0], .int .u32 0, .bool false]) ∧ Below w.heap.size w w' := by
  have H := Lib.hid h
  clear h
  go_enter Try.func22, Try.ntmps22
  go_wp2_with fail
  refine (hasI_no A n c at_ _ H.out hn).mono ?_
  rintro e w1 ⟨rfl, hb1⟩
  have r1 : w1.cell? ⟨w.heap.size + 1, 0, none⟩ = some (.slice none 0 0) := later hb1 (by simp)
  have f1 : w1.frozen? ⟨w.heap.size + 1, 0, none⟩ = false := later_free hb1 (by simp) (by simp)
  have BB1 : Hid (Below w.heap.size w w1) := (by repeat (first | exact Below.refl _ _ | refine Below.drew ?_ | refine Below.setCell ?_ (by first | omega | (simp; done) | (simp; omega) | (simp [*]; done)) _ | refine Below.alloc ?_ (by first | omega | (simp; done) | (simp; omega) | (simp [*]; done)) _ | refine Below.trans ?_ (Below.mono (hb1) (by first | omega | (simp; done) | (simp; omega) | (simp [*]; done)))))
  clear hb1
  go_wp2
  exact bodyPost_ret (v := .tuple #[.agg #[.slice none 0 0], .int .u32 0, .bool false]) (by simp [results, Try.results22, go_sem, r1]) rfl ⟨rfl, BB1.out.setCell (by simp) _⟩

set_option maxHeartbeats 1000000 in
theorem iCas_none (A : Option Addr) (n c : Nat) (at_ : Int) (was x : Int) (w : World) (h : ¬ HasW n at_) (hn : n ≤ 1048576) :
    Calls Try.prog 27 #[.agg #[.slice A n c], .int .i64 at_, .int .u32 was, .int .u32 x] w fun e w' => e = .returned (.tuple #[.agg #[.slice none 0 0], .bool false, .bool false]) ∧ Below w.heap.size w w' := by
  have H := Lib.hid h
  clear h
  go_enter Try.func27, Try.ntmps27
  go_wp2_with fail
  refine (hasI_no A n c at_ _ H.out hn).mono ?_
  rintro e w1 ⟨rfl, hb1⟩
  have r1 : w1.cell? ⟨w.heap.size + 1, 0, none⟩ = some (.slice none 0 0) := later hb1 (by simp)
  have f1 : w1.frozen? ⟨w.heap.size + 1, 0, none⟩ = false := later_free hb1 (by simp) (by simp)
  have BB1 : Hid (Below w.heap.size w w1) := (by repeat (first | exact Below.refl _ _ | refine Below.drew ?_ | refine Below.setCell ?_ (by first | omega | (simp; done) | (simp; omega) | (simp [*]; done)) _ | refine Below.alloc ?_ (by first | omega | (simp; done) | (simp; omega) | (simp [*]; done)) _ | refine Below.trans ?_ (Below.mono (hb1) (by first | omega | (simp; done) | (simp; omega) | (simp [*]; done)))))
  clear hb1
  go_wp2
  exact bodyPost_ret (v := .tuple #[.agg #[.slice none 0 0], .bool false, .bool false]) (by simp [results, Try.results27, go_sem, r1]) rfl ⟨rfl, BB1.out.setCell (by simp) _⟩

end Go.Proofs.Ytiliahmaolnfbaa
