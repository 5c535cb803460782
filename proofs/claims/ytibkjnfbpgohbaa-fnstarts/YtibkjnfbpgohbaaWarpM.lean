/- Requests, warps and their steps in plain numbers. -/
import Derived.Test.YtibkjnfbpgohbaaClaimM
import Derived.Test.YtibkjnfbpgohbaaLaneMath
import Derived.Test.YtibkjnfbpgohbaaGroupMath
import Derived.Test.YtibkjnfbpgohbaaFcM
namespace Go.Proofs.Ytibkjnfbpgohbaa
open Go.RowKit

/-- A size or an address that a request of this kind may name; one that asks for something. -/
def InReq (kd x : Int) : Prop := (kd = 1 ∧ 0 ≤ x ∧ x ≤ 256) ∨ (kd = 2 ∧ -1 ≤ x ∧ x ≤ 4095)
instance (kd x : Int) : Decidable (InReq kd x) := inferInstanceAs (Decidable (_ ∨ _))
def Asks (kd x : Int) : Prop := (kd = 1 ∧ 0 < x) ∨ (kd = 2 ∧ 0 ≤ x)
instance (kd x : Int) : Decidable (Asks kd x) := inferInstanceAs (Decidable (_ ∨ _))
/-- A valid request. -/
def ReqGood (kd : Int) (vs : List Int) : Prop := vs.length = 8 ∧ ∀ x ∈ vs, InReq kd x
instance (kd : Int) (vs : List Int) : Decidable (ReqGood kd vs) := inferInstanceAs (Decidable (_ ∧ _))
/-- The lanes that ask. -/
def askL (kd : Int) (vs : List Int) : List Nat := (List.range 8).filter (fun i => decide (Asks kd (at0 vs i)))
/-- The lead, and what it asks for. -/
def leadV (td : Nat) : Nat := (onesTo td 32)[0]?.getD 0
def wantV (vs : List Int) (td : Nat) : Int := at0 vs (leadV td)
/-- A block of the chunk can be given back. -/
def GivesX (X : Nat) (off : Int) : Prop := RelOk X off ∨ (GoodX X ∧ stOf X = 2 ∧ off = 0)
instance (X : Nat) (off : Int) : Decidable (GivesX X off) := inferInstanceAs (Decidable (_ ∨ _))
def SmallOk (v ph pr hd : Int) (sn : Nat) (ch : Int) : Prop := hd = 0 ∧ 0 ≤ pr ∧ pr ≤ ch ∧ ((ph = 0 ∧ sn = 0) ∨ (ph = 1 ∧ pr < ch ∧ roomV sn (classV v) ≠ 0))
instance (v ph pr hd : Int) (sn : Nat) (ch : Int) : Decidable (SmallOk v ph pr hd sn ch) := inferInstanceAs (Decidable (_ ∧ _))
def LargeOk (v ph pr hd : Int) (sn : Nat) (ch : Int) : Prop := sn = 0 ∧ 0 ≤ pr ∧ pr ≤ ch ∧ 0 ≤ hd ∧ hd ≤ chunksV v ∧ ((0 < hd ∨ ph = 1) → pr + chunksV v ≤ ch) ∧ (((ph = 0 ∨ ph = 1) ∧ hd < chunksV v) ∨ (ph = 2 ∧ 0 < hd) ∨ (ph = 3 ∧ hd = chunksV v))
instance (v ph pr hd : Int) (sn : Nat) (ch : Int) : Decidable (LargeOk v ph pr hd sn ch) := inferInstanceAs (Decidable (_ ∧ _))
def GiveOk (v ph pr hd : Int) (sn : Nat) (ch : Int) : Prop := (ph = 0 ∧ pr = 0 ∧ hd = 0 ∧ sn = 0) ∨ (ph = 1 ∧ pr = 0 ∧ hd = 0 ∧ v < 16 * ch ∧ GivesX sn (v % 16)) ∨ (ph = 2 ∧ 0 < hd ∧ 0 ≤ pr ∧ hd ≤ ch - pr ∧ sn = 0)
instance (v ph pr hd : Int) (sn : Nat) (ch : Int) : Decidable (GiveOk v ph pr hd sn ch) := inferInstanceAs (Decidable (_ ∨ _))
/-- What a busy warp's numbers must be, by what its lead asks for. -/
def PartOk (kd v ph pr hd : Int) (sn : Nat) (ch : Int) : Prop := (kd = 2 ∧ GiveOk v ph pr hd sn ch) ∨ (kd ≠ 2 ∧ 16 < v ∧ LargeOk v ph pr hd sn ch) ∨ (kd ≠ 2 ∧ v ≤ 16 ∧ SmallOk v ph pr hd sn ch)
instance (kd v ph pr hd : Int) (sn : Nat) (ch : Int) : Decidable (PartOk kd v ph pr hd sn ch) := inferInstanceAs (Decidable (_ ∨ _))
def BusyOk (kd : Int) (vs : List Int) (td : Nat) (ph pr hd : Int) (sn : Nat) (ch : Int) : Prop := ReqGood kd vs ∧ td ≠ 0 ∧ (∀ j ∈ onesTo td 32, Asks kd (at0 vs j)) ∧ PartOk kd (wantV vs td) ph pr hd sn ch
instance (kd : Int) (vs : List Int) (td : Nat) (ph pr hd : Int) (sn : Nat) (ch : Int) : Decidable (BusyOk kd vs td ph pr hd sn ch) := inferInstanceAs (Decidable (_ ∧ _))
def ShapeOk (n m td : Nat) (ch : Int) : Prop := 0 ≤ ch ∧ ch ≤ 16 ∧ n = 8 ∧ m = 8 ∧ td < 256
instance (n m td : Nat) (ch : Int) : Decidable (ShapeOk n m td ch) := inferInstanceAs (Decidable (_ ∧ _))
/-- A valid warp. -/
def WarpGood (kd : Int) (vs gs : List Int) (td : Nat) (ph pr hd : Int) (sn : Nat) (ch : Int) : Prop :=
  ShapeOk vs.length gs.length td ch ∧ ((kd = 0 ∧ td = 0 ∧ ph = 0 ∧ pr = 0 ∧ hd = 0 ∧ sn = 0) ∨ (kd ≠ 0 ∧ BusyOk kd vs td ph pr hd sn ch))
instance (kd : Int) (vs gs : List Int) (td : Nat) (ph pr hd : Int) (sn : Nat) (ch : Int) : Decidable (WarpGood kd vs gs td ph pr hd sn ch) := inferInstanceAs (Decidable (_ ∧ _))
/-- The group that a warp works on. -/
def groupL (kd : Int) (vs : List Int) (td : Nat) : List Nat := if kd = 2 ∨ 16 < wantV vs td then [leadV td] else (onesTo td 32).filter (fun j => decide (classV (at0 vs j) = classV (wantV vs td)))
/-- Where a warp begins to search. -/
def StartOk (id K ch : Int) : Prop := 0 ≤ id ∧ id < 4 ∧ IsClass K ∧ 1 ≤ ch ∧ ch ≤ 16
instance (id K ch : Int) : Decidable (StartOk id K ch) := inferInstanceAs (Decidable (_ ∧ _))
def startV (id K ch : Int) : Int := if StartOk id K ch then (5 * id + 3 * K) % ch else -1

/-- What a step turns of a warp. -/
structure WR where
  kd : Int
  gs : List Int
  td : Nat
  ph : Int
  pr : Int
  hd : Int
  sn : Nat

/-- A lane is finished with what it got. -/
def fin1 (x : WR) (l : Nat) (g : Int) : WR := if x.td - 2 ^ l = 0 then ⟨0, x.gs.set l g, 0, 0, 0, 0, 0⟩ else { x with gs := x.gs.set l g, td := x.td - 2 ^ l }
def finL (x : WR) : List (Nat × Int) → WR
  | [] => x
  | p :: q => finL (fin1 x p.1 p.2) q
/-- The lanes of a group are refused. -/
def refuseF (id : Int) (vs : List Int) (G : List Nat) : List Fc := G.map fun l : Nat => ⟨3, id, l, -1, at0 vs l⟩
def refuseX (x : WR) (G : List Nat) : WR := finL { x with pr := 0 } (G.map fun l => (l, -2))

def smallV (x : WR) (vs : List Int) (id : Int) (ws : List Nat) : WR × List Nat × List Fc :=
  let G := groupL x.kd vs x.td
  let K := classV (wantV vs x.td)
  let n : Int := ws.length
  let c : Nat := ((startV id K n + x.pr) % n).toNat
  if x.ph = 0 then
    if x.pr = n then (refuseX x G, ws, refuseF id vs G)
    else if roomV (ws[c]?.getD 0) K ≠ 0 then ({ x with sn := ws[c]?.getD 0, ph := 1 }, ws, [])
    else ({ x with pr := x.pr + 1 }, ws, [])
  else if ws[c]?.getD 0 = x.sn then
    let offs := clO x.sn K G.length
    (finL { x with ph := 0, sn := 0, pr := if offs.length = G.length then 0 else x.pr } (G.zip (offs.map fun o => 16 * (c : Int) + o)), ws.set c (clY x.sn K G.length), (G.zip offs).map fun p => ⟨1, id, (p.1 : Nat), 16 * (c : Int) + p.2, sizeV K⟩)
  else ({ x with ph := 0, sn := 0 }, ws, [])

def backV (x : WR) : WR := if 0 < x.hd then { x with ph := 2 } else { x with pr := x.pr + 1, ph := 0 }
def largeV (x : WR) (vs : List Int) (id : Int) (ws : List Nat) : WR × List Nat × List Fc :=
  let l := leadV x.td
  let r := chunksV (wantV vs x.td)
  let n : Int := ws.length
  let c : Nat := (x.pr + x.hd).toNat
  if x.ph = 0 then
    if n < x.pr + r then (refuseX x [l], ws, refuseF id vs [l])
    else if ws[c]?.getD 0 = 0 then ({ x with ph := 1 }, ws, [])
    else (backV x, ws, [])
  else if x.ph = 1 then
    if ws[c]?.getD 0 = 0 then ({ x with hd := x.hd + 1, ph := if x.hd + 1 = r then 3 else 0 }, ws.set c 3145728, [])
    else (backV x, ws, [])
  else if x.ph = 2 then (if x.hd - 1 = 0 then { x with hd := 0, pr := x.pr + 1, ph := 0 } else { x with hd := x.hd - 1 }, ws.set (c - 1) 0, [])
  else (fin1 { x with pr := 0, hd := 0, ph := 0 } l (16 * x.pr), ws.set x.pr.toNat (packA 2 0 0 r), [⟨1, id, l, 16 * x.pr, 16 * r⟩])

def giveV (x : WR) (vs : List Int) (id : Int) (ws : List Nat) : WR × List Nat × List Fc :=
  let l := leadV x.td
  let a := wantV vs x.td
  let c : Nat := (a / 16).toNat
  let X := ws[c]?.getD 0
  if x.ph = 0 then
    if c < ws.length ∧ GivesX X (a % 16) then ({ x with sn := X, ph := 1 }, ws, [])
    else (fin1 x l (-2), ws, [⟨4, id, l, a, 0⟩])
  else if x.ph = 1 then
    if X = x.sn then
      if RelOk x.sn (a % 16) then (fin1 { x with ph := 0, sn := 0 } l 1, ws.set c (relY x.sn (a % 16)), [⟨2, id, l, a, relS x.sn (a % 16)⟩])
      else ({ x with ph := 2, sn := 0, hd := rnOf x.sn, pr := c }, ws.set c 3145728, [⟨2, id, l, a, 16 * (rnOf x.sn : Int)⟩])
    else ({ x with ph := 0, sn := 0 }, ws, [])
  else if x.hd - 1 = 0 then (fin1 { x with hd := 0, pr := 0, ph := 0 } l 1, ws.set ((x.pr + x.hd).toNat - 1) 0, [])
  else ({ x with hd := x.hd - 1 }, ws.set ((x.pr + x.hd).toNat - 1) 0, [])

/-- A step is made. -/
def StepOk (x : WR) (vs : List Int) (id : Int) (ws : List Nat) : Prop := x.kd ≠ 0 ∧ 0 ≤ id ∧ id < 4 ∧ (ws.length ≤ 16 ∧ ∀ X ∈ ws, GoodX X) ∧ WarpGood x.kd vs x.gs x.td x.ph x.pr x.hd x.sn ws.length
instance (x : WR) (vs : List Int) (id : Int) (ws : List Nat) : Decidable (StepOk x vs id ws) := inferInstanceAs (Decidable (_ ∧ _))
def stepV (x : WR) (vs : List Int) (id : Int) (ws : List Nat) : WR × List Nat × List Fc :=
  if x.kd = 2 then giveV x vs id ws else if 16 < wantV vs x.td then largeV x vs id ws else smallV x vs id ws

end Go.Proofs.Ytibkjnfbpgohbaa
