/-
  Of the text SiteB: what this stage needs (culled by a program).
-/
import Derived.Test.YtnmfigcemknjbaaWorld
import Derived.Test.YtnmfigcemknjbaaJoin
import Derived.Test.YtnmfigcemknjbaaSWhole2
namespace Go.Proofs.Ytnmfigcemknjbaa
open Go.RowKit Go.Lib Go.Deep
set_option linter.unusedVariables false
set_option linter.unusedSimpArgs false

def grI (g : Gr) : List Int := [(g.kind : Int), g.min, g.yellow]
def phI (p : Ph) : List Int := [(p.groups : Int), p.min, p.max, p.gap, if p.always = true then 1 else 0]
def eyI (e : Ey) : List Int := [e.phase, e.on, e.off, e.turns]
def apI (x : Nat) : List Int := [(x : Int)]
/-- A site's numbers, part by part. -/
def I1 (S : St) : List Int := [S.id, (S.groups.length : Int)]
def I2 (S : St) (k : Nat) : List Int := I1 S ++ (S.groups.take k).flatMap grI
def I3 (S : St) (k : Nat) : List Int := I2 S S.groups.length ++ (S.apart.take k).flatMap apI
def I4 (S : St) (k : Nat) : List Int := I3 S S.apart.length ++ (S.between.take k).flatten
def I5 (S : St) (k : Nat) : List Int := I4 S S.between.length ++ [(S.phases.length : Int)] ++ (S.phases.take k).flatMap phI
def I6 (S : St) (k : Nat) : List Int := I5 S S.phases.length ++ [(S.eyes.length : Int)] ++ (S.eyes.take k).flatMap eyI
def I7 (S : St) : List Int := I6 S S.eyes.length ++ [S.watch, S.feed, S.heal, S.low, S.high]
def siteI (S : St) : List Int := I7 S ++ plansI S.plans
def siteL (S : St) : List Nat := smlI (siteI S)

/-- The list so far. -/
structure Lst (w0 wr : World) (a : Option Addr) (n c : Nat) (P : List Int) (bd : Nat) : Prop where
  mine : Mine wr w0.heap.size a n c (smlI P)
  size : n = (smlI P).length
  le : n ≤ bd
  kept : Kept w0 wr none
theorem Lst.grow {w0 wr w' : World} {a a' : Option Addr} {n c c' : Nat} {P l Q : List Int} {bd bd' : Nat} (h : Lst w0 wr a n c P bd) (hm : Mine w' w0.heap.size a' (n + (smlI l).length) c' (smlI P ++ smlI l)) (hk : Kept w0 w' none) (hQ : Q = P ++ l) (hb : bd + (smlI l).length ≤ bd') : Lst w0 w' a' (n + (smlI l).length) c' Q bd' := by
  subst hQ
  refine ⟨by rw [smlI_append]; exact hm, by rw [smlI_append, List.length_append, h.size], by have := h.le; omega, hk⟩
end Go.Proofs.Ytnmfigcemknjbaa
