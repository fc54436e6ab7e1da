/- Products of spans: the document's. -/
import Derived.Test.YtlcbcanlehackaaDoorMul
import Derived.Test.YtlcbcanlehackaaDoorQF
set_option linter.unusedVariables false
set_option linter.unusedSimpArgs false
namespace Go.Proofs.YtlcbcanlehackaaDoor
open Go.RowKit
structure Cor (wr : World) (CC : Nat) (al ah bl bh : Int) : Prop where
  c0 : wr.cell? ⟨CC, 0, none⟩ = some (.int .i64 al)
  c1 : wr.cell? ⟨CC, 1, none⟩ = some (.int .i64 bl)
  c2 : wr.cell? ⟨CC, 2, none⟩ = some (.int .i64 al)
  c3 : wr.cell? ⟨CC, 3, none⟩ = some (.int .i64 bh)
  c4 : wr.cell? ⟨CC, 4, none⟩ = some (.int .i64 ah)
  c5 : wr.cell? ⟨CC, 5, none⟩ = some (.int .i64 bl)
  c6 : wr.cell? ⟨CC, 6, none⟩ = some (.int .i64 ah)
  c7 : wr.cell? ⟨CC, 7, none⟩ = some (.int .i64 bh)
def RunP (p0 p1 p2 p3 k l h : Int) : Prop :=
  (k = 0 ∧ l = 0 ∧ h = 0) ∨ (k = 1 ∧ l = p0 ∧ h = p0) ∨ (k = 2 ∧ l = mi p0 p1 ∧ h = mx p0 p1) ∨ (k = 3 ∧ l = mi (mi p0 p1) p2 ∧ h = mx (mx p0 p1) p2) ∨ (k = 4 ∧ l = mi (mi (mi p0 p1) p2) p3 ∧ h = mx (mx (mx p0 p1) p2) p3)
structure MInv (w wr : World) (RR LO HI CC : Nat) (l h : Int) : Prop where
  below : Below w.heap.size w wr
  h0 : w.heap.size ≤ RR
  h1 : RR < LO
  h2 : LO < HI
  h3 : HI < CC
  h4 : CC < wr.heap.size
  r0 : wr.cell? ⟨RR, 0, none⟩ = some (.int .i64 0)
  r1 : wr.cell? ⟨RR, 1, none⟩ = some (.int .i64 0)
  l0 : wr.cell? ⟨LO, 0, none⟩ = some (.int .i64 (wH l))
  l1 : wr.cell? ⟨LO, 1, none⟩ = some (.int .u64 (wL l))
  g0 : wr.cell? ⟨HI, 0, none⟩ = some (.int .i64 (wH h))
  g1 : wr.cell? ⟨HI, 1, none⟩ = some (.int .u64 (wL h))
  fr0 : wr.frozen? ⟨RR, 0, none⟩ = false
  fr1 : wr.frozen? ⟨RR, 1, none⟩ = false
  fl0 : wr.frozen? ⟨LO, 0, none⟩ = false
  fl1 : wr.frozen? ⟨LO, 1, none⟩ = false
  fg0 : wr.frozen? ⟨HI, 0, none⟩ = false
  fg1 : wr.frozen? ⟨HI, 1, none⟩ = false
end Go.Proofs.YtlcbcanlehackaaDoor
