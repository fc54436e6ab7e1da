/- Packed: SwK SwL SwM SwN SwO. -/
import Derived.Deep.RegionHeld3
import Derived.Deep.CutRange
import Derived.Test.YtacpahebbnnckaaP7
import Derived.Test.YtacpahebbnnckaaP11
import Derived.Test.YtacpahebbnnckaaP21
import Derived.Test.YtacpahebbnnckaaP27
import Derived.Test.YtacpahebbnnckaaP28
set_option linter.unusedVariables false
set_option linter.unusedSimpArgs false
namespace Go.Proofs.Ytacpahebbnnckaa
section
set_option maxRecDepth 100000
open Go.RowKit
open FP
namespace Sw
abbrev vv (a b : FD.Sp) : Bool := vB a.lo a.hi && vB b.lo b.hi
def stM (a b : FD.Sp) : FD.Sp × Int :=
 (⟨okI (vv a b) (oLo (mi (mL a.lo b.lo b.hi) (mL a.hi b.lo b.hi)) (mx (mH a.lo b.lo b.hi) (mH a.hi b.lo b.hi))), okI (vv a b) (oHi (mi (mL a.lo b.lo b.hi) (mL a.hi b.lo b.hi)) (mx (mH a.lo b.lo b.hi) (mH a.hi b.lo b.hi))), SX.okI_R64 (SX.oLo_R64 _ _), SX.okI_R64 (SX.oHi_R64 _ _)⟩,
  errE (vv a b) (oE (mi (mL a.lo b.lo b.hi) (mL a.hi b.lo b.hi)) (mx (mH a.lo b.lo b.hi) (mH a.hi b.lo b.hi))))
def stS (a b : FD.Sp) : FD.Sp × Int :=
 (⟨okI (vv a b) (oLo (a.lo - b.hi) (a.hi - b.lo)), okI (vv a b) (oHi (a.lo - b.hi) (a.hi - b.lo)), SX.okI_R64 (SX.oLo_R64 _ _), SX.okI_R64 (SX.oHi_R64 _ _)⟩, errE (vv a b) (oE (a.lo - b.hi) (a.hi - b.lo)))
abbrev OpIs (f : FuncId) (g : FD.Sp → FD.Sp → FD.Sp × Int) : Prop := ∀ (a b : FD.Sp) (W : World), Calls Try.prog f #[FD.spv a, FD.spv b] W fun e W' => e = .returned (.tuple #[FD.spv (g a b).1, .int .i64 (g a b).2]) ∧ Below W.heap.size W W'
theorem gM : OpIs 100 stM := fun a b W => mul_any a.lo a.hi b.lo b.hi a.ok.1 a.ok.2 b.ok.1 b.ok.2 W
theorem hM : OpIs 73 stM := fun a b W => rmul_any a.lo a.hi b.lo b.hi a.ok.1 a.ok.2 b.ok.1 b.ok.2 W
theorem gS : OpIs 99 stS := fun a b W => sub_any a.lo a.hi b.lo b.hi a.ok.1 a.ok.2 b.ok.1 b.ok.2 W
theorem hS : OpIs 74 stS := fun a b W => rsub_any a.lo a.hi b.lo b.hi a.ok.1 a.ok.2 b.ok.1 b.ok.2 W
abbrev Nil (x : FD.Sp × Int) : Prop := ¬ x.2 = 0 → x.1 = .zero
theorem sp_zero {x : FD.Sp} (h : x.lo = 0 ∧ x.hi = 0) : x = .zero := by
 obtain ⟨a, b, c⟩ := x
 obtain ⟨rfl, rfl⟩ := h
 rfl
theorem nM (a b : FD.Sp) : Nil (stM a b) := fun h => sp_zero (SX.zero1 h)
theorem nS (a b : FD.Sp) : Nil (stS a b) := fun h => sp_zero (SX.zero1 h)
theorem nA (a b : FD.Sp) : Nil (stepA a b) := fun h => sp_zero (SX.zero1 h)
def ck (e0 : Int) (x : FD.Sp × Int) : FD.Sp × Int := if e0 = 0 then x else (.zero, e0)
theorem ck_f {e0 : Int} {x : FD.Sp × Int} (h : Nil x) : kpV e0 x.2 x.1.lo = (ck e0 x).1.lo ∧ kpV e0 x.2 x.1.hi = (ck e0 x).1.hi ∧ kpE e0 x.2 = (ck e0 x).2 := by
 unfold kpV kpE ck
 by_cases h0 : e0 = 0
 ·by_cases h1 : x.2 = 0
  ·simp [h0, h1]
  ·simp [h0, h1, h h1, FD.Sp.zero]
 ·simp [h0, FD.Sp.zero]
theorem ck_c {e0 : Int} {x : FD.Sp × Int} : ckV e0 x.1.lo = (ck e0 x).1.lo ∧ ckV e0 x.1.hi = (ck e0 x).1.hi ∧ ckE e0 x.2 = (ck e0 x).2 := by
 unfold ckV ckE ck
 by_cases h0 : e0 = 0
 ·simp [h0]
 ·simp [h0, FD.Sp.zero]
abbrev KeepIs (f : FuncId) (g : FD.Sp → FD.Sp → FD.Sp × Int) : Prop := ∀ (b : Nat) (e0 : Int) (x y : FD.Sp) (w : World), w.cell? ⟨b, 0, none⟩ = some (.int .i64 e0) → w.frozen? ⟨b, 0, none⟩ = false → b < w.heap.size →
  Calls Try.prog f #[.pointer (some ⟨b, 0, none⟩), FD.spv x, FD.spv y] w fun r w' => r = .returned (FD.spv (ck e0 (g x y)).1) ∧ Below (w.setCell ⟨b, 0, none⟩ (.int .i64 (ck e0 (g x y)).2)).heap.size (w.setCell ⟨b, 0, none⟩ (.int .i64 (ck e0 (g x y)).2)) w'
theorem fM : KeepIs 54 stM := fun b e0 x y w hc hf hb => by
 have h := fmul_any b e0 x.lo x.hi y.lo y.hi (stM x y).1.lo (stM x y).1.hi (stM x y).2 (gM x y) w hc hf hb
 obtain ⟨k1, k2, k3⟩ := ck_f (e0 := e0) (nM x y)
 rw [k1, k2, k3] at h
 exact h
theorem fS : KeepIs 53 stS := fun b e0 x y w hc hf hb => by
 have h := fsub_any b e0 x.lo x.hi y.lo y.hi (stS x y).1.lo (stS x y).1.hi (stS x y).2 (gS x y) w hc hf hb
 obtain ⟨k1, k2, k3⟩ := ck_f (e0 := e0) (nS x y)
 rw [k1, k2, k3] at h
 exact h
theorem cA : KeepIs 22 stepA := fun b e0 x y w hc hf hb => by
 have h := cAdd_any b e0 x.lo x.hi y.lo y.hi (stepA x y).1.lo (stepA x y).1.hi (stepA x y).2 (rstepA_in x y) w hc hf hb
 obtain ⟨k1, k2, k3⟩ := ck_c (e0 := e0) (x := stepA x y)
 rw [k1, k2, k3] at h
 exact h
theorem cM : KeepIs 23 stM := fun b e0 x y w hc hf hb => by
 have h := cMul_any b e0 x.lo x.hi y.lo y.hi (stM x y).1.lo (stM x y).1.hi (stM x y).2 (hM x y) w hc hf hb
 obtain ⟨k1, k2, k3⟩ := ck_c (e0 := e0) (x := stM x y)
 rw [k1, k2, k3] at h
 exact h
theorem cS : KeepIs 24 stS := fun b e0 x y w hc hf hb => by
 have h := cSub_any b e0 x.lo x.hi y.lo y.hi (stS x y).1.lo (stS x y).1.hi (stS x y).2 (hS x y) w hc hf hb
 obtain ⟨k1, k2, k3⟩ := ck_c (e0 := e0) (x := stS x y)
 rw [k1, k2, k3] at h
 exact h
end Sw
end
section
set_option maxRecDepth 100000
namespace Sw


end Sw
end
section
set_option maxRecDepth 100000
namespace Sw

end Sw
end
section
set_option maxRecDepth 100000
open Go.RowKit
open FP
namespace Sw
section
variable {w0 w w' : World} {a b c d e z : Nat} {arm x y s wp : FD.Sp} {E : Int}
theorem far {w : World} {p k o i : Nat} {v : Value} (h : ¬ p = k) : (w.setCell ⟨p, i, none⟩ v).cell? ⟨k, o, none⟩ = w.cell? ⟨k, o, none⟩ :=
 World.cell?_setCell_other w _ _ v (fun e => h (by simpa using congrArg Addr.block e))
theorem far2 {w : World} {p o i : Nat} {v : Value} (h : ¬ i = o) : (w.setCell ⟨p, i, none⟩ v).cell? ⟨p, o, none⟩ = w.cell? ⟨p, o, none⟩ :=
 World.cell?_setCell_other w _ _ v (fun e => h (by simpa using congrArg Addr.off e))
end

end Sw
end
section
set_option maxRecDepth 100000
open Go.RowKit
open FP
namespace Sw
def Box (W : World) (b : Nat) (x : FD.Sp) : Prop := b < W.heap.size ∧ W.cell? ⟨b, 0, none⟩ = some (.int .i64 x.lo) ∧ W.cell? ⟨b, 1, none⟩ = some (.int .i64 x.hi) ∧ W.frozen? ⟨b, 0, none⟩ = false ∧ W.frozen? ⟨b, 1, none⟩ = false
structure ES (w0 W : World) (z : Nat) (E : Int) (L : List (Nat × FD.Sp)) : Prop where
 below : Below w0.heap.size w0 W
 gz : w0.heap.size ≤ z
 lz : z < W.heap.size
 z0 : W.cell? ⟨z, 0, none⟩ = some (.int .i64 E)
 fz : W.frozen? ⟨z, 0, none⟩ = false
 box : ∀ p ∈ L, Box W p.1 p.2 ∧ ¬ z = p.1 ∧ w0.heap.size ≤ p.1
 nd : L.Pairwise fun p q => ¬ p.1 = q.1
theorem Box.quiet {W W' : World} {b : Nat} {x : FD.Sp} (h : Box W b x) (hb : Below W.heap.size W W') : Box W' b x :=
 ⟨Nat.lt_of_lt_of_le h.1 hb.size, ((bcell hb).1 _ _ h.1).trans h.2.1, ((bcell hb).1 _ _ h.1).trans h.2.2.1, ((bcell hb).2 _ _ h.1).trans h.2.2.2.1, ((bcell hb).2 _ _ h.1).trans h.2.2.2.2⟩
theorem Box.far {W : World} {b k o : Nat} {x : FD.Sp} {v : Value} (h : Box W b x) (hk : ¬ k = b) : Box (W.setCell ⟨k, o, none⟩ v) b x :=
 ⟨by simpa using h.1, (Sw.far hk).trans h.2.1, (Sw.far hk).trans h.2.2.1, by rw [World.frozen?_setCell]; exact h.2.2.2.1, by rw [World.frozen?_setCell]; exact h.2.2.2.2⟩
theorem Box.set {W : World} {b : Nat} {x : FD.Sp} (h : Box W b x) (y : FD.Sp) : Box ((W.setCell ⟨b, 0, none⟩ (.int .i64 y.lo)).setCell ⟨b, 1, none⟩ (.int .i64 y.hi)) b y :=
 ⟨by simpa using h.1, (far2 (by decide)).trans (World.cell?_setCell_same _ _ _ h.2.1), World.cell?_setCell_same _ _ _ ((far2 (by decide)).trans h.2.2.1), by rw [World.frozen?_setCell, World.frozen?_setCell]; exact h.2.2.2.1, by rw [World.frozen?_setCell, World.frozen?_setCell]; exact h.2.2.2.2⟩
theorem Box.new (W : World) (x : FD.Sp) : Box (W.alloc (.cells #[.int .i64 x.lo, .int .i64 x.hi] 24)) W.heap.size x :=
 ⟨by simp, by go_simp, by go_simp, by go_simp, by go_simp⟩
section
variable {w0 W W' : World} {z : Nat} {E : Int} {L : List (Nat × FD.Sp)}
theorem ES.quiet (h : ES w0 W z E L) (hb : Below W.heap.size W W') : ES w0 W' z E L :=
 ⟨h.below.trans (hb.mono h.below.size), h.gz, Nat.lt_of_lt_of_le h.lz hb.size, ((bcell hb).1 _ _ h.lz).trans h.z0, ((bcell hb).2 _ _ h.lz).trans h.fz, fun p hp => ⟨(h.box p hp).1.quiet hb, (h.box p hp).2⟩, h.nd⟩
theorem ES.drew (h : ES w0 W z E L) : ES w0 W.drew z E L := h.quiet (Below.refl _ _).drew
theorem ES.setz (h : ES w0 W z E L) (F : Int) : ES w0 (W.setCell ⟨z, 0, none⟩ (.int .i64 F)) z F L :=
 ⟨h.below.setCell h.gz _, h.gz, by simpa using h.lz, World.cell?_setCell_same _ _ _ h.z0, by rw [World.frozen?_setCell]; exact h.fz, fun p hp => ⟨(h.box p hp).1.far (h.box p hp).2.1, (h.box p hp).2⟩, h.nd⟩
theorem ES.call {F : Int} (h : ES w0 W z E L) (hb : Below (W.setCell ⟨z, 0, none⟩ (.int .i64 F)).heap.size (W.setCell ⟨z, 0, none⟩ (.int .i64 F)) W') : ES w0 W' z F L := (h.setz F).quiet hb
theorem ES.new (h : ES w0 W z E L) (x : FD.Sp) : ES w0 (W.alloc (.cells #[.int .i64 x.lo, .int .i64 x.hi] 24)) z E ((W.heap.size, x) :: L) := by
 have hq := h.quiet ((Below.refl W.heap.size W).alloc (Nat.le_refl _) (.cells #[.int .i64 x.lo, .int .i64 x.hi] 24))
 refine ⟨hq.below, hq.gz, hq.lz, hq.z0, hq.fz, fun p hp => ?_, ?_⟩
 ·rcases List.mem_cons.1 hp with rfl | hp
  ·exact ⟨Box.new W x, Nat.ne_of_lt h.lz, h.below.size⟩
  ·exact hq.box p hp
 ·exact List.pairwise_cons.2 ⟨fun p hp => Nat.ne_of_gt (h.box p hp).1.1, h.nd⟩
theorem ES.new0 (h : ES w0 W z E L) : ES w0 (W.alloc (.cells #[.int .i64 0, .int .i64 0] 24)) z E ((W.heap.size, .zero) :: L) := h.new .zero
theorem ES.head {p : Nat} {x : FD.Sp} (h : ES w0 W z E ((p, x) :: L)) : Box W p x := (h.box _ (List.mem_cons_self ..)).1
theorem ES.sethead {p : Nat} {x : FD.Sp} (h : ES w0 W z E ((p, x) :: L)) (y : FD.Sp) : ES w0 ((W.setCell ⟨p, 0, none⟩ (.int .i64 y.lo)).setCell ⟨p, 1, none⟩ (.int .i64 y.hi)) z E ((p, y) :: L) := by
 obtain ⟨h1, h2, h3⟩ := h.box _ (List.mem_cons_self ..)
 have h2' : ¬ p = z := fun q => h2 q.symm
 obtain ⟨n1, n2⟩ := List.pairwise_cons.1 h.nd
 refine ⟨(h.below.setCell h3 _).setCell h3 _, h.gz, by simpa using h.lz, ((Sw.far h2').trans (Sw.far h2')).trans h.z0, by rw [World.frozen?_setCell, World.frozen?_setCell]; exact h.fz, fun q hq => ?_, List.pairwise_cons.2 ⟨n1, n2⟩⟩
 rcases List.mem_cons.1 hq with rfl | hq
 ·exact ⟨h1.set y, h2, h3⟩
 ·have := h.box q (List.mem_cons_of_mem _ hq)
  exact ⟨(this.1.far (n1 q hq)).far (n1 q hq), this.2⟩
theorem ES.at {p : Nat} {x : FD.Sp} (h : ES w0 W z E L) (hp : (p, x) ∈ L) : Box W p x := (h.box _ hp).1
theorem C_use {f : FuncId} {g : FD.Sp → FD.Sp → FD.Sp × Int} (k : KeepIs f g) {p1 p2 : FD.Sp} {E0 : Int} {q : FD.Sp × Int} (eq : ck E0 (g p1 p2) = q) (W : World) (L : List (Nat × FD.Sp)) (h : ES w0 W z E0 L) :
  Calls Try.prog f #[.pointer (some ⟨z, 0, none⟩), FD.spv p1, FD.spv p2] W fun r w' => r = .returned (FD.spv q.1) ∧ ES w0 w' z q.2 L := by
 subst eq
 refine (k z E0 p1 p2 W h.z0 h.fz h.lz).mono ?_
 rintro r w' ⟨rfl, hb⟩
 exact ⟨rfl, h.call hb⟩
theorem P_use {n : Int} {x : FD.Sp} (h0 : x.lo = n) (h1 : x.hi = n) (W : World) (L : List (Nat × FD.Sp)) (E : Int) (h : ES w0 W z E L) :
  Calls Try.prog 25 #[.int .i64 n] W fun r w' => r = .returned (FD.spv x) ∧ ES w0 w' z E L := by
 refine (dot1_any n W).mono ?_
 rintro r w' ⟨rfl, hb⟩
 obtain ⟨a, b, c⟩ := x
 dsimp only at h0 h1
 subst h0 h1
 exact ⟨rfl, h.quiet hb⟩
end
end Sw
end
end Go.Proofs.Ytacpahebbnnckaa
