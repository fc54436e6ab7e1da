/- Packed: TabOpen. -/
import Derived.Deep.Slices
import Derived.ProofKit
import Derived.Carry
import Derived.Test.YtkkanjeamngdiaaDoorP7
set_option linter.unusedVariables false
set_option linter.unusedSimpArgs false
namespace Go.Proofs.YtkkanjeamngdiaaDoor
section
open Go.RowKit Go.ChangeShapes Go.WideShapes Go.Deep
section
variable {H : Type} {enc : TypeId × Value → H} {w : World} {base : Nat} {spare : Nat → Bool} {held : Bool}
theorem cells_pt : Tryd.prog.cellsOf 32 = 3 := by kernel_rfl
theorem cells_num : Tryd.prog.cellsOf 23 = 1 := by kernel_rfl
theorem cells_span : Tryd.prog.cellsOf 25 = 2 := by kernel_rfl
theorem three {l : List Value} (h : l.length = 3) : ∃ a b c, l = [a, b, c] := by
 match l, h with
 | [a, b, c], _ => exact ⟨a, b, c, rfl⟩
theorem open_point {fuel : Nat} {cs : List Value} {x : DataW H × List MemPlace} (h : DataW.trod enc Tryd.prog w base spare held fuel 32 cs = some x) :
  ∃ a l u : Int, cs = [.int .i64 a, .int .i64 l, .int .i64 u] ∧ I64 a ∧ I64 l ∧ I64 u := by
 obtain ⟨xs, n, -, -, hlen, hl2, hf⟩ := DataW.trod_struct Tryd.underlying32 h
 obtain ⟨c0, c1, c2, rfl⟩ := three (hlen.trans cells_pt)
 have h0 : DataW.trod enc Tryd.prog w base spare held n 23 (([c0, c1, c2].drop 0).take (Tryd.prog.cellsOf 23)) = xs[0]? := hf 0 _ rfl
 have h1 : DataW.trod enc Tryd.prog w base spare held n 25 (([c0, c1, c2].drop 1).take (Tryd.prog.cellsOf 25)) = xs[1]? := hf 1 _ rfl
 rw [cells_num] at h0
 rw [cells_span] at h1
 simp only [List.drop_zero, List.take_succ_cons, List.take_zero, List.drop_succ_cons] at h0 h1
 match xs, hl2 with
 | [y0, y1], _ =>
  obtain ⟨a, e0, -, wa⟩ := DataW.trod_int Tryd.underlying23 (show DataW.trod enc Tryd.prog w base spare held n 23 [c0] = some y0 from h0)
  obtain ⟨zs, n2, -, -, hlen2, hl3, hf2⟩ := DataW.trod_struct Tryd.underlying25 (show DataW.trod enc Tryd.prog w base spare held n 25 [c1, c2] = some y1 from h1)
  have k0 : DataW.trod enc Tryd.prog w base spare held n2 23 (([c1, c2].drop 0).take (Tryd.prog.cellsOf 23)) = zs[0]? := hf2 0 _ rfl
  have k1 : DataW.trod enc Tryd.prog w base spare held n2 23 (([c1, c2].drop 1).take (Tryd.prog.cellsOf 23)) = zs[1]? := hf2 1 _ rfl
  rw [cells_num] at k0 k1
  simp only [List.drop_zero, List.take_succ_cons, List.take_zero, List.drop_succ_cons] at k0 k1
  match zs, hl3 with
  | [z0, z1], _ =>
   obtain ⟨l, e1, -, wl⟩ := DataW.trod_int Tryd.underlying23 (show DataW.trod enc Tryd.prog w base spare held n2 23 [c1] = some z0 from k0)
   obtain ⟨u, e2, -, wu⟩ := DataW.trod_int Tryd.underlying23 (show DataW.trod enc Tryd.prog w base spare held n2 23 [c2] = some z1 from k1)
   injection e0 with e0
   injection e1 with e1
   injection e2 with e2
   exact ⟨a, l, u, by rw [e0, e1, e2], i64_of_wf wa, i64_of_wf wl, i64_of_wf wu⟩
theorem add_off (a : Addr) (k j : Nat) (hj : 0 < j) : (a.add k).add j = ⟨a.block, (a.add k).off + j, none⟩ := by
 unfold Addr.add
 rw [if_neg (by omega)]
 split <;> rfl
theorem open_table {v : Value} {d : DataW H} {p : List MemPlace} {W : World} (hs : ∃ a l c, v = .slice a l c) (h : DataW.Trod enc Tryd.prog W 0 (fun _ => true) true 22 v d p) :
  v = .slice none 0 0 ∨ ∃ (ad : Addr) (n cap : Nat) (at_ lo hi : Nat → Int), v = .slice (some ad) n cap ∧ n ≤ maxLen ∧ (0 < n → Tab W ad n at_ lo hi) ∧ ∀ i, i < n → I64 (at_ i) ∧ I64 (lo i) ∧ I64 (hi i) := by
 obtain ⟨a0, l0, c0, rfl⟩ := hs
 obtain ⟨fuel, hf⟩ := h
 rcases open_slice Tryd.underlying22 hf with ⟨h1, -⟩ | ⟨a, len, cap, m, n, D, Pl, hcs, -, hl, hm, hmm, -, hi⟩
 ·left
  simpa [Value.cells] using h1
 ·right
  have hv : Value.slice a0 l0 c0 = .slice (some a) len cap := by simpa [Value.cells] using hcs
  have hlm : len ≤ m := by rw [hmm]; split <;> omega
  have key : ∀ i, i < len → ∃ x l u : Int, W.cell? (a.add (i * 3)) = some (.int .i64 x) ∧ W.cell? ⟨a.block, (a.add (i * 3)).off + 1, none⟩ = some (.int .i64 l) ∧ W.cell? ⟨a.block, (a.add (i * 3)).off + 2, none⟩ = some (.int .i64 u) ∧ I64 x ∧ I64 l ∧ I64 u := by
   intro i hil
   obtain ⟨cs', hc, ht⟩ := hi i (by omega)
   rw [cells_pt] at hc
   obtain ⟨_, hcl, hat⟩ := World.cells?_some hc
   obtain ⟨x, l, u, rfl, ix, il, iu⟩ := open_point ht
   have c0 := hat 0 (by omega)
   have c1 := hat 1 (by omega)
   have c2 := hat 2 (by omega)
   rw [add_off _ _ _ (by omega)] at c1 c2
   exact ⟨x, l, u, by simpa [Addr.add] using c0, c1, c2, ix, il, iu⟩
  let f : Nat → Int × Int × Int := fun i => if h : i < len then (Classical.choose (key i h), Classical.choose (Classical.choose_spec (key i h)), Classical.choose (Classical.choose_spec (Classical.choose_spec (key i h)))) else (0, 0, 0)
  have hfk : ∀ i, i < len → W.cell? (a.add (i * 3)) = some (.int .i64 (f i).1) ∧ W.cell? ⟨a.block, (a.add (i * 3)).off + 1, none⟩ = some (.int .i64 (f i).2.1) ∧ W.cell? ⟨a.block, (a.add (i * 3)).off + 2, none⟩ = some (.int .i64 (f i).2.2) ∧ I64 (f i).1 ∧ I64 (f i).2.1 ∧ I64 (f i).2.2 := fun i h => by
   have s := Classical.choose_spec (Classical.choose_spec (Classical.choose_spec (key i h)))
   simp only [f, dif_pos h]
   exact s
  refine ⟨a, len, cap, fun i => (f i).1, fun i => (f i).2.1, fun i => (f i).2.2, hv, by omega, fun h0 => ⟨?_, fun i h => (hfk i h).1, fun i h => (hfk i h).2.1, fun i h => (hfk i h).2.2.1⟩, fun i h => (hfk i h).2.2.2⟩
  have := World.block_lt_of_cell? W _ (hfk 0 h0).1
  rwa [block_add] at this
end
end
end Go.Proofs.YtkkanjeamngdiaaDoor
