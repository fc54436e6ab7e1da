/- Packed: ListOpen. -/
import Derived.Deep.Slices
import Derived.ProofKit
import Derived.Carry
import Derived.Test.YtacpahebbnnckaaP31
set_option linter.unusedVariables false
set_option linter.unusedSimpArgs false
namespace Go.Proofs.Ytacpahebbnnckaa
section
open Go.RowKit Go.ChangeShapes Go.WideShapes Go.Deep
section
variable {H : Type} {enc : TypeId × Value → H}
theorem ints_of {Q : TypeId → Value → Prop} : ∀ (m : Nat) (cs : List Value), Kinded Q (List.replicate m (.int .i64)) cs → ∃ l : List Int, cs = l.map (Value.int .i64) ∧ l.length = m ∧ ∀ x ∈ l, I64 x
 | 0, cs, h => ⟨[], by rw [h.nil]; rfl, rfl, by simp⟩
 | m + 1, cs, h => by
  rw [List.replicate_succ] at h
  obtain ⟨x, vs', rfl, hw, h'⟩ := h.int
  obtain ⟨l, rfl, hl, hI⟩ := ints_of m vs' h'
  exact ⟨x :: l, rfl, by simp [hl], fun y hy => by
   rcases List.mem_cons.1 hy with rfl | hy
   ·exact i64_of_wf hw
   ·exact hI y hy⟩
theorem addadd (ad : Addr) (n k : Nat) : (ad.add n).add k = ad.add (n + k) := by
 unfold Addr.add
 by_cases h : n = 0
 ·subst h; simp
 ·by_cases h' : k = 0
  ·subst h'; simp
  ·have : ¬ n + k = 0 := by omega
   simp [h, h', this, Nat.add_assoc]
theorem open_list {t e : TypeId} {m : Nat} (hu : Try.prog.underlying t = some (.slice e)) (hce : Try.prog.cellsOf e = m) (hk : kindsOf Try.prog 10 e = some (List.replicate m (.int .i64))) (hm0 : 0 < m) {v : Value} {d : DataW H} {p : List MemPlace} {W : World}
  (hs : ∃ a l c, v = .slice a l c) (h : DataW.Trod enc Try.prog W 0 (fun _ => true) true t v d p) :
  v = .slice none 0 0 ∨ ∃ (ad : Addr) (n cap : Nat) (el : Nat → Int), v = .slice (some ad) n cap ∧ n ≤ maxLen ∧ ∀ i, i < n → ad.block < W.heap.size ∧ ∀ j, j < m → W.cell? (ad.add (i * m + j)) = some (.int .i64 (el (i * m + j))) ∧ I64 (el (i * m + j)) := by
 obtain ⟨a0, l0, c0, rfl⟩ := hs
 obtain ⟨fuel, hf⟩ := h
 rcases open_slice hu hf with ⟨h1, -⟩ | ⟨a, len, cap, m', n, D, Pl, hcs, -, hl, hm, hmm, -, hi⟩
 ·left
  simpa [Value.cells] using h1
 ·right
  have hv : Value.slice a0 l0 c0 = .slice (some a) len cap := by simpa [Value.cells] using hcs
  have hlm : len ≤ m' := by rw [hmm]; split <;> omega
  have key : ∀ i, i < len → ∃ l : List Int, l.length = m ∧ a.block < W.heap.size ∧ ∀ j, j < m → W.cell? (a.add (i * m + j)) = some (.int .i64 (l.getD j 0)) ∧ I64 (l.getD j 0) := by
   intro i hil
   obtain ⟨cs', hc, ht⟩ := hi i (by omega)
   rw [hce] at hc
   obtain ⟨hlen, hcl, hat⟩ := World.cells?_some hc
   have hkd := kinds_of (Q := fun _ _ => True) (fun _ _ _ _ _ _ _ _ _ => trivial) 10 hk ht (.inl (by rw [List.length_replicate, hce])) (by rw [List.length_replicate, hce])
   obtain ⟨l, rfl, hll, hI⟩ := ints_of m cs' hkd
   have hcell : ∀ j, j < m → W.cell? (a.add (i * m + j)) = some (.int .i64 (l.getD j 0)) := fun j hj => by
    have := hat j (by omega)
    rw [addadd] at this
    rw [this, List.getElem?_map, List.getD_eq_getElem?_getD, List.getElem?_eq_getElem (by omega)]
    rfl
   refine ⟨l, hll, ?_, fun j hj => ⟨hcell j hj, ?_⟩⟩
   ·have := World.block_lt_of_cell? W _ (hcell 0 hm0)
    unfold Addr.add at this
    split at this <;> exact this
   ·rw [List.getD_eq_getElem?_getD, List.getElem?_eq_getElem (by omega)]
    exact hI _ (List.getElem_mem _)
  let f : Nat → List Int := fun i => if h : i < len then Classical.choose (key i h) else []
  have hfk : ∀ i, i < len → a.block < W.heap.size ∧ ∀ j, j < m → W.cell? (a.add (i * m + j)) = some (.int .i64 ((f i).getD j 0)) ∧ I64 ((f i).getD j 0) := fun i h => by
   have s := Classical.choose_spec (key i h)
   simp only [f, dif_pos h]
   exact ⟨s.2.1, s.2.2⟩
  refine ⟨a, len, cap, fun k => (f (k / m)).getD (k % m) 0, hv, by omega, fun i hil => ⟨(hfk i hil).1, fun j hj => ?_⟩⟩
  have e1 : (i * m + j) / m = i := by rw [Nat.add_comm, Nat.mul_comm, Nat.add_mul_div_left _ _ hm0, Nat.div_eq_of_lt hj, Nat.zero_add]
  have e2 : (i * m + j) % m = j := by rw [Nat.add_comm, Nat.mul_comm, Nat.add_mul_mod_self_left, Nat.mod_eq_of_lt hj]
  simp only [e1, e2]
  exact (hfk i hil).2 j hj
end
end
end Go.Proofs.Ytacpahebbnnckaa
