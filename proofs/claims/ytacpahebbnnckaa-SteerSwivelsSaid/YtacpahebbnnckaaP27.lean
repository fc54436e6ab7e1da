/- Packed: SwJ. -/
import Derived.Test.YtacpahebbnnckaaP11
import Derived.Test.YtacpahebbnnckaaP26
set_option linter.unusedVariables false
set_option linter.unusedSimpArgs false
namespace Go.Proofs.Ytacpahebbnnckaa
section
open Go.RowKit
open FP
namespace Sw
theorem keepS_mem (f : Int) (el : Nat → FD.Sp) (P : FD.Sp → Prop) : ∀ k, (∀ j, j < k → P (el j)) → ∀ x ∈ keepS f el k, P x
 | 0, _, x, h => by simp [keepS] at h
 | k + 1, hp, x, h => by
  simp only [keepS, List.mem_append] at h
  rcases h with h | h
  ·exact keepS_mem f el P k (fun j hj => hp j (by omega)) x h
  ·split at h
   ·simp at h
   ·simp only [List.mem_singleton] at h
    subst h
    exact hp k (by omega)
theorem get_map (K : List FD.Sp) (j : Nat) : (K.map fun x => (x.lo, x.hi)).getD j (0, 0) = ((K.getD j .zero).lo, (K.getD j .zero).hi) := by
 by_cases h : j < K.length
 ·simp [h]
 ·simp [h, FD.Sp.zero]
set_option maxHeartbeats 1000000 in
theorem sum_left (f : Int) (n : Nat) (lo hi : Nat → Int) (hE : ∀ j, FD.In64 (lo j) ∧ FD.In64 (hi j)) (hn : n ≤ 20) (hp : ∀ j, j < n → vB (lo j) (hi j) = true) (w : World) (base : Nat) (v : Value) (h : w.ownsRow base 24 2 v (keep f lo hi n).length (spC (keep f lo hi n))) :
  Calls Try.prog 47 #[v] w fun e w' => e = .returned (.tuple #[FD.spv (FD.foldS stepA .zero (keepS f (FD.el lo hi hE) n)).1, .int .i64 (FD.foldS stepA .zero (keepS f (FD.el lo hi hE) n)).2]) ∧ Below w.heap.size w w' := by
 have hk := keep_el f lo hi hE n
 have hl := keep_len f lo hi n
 have hv := keepS_mem f (FD.el lo hi hE) (fun x => vB x.lo x.hi = true) n hp
 generalize keepS f (FD.el lo hi hE) n = K at *
 generalize keep f lo hi n = L at *
 subst hk
 rw [List.length_map] at hl
 rcases own_or h with ⟨rfl, h0⟩ | ⟨g, cap, rfl, h1, h2⟩
 ·rw [List.length_map] at h0
  obtain rfl := List.eq_nil_of_length_eq_zero h0
  exact sum_nil (fun _ => 0) (fun _ => 0) (fun _ => ⟨by unfold FD.In64; omega, by unfold FD.In64; omega⟩) w
 ·have S := own_spl h
  simp only [get_map, List.length_map] at S
  simp only [List.length_map]
  have R := sum_own g K.length cap (fun j => (K.getD j .zero).lo) (fun j => (K.getD j .zero).hi) (fun j => (K.getD j .zero).ok) (by omega) w h2 S
  have c : chk1 K.length (fun j => (K.getD j .zero).lo) (fun j => (K.getD j .zero).hi) = 0 := by
   unfold chk1
   rw [if_neg (by omega), if_pos]
   unfold lstB
   rw [List.all_eq_true]
   intro j hj
   have hj' := List.mem_range.1 hj
   have := hv K[j] (List.getElem_mem hj')
   simpa [hj'] using this
  have e : FD.el (fun j => (K.getD j .zero).lo) (fun j => (K.getD j .zero).hi) (fun j => (K.getD j .zero).ok) = fun j => K.getD j .zero := rfl
  unfold sumR at R
  rw [if_pos c, e, upto_get] at R
  exact R
end Sw
end
end Go.Proofs.Ytacpahebbnnckaa
