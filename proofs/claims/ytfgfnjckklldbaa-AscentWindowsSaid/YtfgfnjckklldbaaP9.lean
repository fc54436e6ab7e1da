/- Packed: SxB SxH SxR. -/
import Derived.Laws.Append
import Derived.Laws.MakeOwn
import Derived.Test.YtfgfnjckklldbaaP8
set_option linter.unusedVariables false
set_option linter.unusedSimpArgs false
namespace Go.Proofs.Ytfgfnjckklldbaa
section
namespace SX
open Go.RowKit
variable {P : Program} {ε : Env} {ρ : Nat → Nat}
theorem slCells_spec {mem : Nat → Option Cells} {m : Nat} {x : LV} {k : Nat} {l : List SV} {fp : List Nat} (h : slCells mem m x = some (k, l, fp)) :
  x ≠ .bad ∧ l.length = k * m ∧ (∀ s ∈ l, isRow s = false) ∧ (∀ b ∈ fp, (mem b).isSome = true) ∧
  ∀ {ε : Env} {ρ : Nat → Nat} {base : Nat} {w : World}, (∀ b ∈ fp, ∀ cs, mem b = some cs → Blk ε ρ base w b cs) →
   ∃ (a : Option Addr) (cap : Nat), x.den ε ρ = .slice a k cap ∧ (0 < k → ∃ ad, a = some ad ∧ ∀ (j : Nat) v, (l.map (SV.den ε ρ))[j]? = some v → w.cell? (ad.add j) = some v) := by
 have key : ∀ (b off : Nat) (cs : Cells) (l : List SV), mem b = some cs → off + k * m ≤ cs.length → allSome ((cs.drop off).take (k * m)) = some l →
   l.length = k * m ∧ (∀ s ∈ l, isRow s = false) ∧ ∀ {ε : Env} {ρ : Nat → Nat} {base : Nat} {w : World}, Blk ε ρ base w b cs → ∀ (j : Nat) v, (l.map (SV.den ε ρ))[j]? = some v → w.cell? ((⟨ρ b, off, none⟩ : Addr).add j) = some v := by
  intro b off cs l hb hle hl
  have hs := allSome_spec hl
  have hlen : l.length = k * m := by
   have := congrArg List.length hs
   simp at this
   omega
  refine ⟨hlen, allSome_row hl, fun {ε ρ base w} hB j v hj => ?_⟩
  obtain ⟨h1, h2, h3⟩ := hB
  simp only [List.getElem?_map, Option.map_eq_some_iff] at hj
  obtain ⟨s, hs', rfl⟩ := hj
  have hj2 : cs[off + j]? = some (some s) := by
   have hj3 : ((cs.drop off).take (k * m))[j]? = some (some s) := by rw [hs]; simp [hs']
   have hlt : j < k * m := by
    have := (List.getElem?_eq_some_iff.1 hs').1
    omega
   rw [List.getElem?_take_of_lt hlt, List.getElem?_drop] at hj3
   exact hj3
  obtain ⟨v, e1, e2, e3⟩ := (cell_plain (x := some s) (allSome_row hl s (List.mem_of_getElem? hs'))).1 (h3 _ _ hj2)
  rw [add_none, e1, e3 s rfl]
 unfold slCells at h
 split at h
 ·cases h
  exact ⟨by simp, by simp, by simp, by simp, fun _ => ⟨none, 0, rfl, fun h => by omega⟩⟩
 ·rename_i b off len cap
  split at h
  ·rename_i cs hcs
   split at h
   ·rename_i hle
    obtain ⟨l', hl, he⟩ := Option.map_eq_some_iff.1 h
    cases he
    obtain ⟨k1, k2, k3⟩ := key b off cs _ hcs hle hl
    refine ⟨by simp, k1, k2, by simp [hcs], fun {ε ρ base w} hB => ⟨_, _, rfl, fun _ => ⟨_, rfl, k3 (hB b (by simp) cs hcs)⟩⟩⟩
   ·cases h
  ·split at h
   ·rename_i h0
    cases h
    subst h0
    exact ⟨by simp, by simp, by simp, by simp, fun _ => ⟨_, _, rfl, fun h => by omega⟩⟩
   ·cases h
 ·rename_i b off len c d o2
  split at h
  ·rename_i cs hcs
   split at h
   ·rename_i hle
    obtain ⟨l', hl, he⟩ := Option.map_eq_some_iff.1 h
    cases he
    obtain ⟨k1, k2, k3⟩ := key b off cs _ hcs hle hl
    refine ⟨by simp, k1, k2, by simp [hcs], fun {ε ρ base w} hB => ⟨_, _, rfl, fun hp => ⟨_, rfl, ?_⟩⟩⟩
    rw [if_neg (by omega)]
    exact k3 (hB b (by simp) cs hcs)
   ·cases h
  ·cases h
 ·cases h
theorem run_firstCells0 {w : World} (size : Nat) (a : Option Addr) (c : Nat) : (Builtin.firstCells size 0 (.slice a 0 c)).run P w = .ok #[] w := by
 cases a with
 | none => exact run_firstCells_none w size 0 0 c
 | some ad => exact run_firstCells_some w size 0 ad 0 c [] (by simp) (by simp)
theorem run_append_zero {w : World} (t ty e : TypeId) (i : TypeInfo) (ht : P.underlying t = some (.slice e)) (hi : P.info? e = some i) (a a' : Option Addr) (n cap c : Nat) (hn : n ≤ cap) :
  (Builtin.append_ #[t, t] ty #[.slice a n cap, .slice a' 0 c]).run P w = .ok (.slice a n cap) w := by
 have hf := run_firstCells0 (P := P) (w := w) i.size a' c
 cases a with
 | none => simp [Builtin.append_, run_underlying ht, sizeOf, typeInfo, hi, Builtin.lenOf, hn, hf]
 | some ad => simp [Builtin.append_, run_underlying ht, sizeOf, typeInfo, hi, Builtin.lenOf, hn, hf, storeCells]
theorem run_append_in {w w' : World} (t ty e : TypeId) (i : TypeInfo) (ht : P.underlying t = some (.slice e)) (hi : P.info? e = some i) (b off n cap : Nat) (ad : Addr) (k c : Nat) (news : List Value) (hl : news.length = k * i.size)
  (hnews : ∀ (j : Nat) v, news[j]? = some v → w.cell? (ad.add j) = some v) (hn : n + k ≤ cap) (hst : (storeCells ⟨b, off + n * i.size, none⟩ news 0).run P w = .ok () w') :
  (Builtin.append_ #[t, t] ty #[.slice (some ⟨b, off, none⟩) n cap, .slice (some ad) k c]).run P w = .ok (.slice (some ⟨b, off, none⟩) (n + k) cap) w' := by
 have hf := run_firstCells_some (P := P) w i.size k ad k c news hl hnews
 simp [Builtin.append_, run_underlying ht, sizeOf, typeInfo, hi, Builtin.lenOf, hn, hf, add_none, hst]
section
variable {sp id nv base : Nat} {w : World}
theorem out_grow {m : Nat} {cs : List SV} {fp kill : List Nat} {r : Op1} (h : growBlock sp id nv m cs fp kill = some r) (hm0 : 0 < m) {n : Nat} (hn : cs.length = n * m) (hb : base ≤ w.heap.size)
  (hk : ∀ b ∈ kill, ¬ NW id sp b ∧ base ≤ ρ b ∧ ρ b < w.heap.size) {cap : Nat} {zs : Array Value} (hz : zs.size = (cap - n) * m) (hcap : n ≤ cap) {e : TypeId} {W : World} (hW : W = w.drew.alloc (.cells ((cs.map (SV.den ε ρ)).toArray ++ zs) e)) :
  Out1 ε ρ base id sp w r.val r.upd (.slice (some ⟨w.heap.size, 0, none⟩) n cap) W := by
 unfold growBlock at h
 split at h
 ·cases h
 ·rename_i hc
  cases h
  simp only [Bool.or_eq_true, not_or, Bool.not_eq_true, decide_eq_true_eq, Nat.not_lt, List.any_eq_false] at hc
  obtain ⟨⟨⟨⟨⟨c1, c2⟩, c3⟩, c4⟩, c5⟩, c6⟩ := hc
  have hid : ∀ i ∈ cs.flatMap SV.ids, (fun b => if b = id then w.heap.size else if b = id + 1 then cap else ρ b) i = ρ i := fun i hi => by
   have h1 : i ≠ id := fun e => by subst e; rw [List.contains_iff_mem.2 hi] at c1; cases c1
   have h2 : i ≠ id + 1 := fun e => by subst e; rw [List.contains_iff_mem.2 hi] at c2; cases c2
   simp [h1, h2]
  have hw : NW id sp id := ⟨Nat.le_refl _, by omega⟩
  have hw1 : NW id sp (id + 1) := ⟨by omega, by omega⟩
  have hdiv : cs.length / m = n := by rw [hn]; exact Nat.mul_div_cancel _ hm0
  have hsz : W.heap.size = w.heap.size + 1 := by rw [hW]; simp
  have hcell : ∀ j, W.cell? ⟨w.heap.size, j, none⟩ = ((cs.map (SV.den ε ρ)).toArray ++ zs)[j]? := fun j => by
   rw [hW]
   exact World.cell?_alloc_new w.drew _ e j
  have hfro : ∀ j, W.frozen? ⟨w.heap.size, j, none⟩ = false := fun j => by
   rw [hW]
   exact World.frozen?_alloc_new w.drew _ e j
  refine ⟨fun b => if b = id then w.heap.size else if b = id + 1 then cap else ρ b, fun b hb => ?_, ?_, ?_, ?_, ?_, ?_⟩
  ·have h1 : b ≠ id := fun e => hb (e ▸ hw)
   have h2 : b ≠ id + 1 := fun e => hb (e ▸ hw1)
   simp [h1, h2]
  ·simp [LV.den, V1.den, SV.den, AV.den, hdiv]
  ·intro u hu
   rcases List.mem_cons.1 hu with rfl | hu
   ·refine ⟨by simpa using hb, by simp [hsz], fun j c hj => ?_⟩
    simp only [if_true]
    rw [List.getElem?_append] at hj
    split at hj
    ·rename_i hlt
     simp only [List.length_map] at hlt
     simp only [List.getElem?_map, Option.map_eq_some_iff] at hj
     obtain ⟨s, hs, rfl⟩ := hj
     refine (cell_plain (x := some s) (by simpa [isRowC] using c6 s (List.mem_of_getElem? hs))).2 ⟨s.den ε ρ, ?_, hfro j, fun s' h' => ?_⟩
     ·rw [hcell, Array.getElem?_append, if_pos (by simpa using hlt)]; simp [hs]
     ·cases h'
      exact SV.den_congr fun i hi => (hid i (List.mem_flatMap.2 ⟨s, List.mem_of_getElem? hs, hi⟩)).symm
    ·rename_i hge
     simp only [List.length_map, Nat.not_lt] at hge
     simp only [List.length_map] at hj
     have hj0 : j - cs.length = 0 := by
      rcases Nat.eq_zero_or_pos (j - cs.length) with h | h
      ·exact h
      ·rw [List.getElem?_eq_none (by simp; omega)] at hj; cases hj
     rw [hj0] at hj
     simp only [List.getElem?_cons_zero, Option.some.injEq] at hj
     subst hj
     have hjn : j = n * m := by omega
     have hne : id + 1 ≠ id := by omega
     refine ⟨?_, fun k h1 h2 => ?_⟩
     ·simp only [hne, if_false, if_true]; rw [hjn]; exact Nat.mul_le_mul_right _ hcap
     ·simp only [hne, if_false, if_true] at h2
      have hks : k < ((cs.map (SV.den ε ρ)).toArray ++ zs).size := by
       rw [Array.size_append, hz, Nat.sub_mul]
       simp only [List.size_toArray, List.length_map, hn]
       have := Nat.mul_le_mul_right m hcap
       omega
      exact ⟨_, by rw [hcell]; exact Array.getElem?_eq_getElem hks, hfro k⟩
   ·obtain ⟨b, hb1, rfl⟩ := List.mem_map.1 hu
    obtain ⟨k1, k2, k3⟩ := hk b hb1
    have h1 : b ≠ id := fun e => k1 (e ▸ hw)
    have h2 : b ≠ id + 1 := fun e => k1 (e ▸ hw1)
    refine ⟨by simpa [h1, h2] using k2, by simp [h1, h2, hsz]; omega, fun j c hj => by simp at hj⟩
  ·intro u hu hn
   rcases List.mem_cons.1 hu with rfl | hu
   ·exact .inl (by simp)
   ·obtain ⟨b, hb1, rfl⟩ := List.mem_map.1 hu
    exact absurd hn (hk b hb1).1
  ·intro u hu u' hu' h1 h2 _
   have : ∀ u ∈ (id, cs.map some ++ [some (.row (id + 1) m)]) :: kill.map (fun b => ((b, []) : Nat × Cells)), NW id sp u.1 → u.1 = id := fun u hu h => by
    rcases List.mem_cons.1 hu with rfl | hu
    ·rfl
    ·obtain ⟨b, hb1, rfl⟩ := List.mem_map.1 hu
     exact absurd h (hk b hb1).1
   rw [this u hu h1, this u' hu' h2]
  ·rw [hW]
   exact ⟨rfl, rfl, rfl, by simp, fun b hb _ => heap_alloc_old w.drew _ b hb⟩
theorem growBlock_upd {m : Nat} {cs : List SV} {fp kill : List Nat} {r : Op1} (h : growBlock sp id nv m cs fp kill = some r) : r.obs = [] ∧ r.fp = fp ∧ NW id sp id ∧ ∀ u ∈ r.upd, u.1 = id ∨ u.1 ∈ kill := by
 unfold growBlock at h
 split at h
 ·cases h
 ·rename_i hc
  simp only [Bool.or_eq_true, not_or, Bool.not_eq_true, decide_eq_true_eq, Nat.not_lt, List.any_eq_false] at hc
  cases h
  refine ⟨rfl, rfl, ⟨Nat.le_refl _, by omega⟩, fun u hu => ?_⟩
  rcases List.mem_cons.1 hu with rfl | hu
  ·exact .inl rfl
  ·obtain ⟨b, hb1, rfl⟩ := List.mem_map.1 hu
   exact .inr hb1
theorem roomOf_spec {mem : Nat → Option Cells} {m b n c : Nat} (h : roomOf mem m b n c = true) : ∃ cs, mem b = some cs ∧ cs.length = n * m + 1 ∧ cs[n * m]? = some (some (.row c m)) := by
 unfold roomOf at h
 split at h
 ·rename_i cs hcs
  simp only [Bool.and_eq_true, beq_iff_eq] at h
  exact ⟨cs, hcs, h.1, h.2⟩
 ·cases h
theorem row_spec {b j c m : Nat} {cs : Cells} (h : Blk ε ρ base w b cs) (hj : cs[j]? = some (some (.row c m))) : j ≤ ρ c * m ∧ ∀ k, j ≤ k → k < ρ c * m → ∃ v, w.cell? ⟨ρ b, k, none⟩ = some v ∧ w.frozen? ⟨ρ b, k, none⟩ = false := by
 have := h.2.2 j _ hj
 unfold CellOk at this
 exact this
theorem cell_there {b j : Nat} {c : Option SV} {cs : Cells} (h : Blk ε ρ base w b cs) (hj : cs[j]? = some c) (hc : isRowC c = false) : ∃ v, w.cell? ⟨ρ b, j, none⟩ = some v ∧ w.frozen? ⟨ρ b, j, none⟩ = false := by
 obtain ⟨v, e1, e2, _⟩ := (cell_plain hc).1 (h.2.2 j c hj)
 exact ⟨v, e1, e2⟩
theorem blk_setL {b off : Nat} {cs : Cells} {xs : List SV} {w' : World} (h : Blk ε ρ base w b cs) (hle : off + xs.length ≤ cs.length) (hx : ∀ s ∈ xs, isRow s = false) (hn : ∀ j, off ≤ j → j < off + xs.length → ∀ c, cs[j]? = some c → isRowC c = false)
  (e2 : Ext w w' (fun x => x = ρ b)) (e3 : ∀ j, w'.frozen? ⟨ρ b, j, none⟩ = w.frozen? ⟨ρ b, j, none⟩)
  (e4 : ∀ j, w'.cell? ⟨ρ b, j, none⟩ = if off ≤ j ∧ j < off + xs.length then (xs.map (SV.den ε ρ))[j - off]? else w.cell? ⟨ρ b, j, none⟩) : Blk ε ρ base w' b (setL cs off xs) := by
 obtain ⟨h1, h2, h3⟩ := h
 refine ⟨h1, Nat.lt_of_lt_of_le h2 e2.size, fun j c hj => ?_⟩
 have stays : ∀ k, (∃ y, w.cell? ⟨ρ b, k, none⟩ = some y ∧ w.frozen? ⟨ρ b, k, none⟩ = false) → ∃ y, w'.cell? ⟨ρ b, k, none⟩ = some y ∧ w'.frozen? ⟨ρ b, k, none⟩ = false := fun k ⟨y, g1, g2⟩ => by
  rw [e3, e4]
  by_cases hr : off ≤ k ∧ k < off + xs.length
  ·rw [if_pos hr]
   have : k - off < xs.length := by omega
   exact ⟨(xs[k - off]).den ε ρ, by simp [List.getElem?_eq_getElem this], g2⟩
  ·rw [if_neg hr]; exact ⟨y, g1, g2⟩
 rw [setL_get _ _ _ _ hle] at hj
 by_cases hr : off ≤ j ∧ j < off + xs.length
 ·rw [if_pos hr] at hj
  obtain ⟨s, hs, rfl⟩ := Option.map_eq_some_iff.1 hj
  have hjl : j < cs.length := by omega
  obtain ⟨y, f1, f2, _⟩ := (cell_plain (hn j hr.1 hr.2 _ (List.getElem?_eq_getElem hjl))).1 (h3 j _ (List.getElem?_eq_getElem hjl))
  refine (cell_plain (x := some s) (hx s (List.mem_of_getElem? hs))).2 ?_
  rw [e3, e4]
  rw [if_pos hr]
  exact ⟨s.den ε ρ, by simp [hs], f2, fun s' hs' => by cases hs'; rfl⟩
 ·rw [if_neg hr] at hj
  have hk := h3 j c hj
  cases hrow : isRowC c with
  | false =>
   obtain ⟨y, f1, f2, f3⟩ := (cell_plain hrow).1 hk
   refine (cell_plain hrow).2 ?_
   rw [e3, e4]
   rw [if_neg hr]
   exact ⟨y, f1, f2, f3⟩
  | true =>
   unfold CellOk at hk ⊢
   split at hk
   ·exact ⟨hk.1, fun k h1 h2 => stays k (hk.2 k h1 h2)⟩
   ·rename_i hnn
    exfalso
    cases c with
    | none => cases hrow
    | some s => cases s <;> first | (cases hrow; done) | exact hnn _ _ rfl
theorem append_in_place {t ty e : TypeId} {i : TypeInfo} (hu : P.underlying t = some (.slice e)) (hi : P.info? e = some i) (hm0 : 0 < i.size) {b n k c : Nat} {cs : Cells} (hB : Blk ε ρ base w b cs) (hcl : cs.length = n * i.size + 1)
  (hcr : cs[n * i.size]? = some (some (.row c i.size))) (hne : ¬ NW id sp b) {old new : List SV} (sl : old.length = n * i.size) (xl : new.length = k * i.size) (xr : ∀ s ∈ new, isRow s = false) (sr : ∀ s ∈ old, isRow s = false) (ho2 : ∀ (j : Nat) s, old[j]? = some s → cs[j]? = some (some s))
  (olds : ∀ (j : Nat) v, (old.map (SV.den ε ρ))[j]? = some v → w.cell? ((⟨ρ b, 0, none⟩ : Addr).add j) = some v) (ad : Addr) (cap : Nat) (x3 : ∀ (j : Nat) v, (new.map (SV.den ε ρ))[j]? = some v → w.cell? (ad.add j) = some v)
  (hroom : n + k ≤ ρ c) (one : ∀ v ∈ new.map (SV.den ε ρ), v.oneCell' = true) {fp : List Nat} {r : Op1} (h : growBlock sp id nv i.size (old ++ new) fp [b] = some r) :
  ∃ v w', (Builtin.append_ #[t, t] ty #[.slice (some ⟨ρ b, 0, none⟩) n (ρ c), .slice (some ad) k cap]).run P w = .ok v w' ∧ Out1 ε ρ base id sp w r.val r.upd v w' := by
 obtain ⟨q1, q2⟩ := row_spec hB hcr
 have hnk : (n + k) * i.size ≤ ρ c * i.size := Nat.mul_le_mul_right _ hroom
 rw [Nat.add_mul] at hnk
 obtain ⟨w', e1, e2, e3, e4⟩ := run_storeCells (P := P) (ρ b) (0 + n * i.size) (new.map (SV.den ε ρ)) 0 w one (fun j hj => by
  simp only [List.length_map] at hj
  simpa using q2 (n * i.size + j) (by omega) (by omega))
 simp only [List.length_map, Nat.add_zero, Nat.zero_add] at e4
 unfold growBlock at h
 split at h
 ·cases h
 ·rename_i hc
  cases h
  simp only [Bool.or_eq_true, not_or, Bool.not_eq_true, decide_eq_true_eq, Nat.not_lt, List.any_eq_false] at hc
  obtain ⟨⟨⟨⟨⟨c1, c2⟩, c3⟩, c4⟩, c5⟩, c6⟩ := hc
  have hid : ∀ i ∈ (old ++ new).flatMap SV.ids, (fun b' => if b' = id then ρ b else if b' = id + 1 then ρ c else ρ b') i = ρ i := fun i hi => by
   have h1 : i ≠ id := fun e => by subst e; rw [List.contains_iff_mem.2 hi] at c1; cases c1
   have h2 : i ≠ id + 1 := fun e => by subst e; rw [List.contains_iff_mem.2 hi] at c2; cases c2
   simp [h1, h2]
  have hw : NW id sp id := ⟨Nat.le_refl _, by omega⟩
  have hw1 : NW id sp (id + 1) := ⟨by omega, by omega⟩
  have b1 : b ≠ id := fun e => hne (e ▸ hw)
  have b2 : b ≠ id + 1 := fun e => hne (e ▸ hw1)
  have hdiv : (old ++ new).length / i.size = n + k := by rw [List.length_append, sl, xl, ← Nat.add_mul]; exact Nat.mul_div_cancel _ hm0
  refine ⟨_, w', run_append_in t ty e i hu hi (ρ b) 0 n (ρ c) ad k cap _ (by simpa using xl) x3 hroom (by simpa using e1), fun b' => if b' = id then ρ b else if b' = id + 1 then ρ c else ρ b', fun b' hb => ?_, ?_, ?_, ?_, ?_, ?_⟩
  ·have h1 : b' ≠ id := fun e => hb (e ▸ hw)
   have h2 : b' ≠ id + 1 := fun e => hb (e ▸ hw1)
   simp [h1, h2]
  ·simp only [LV.den, V1.den, SV.den, AV.den, hdiv]
   simp
  ·intro u hu
   rcases List.mem_cons.1 hu with rfl | hu
   ·refine ⟨by simpa using hB.1, by simpa using Nat.lt_of_lt_of_le hB.2.1 e2.size, fun j x hj => ?_⟩
    simp only [if_true]
    rw [List.getElem?_append] at hj
    split at hj
    ·rename_i hlt
     simp only [List.length_map] at hlt
     simp only [List.getElem?_map, Option.map_eq_some_iff] at hj
     obtain ⟨s, hs, rfl⟩ := hj
     have hden : s.den ε (fun b' => if b' = id then ρ b else if b' = id + 1 then ρ c else ρ b') = s.den ε ρ := SV.den_congr fun i hi => hid i (List.mem_flatMap.2 ⟨s, List.mem_of_getElem? hs, hi⟩)
     refine (cell_plain (x := some s) (by simpa [isRowC] using c6 s (List.mem_of_getElem? hs))).2 ?_
     rw [e3, e4]
     rw [List.getElem?_append] at hs
     split at hs
     ·rename_i ho
      rw [sl] at ho
      rw [if_neg (by omega)]
      have hc0 := olds j (s.den ε ρ) (by rw [List.getElem?_map, hs]; rfl)
      rw [add_none, Nat.zero_add] at hc0
      obtain ⟨y, f1, f2⟩ := cell_there hB (ho2 j s hs) (sr s (List.mem_of_getElem? hs))
      exact ⟨_, hc0, f2, fun s' h' => by cases h'; exact hden.symm⟩
     ·rename_i ho
      rw [sl] at ho hs
      rw [List.length_append, sl, xl] at hlt
      rw [if_pos (by omega)]
      obtain ⟨y, f1, f2⟩ := q2 j (by omega) (by omega)
      exact ⟨s.den ε ρ, by rw [List.getElem?_map, hs]; rfl, f2, fun s' h' => by cases h'; exact hden.symm⟩
    ·rename_i hge
     simp only [List.length_map, Nat.not_lt] at hge
     simp only [List.length_map] at hj
     have hj0 : j - (old ++ new).length = 0 := by
      rcases Nat.eq_zero_or_pos (j - (old ++ new).length) with h | h
      ·exact h
      ·rw [List.getElem?_eq_none (by simp at h ⊢; omega)] at hj; cases hj
     rw [hj0] at hj
     simp only [List.getElem?_cons_zero, Option.some.injEq] at hj
     subst hj
     have hll : (old ++ new).length = n * i.size + k * i.size := by rw [List.length_append, sl, xl]
     have hn1 : id + 1 ≠ id := by omega
     refine ⟨?_, fun k' h1 h2 => ?_⟩
     ·simp only [hn1, if_false, if_true]; omega
     ·simp only [hn1, if_false, if_true] at h2
      rw [e3, e4, if_neg (by omega)]
      exact q2 k' (by omega) h2
   ·rw [List.mem_map] at hu
    obtain ⟨b', hb1, rfl⟩ := hu
    rw [List.mem_singleton.1 hb1]
    refine ⟨by simpa [b1, b2] using hB.1, by simpa [b1, b2] using Nat.lt_of_lt_of_le hB.2.1 e2.size, fun j c hj => by simp at hj⟩
  ·intro u hu hn
   rcases List.mem_cons.1 hu with rfl | hu
   ·refine .inr ⟨b, hne, ?_, by simp⟩
    simp only [List.lookup]
    split
    ·rename_i he; exact absurd (eq_of_beq he) b1
    ·simp
   ·rw [List.mem_map] at hu
    obtain ⟨b', hb1, rfl⟩ := hu
    rw [List.mem_singleton.1 hb1] at hn
    exact absurd hn hne
  ·intro u hu u' hu' h1 h2 _
   have : ∀ u ∈ (id, (old ++ new).map some ++ [some (.row (id + 1) i.size)]) :: [b].map (fun b => ((b, []) : Nat × Cells)), NW id sp u.1 → u.1 = id := fun u hu h => by
    rcases List.mem_cons.1 hu with rfl | hu
    ·rfl
    ·obtain ⟨b', hb1, rfl⟩ := List.mem_map.1 hu
     rw [List.mem_singleton.1 hb1] at h
     exact absurd h hne
   rw [this u hu h1, this u' hu' h2]
  ·exact e2.mono fun x _ hx => ⟨(b, []), List.mem_cons_of_mem _ (List.mem_map.2 ⟨b, by simp, rfl⟩), hne, hx.symm⟩
theorem append_out {mem : Nat → Option Cells} {tys : Array TypeId} {ty : TypeId} {args : List LV} {r : Op1} (h : evAppend P sp id mem nv tys args = some r) (hid : ∀ b, NW id sp b → mem b = none) (hb : base ≤ w.heap.size)
  (hm : ∀ b ∈ r.fp, ∀ cs, mem b = some cs → Blk ε ρ base w b cs) :
  r.obs = [] ∧ (∀ x ∈ args, x ≠ .bad) ∧ (∀ u ∈ r.upd, NW id sp u.1 ∨ (u.1 ∈ r.fp ∧ (mem u.1).isSome = true)) ∧
   ∃ v w', (Builtin.append_ tys ty (args.map (LV.den ε ρ)).toArray).run P w = .ok v w' ∧ Out1 ε ρ base id sp w r.val r.upd v w' := by
 unfold evAppend at h
 split at h
 ·rename_i t u s x hty
  split at h
  ·cases h
  ·rename_i htu
   obtain rfl : t = u := by simpa using htu
   obtain rfl : tys = #[t, t] := by apply Array.ext'; simpa using hty
   split at h
   ·rename_i e hu
    split at h
    ·rename_i i hi
     split at h
     ·rename_i z k new fp hz hx
      obtain ⟨zv, hzv, hzd⟩ := Option.map_eq_some_iff.1 hz
      have hzden := (ofVal_den (ε := ε) (ρ := ρ) (v := zv) (by rw [hzd]; simp)).1
      rw [hzd] at hzden
      have hzc : zv.cells = (z.cells.map (SV.den ε ρ)).toArray := by rw [← hzden]; exact V1.den_cells z
      split at h
      ·cases h
      ·rename_i hsz
       simp only [Bool.or_eq_true, decide_eq_true_eq, not_or, ne_eq, Decidable.not_not] at hsz
       obtain ⟨hs0, hzl⟩ := hsz
       have hm0 : 0 < i.size := Nat.pos_of_ne_zero hs0
       obtain ⟨xb, xl, xr, xm, xo⟩ := slCells_spec hx
       have hzsz : ∀ q, (Builtin.zeroCells zv.cells q).size = q * i.size := fun q => by rw [size_zeroCells, hzc]; simp [hzl]
       have one : ∀ v ∈ new.map (SV.den ε ρ), v.oneCell' = true := fun v hv => by
        obtain ⟨s, _, rfl⟩ := List.mem_map.1 hv; exact oneCell_den s
       split at h
       ·-- nil
        split at h
        ·rename_i hk
         cases h
         subst hk
         obtain ⟨a, cap, x1, x2⟩ := xo (ε := ε) (ρ := ρ) (base := base) (w := w) hm
         refine ⟨rfl, by simp [xb], by simp, _, w, ?_, Out1.pure rfl⟩
         show (Builtin.append_ #[t, t] ty #[.slice none 0 0, x.den ε ρ]).run P w = _
         rw [x1]
         exact run_append_zero t ty e i hu hi none a 0 0 cap (Nat.le_refl _)
        ·rename_i hk
         split at h
         ·cases h
         ·rename_i hbig
          simp only [Bool.or_eq_true, decide_eq_true_eq, not_or, Nat.not_lt] at hbig
          obtain ⟨g1, g2, g3, g4⟩ := growBlock_upd h
          obtain ⟨a, cap, x1, x2⟩ := xo (ε := ε) (ρ := ρ) (base := base) (w := w) (by rw [← g2]; exact hm)
          obtain ⟨ad, rfl, x3⟩ := x2 (by omega)
          refine ⟨g1, by simp [xb], fun u hu => .inl ?_, _, _, ?_, out_grow (e := e) h hm0 xl hb (kill := []) (fun b hb => by cases hb) (hzsz _) (grownCap_ge w k 0 e) rfl⟩
          ·rcases g4 u hu with h | h
           ·rw [h]; exact g3
           ·cases h
          ·show (Builtin.append_ #[t, t] ty #[.slice none 0 0, x.den ε ρ]).run P w = _
           rw [x1]
           exact run_append_nil w t ty e i zv hu hi hzv ad k cap (new.map (SV.den ε ρ)) (by simpa using xl) x3 (by omega) (by omega) (by omega)
       ·-- a slice
        rename_i b off n cap0
        split at h
        ·rename_i hroom
         split at h
         ·rename_i hk
          cases h
          subst hk
          obtain ⟨a, cap, x1, x2⟩ := xo (ε := ε) (ρ := ρ) (base := base) (w := w) hm
          refine ⟨rfl, by simp [xb], by simp, _, w, ?_, Out1.pure rfl⟩
          show (Builtin.append_ #[t, t] ty #[.slice (some ⟨ρ b, off, none⟩) n cap0, x.den ε ρ]).run P w = _
          rw [x1]
          exact run_append_zero t ty e i hu hi _ a n cap0 cap hroom
         ·rename_i hk
          split at h
          ·rename_i cs hcs
           split at h
           ·rename_i hle
            simp only [Bool.and_eq_true, decide_eq_true_eq] at hle
            obtain ⟨hle, hnr⟩ := hle
            cases h
            have hle' : off + n * i.size + new.length ≤ cs.length := by rw [xl]; rw [Nat.add_mul] at hle; omega
            have hB := hm b (by simp) cs hcs
            have notRow : ∀ j, off + n * i.size ≤ j → j < off + n * i.size + new.length → ∀ c, cs[j]? = some c → isRowC c = false := fun j h1 h2 c hc => by
             rw [xl] at h2
             have hmem : c ∈ (cs.drop (off + n * i.size)).take (k * i.size) := by
              refine List.mem_of_getElem? (i := j - (off + n * i.size)) ?_
              rw [List.getElem?_take_of_lt (by omega), List.getElem?_drop, show off + n * i.size + (j - (off + n * i.size)) = j by omega]; exact hc
             simpa using List.all_eq_true.1 hnr c hmem
            obtain ⟨a, cap, x1, x2⟩ := xo (ε := ε) (ρ := ρ) (base := base) (w := w) (fun b' hb' => hm b' (List.mem_cons_of_mem _ hb'))
            obtain ⟨ad, rfl, x3⟩ := x2 (by omega)
            obtain ⟨w', e1, e2, e3, e4⟩ := run_storeCells (P := P) (ρ b) (off + n * i.size) (new.map (SV.den ε ρ)) 0 w one (fun j hj => by
             simp only [List.length_map] at hj
             have hj' : off + n * i.size + j < cs.length := by omega
             simpa using cell_there hB (List.getElem?_eq_getElem hj') (notRow _ (by omega) (by omega) _ (List.getElem?_eq_getElem hj')))
            simp only [List.length_map, Nat.add_zero] at e4
            have hne : ¬ NW id sp b := fun e => by have := hid b e; rw [hcs] at this; cases this
            refine ⟨rfl, by simp [xb], by simp [hcs], _, w', ?_, ρ, fun _ _ => rfl, rfl, ?_, ?_, ?_, ?_⟩
            ·show (Builtin.append_ #[t, t] ty #[.slice (some ⟨ρ b, off, none⟩) n cap0, x.den ε ρ]).run P w = _
             rw [x1]
             exact run_append_in t ty e i hu hi (ρ b) off n cap0 ad k cap _ (by simpa using xl) x3 hroom e1
            ·simp only [List.mem_singleton, forall_eq]
             exact blk_setL hB hle' xr notRow e2 e3 e4
            ·intro u hu hn
             rw [List.mem_singleton.1 hu] at hn
             exact absurd hn hne
            ·intro u hu u' hu' _ _ _
             rw [List.mem_singleton.1 hu, List.mem_singleton.1 hu']
            ·exact e2.mono fun x _ hx => ⟨_, List.mem_singleton.2 rfl, hne, hx.symm⟩
           ·cases h
          ·cases h
        ·rename_i hroom
         split at h
         ·cases h
         ·rename_i hbig
          simp only [Bool.or_eq_true, decide_eq_true_eq, not_or, Nat.not_lt] at hbig
          split at h
          ·rename_i n0 old fp' hs
           obtain ⟨sb, sl, sr, sm, so⟩ := slCells_spec hs
           obtain ⟨g1, g2, g3, g4⟩ := growBlock_upd h
           obtain ⟨a, cap, x1, x2⟩ := xo (ε := ε) (ρ := ρ) (base := base) (w := w) (fun b' hb' => hm b' (by rw [g2]; exact List.mem_append_right _ hb'))
           obtain ⟨a0, cap1, s1, s2⟩ := so (ε := ε) (ρ := ρ) (base := base) (w := w) (fun b' hb' => hm b' (by rw [g2]; exact List.mem_append_left _ hb'))
           obtain ⟨ad, rfl, x3⟩ := x2 (by omega)
           simp only [LV.den, V1.den, SV.den, AV.den, Value.slice.injEq] at s1
           obtain ⟨rfl, rfl, rfl⟩ := s1
           have olds : ∀ (j : Nat) v, (old.map (SV.den ε ρ))[j]? = some v → w.cell? ((⟨ρ b, off, none⟩ : Addr).add j) = some v := fun j v hj => by
            rcases Nat.eq_zero_or_pos n with h0 | hp
            ·subst h0
             have : old = [] := List.eq_nil_of_length_eq_zero (by rw [sl]; simp)
             subst this
             simp at hj
            ·obtain ⟨ad', e1, e2⟩ := s2 hp
             cases e1
             exact e2 j v hj
           refine ⟨g1, by simp [xb], fun u hu => .inl ?_, _, _, ?_, out_grow (e := e) h hm0 (n := n + k) (by rw [List.length_append, sl, xl, Nat.add_mul]) hb (kill := []) (fun b hb => by cases hb) (hzsz _) (grownCap_ge w (n + k) cap0 e) rfl⟩
           ·rcases g4 u hu with h | h
            ·rw [h]; exact g3
            ·cases h
           ·show (Builtin.append_ #[t, t] ty #[.slice (some ⟨ρ b, off, none⟩) n cap0, x.den ε ρ]).run P w = _
            rw [x1]
            have := run_append_grow (P := P) w t ty e i zv hu hi hzv ⟨ρ b, off, none⟩ n cap0 (old.map (SV.den ε ρ)) (by simpa using sl) olds ad k cap (new.map (SV.den ε ρ)) (by simpa using xl) x3 (by omega) (by omega) (growslice_fits (by omega) (by omega))
            rw [this, List.map_append]
            simp
          ·cases h
       ·-- a slice that has grown
        rename_i b off n c d o2
        split at h
        ·cases h
        ·rename_i hr
         simp only [Bool.not_eq_true', Bool.not_eq_false, Bool.and_eq_true, beq_iff_eq] at hr
         obtain ⟨⟨⟨rfl, rfl⟩, rfl⟩, hr⟩ := hr
         obtain ⟨cs, hcs, hcl, hcr⟩ := roomOf_spec hr
         have sden : (LV.v (.s (.a (.gsl b 0 n c 0 0)))).den ε ρ = .slice (some ⟨ρ b, 0, none⟩) n (ρ c) := by
          simp [LV.den, V1.den, SV.den, AV.den]
         split at h
         ·rename_i hk
          cases h
          subst hk
          obtain ⟨a, cap, x1, x2⟩ := xo (ε := ε) (ρ := ρ) (base := base) (w := w) (fun b' hb' => hm b' (List.mem_cons_of_mem _ hb'))
          obtain ⟨q1, q2⟩ := row_spec (hm b (by simp) cs hcs) hcr
          refine ⟨rfl, by simp [xb], by simp, _, w, ?_, Out1.pure rfl⟩
          show (Builtin.append_ #[t, t] ty #[(LV.v (.s (.a (.gsl b 0 n c 0 0)))).den ε ρ, x.den ε ρ]).run P w = _
          rw [x1, sden]
          exact run_append_zero t ty e i hu hi _ a n (ρ c) cap (Nat.le_of_mul_le_mul_right q1 hm0)
         ·rename_i hk
          split at h
          ·cases h
          ·rename_i hbig
           simp only [Bool.or_eq_true, decide_eq_true_eq, not_or, Nat.not_lt] at hbig
           split at h
           ·rename_i n0 old fp' hs
            obtain ⟨hfp', hcells⟩ : b ∈ fp' ∧ ∀ (j : Nat) s, old[j]? = some s → cs[j]? = some (some s) := by
             unfold slCells at hs
             simp only [hcs] at hs
             split at hs
             ·obtain ⟨l', hl', he⟩ := Option.map_eq_some_iff.1 hs
              cases he
              refine ⟨by simp, fun j s hj => ?_⟩
              have h3 : ((cs.drop 0).take (n * i.size))[j]? = some (some s) := by rw [allSome_spec hl']; simp [hj]
              have hlt : j < n * i.size := by
               have := (List.getElem?_eq_some_iff.1 h3).1
               simp at this; omega
              rw [List.getElem?_take_of_lt hlt, List.getElem?_drop, Nat.zero_add] at h3
              exact h3
             ·cases hs
            obtain ⟨sb, sl, sr, sm, so⟩ := slCells_spec hs
            obtain ⟨g1, g2, g3, g4⟩ := growBlock_upd h
            have hB := hm b (by rw [g2]; exact List.mem_append_left _ hfp') cs hcs
            obtain ⟨a, cap, x1, x2⟩ := xo (ε := ε) (ρ := ρ) (base := base) (w := w) (fun b' hb' => hm b' (by rw [g2]; exact List.mem_append_right _ hb'))
            obtain ⟨a0, cap1, s1, s2⟩ := so (ε := ε) (ρ := ρ) (base := base) (w := w) (fun b' hb' => hm b' (by rw [g2]; exact List.mem_append_left _ hb'))
            obtain ⟨ad, rfl, x3⟩ := x2 (by omega)
            rw [sden] at s1
            simp only [Value.slice.injEq] at s1
            obtain ⟨rfl, rfl, rfl⟩ := s1
            have olds : ∀ (j : Nat) v, (old.map (SV.den ε ρ))[j]? = some v → w.cell? ((⟨ρ b, 0, none⟩ : Addr).add j) = some v := fun j v hj => by
             rcases Nat.eq_zero_or_pos n with h0 | hp
             ·subst h0
              have : old = [] := List.eq_nil_of_length_eq_zero (by rw [sl]; simp)
              subst this
              simp at hj
             ·obtain ⟨ad', e1, e2⟩ := s2 hp
              cases e1
              exact e2 j v hj
            have hne : ¬ NW id sp b := fun e => by have := hid b e; rw [hcs] at this; cases this
            have hupd : ∀ u ∈ r.upd, NW id sp u.1 ∨ (u.1 ∈ r.fp ∧ (mem u.1).isSome = true) := fun u hu => by
             rcases g4 u hu with h | h
             ·rw [h]; exact .inl g3
             ·rw [List.mem_singleton.1 h]; exact .inr ⟨by rw [g2]; exact List.mem_append_left _ hfp', by rw [hcs]; rfl⟩
            refine ⟨g1, by simp [xb], hupd, ?_⟩
            show ∃ v w', (Builtin.append_ #[t, t] ty #[(LV.v (.s (.a (.gsl b 0 n c 0 0)))).den ε ρ, x.den ε ρ]).run P w = _ ∧ _
            rw [x1, sden]
            by_cases hroom : n + k ≤ ρ c
            ·exact append_in_place hu hi hm0 hB hcl hcr hne sl xl xr sr hcells olds ad cap x3 hroom one h
            ·refine ⟨_, _, ?_, out_grow (e := e) h hm0 (n := n + k) (by rw [List.length_append, sl, xl, Nat.add_mul]) hb (fun b' hb' => by rw [List.mem_singleton.1 hb']; exact ⟨hne, hB.1, hB.2.1⟩) (hzsz _) (grownCap_ge w (n + k) (ρ c) e) rfl⟩
             have := run_append_grow (P := P) w t ty e i zv hu hi hzv ⟨ρ b, 0, none⟩ n (ρ c) (old.map (SV.den ε ρ)) (by simpa using sl) olds ad k cap (new.map (SV.den ε ρ)) (by simpa using xl) x3 (by omega) (by omega) (growslice_fits (by omega) (by omega))
             rw [this, List.map_append]
             simp
           ·cases h
       ·cases h
     ·cases h
    ·cases h
   ·cases h
 ·cases h
theorem made_rep {z : Array Value} {v : List SV} (hzc : z = (v.map (SV.den ε ρ)).toArray) {n : Nat} (c3 : v.length = n) (hns : 0 < n) (len : Nat) : madeCells z (len * n) = (((List.replicate len v).flatten).map (SV.den ε ρ)).toArray := by
 unfold madeCells
 rw [hzc]
 apply Array.ext'
 apply List.ext_getElem?
 intro j
 simp only [Array.toList_map, Array.toList_range, List.getElem?_map]
 have key : ∀ (m : Nat) (j : Nat), ((List.replicate m v).flatten)[j]? = if j < m * n then v[j % n]? else none := by
  intro m
  induction m with
  | zero => intro j; simp
  | succ m ih =>
   intro j
   rw [List.replicate_succ, List.flatten_cons, List.getElem?_append, c3]
   split
   ·rename_i hj
    rw [if_pos (by rw [Nat.succ_mul]; omega), Nat.mod_eq_of_lt hj]
   ·rename_i hj
    rw [ih]
    have e1 : (j - n) % n = j % n := by
     conv => rhs; rw [show j = (j - n) + n by omega, Nat.add_mod_right]
    rw [e1, Nat.succ_mul]
    by_cases h9 : j - n < m * n
    ·rw [if_pos h9, if_pos (by omega)]
    ·rw [if_neg h9, if_neg (by omega)]
 rw [key]
 simp only [List.size_toArray, List.length_map, c3]
 by_cases hj : j < len * n
 ·rw [List.getElem?_range hj, if_pos hj]
  have hlt : j % n < v.length := by rw [c3]; exact Nat.mod_lt _ hns
  simp [List.getElem?_eq_getElem hlt, getElem!_pos, hlt]
 ·rw [if_neg hj, List.getElem?_eq_none (by simpa using hj)]; rfl
theorem make_out {t : TypeId} {l c : LV} {r : Op1} (h : evMake P id nv t l c = some r) (hsp : 0 < sp) (hb : base ≤ w.heap.size) :
  r.obs = [] ∧ l ≠ .bad ∧ c ≠ .bad ∧ (∀ u ∈ r.upd, NW id sp u.1) ∧ ∃ v w', (Instr.makeSlice t (l.den ε ρ) (c.den ε ρ)).run P w = .ok v w' ∧ Out1 ε ρ base id sp w r.val r.upd v w' := by
 unfold evMake at h
 split at h
 ·rename_i e kl l kc c hu
  split at h
  ·rename_i i hi
   split at h
   ·rename_i z hz
    obtain ⟨zv, hzv, hzd⟩ := Option.map_eq_some_iff.1 hz
    have hzden := (ofVal_den (ε := ε) (ρ := ρ) (v := zv) (by rw [hzd]; simp)).1
    rw [hzd] at hzden
    have hzc : zv.cells = (z.cells.map (SV.den ε ρ)).toArray := by rw [← hzden]; exact V1.den_cells z
    split at h
    ·cases h
    ·rename_i hc
     simp only [Bool.or_eq_true, decide_eq_true_eq, not_or, ne_eq, Decidable.not_not, Int.not_lt, Nat.not_lt] at hc
     obtain ⟨⟨⟨⟨⟨⟨c1, c2⟩, c3⟩, c4⟩, c5⟩, c6⟩, c7⟩ := hc
     obtain ⟨q, hq, rfl⟩ := Option.map_eq_some_iff.1 h
     have hq1 : q.obs = [] ∧ ∀ u ∈ q.upd, NW id sp u.1 := by
      have hq0 := hq
      unfold newBlock at hq0
      split at hq0
      ·cases hq0
      ·cases hq0
       exact ⟨rfl, fun u hu => by rw [List.mem_singleton.1 hu]; exact ⟨Nat.le_refl _, by omega⟩⟩
     have hout := out_new (ε := ε) (ρ := ρ) (w := w) (val := .v (.s (.a (.sl id 0 l.toNat c.toNat)))) (t := e) (f := fun n => .slice (some ⟨n, 0, none⟩) l.toNat c.toNat) hq hsp hb fun ρ' h' => by simp [LV.den, V1.den, SV.den, AV.den, h']
     refine ⟨hq1.1, by simp, by simp, hq1.2, _, _, ?_, hout⟩
     have := run_make (P := P) w t e i zv hu hi hzv kl kc l c c1 c2 (by omega) (by omega)
     rw [made_rep hzc c6 (Nat.pos_of_ne_zero c7) c.toNat] at this
     exact this
   ·cases h
  ·cases h
 ·cases h
end
end SX
end
section
namespace SX
open Go.RowKit
variable {P : Program} {ε : Env} {ρ : Nat → Nat}
theorem run_len_sl {w : World} {t e : TypeId} {rt : TypeId} {x : Option Addr} {n c : Nat} (ht : P.underlying t = some (.slice e)) (tys : Array TypeId) (args : Array Value) (h0 : tys[0]? = some t) (h1 : args[0]? = some (.slice x n c)) :
  (Builtin.len_ tys rt args).run P w = .ok (.int .i64 n) w := by
 unfold Builtin.len_
 simp only [h0, h1, Sem.run_bind, run_underlying ht, Result.andThen]
 rfl
theorem run_len_arr {w : World} {t e : TypeId} {rt : TypeId} {n : Nat} {v : Value} (ht : P.underlying t = some (.array n e)) (tys : Array TypeId) (args : Array Value) (h0 : tys[0]? = some t) (h1 : args[0]? = some v) :
  (Builtin.len_ tys rt args).run P w = .ok (.int .i64 n) w := by
 unfold Builtin.len_
 simp only [h0, h1, Sem.run_bind, run_underlying ht, Result.andThen]
 cases v <;> rfl
theorem run_convert {w : World} {s d : TypeId} {sd : TypeDesc} {k k' : IntKind} {n : Int} (hs : P.underlying s = some sd) (hd : P.underlying d = some (.int k)) :
  (convert s d (.int k' n)).run P w = .ok (.int k (k.wrap n)) w := by
 unfold convert
 simp only [Sem.run_bind, run_underlying hs, run_underlying hd, Result.andThen]
 cases sd <;> rfl
theorem mapM_places {fields : Array Field} {w : World} (h : fields.all (fun (f : Field) => (P.info? f.type).isSome) = true) :
  ∃ pl : Array (Nat × Nat), (fields.mapM (fun (f : Field) => (do pure (f.offset, ← sizeOf f.type) : Sem (Nat × Nat)))).run P w = .ok pl w ∧
   ∀ (i : Nat) x, ((fields[i]?).bind fun (f : Field) => (P.info? f.type).map fun n => (f.offset, n.size)) = some x → pl[i]? = some x := by
 have key : ∀ l : List Field, (∀ f ∈ l, (P.info? f.type).isSome = true) → ∃ pl : List (Nat × Nat), (l.mapM (fun (f : Field) => (do pure (f.offset, ← sizeOf f.type) : Sem (Nat × Nat)))).run P w = .ok pl w ∧
   ∀ (i : Nat) x, ((l[i]?).bind fun (f : Field) => (P.info? f.type).map fun n => (f.offset, n.size)) = some x → pl[i]? = some x := by
  intro l
  induction l with
  | nil => intro _; exact ⟨[], by simp, by simp⟩
  | cons f l ih =>
   intro hf
   obtain ⟨pl, h1, h2⟩ := ih fun g hg => hf g (by simp [hg])
   obtain ⟨n, hn⟩ := Option.isSome_iff_exists.1 (hf f (by simp))
   refine ⟨(f.offset, n.size) :: pl, ?_, ?_⟩
   ·rw [List.mapM_cons]
    simp only [Sem.run_bind, run_sizeOf hn, Result.andThen, Sem.run_pure, h1]
   ·intro i x hx
    cases i with
    | zero => simpa [hn] using hx
    | succ i => simpa using h2 i x (by simpa using hx)
 obtain ⟨pl, h1, h2⟩ := key fields.toList (fun f hf => by
  have := Array.all_eq_true.1 h
  obtain ⟨i, hi, rfl⟩ := List.getElem_of_mem hf
  exact this i (by simpa using hi))
 refine ⟨pl.toArray, ?_, by simpa using h2⟩
 rw [← Array.toList_mapM] at h1
 simp only [Sem.run_map] at h1
 generalize hr : (fields.mapM (fun (f : Field) => (do pure (f.offset, ← sizeOf f.type) : Sem (Nat × Nat)))).run P w = rr at h1 ⊢
 cases rr with
 | ok a w' => simp [Result.andThen] at h1; obtain ⟨rfl, rfl⟩ := h1; rfl
 | halt x w' => simp [Result.andThen] at h1
theorem need_spec {w0 : World} {pc c : E} (h : ∀ ob ∈ need pc c, ob.ok P ε w0) (hpc : (pc.den ε).2 = true) : (c.den ε).2 = true := by
 unfold need at h
 split at h
 ·rename_i hu
  rw [← under_den hpc c, hu]; rfl
 ·have : (Ob.req pc c).ok P ε w0 := h _ (List.mem_singleton.2 rfl)
  exact this hpc
theorem inB_spec {w0 : World} {pc : E} {i : Nat} {x : E} (h : ∀ ob ∈ inB pc i x, ob.ok P ε w0) (hpc : (pc.den ε).2 = true) : 0 ≤ (x.den ε).1 ∧ (x.den ε).1 < (ε.sn i : Int) ∧ (x.den ε).1.toNat < ε.sn i := by
 unfold inB at h
 have h1 := need_spec (fun ob hb => h ob (List.mem_append_left _ hb)) hpc
 have h2 := need_spec (fun ob hb => h ob (List.mem_append_right _ hb)) hpc
 rw [mkNot_den, mkLs_den] at h1
 rw [mkLs_den] at h2
 simp only [E.den, Bool.not_eq_eq_eq_not, Bool.not_true] at h1 h2
 have a1 := of_decide_eq_false h1
 have a2 := of_decide_eq_true h2
 refine ⟨by omega, a2, by omega⟩
theorem elems_get (i m : Nat) (x : E) : ∀ (off : Nat) (ks : List IntKind) (j : Nat), (elems i m x off ks)[j]? = (ks[j]?).map fun k => SV.a (.int k (.el i m (off + j) x))
 | _, [], j => by simp [elems]
 | off, k :: ks, 0 => by simp [elems]
 | off, k :: ks, j + 1 => by
  simp only [elems, List.getElem?_cons_succ, elems_get i m x (off + 1) ks j]
  rw [show off + 1 + j = off + (j + 1) by omega]
theorem elems_length (i m : Nat) (x : E) : ∀ (off : Nat) (ks : List IntKind), (elems i m x off ks).length = ks.length
 | _, [] => rfl
 | off, k :: ks => by simp [elems, elems_length i m x (off + 1) ks]
theorem add_add (ad : Addr) (n k : Nat) : (ad.add n).add k = ad.add (n + k) := by
 unfold Addr.add
 by_cases h : n = 0
 ·subst h; simp
 ·by_cases h' : k = 0
  ·subst h'; simp
  ·have : ¬ n + k = 0 := by omega
   simp [h, h', this, Nat.add_assoc]
theorem sub_block (ad : Addr) (n : Nat) : (ad.add n).block = ad.block := by unfold Addr.add; split <;> rfl
theorem lst_cell {w0 w : World} {i m off : Nat} {ks : List IntKind} (h : (Ob.lst i m off ks).ok P ε w0) (hw : Below w0.heap.size w0 w) {idx : Nat} (hi : idx < ε.sn i) :
  ∃ ad, ε.sa i = some ad ∧ ∀ (j : Nat) k, ks[j]? = some k → w.cell? (((ad.add (idx * m)).add off).add j) = some (.int k (clmp (ε.el i (idx * m + (off + j))))) := by
 obtain ⟨ad, h1, h2, h3⟩ := h idx hi
 refine ⟨ad, h1, fun j k hj => ?_⟩
 rw [hw.cell (by simp only [sub_block]; exact h2)]
 exact h3 j k hj
theorem loadL_out {pc : E} {nv : Nat} {t : TypeId} {i m off : Nat} {x : E} {w w0 : World} {r : Op1} (h : evLoadL P pc nv t i m off x = some r) (hob : ∀ ob ∈ r.obs, ob.ok P ε w0) (hpc : (pc.den ε).2 = true) (hw : Below w0.heap.size w0 w) :
  r.upd = [] ∧ (Instr.loadAt t ((LV.v (.s (.a (.fptr i m off x)))).den ε ρ)).run P w = .ok (r.val.den ε ρ) w := by
 unfold evLoadL at h
 split at h
 ·rename_i inf hinf
  split at h
  ·rename_i hu
   split at h
   ·rename_i cs hz
    split at h
    ·rename_i hag
     split at h
     ·rename_i ks hks
      split at h
      ·rename_i hlen
       simp only [Bool.and_eq_true, decide_eq_true_eq] at hlen
       cases h
       refine ⟨rfl, ?_⟩
       obtain ⟨b1, b2, b3⟩ := inB_spec (fun ob hb => hob ob (List.mem_cons_of_mem _ hb)) hpc
       obtain ⟨ad, h1, h2⟩ := lst_cell (hob _ (List.mem_cons_self ..)) hw b3
       have run0 : (Instr.loadAt t ((LV.v (.s (.a (.fptr i m off x)))).den ε ρ)).run P w = (loadVar t ((ad.add ((x.den ε).1.toNat * m)).add off)).run P w := by
        simp [Instr.loadAt, Instr.sureAddr, LV.den, V1.den, SV.den, AV.den, Result.andThen, h1]
       have key := run_loadCells_list (P := P) (w := w) ((ad.add ((x.den ε).1.toNat * m)).add off) ((elems i m x off ks).map (SV.den ε ρ)) (fun j v hj => by
        rw [List.getElem?_map, elems_get] at hj
        simp only [Option.map_map, Option.map_eq_some_iff, Function.comp_apply] at hj
        obtain ⟨k, hk, rfl⟩ := hj
        rw [h2 j k hk]
        rfl)
       rw [List.length_map, elems_length, hlen.1] at key
       rw [run0]
       unfold loadVar
       simp only [Sem.run_bind, run_isAgg hu, Result.andThen, hag, if_true, run_sizeOf hinf, key, Sem.run_pure]
       rfl
      ·cases h
     ·cases h
    ·cases h
   ·rename_i k n hz
    split at h
    ·cases h
    ·rename_i hag
     cases h
     refine ⟨rfl, ?_⟩
     obtain ⟨b1, b2, b3⟩ := inB_spec (fun ob hb => hob ob (List.mem_cons_of_mem _ hb)) hpc
     obtain ⟨ad, h1, h2⟩ := lst_cell (hob _ (List.mem_cons_self ..)) hw b3
     have run0 : (Instr.loadAt t ((LV.v (.s (.a (.fptr i m off x)))).den ε ρ)).run P w = (loadVar t ((ad.add ((x.den ε).1.toNat * m)).add off)).run P w := by
      simp [Instr.loadAt, Instr.sureAddr, LV.den, V1.den, SV.den, AV.den, Result.andThen, h1]
     have h3 := h2 0 k rfl
     rw [show (((ad.add ((x.den ε).1.toNat * m)).add off).add 0) = ((ad.add ((x.den ε).1.toNat * m)).add off) from rfl] at h3
     rw [run0]
     unfold loadVar
     simp only [Bool.or_eq_true, decide_eq_true_eq, not_or] at hag
     simp only [Sem.run_bind, run_isAgg hu, Result.andThen, Bool.eq_false_iff.2 hag.1, Bool.false_eq_true, if_false, run_load, h3]
     rfl
   ·cases h
  ·cases h
 ·cases h
section
variable {sub : Sub} {sp id : Nat} {pc : E} {look : Nat → LV} {mem : Nat → Option Cells} {nv : Nat} {dec : List (E × Bool)} {o : Oper} {a : Act} {w w0 : World} {r : Op1}
set_option maxHeartbeats 2000000 in
theorem evOp_sound (hsp : 0 < sp) (hsub : SubOk P ε w0 sub) (h : evOp P sub sp id pc look mem nv dec o = some r) (hid : ∀ b, NW id sp b → mem b = none)
  (hob : ∀ ob ∈ r.obs, ob.ok P ε w0) (hpc : (pc.den ε).2 = true) (hdec : ∀ p ∈ dec, (p.1.den ε).2 = p.2)
  (hl : Slots ε ρ look o a) (hw : Below w0.heap.size w0 w)
  (hm : ∀ b ∈ r.fp, ∀ cs, mem b = some cs → Blk ε ρ w0.heap.size w b cs) (hi : ∀ b ∈ r.fp, ∀ b' ∈ r.fp, (mem b).isSome = true → (mem b').isSome = true → ρ b = ρ b' → b = b') :
  (∀ u ∈ r.upd, NW id sp u.1 ∨ (u.1 ∈ r.fp ∧ (mem u.1).isSome = true)) ∧ OpOk P o a w (Out1 ε ρ w0.heap.size id sp w r.val r.upd) := by
 unfold evOp at h
 split at h
 ·-- move
  rename_i x ho
  obtain ⟨h1, h2, h3, h4⟩ := pureOp_spec h
  refine ⟨by simp [h3], val_out (by simp only [execOp, ho]; rfl) h3 ?_⟩
  rw [h2]; exact opnd_den (operand_slots hl (by simp [ho, Op.operands])) h1
 ·-- assign
  rename_i x ho
  obtain ⟨h1, h2, h3, h4⟩ := pureOp_spec h
  refine ⟨by simp [h3], val_out (by simp only [execOp, ho]; rfl) h3 ?_⟩
  rw [h2]; exact opnd_den (operand_slots hl (by simp [ho, Op.operands])) h1
 ·-- pick
  rename_i c x y ho
  split at h
  ·rename_i e hc
   have hce := opnd_eq (operand_slots hl (x := c) (by simp [ho, Op.operands])) hc (by simp)
   have hex : (execOp a.eval o).run P w = .ok (.value (if (e.den ε).2 then a.eval x else a.eval y)) w := by
    simp only [execOp, ho, hce, LV.den, V1.den, SV.den, AV.den]
    cases (e.den ε).2 <;> simp [asBool, Result.andThen]
   split at h
   ·rename_i hd
    obtain ⟨h1, h2, h3, h4⟩ := pureOp_spec h
    refine ⟨by simp [h3], val_out hex h3 ?_⟩
    rw [h2, decided_spec hdec hd, if_pos rfl]; exact opnd_den (operand_slots hl (by simp [ho, Op.operands])) h1
   ·rename_i hd
    obtain ⟨h1, h2, h3, h4⟩ := pureOp_spec h
    refine ⟨by simp [h3], val_out hex h3 ?_⟩
    rw [h2, decided_spec hdec hd, if_neg (by simp)]; exact opnd_den (operand_slots hl (by simp [ho, Op.operands])) h1
   ·obtain ⟨h1, h2, h3, h4⟩ := pureOp_spec h
    refine ⟨by simp [h3], val_out hex h3 ?_⟩
    have bad : opnd look x ≠ .bad ∧ opnd look y ≠ .bad := by
     constructor <;> intro e' <;> apply h1 <;> rw [e'] <;> unfold LV.merge <;> (try split) <;> simp_all
    have rx : RV ε ρ (opnd look x) (a.eval x) := .inr (opnd_den (operand_slots hl (by simp [ho, Op.operands])) bad.1)
    have ry : RV ε ρ (opnd look y) (a.eval y) := .inr (opnd_den (operand_slots hl (by simp [ho, Op.operands])) bad.2)
    rw [h2]
    cases hb : (e.den ε).2
    ·exact (LV.merge_f hb ry).get h1
    ·exact (LV.merge_t hb rx).get h1
  ·cases h
 ·-- alloc
  rename_i t ho
  split at h
  ·rename_i z hz
   split at h
   ·rename_i v hv
    have hzd := (ofVal_den (ε := ε) (ρ := ρ) (v := z) (by rw [hv]; simp)).1
    rw [hv] at hzd
    refine ⟨by unfold newBlock at h; split at h <;> cases h; intro u hu; rw [List.mem_singleton.1 hu]; exact .inl ⟨Nat.le_refl _, by omega⟩, OpOk.value (w' := w.alloc (.cells (v.cells.map (SV.den ε ρ)).toArray t)) (v := .pointer (some ⟨w.heap.size, 0, none⟩)) ?_ ?_⟩
    ·refine ex_value (s := Instr.alloc t true (.tuple #[])) (by simp only [execOp, ho]) ?_
     unfold Instr.alloc
     simp only [Sem.run_bind, run_zeroValue hz, Result.andThen, newVar, run_newRow, Sem.run_pure]
     rw [← hzd]
     simp only [LV.den, V1.den_cells]
    ·have hval : r.val = .v (.s (.a (.ptr id 0))) := by unfold newBlock at h; split at h <;> cases h; rfl
     rw [hval]
     exact out_new (f := fun n => .pointer (some ⟨n, 0, none⟩)) h hsp hw.size fun ρ' h' => by simp [LV.den, V1.den, SV.den, AV.den, h']
   ·cases h
  ·cases h
 ·-- box
  rename_i t x ho
  split at h
  ·rename_i v hv
   have hx := opnd_eq (operand_slots hl (x := x) (by simp [ho, Op.operands])) hv (by simp)
   refine ⟨by unfold newBlock at h; split at h <;> cases h; intro u hu; rw [List.mem_singleton.1 hu]; exact .inl ⟨Nat.le_refl _, by omega⟩, OpOk.value (w' := w.alloc (.cells (v.cells.map (SV.den ε ρ)).toArray t)) (v := .pointer (some ⟨w.heap.size, 0, none⟩)) ?_ ?_⟩
   ·refine ex_value (s := Instr.box t (a.eval x)) (by simp only [execOp, ho]) ?_
    unfold Instr.box
    simp only [Sem.run_bind, Result.andThen, newVar, run_newRow, Sem.run_pure, hx, LV.den, V1.den_cells]
   ·have hval : r.val = .v (.s (.a (.ptr id 0))) := by unfold newBlock at h; split at h <;> cases h; rfl
    rw [hval]
    exact out_new (f := fun n => .pointer (some ⟨n, 0, none⟩)) h hsp hw.size fun ρ' h' => by simp [LV.den, V1.den, SV.den, AV.den, h']
  ·cases h
 ·-- build
  rename_i t parts ho
  split at h
  ·rename_i z d ps hz hd hps
   have hparts := partsOf_den (ε := ε) (ρ := ρ) (a := a) (fun x hx t ht => hl t (by rw [ho]; simp only [Op.operands]; rw [← ht]; simpa using ⟨x.1, by simpa using hx⟩)) hps
   have hp2 : (parts.map fun (x : Nat × Operand) => (x.1, a.eval x.2)).toList = ps.map fun p => (p.1, p.2.den ε ρ) := by rw [← hparts]; simp
   split at h
   ·rename_i v hv
    have hzd := (ofVal_den (ε := ε) (ρ := ρ) (v := z) (by rw [hv]; simp)).1
    rw [hv] at hzd
    have hzc : z.cells = (v.cells.map (SV.den ε ρ)).toArray := by rw [← hzd]; exact V1.den_cells v
    split at h
    ·rename_i fields
     split at h
     ·rename_i cs hcs
      split at h
      ·rename_i hall
       cases h
       refine ⟨by simp, val_out (ex_value (s := Instr.build t (parts.map fun (x : Nat × Operand) => (x.1, a.eval x.2))) (by simp only [execOp, ho]) ?_) rfl rfl⟩
       obtain ⟨pl, h1, h2⟩ := mapM_places (P := P) (w := w) hall
       unfold Instr.build
       have hf := fill_den (ε := ε) (ρ := ρ) ps v.cells cs (pl' := (pl[·]?)) h2 hcs
       simp only [Sem.run_bind, run_zeroValue hz, run_underlying hd, Result.andThen, Sem.run_pure, h1, hp2, hzc, hf]
       rfl
      ·cases h
     ·cases h
    ·rename_i n elem
     split at h
     ·rename_i i hinf
      obtain ⟨cs, hcs, rfl⟩ := Option.map_eq_some_iff.1 h
      refine ⟨by simp, val_out (ex_value (s := Instr.build t (parts.map fun (x : Nat × Operand) => (x.1, a.eval x.2))) (by simp only [execOp, ho]) ?_) rfl rfl⟩
      unfold Instr.build
      have hf := fill_den (ε := ε) (ρ := ρ) ps v.cells cs (pl' := fun j => some (j * i.size, i.size)) (fun _ _ h => h) hcs
      simp only [Sem.run_bind, run_zeroValue hz, run_underlying hd, run_sizeOf hinf, Result.andThen, Sem.run_pure, hp2, hzc, hf]
      rfl
     ·cases h
    ·cases h
   ·cases h
  ·cases h
 ·-- buildSlice
  rename_i t len parts ho
  split at h
  ·rename_i elem ps hd hps
   have hparts := partsOf_den (ε := ε) (ρ := ρ) (a := a) (fun x hx t ht => hl t (by rw [ho]; simp only [Op.operands]; rw [← ht]; simpa using ⟨x.1, by simpa using hx⟩)) hps
   have hp2 : (parts.map fun (x : Nat × Operand) => (x.1, a.eval x.2)).toList = ps.map fun p => (p.1, p.2.den ε ρ) := by rw [← hparts]; simp
   split at h
   ·rename_i n hn
    split at h
    ·rename_i v hv
     obtain ⟨z, hz, hzv⟩ := Option.map_eq_some_iff.1 hv
     have hzb : (P.info? elem).bind (·.zero) = some z := by rw [hn]; exact hz
     have hzd := (ofVal_den (ε := ε) (ρ := ρ) (v := z) (by rw [hzv]; simp)).1
     rw [hzv] at hzd
     have hzc : z.cells = (v.cells.map (SV.den ε ρ)).toArray := by rw [← hzd]; exact V1.den_cells v
     split at h
     ·cases h
     ·rename_i hcond
      simp only [gt_iff_lt, beq_iff_eq, ne_eq, Bool.or_eq_true, decide_eq_true_eq, not_or, Decidable.not_not] at hcond
      obtain ⟨⟨c1, c2⟩, c3⟩ := hcond
      split at h
      ·rename_i cs hcs
       obtain ⟨q, hq, rfl⟩ := Option.map_eq_some_iff.1 h
       refine ⟨by unfold newBlock at hq; split at hq <;> cases hq; intro u hu; rw [List.mem_singleton.1 hu]; exact .inl ⟨Nat.le_refl _, by omega⟩, OpOk.value (w' := w.alloc (.cells (cs.map (SV.den ε ρ)).toArray elem)) (v := .slice (some ⟨w.heap.size, 0, none⟩) len len) ?_ ?_⟩
       ·refine ex_value (s := Instr.buildSlice t len (parts.map fun (x : Nat × Operand) => (x.1, a.eval x.2))) (by simp only [execOp, ho]) ?_
        unfold Instr.buildSlice
        have hf := fill_den (ε := ε) (ρ := ρ) ps _ cs (pl' := fun j => some (j * n.size, n.size)) (fun _ _ h => h) hcs
        have hz0 : ((Array.range (len * n.size)).map fun i => z.cells[i % z.cells.size]!) = (((List.replicate len v.cells).flatten).map (SV.den ε ρ)).toArray := by
         rw [hzc]
         have hns : 0 < n.size := Nat.pos_of_ne_zero fun e => c2 (by rw [e, Nat.mul_zero])
         apply Array.ext'
         apply List.ext_getElem?
         intro j
         simp only [Array.toList_map, Array.toList_range, List.getElem?_map]
         have key : ∀ (m : Nat) (j : Nat), ((List.replicate m v.cells).flatten)[j]? = if j < m * n.size then v.cells[j % n.size]? else none := by
          intro m
          induction m with
          | zero => intro j; simp
          | succ m ih =>
           intro j
           rw [List.replicate_succ, List.flatten_cons, List.getElem?_append, c3]
           split
           ·rename_i hj
            rw [if_pos (by rw [Nat.succ_mul]; omega), Nat.mod_eq_of_lt hj]
           ·rename_i hj
            rw [ih]
            have e1 : (j - n.size) % n.size = j % n.size := by
             conv => rhs; rw [show j = (j - n.size) + n.size by omega, Nat.add_mod_right]
            rw [e1, Nat.succ_mul]
            by_cases h9 : j - n.size < m * n.size
            ·rw [if_pos h9, if_pos (by omega)]
            ·rw [if_neg h9, if_neg (by omega)]
         rw [key]
         simp only [List.size_toArray, List.length_map, c3]
         by_cases hj : j < len * n.size
         ·rw [List.getElem?_range hj, if_pos hj]
          have hlt : j % n.size < v.cells.length := by rw [c3]; exact Nat.mod_lt _ hns
          simp [List.getElem?_eq_getElem hlt, getElem!_pos, hlt]
         ·rw [if_neg hj, List.getElem?_eq_none (by simpa using hj)]; rfl
        have c1' : ¬ len * n.size > 2 ^ 24 := by simpa using c1
        simp only [Sem.run_bind, run_underlying hd, run_sizeOf hn, Result.andThen, Sem.run_pure, if_neg c1', if_neg c2, run_zeroValue hzb]
        simp only [hz0, hp2, hf, Sem.run_bind, run_newRow, Result.andThen, Sem.run_pure]
       ·have := out_new (ε := ε) (ρ := ρ) (val := .v (.s (.a (.sl id 0 len len)))) (t := elem) (f := fun n => .slice (some ⟨n, 0, none⟩) len len) hq hsp hw.size (fun ρ' h' => by
         simp [LV.den, V1.den, SV.den, AV.den, h'])
        exact this
      ·cases h
    ·cases h
   ·cases h
  ·cases h
 ·-- make
  rename_i t l c ho
  obtain ⟨h1, h2, h3, h4, v, w', h5, h6⟩ := make_out (ε := ε) (ρ := ρ) (w := w) (base := w0.heap.size) h hsp hw.size
  refine ⟨fun u hu => .inl (h4 u hu), OpOk.value (ex_value (s := Instr.makeSlice t (a.eval l) (a.eval c)) (by simp only [execOp, ho]) ?_) h6⟩
  rw [opnd_den (operand_slots hl (x := l) (by simp [ho, Op.operands])) h2, opnd_den (operand_slots hl (x := c) (by simp [ho, Op.operands])) h3]
  exact h5
 ·-- load
  rename_i t x ho
  split at h
  ·rename_i i m off e hx
   have he := opnd_eq (operand_slots hl (x := x) (by simp [ho, Op.operands])) hx (by simp)
   obtain ⟨h1, h3⟩ := loadL_out (ρ := ρ) h hob hpc hw
   refine ⟨by simp [h1], val_out (ex_value (s := Instr.loadAt t (a.eval x)) (by simp only [execOp, ho]) ?_) h1 rfl⟩
   rw [he]; exact h3
  have hx : opnd look x ≠ .bad := by intro e; rw [e] at h; simp [evLoad] at h
  obtain ⟨h1, h2, h3⟩ := load_out h hm
  refine ⟨by simp [h1], val_out (ex_value (s := Instr.loadAt t (a.eval x)) (by simp only [execOp, ho]) ?_) h1 rfl⟩
  rw [opnd_den (operand_slots hl (x := x) (by simp [ho, Op.operands])) hx]; exact h3
 ·-- store
  rename_i t x y ho
  have hx : opnd look x ≠ .bad := by intro e; rw [e] at h; simp [evStore] at h
  have hy : opnd look y ≠ .bad := by intro e; rw [e] at h; unfold evStore at h; split at h <;> simp_all
  obtain ⟨h1, h2, w', h3, h4⟩ := store_out (ρ := ρ) (ε := ε) (base := w0.heap.size) (w := w) h hid hm
  refine ⟨fun u hu => .inr (h2 u hu), OpOk.skip (w' := w') (ex_unit (s := Instr.storeAt t (a.eval x) (a.eval y)) (by simp only [execOp, ho]) ?_) h4⟩
  rw [opnd_den (operand_slots hl (x := x) (by simp [ho, Op.operands])) hx, opnd_den (operand_slots hl (x := y) (by simp [ho, Op.operands])) hy]; exact h3
 ·-- nilCheck
  rename_i x ho
  split at h
  ·rename_i b off hx
   have he := opnd_eq (operand_slots hl (x := x) (by simp [ho, Op.operands])) hx (by simp)
   cases h
   refine ⟨by simp, val_out (v := .pointer (some ⟨ρ b, off, none⟩)) ?_ rfl rfl⟩
   simp only [execOp, ho, he, LV.den, V1.den, SV.den, AV.den]; rfl
  ·rename_i f fi cap hx
   have he := opnd_eq (operand_slots hl (x := x) (by simp [ho, Op.operands])) hx (by simp)
   cases h
   refine ⟨by simp, val_out (v := (LV.v (.s (.fn f fi cap))).den ε ρ) ?_ rfl rfl⟩
   simp only [execOp, ho, he, LV.den, V1.den, SV.den]; rfl
  ·cases h
 ·-- binOp
  rename_i op t x y yt ho
  obtain ⟨hx, hy⟩ := evBin_bad h
  obtain ⟨h1, h2, h3⟩ := evBin_out (ρ := ρ) (w := w) (xo := x) (yo := y) h hob hpc
  refine ⟨by simp [h1], val_out (ex_value (s := do eqGuard op t x y (a.eval x) (a.eval y); binOp op t (a.eval x) (a.eval y)) (by simp only [execOp, ho]) ?_) h1 rfl⟩
  rw [opnd_den (operand_slots hl (x := x) (by simp [ho, Op.operands])) hx, opnd_den (operand_slots hl (x := y) (by simp [ho, Op.operands])) hy]; exact h3
 ·-- unOp
  rename_i op t x ho
  have hx : opnd look x ≠ .bad := by intro e; rw [e] at h; simp [evUn] at h
  obtain ⟨h1, h2, h3⟩ := evUn_out (ε := ε) (ρ := ρ) (P := P) (w := w) h
  refine ⟨by simp [h1], val_out (ex_value (s := Op.unary op (a.eval x)) (by simp only [execOp, ho]) ?_) h1 rfl⟩
  rw [opnd_den (operand_slots hl (x := x) (by simp [ho, Op.operands])) hx]; exact h3
 ·-- convert
  rename_i s d x ho
  split at h
  ·rename_i sd k k' e0 hs hd hx
   have he := opnd_eq (operand_slots hl (x := x) (by simp [ho, Op.operands])) hx (by simp)
   have hrun : (convert s d (a.eval x)).run P w = .ok (.int k (k.wrap (e0.den ε).1)) w := by
    rw [he]
    simp only [LV.den, V1.den, SV.den, AV.den]
    exact run_convert hs hd
   split at h
   ·rename_i n
    cases h
    exact ⟨by simp, val_out (ex_value (s := convert s d (a.eval x)) (by simp only [execOp, ho]) hrun) rfl rfl⟩
   ·split at h
    ·cases h
     refine ⟨by simp, val_out (ex_value (s := convert s d (a.eval x)) (by simp only [execOp, ho]) hrun) rfl ?_⟩
     have hb := hob _ (List.mem_singleton.2 rfl) hpc
     simp only [E.den, CO.den, beq_iff_eq] at hb
     simp only [LV.den, V1.den, SV.den, AV.den, hb]
    ·cases h
     exact ⟨by simp, val_out (ex_value (s := convert s d (a.eval x)) (by simp only [execOp, ho]) hrun) rfl rfl⟩
  ·cases h
 ·-- makeFunc
  rename_i f first captured ho
  split at h
  ·rename_i fi cap hfi hcap
   cases h
   have hs := avs_spec hcap
   have hs2 := avs_spec hfi
   refine ⟨by simp, val_out (ex_value (s := Instr.makeFunc (.func f) (first.map a.eval) (captured.map a.eval)) (by simp only [execOp, ho]) ?_) rfl rfl⟩
   have e1 := map_opnd (ε := ε) (ρ := ρ) (a := a) (look := look) captured.toList (fun x hx t ht => hl t (by rw [ho]; simp only [Op.operands]; rw [← ht]; simp at hx ⊢; exact .inr hx)) (by rw [hs]; simp)
   have e3 := map_opnd (ε := ε) (ρ := ρ) (a := a) (look := look) first.toList (fun x hx t ht => hl t (by rw [ho]; simp only [Op.operands]; rw [← ht]; simp at hx ⊢; exact .inl hx)) (by rw [hs2]; simp)
   have e2 : captured.map a.eval = (cap.map (AV.den ε ρ)).toArray := by
    apply Array.ext'
    rw [Array.toList_map, e1, hs]
    simp [LV.den, V1.den, SV.den]
   have e4 : first.map a.eval = (fi.map (AV.den ε ρ)).toArray := by
    apply Array.ext'
    rw [Array.toList_map, e3, hs2]
    simp [LV.den, V1.den, SV.den]
   rw [e2, e4]
   simp [Instr.makeFunc, LV.den, V1.den, SV.den]
  ·cases h
 ·-- fieldAddr
  rename_i s x f ho
  split at h
  ·rename_i fields b off hd hx
   have he := opnd_eq (operand_slots hl (x := x) (by simp [ho, Op.operands])) hx (by simp)
   split at h
   ·rename_i fd hfd
    split at h
    ·rename_i n hn
     split at h
     ·cases h
     ·rename_i hns
      cases h
      refine ⟨by simp, val_out (ex_value (s := Instr.fieldAt s (a.eval x) f) (by simp only [execOp, ho]) ?_) rfl rfl⟩
      rw [he]
      unfold Instr.fieldAt fieldPlace
      simp only [Sem.run_bind, run_underlying hd, Result.andThen, hfd, LV.den, V1.den, SV.den, AV.den, Instr.sureAddr, Sem.run_pure, run_sizeOf hn, if_neg hns, add_none]
    ·cases h
   ·cases h
  ·rename_i fields li m off e hd hx
   have he := opnd_eq (operand_slots hl (x := x) (by simp [ho, Op.operands])) hx (by simp)
   split at h
   ·rename_i fd hfd
    split at h
    ·rename_i n hn
     split at h
     ·cases h
     ·rename_i hns
      cases h
      obtain ⟨b1, b2, b3⟩ := inB_spec (fun ob hb => hob ob (List.mem_cons_of_mem _ hb)) hpc
      obtain ⟨ad, h1, -⟩ := lst_cell (hob _ (List.mem_cons_self ..)) hw b3
      refine ⟨by simp, val_out (ex_value (s := Instr.fieldAt s (a.eval x) f) (by simp only [execOp, ho]) ?_) rfl rfl⟩
      rw [he]
      unfold Instr.fieldAt fieldPlace
      simp only [Sem.run_bind, run_underlying hd, Result.andThen, hfd, LV.den, V1.den, SV.den, AV.den, Instr.sureAddr, Sem.run_pure, run_sizeOf hn, if_neg hns, h1, Option.map_some, add_add, Nat.add_assoc]
    ·cases h
   ·cases h
  ·cases h
 ·-- field
  rename_i s x f ho
  split at h
  ·rename_i fields cs hd hx
   have he := opnd_eq (operand_slots hl (x := x) (by simp [ho, Op.operands])) hx (by simp)
   split at h
   ·rename_i fd hfd
    obtain ⟨v, hv, rfl⟩ := Option.map_eq_some_iff.1 h
    refine ⟨by simp, val_out (ex_value (s := Instr.field s (a.eval x) f) (by simp only [execOp, ho]) ?_) rfl rfl⟩
    rw [he]
    unfold Instr.field
    simp only [Sem.run_bind, run_underlying hd, Result.andThen, hfd, LV.den, V1.den, asAgg, Sem.run_pure]
    exact run_part hv
   ·cases h
  ·cases h
 ·-- indexAddr
  rename_i t x ix ho
  split at h
  ·rename_i len elem b off k i hd hx hix
   have he := opnd_eq (operand_slots hl (x := x) (by simp [ho, Op.operands])) hx (by simp)
   have hj := opnd_eq (operand_slots hl (x := ix) (by simp [ho, Op.operands])) hix (by simp)
   split at h
   ·rename_i n hn
    split at h
    ·rename_i hb
     cases h
     refine ⟨by simp, val_out (ex_value (s := Instr.indexAt t (a.eval x) (a.eval ix)) (by simp only [execOp, ho]) ?_) rfl rfl⟩
     rw [he, hj]
     unfold Instr.indexAt
     simp only [Sem.run_bind, run_underlying hd, Result.andThen, LV.den, V1.den, SV.den, AV.den, E.den, asIntOf, Instr.sureAddr, Sem.run_pure, run_sizeOf hn, if_pos hb, add_none]
    ·cases h
   ·cases h
  ·rename_i elem b off len cap k i hd hx hix
   have he := opnd_eq (operand_slots hl (x := x) (by simp [ho, Op.operands])) hx (by simp)
   have hj := opnd_eq (operand_slots hl (x := ix) (by simp [ho, Op.operands])) hix (by simp)
   split at h
   ·rename_i n hn
    split at h
    ·rename_i hb
     cases h
     refine ⟨by simp, val_out (ex_value (s := Instr.indexAt t (a.eval x) (a.eval ix)) (by simp only [execOp, ho]) ?_) rfl rfl⟩
     rw [he, hj]
     unfold Instr.indexAt
     simp only [Sem.run_bind, run_underlying hd, Result.andThen, LV.den, V1.den, SV.den, AV.den, E.den, asIntOf, Instr.sureAddr, Sem.run_pure, run_sizeOf hn, if_pos hb, add_none]
    ·cases h
   ·cases h
  ·rename_i elem b off len c0 d0 o20 k i hd hx hix
   have he := opnd_eq (operand_slots hl (x := x) (by simp [ho, Op.operands])) hx (by simp)
   have hj := opnd_eq (operand_slots hl (x := ix) (by simp [ho, Op.operands])) hix (by simp)
   split at h
   ·rename_i n hn
    split at h
    ·rename_i hb
     cases h
     refine ⟨by simp, val_out (ex_value (s := Instr.indexAt t (a.eval x) (a.eval ix)) (by simp only [execOp, ho]) ?_) rfl rfl⟩
     rw [he, hj]
     unfold Instr.indexAt
     have hlen : ¬ (len = 0 ∧ ρ c0 = d0) := fun e => by omega
     simp only [Sem.run_bind, run_underlying hd, Result.andThen, LV.den, V1.den, SV.den, AV.den, E.den, asIntOf, Instr.sureAddr, Sem.run_pure, run_sizeOf hn, if_pos hb, add_none, if_neg hlen]
    ·cases h
   ·cases h
  ·rename_i len elem li m off e k i hd hx hix
   have he := opnd_eq (operand_slots hl (x := x) (by simp [ho, Op.operands])) hx (by simp)
   have hj := opnd_eq (operand_slots hl (x := ix) (by simp [ho, Op.operands])) hix (by simp)
   split at h
   ·rename_i n hn
    split at h
    ·rename_i hb
     cases h
     obtain ⟨b1, b2, b3⟩ := inB_spec (fun ob hb => hob ob (List.mem_cons_of_mem _ hb)) hpc
     obtain ⟨ad, h1, -⟩ := lst_cell (hob _ (List.mem_cons_self ..)) hw b3
     refine ⟨by simp, val_out (ex_value (s := Instr.indexAt t (a.eval x) (a.eval ix)) (by simp only [execOp, ho]) ?_) rfl rfl⟩
     rw [he, hj]
     unfold Instr.indexAt
     simp only [Sem.run_bind, run_underlying hd, Result.andThen, LV.den, V1.den, SV.den, AV.den, E.den, asIntOf, Instr.sureAddr, Sem.run_pure, run_sizeOf hn, if_pos hb, h1, Option.map_some, add_add, Nat.add_assoc]
    ·cases h
   ·cases h
  ·rename_i elem li k e hd hx hix
   have he := opnd_eq (operand_slots hl (x := x) (by simp [ho, Op.operands])) hx (by simp)
   have hj := opnd_eq (operand_slots hl (x := ix) (by simp [ho, Op.operands])) hix (by simp)
   split at h
   ·rename_i n hn
    cases h
    obtain ⟨b1, b2, b3⟩ := inB_spec (fun ob hb => hob ob (List.mem_cons_of_mem _ hb)) hpc
    obtain ⟨ad, h1, -⟩ := lst_cell (hob _ (List.mem_cons_self ..)) hw b3
    refine ⟨by simp, val_out (ex_value (s := Instr.indexAt t (a.eval x) (a.eval ix)) (by simp only [execOp, ho]) ?_) rfl rfl⟩
    rw [he, hj]
    unfold Instr.indexAt
    simp only [Sem.run_bind, run_underlying hd, Result.andThen, LV.den, V1.den, SV.den, AV.den, asIntOf, Sem.run_pure, h1, Option.map_some, run_sizeOf hn, if_pos (And.intro b1 b2)]
    rfl
   ·cases h
  ·cases h
 ·-- index
  rename_i t x ix ho
  split at h
  ·rename_i len elem cs k i hd hx hix
   have he := opnd_eq (operand_slots hl (x := x) (by simp [ho, Op.operands])) hx (by simp)
   have hj := opnd_eq (operand_slots hl (x := ix) (by simp [ho, Op.operands])) hix (by simp)
   split at h
   ·rename_i n hn
    split at h
    ·rename_i hb
     obtain ⟨v, hv, rfl⟩ := Option.map_eq_some_iff.1 h
     refine ⟨by simp, val_out (ex_value (s := Instr.index t (a.eval x) (a.eval ix)) (by simp only [execOp, ho]) ?_) rfl rfl⟩
     rw [he, hj]
     unfold Instr.index
     simp only [Sem.run_bind, run_underlying hd, Result.andThen, LV.den, V1.den, SV.den, AV.den, E.den, asIntOf, Sem.run_pure, run_sizeOf hn, if_pos hb]
     exact run_part hv
    ·cases h
   ·cases h
  ·cases h
 ·-- slice
  rename_i t x lo hiO mx ho
  have bnd : ∀ (y : Operand), y ∈ o.op.operands → ∀ (d n : Nat), boundOf look (some y) d = some n → ∀ (m : Nat) (c : BoundsCode), n ≤ m → (Instr.sliceBound (a.eval y) m c).run P w = .ok n w := by
   intro y hy d n hb m c hm
   unfold boundOf at hb
   dsimp only at hb
   split at hb
   ·rename_i k i hv
    split at hb
    ·rename_i h0
     cases hb
     have he := opnd_eq (operand_slots hl hy) hv (by simp)
     rw [he]
     have hc : 0 ≤ i ∧ i ≤ (m : Int) := ⟨h0, by omega⟩
     simp only [Instr.sliceBound, LV.den, V1.den, SV.den, AV.den, E.den, asIntOf, Sem.run_bind, Sem.run_pure, Result.andThen, if_pos hc]
    ·cases hb
   ·cases hb
  have bounds : ∀ (isS : Bool) (len cap uu ll : Nat), boundOf look hiO len = some uu → boundOf look lo 0 = some ll → mx = none → ll ≤ uu → uu ≤ cap →
    (Instr.sliceBounds isS len cap (lo.map a.eval) (hiO.map a.eval) (mx.map a.eval)).run P w = .ok (ll, uu, cap) w := by
   intro isS len cap uu ll hh hl' hmx hlh hhc
   rw [hmx]
   unfold Instr.sliceBounds
   have H : ∀ c, (match hiO.map a.eval with | some v => Instr.sliceBound v cap c | none => pure len : Sem Nat).run P w = .ok uu w := fun c => by
    cases hiv : hiO with
    | none => rw [hiv] at hh; simp [boundOf] at hh; subst hh; rfl
    | some z => rw [hiv] at hh; exact bnd z (by simp [ho, Op.operands, hiv]) len uu hh cap c hhc
   have L : ∀ c, (match lo.map a.eval with | some v => Instr.sliceBound v uu c | none => pure 0 : Sem Nat).run P w = .ok ll w := fun c => by
    cases lov : lo with
    | none => rw [lov] at hl'; simp [boundOf] at hl'; subst hl'; rfl
    | some z => rw [lov] at hl'; exact bnd z (by simp [ho, Op.operands, lov]) 0 ll hl' uu c hlh
   have H1 := H (if isS then .sliceAcap else .sliceAlen)
   have L1 := L .sliceB
   cases hiv : hiO with
   | none =>
    rw [hiv] at H1
    cases lov : lo with
    | none => rw [lov] at L1; simp [Result.andThen] at H1 L1 ⊢; exact ⟨L1, H1⟩
    | some y => rw [lov] at L1; simp [Result.andThen] at H1 L1 ⊢; subst H1; simp [L1]
   | some z =>
    rw [hiv] at H1
    cases lov : lo with
    | none => rw [lov] at L1; simp [Result.andThen] at H1 L1 ⊢; simp [H1, L1]
    | some y => rw [lov] at L1; simp [Result.andThen] at H1 L1 ⊢; simp [H1, L1]
  split at h
  ·cases h
  ·rename_i hmx
   have hmx' : mx = none := by simpa using hmx
   split at h
   ·rename_i n elem b off hd hx
    have he := opnd_eq (operand_slots hl (x := x) (by simp [ho, Op.operands])) hx (by simp)
    split at h
    ·rename_i e h1 l1 hi1 hh hl1
     split at h
     ·rename_i hc
      cases h
      refine ⟨by simp, val_out (ex_value (s := Instr.sliceAt t (a.eval x) (lo.map a.eval) (hiO.map a.eval) (mx.map a.eval)) (by simp only [execOp, ho]) ?_) rfl rfl⟩
      rw [he]
      unfold Instr.sliceAt
      simp only [Sem.run_bind, run_underlying hd, Result.andThen, LV.den, V1.den, SV.den, AV.den, Instr.sureAddr, Sem.run_pure, bounds false n n h1 l1 hh hl1 hmx' hc.1 hc.2, run_sizeOf hi1, add_none]
      split <;> rfl
     ·cases h
    ·cases h
   ·rename_i elem b off len cap hd hx
    have he := opnd_eq (operand_slots hl (x := x) (by simp [ho, Op.operands])) hx (by simp)
    split at h
    ·rename_i e h1 l1 hi1 hh hl1
     split at h
     ·rename_i hc
      cases h
      refine ⟨by simp, val_out (ex_value (s := Instr.sliceAt t (a.eval x) (lo.map a.eval) (hiO.map a.eval) (mx.map a.eval)) (by simp only [execOp, ho]) ?_) rfl rfl⟩
      rw [he]
      unfold Instr.sliceAt Instr.slice
      have hb := bounds true len cap h1 l1 hh hl1 hmx' hc.1 hc.2
      simp only [Sem.run_bind, run_underlying hd, Result.andThen, LV.den, V1.den, SV.den, AV.den, Sem.run_pure, hb, run_sizeOf hi1, Option.map_some, add_none]
      split <;> rfl
     ·cases h
    ·cases h
   ·rename_i elem b off len c d o2 hd hx
    have he := opnd_eq (operand_slots hl (x := x) (by simp [ho, Op.operands])) hx (by simp)
    split at h
    ·rename_i e h1 l1 cs hi1 hh hl1 hcs
     split at h
     ·rename_i hc
      obtain ⟨q1, q2, q3, q4, q5, q6⟩ := hc
      cases h
      obtain ⟨r1, _⟩ := row_spec (hm b (by simp) cs hcs) (eq_of_beq q5)
      have hcap : d + len ≤ ρ c := Nat.le_of_mul_le_mul_right (Nat.le_trans q6 r1) q3
      refine ⟨by simp, val_out (ex_value (s := Instr.sliceAt t (a.eval x) (lo.map a.eval) (hiO.map a.eval) (mx.map a.eval)) (by simp only [execOp, ho]) ?_) rfl rfl⟩
      rw [he]
      unfold Instr.sliceAt Instr.slice
      have hb := bounds true len (ρ c - d) h1 l1 hh hl1 hmx' q1 (by omega)
      simp only [Sem.run_bind, run_underlying hd, Result.andThen, LV.den, V1.den, SV.den, AV.den, Sem.run_pure, hb, run_sizeOf hi1, Option.map_some, add_none]
      have es : ρ c - d - l1 = ρ c - (d + l1) := by omega
      by_cases hcl : ρ c - d = l1
      ·rw [if_pos hcl]
       have e1 : h1 - l1 = 0 ∧ ρ c = d + l1 := by omega
       simp only [es, if_pos e1]
       congr 3
       by_cases hl0 : l1 = 0
       ·subst hl0
        rw [if_pos (by omega), if_pos rfl]
       ·rw [if_neg (by omega), if_neg hl0]
      ·rw [if_neg hcl]
       have e1 : ¬ (h1 - l1 = 0 ∧ ρ c = d + l1) := by omega
       have e2 : ¬ (len = 0 ∧ ρ c = d) := by omega
       simp only [es, if_neg e1, if_neg e2]
     ·cases h
    ·cases h
   ·cases h
 ·-- extract
  rename_i x i ho
  split at h
  ·rename_i vs hx
   have he := opnd_eq (operand_slots hl (x := x) (by simp [ho, Op.operands])) hx (by simp)
   obtain ⟨v, hv, rfl⟩ := Option.map_eq_some_iff.1 h
   refine ⟨by simp, val_out (ex_value (s := Instr.extract (a.eval x) i) (by simp only [execOp, ho]) ?_) rfl rfl⟩
   rw [he]
   simp [Instr.extract, LV.den, hv]
  ·cases h
 ·-- call
  rename_i c ho
  have hops : ∀ x ∈ c.args.toList, ∀ t, x = .tmp t → RV ε ρ (look t) (a.tmps.getD t undef) := fun x hx t ht =>
   hl t (by rw [ho]; simp only [Op.operands, Call.operands]; rw [← ht]; exact Array.mem_append_right _ (by simpa using hx))
  split at h
  ·-- len
   rename_i hc
   have hex : execOp a.eval o = (do pure (.value (← Builtin.len_ c.argTypes o.type (c.args.map a.eval)))) := by
    simp only [execOp, ho, resolve, hc]; rfl
   split at h
   ·rename_i t x ht hx
    have hmem : x ∈ c.args.toList := by simpa using Array.mem_of_getElem? hx
    have hget : opnd look x ≠ .bad → (c.args.map a.eval)[0]? = some ((opnd look x).den ε ρ) := fun hb => by
     rw [Array.getElem?_map, hx]; exact congrArg some (opnd_den (hops x hmem) hb)
    split at h
    ·rename_i e b off n cp hd hv
     cases h
     refine ⟨by simp, val_out (ex_value hex ?_) rfl rfl⟩
     rw [hv] at hget
     exact run_len_sl hd _ _ ht (hget (by simp))
    ·rename_i e hd hv
     cases h
     refine ⟨by simp, val_out (ex_value hex ?_) rfl rfl⟩
     rw [hv] at hget
     exact run_len_sl hd _ _ ht (hget (by simp))
    ·rename_i e i hd hv
     cases h
     refine ⟨by simp, val_out (ex_value hex ?_) rfl rfl⟩
     rw [hv] at hget
     exact run_len_sl hd _ _ ht (hget (by simp))
    ·rename_i e b off n c d o2 hd hv
     cases h
     refine ⟨by simp, val_out (ex_value hex ?_) rfl rfl⟩
     rw [hv] at hget
     exact run_len_sl hd _ _ ht (hget (by simp))
    ·rename_i n e v hd hv
     cases h
     refine ⟨by simp, val_out (ex_value hex ?_) rfl rfl⟩
     rw [hv] at hget
     exact run_len_arr hd _ _ ht (hget (by simp))
    ·cases h
   ·cases h
  ·-- append
   rename_i hc
   have hex : execOp a.eval o = (do pure (.value (← Builtin.append_ c.argTypes o.type (c.args.map a.eval)))) := by
    simp only [execOp, ho, resolve, hc]; rfl
   obtain ⟨h1, h2, h3, v, w', h4, h5⟩ := append_out (ε := ε) (ρ := ρ) (w := w) (base := w0.heap.size) (ty := o.type) h hid hw.size hm
   have em := map_opnd (ε := ε) (ρ := ρ) (a := a) (look := look) c.args.toList hops h2
   refine ⟨h3, OpOk.value (ex_value hex ?_) h5⟩
   have e0 : c.args.map a.eval = ((c.args.toList.map (opnd look)).map (LV.den ε ρ)).toArray := by
    apply Array.ext'
    rw [Array.toList_map, em]
   rw [e0]
   exact h4
  ·-- max
   rename_i hc
   have hex : execOp a.eval o = (do pure (.value (← Builtin.max_ c.argTypes o.type (c.args.map a.eval)))) := by
    simp only [execOp, ho, resolve, hc]; rfl
   split at h
   ·rename_i x rest hxs
    obtain ⟨h1, h2, h3, h4⟩ := pureOp_spec h
    obtain ⟨b1, b2⟩ := foldMM_bad _ _ h1
    have em := map_opnd (ε := ε) (ρ := ρ) (a := a) (look := look) c.args.toList hops (by rw [hxs]; intro y hy; exact (List.mem_cons.1 hy).elim (fun e => e ▸ b1) (b2 y))
    refine ⟨by simp [h3], val_out (ex_value hex ?_) h3 rfl⟩
    unfold Builtin.max_
    rw [Array.toList_map, em, hxs]
    rw [h2]
    exact foldMM_spec (f := fun x y => if y > x then y else x) mkMx_den (fun _ _ _ _ _ => rfl) rest x h1
   ·cases h
  ·-- min
   rename_i hc
   have hex : execOp a.eval o = (do pure (.value (← Builtin.min_ c.argTypes o.type (c.args.map a.eval)))) := by
    simp only [execOp, ho, resolve, hc]; rfl
   split at h
   ·rename_i x rest hxs
    obtain ⟨h1, h2, h3, h4⟩ := pureOp_spec h
    obtain ⟨b1, b2⟩ := foldMM_bad _ _ h1
    have em := map_opnd (ε := ε) (ρ := ρ) (a := a) (look := look) c.args.toList hops (by rw [hxs]; intro y hy; exact (List.mem_cons.1 hy).elim (fun e => e ▸ b1) (b2 y))
    refine ⟨by simp [h3], val_out (ex_value hex ?_) h3 rfl⟩
    unfold Builtin.min_
    rw [Array.toList_map, em, hxs]
    rw [h2]
    exact foldMM_spec (f := fun x y => if y < x then y else x) mkMn_den (fun _ _ _ _ _ => rfl) rest x h1
   ·cases h
  ·-- a function
   rename_i f hc
   split at h
   ·rename_i g fi cap hf
    have hfe := opnd_eq (ε := ε) (ρ := ρ) (a := a) (look := look) (x := f) (fun t ht => hl t (by rw [ho]; simp only [Op.operands, Call.operands, hc]; rw [← ht]; simp)) hf (by simp)
    have := call_out (o := o) (a := a) hsp hsub h hid hob hpc hw hm hi (fun hargs => by
     have em := map_opnd (ε := ε) (ρ := ρ) (a := a) (look := look) c.args.toList hops (fun x hx => hargs x (List.mem_append_right _ (List.mem_append_left _ hx)))
     simp only [execOp, ho, resolve, hc, hfe, LV.den, V1.den, SV.den, Deferred.ofValue, Sem.run_bind, Sem.run_pure, Result.andThen, invoke]
     congr 2
     apply Array.ext'
     rw [List.map_append, List.map_append, ← em]
     simp [LV.den, V1.den, SV.den]
     rfl)
    exact this
   ·cases h
  ·cases h
 ·cases h
end
end SX
end
section
namespace SX
open Go.RowKit
variable {P : Program} {ε : Env}
def latest {α : Type} (f : Nat → Option α) : Nat → Option α
 | 0 => none
 | n + 1 => match f n with | some x => some x | none => latest f n
theorem latest_congr {α : Type} {f g : Nat → Option α} : ∀ n, (∀ j, j < n → f j = g j) → latest f n = latest g n
 | 0, _ => rfl
 | n + 1, h => by simp only [latest, h n (by omega), latest_congr n fun j hj => h j (by omega)]
theorem latest_below {α : Type} {f : Nat → Option α} {i : Nat} : ∀ n, i ≤ n → (∀ j, i ≤ j → j < n → f j = none) → latest f n = latest f i
 | 0, h, _ => by obtain rfl : i = 0 := by omega
                 rfl
 | n + 1, h, hn => by
  by_cases e : i = n + 1
  ·subst e; rfl
  ·rw [latest, hn n (by omega) (by omega)]
   exact latest_below n (by omega) fun j h1 h2 => hn j h1 (by omega)
theorem latest_at {α : Type} {f : Nat → Option α} {i : Nat} {x : α} : ∀ n, i < n → f i = some x → (∀ j, i < j → j < n → f j = none) → latest f n = some x
 | 0, h, _, _ => by omega
 | n + 1, h, hx, hn => by
  by_cases e : i = n
  ·subst e; simp [latest, hx]
  ·rw [latest, hn n (by omega) (by omega)]
   exact latest_at n (by omega) hx fun j h1 h2 => hn j h1 (by omega)
theorem latest_some {α : Type} {f : Nat → Option α} {x : α} : ∀ n, latest f n = some x → ∃ j, j < n ∧ f j = some x
 | 0, h => by cases h
 | n + 1, h => by
  rw [latest] at h
  split at h
  ·rename_i y hy; cases h; exact ⟨n, by omega, hy⟩
  ·obtain ⟨j, h1, h2⟩ := latest_some n h; exact ⟨j, by omega, h2⟩
def wT (recs : List Rec) (t j : Nat) : Option LV := match recs[j]? with
 | some r => if r.dst = some t then some r.val else none
 | none => none
def wM (recs : List Rec) (b j : Nat) : Option Cells := match recs[j]? with
 | some r => r.upd.lookup b
 | none => none
def on {α : Type} (D : Nat → Prop) [DecidablePred D] (f : Nat → Option α) (j : Nat) : Option α := if D j then f j else none
section
variable (recs : List Rec) (st : St) (D : Nat → Prop) [DecidablePred D]
def lookD (t : Nat) : LV := if t < st.tmps.length then (latest (on D (wT recs t)) recs.length).getD (st.look t) else .bad
def atD (b : Nat) : Option Cells := match latest (on D (wM recs b)) recs.length with
 | some [] => none
 | some c => some c
 | none => st.at b
end
theorem St.apply_len (s : St) (r : Rec) : (s.apply r).tmps.length = s.tmps.length := by
 unfold St.apply St.put; cases r.dst <;> simp
theorem St.apply_look (s : St) (r : Rec) (t : Nat) (ht : t < s.tmps.length) : (s.apply r).look t = if r.dst = some t then r.val else s.look t := by
 unfold St.apply St.put St.look
 cases hd : r.dst with
 | none => simp
 | some d =>
  by_cases h : d = t
  ·subst h; simp [ht]
  ·simp [h]
theorem lookup_append {α : Type} (b : Nat) : ∀ (l m : List (Nat × α)), (l ++ m).lookup b = match l.lookup b with | some x => some x | none => m.lookup b
 | [], m => rfl
 | (k, x) :: l, m => by
  simp only [List.cons_append, List.lookup]
  split
  ·rfl
  ·exact lookup_append b l m
theorem St.apply_at (s : St) (r : Rec) (b : Nat) : (s.apply r).at b = match r.upd.lookup b with | some [] => none | some c => some c | none => s.at b := by
 have e : (s.put r.dst r.val).mem = s.mem := by unfold St.put; cases r.dst <;> rfl
 unfold St.apply St.at
 simp only [lookup_append, e]
 cases List.lookup b r.upd with
 | none => rfl
 | some c => cases c <;> rfl
theorem mem_insL {b c : Nat} {l : List Nat} : b ∈ insL c l ↔ b = c ∨ b ∈ l := by
 unfold insL
 split
 ·rename_i h
  constructor
  ·exact .inr
  ·rintro (rfl | h')
   ·exact List.contains_iff_mem.1 h
   ·exact h'
 ·exact List.mem_cons
theorem mem_addL {b : Nat} {l : List Nat} : ∀ {m : List Nat}, b ∈ addL m l ↔ b ∈ m ∨ b ∈ l
 | [] => by simp [addL]
 | c :: m => by
  have ih := mem_addL (b := b) (l := l) (m := m)
  unfold addL at ih ⊢
  rw [List.foldr_cons, mem_insL, ih, List.mem_cons, or_assoc]
theorem St.apply_wr (s : St) (r : Rec) (b : Nat) : b ∈ (s.apply r).wr ↔ b ∈ r.upd.map (·.1) ∨ b ∈ s.wr := by
 have e : (s.apply r).wr = addL (r.upd.map (·.1)) s.wr := by unfold St.apply; rfl
 rw [e]; exact mem_addL
theorem foldl_wr : ∀ (recs : List Rec) (st : St) (b : Nat), b ∈ (recs.foldl St.apply st).wr ↔ (∃ q ∈ recs, b ∈ q.upd.map (·.1)) ∨ b ∈ st.wr
 | [], st, b => by simp
 | r :: recs, st, b => by
  rw [List.foldl_cons, foldl_wr recs, St.apply_wr]
  constructor
  ·rintro (⟨q, h1, h2⟩ | h | h)
   ·exact .inl ⟨q, List.mem_cons_of_mem _ h1, h2⟩
   ·exact .inl ⟨r, List.mem_cons_self, h⟩
   ·exact .inr h
  ·rintro (⟨q, h1, h2⟩ | h)
   ·rcases List.mem_cons.1 h1 with rfl | h1
    ·exact .inr (.inl h2)
    ·exact .inl ⟨q, h1, h2⟩
   ·exact .inr (.inr h)
def lexSt (recs : List Rec) (st : St) (i : Nat) : St := (recs.take i).foldl St.apply st
theorem lexSt_succ {recs : List Rec} {st : St} {i : Nat} {r : Rec} (h : recs[i]? = some r) : lexSt recs st (i + 1) = (lexSt recs st i).apply r := by
 unfold lexSt
 rw [List.take_add_one, h]
 simp
theorem lexSt_len (recs : List Rec) (st : St) : ∀ i, (lexSt recs st i).tmps.length = st.tmps.length
 | 0 => rfl
 | i + 1 => by
  cases h : recs[i]? with
  | none =>
   have : lexSt recs st (i + 1) = lexSt recs st i := by unfold lexSt; rw [List.take_add_one, h]; simp
   rw [this]; exact lexSt_len recs st i
  | some r => rw [lexSt_succ h, St.apply_len]; exact lexSt_len recs st i
theorem lexSt_look (recs : List Rec) (st : St) (t : Nat) (ht : t < st.tmps.length) : ∀ i, i ≤ recs.length → (lexSt recs st i).look t = (latest (wT recs t) i).getD (st.look t)
 | 0, _ => rfl
 | i + 1, hi => by
  have h : recs[i]? = some recs[i] := List.getElem?_eq_getElem (by omega)
  rw [lexSt_succ h, St.apply_look _ _ _ (by rw [lexSt_len]; exact ht), latest, lexSt_look recs st t ht i (by omega)]
  simp only [wT, h]
  split <;> rfl
theorem lexSt_at (recs : List Rec) (st : St) (b : Nat) : ∀ i, i ≤ recs.length → (lexSt recs st i).at b = match latest (wM recs b) i with | some [] => none | some c => some c | none => st.at b
 | 0, _ => rfl
 | i + 1, hi => by
  have h : recs[i]? = some recs[i] := List.getElem?_eq_getElem (by omega)
  rw [lexSt_succ h, St.apply_at, latest, lexSt_at recs st b i (by omega)]
  simp only [wM, h]
  cases (recs[i]).upd.lookup b with
  | none => rfl
  | some c => cases c <;> rfl
def DidAt (P : Program) (ε : Env) (w0 : World) (sub : Sub) (sp : Nat) (ops : Array Oper) (nid : Nat) (recs : List Rec) (st : St) (i : Nat) (o : Oper) (rc : Rec) : Prop :=
 rc.dst = o.dst ∧
 ((((o.guard = none) ∨ ∃ j want t e, o.guard = some (j, want) ∧ (ops[j]?).bind (·.dst) = some t ∧ (lexSt recs st i).look t = .v (.s (.a (.bool e))) ∧ (e.den ε).2 = want) ∧
     ∃ pc dec nv r, (pc.den ε).2 = true ∧ (∀ p ∈ dec, (p.1.den ε).2 = p.2) ∧ evOp P sub sp (nid + i * sp) pc (lexSt recs st i).look (lexSt recs st i).at nv dec o = some r ∧ rc = ⟨o.dst, r.val, r.fp, r.upd⟩ ∧ ∀ ob ∈ r.obs, ob.ok P ε w0) ∨
  ((∃ j want t, o.guard = some (j, want) ∧ (ops[j]?).bind (·.dst) = some t ∧ ((∃ e, (lexSt recs st i).look t = .v (.s (.a (.bool e))) ∧ (e.den ε).2 ≠ want) ∨ (lexSt recs st i).look t = .tup [])) ∧
   rc = ⟨o.dst, .tup [], [], []⟩))
theorem DidAt.shift {w0 : World} {sub : Sub} {sp : Nat} {ops : Array Oper} {nid : Nat} {recs recs' : List Rec} {st st' : St} {i i' nid' : Nat} {o : Oper} {rc : Rec}
  (h : DidAt P ε w0 sub sp ops nid recs st i o rc) (hl : lexSt recs st i = lexSt recs' st' i') (hn : nid + i * sp = nid' + i' * sp) : DidAt P ε w0 sub sp ops nid' recs' st' i' o rc := by
 unfold DidAt at *
 rw [← hl, ← hn]
 exact h
def Ops.path (ε : Env) : Ops → Option (List Rec × St)
 | .done st _ => some ([], st)
 | .op r _ rest => (rest.path ε).map fun p => (r :: p.1, p.2)
 | .fork e x y => if (e.den ε).2 then x.path ε else y.path ε
 | .none => Option.none
theorem evOps_cons {sub : Sub} {sp : Nat} {ops : Array Oper} {o : Oper} {rest : List Oper} {id : Nat} {pc : E} {dec : List (E × Bool)} {st : St} {nv : Nat} :
  evOps P sub sp ops (o :: rest) id pc dec st nv =
  (let run (pc : E) (dec : List (E × Bool)) (nv : Nat) : Ops := match evOp P sub sp id pc st.look st.at nv dec o with
   | some r => .op ⟨o.dst, r.val, r.fp, r.upd⟩ r.obs (evOps P sub sp ops rest (id + sp) pc dec (st.apply ⟨o.dst, r.val, r.fp, r.upd⟩) r.nv)
   | none => .none
  let skip (pc : E) (dec : List (E × Bool)) (nv : Nat) : Ops := .op ⟨o.dst, .tup [], [], []⟩ [] (evOps P sub sp ops rest (id + sp) pc dec (st.apply ⟨o.dst, .tup [], [], []⟩) nv)
  match o.guard with
  | none => run pc dec nv
  | some (j, want) => match ((ops[j]?).bind (·.dst)).map st.look with
   | some (.v (.s (.a (.bool e0)))) => match decided dec e0 with
    | some b => if b == want then run pc dec nv else skip pc dec nv
    | none => match under pc e0 with
     | .blit b => if b == want then run pc dec nv else skip pc dec nv
     | e => if want then
      let x := run (mkIf e pc (.blit false)) ((e0, true) :: dec) nv
      .fork e x (skip (mkIf e (.blit false) pc) ((e0, false) :: dec) x.nv)
     else
      let x := skip (mkIf e pc (.blit false)) ((e0, true) :: dec) nv
      .fork e x (run (mkIf e (.blit false) pc) ((e0, false) :: dec) x.nv)
   | some (.tup []) => skip pc dec nv
   | _ => .none) := by
 conv => lhs; unfold evOps
 simp only [fLV_eq, fM_eq, fNs_eq, applyK_eq, fE_eq]
 rfl
theorem evOps_spec {w0 : World} {sub : Sub} {sp : Nat} {ops : Array Oper} : ∀ {l : List Oper} {nid : Nat} {pc : E} {dec : List (E × Bool)} {st : St} {nv : Nat} {recs : List Rec} {st' : St},
  (evOps P sub sp ops l nid pc dec st nv).path ε = some (recs, st') → (∀ ob ∈ (evOps P sub sp ops l nid pc dec st nv).obs, ob.ok P ε w0) → (pc.den ε).2 = true → (∀ p ∈ dec, (p.1.den ε).2 = p.2) →
  recs.length = l.length ∧ st' = recs.foldl St.apply st ∧ ∀ i o, l[i]? = some o → ∃ rc, recs[i]? = some rc ∧ DidAt P ε w0 sub sp ops nid recs st i o rc
 | [], nid, pc, dec, st, nv, recs, st', h, _, _, _ => by
  simp only [evOps, Ops.path] at h
  cases h
  exact ⟨rfl, rfl, fun i o h => by simp at h⟩
 | o :: l, nid, pc, dec, st, nv, recs, st', h, hob, hpc, hdec => by
  have go : ∀ (rc : Rec) (pc : E) (dec : List (E × Bool)) (nv : Nat) (obs : List Ob), (pc.den ε).2 = true → (∀ p ∈ dec, (p.1.den ε).2 = p.2) →
    (Ops.op rc obs (evOps P sub sp ops l (nid + sp) pc dec (st.apply rc) nv)).path ε = some (recs, st') → (∀ ob ∈ (Ops.op rc obs (evOps P sub sp ops l (nid + sp) pc dec (st.apply rc) nv)).obs, ob.ok P ε w0) →
    (∀ recs' : List Rec, DidAt P ε w0 sub sp ops nid (rc :: recs') st 0 o rc) →
    recs.length = (o :: l).length ∧ st' = recs.foldl St.apply st ∧ ∀ i o', (o :: l)[i]? = some o' → ∃ rc, recs[i]? = some rc ∧ DidAt P ε w0 sub sp ops nid recs st i o' rc := by
   intro rc pc dec nv obs hpc hdec hp ho hd
   simp only [Ops.path, Option.map_eq_some_iff] at hp
   obtain ⟨⟨recs1, st1⟩, he, heq⟩ := hp
   cases heq
   obtain ⟨h1, h2, h3⟩ := evOps_spec he (fun ob hb => ho ob (List.mem_append_right _ hb)) hpc hdec
   refine ⟨by simp [h1], by simp [h2], fun i o' hi => ?_⟩
   cases i with
   | zero =>
    obtain rfl : o = o' := by simpa using hi
    exact ⟨_, rfl, hd _⟩
   | succ i =>
    obtain ⟨rc', e1, e2⟩ := h3 i o' (by simpa using hi)
    exact ⟨rc', by simpa using e1, e2.shift (by simp [lexSt]) (by rw [Nat.succ_mul]; omega)⟩
  have run : ∀ (pc : E) (dec : List (E × Bool)) (nv : Nat) (T : Ops), T = (match evOp P sub sp nid pc st.look st.at nv dec o with
    | some r => .op ⟨o.dst, r.val, r.fp, r.upd⟩ r.obs (evOps P sub sp ops l (nid + sp) pc dec (st.apply ⟨o.dst, r.val, r.fp, r.upd⟩) r.nv)
    | none => .none) → (pc.den ε).2 = true → (∀ p ∈ dec, (p.1.den ε).2 = p.2) → T.path ε = some (recs, st') → (∀ ob ∈ T.obs, ob.ok P ε w0) →
    ((o.guard = none) ∨ ∃ j want t e, o.guard = some (j, want) ∧ (ops[j]?).bind (·.dst) = some t ∧ st.look t = .v (.s (.a (.bool e))) ∧ (e.den ε).2 = want) →
    recs.length = (o :: l).length ∧ st' = recs.foldl St.apply st ∧ ∀ i o', (o :: l)[i]? = some o' → ∃ rc, recs[i]? = some rc ∧ DidAt P ε w0 sub sp ops nid recs st i o' rc := by
   intro pc dec nv T hT hpc hdec hr ho hg
   split at hT
   ·rename_i r he
    subst hT
    exact go _ pc dec r.nv r.obs hpc hdec hr ho fun recs' => ⟨rfl, .inl ⟨hg, pc, dec, nv, r, hpc, hdec, by rw [Nat.zero_mul]; exact he, rfl, fun ob hb => ho ob (List.mem_append_left _ hb)⟩⟩
   ·subst hT; cases hr
  have skip : ∀ (pc : E) (dec : List (E × Bool)) (nv : Nat), (pc.den ε).2 = true → (∀ p ∈ dec, (p.1.den ε).2 = p.2) →
    (Ops.op ⟨o.dst, .tup [], [], []⟩ [] (evOps P sub sp ops l (nid + sp) pc dec (st.apply ⟨o.dst, .tup [], [], []⟩) nv)).path ε = some (recs, st') →
    (∀ ob ∈ (Ops.op ⟨o.dst, .tup [], [], []⟩ [] (evOps P sub sp ops l (nid + sp) pc dec (st.apply ⟨o.dst, .tup [], [], []⟩) nv)).obs, ob.ok P ε w0) →
    (∃ j want t, o.guard = some (j, want) ∧ (ops[j]?).bind (·.dst) = some t ∧ ((∃ e, st.look t = .v (.s (.a (.bool e))) ∧ (e.den ε).2 ≠ want) ∨ st.look t = .tup [])) →
    recs.length = (o :: l).length ∧ st' = recs.foldl St.apply st ∧ ∀ i o', (o :: l)[i]? = some o' → ∃ rc, recs[i]? = some rc ∧ DidAt P ε w0 sub sp ops nid recs st i o' rc := by
   intro pc dec nv hpc hdec hr ho hg
   exact go _ pc dec nv [] hpc hdec hr ho fun recs' => ⟨rfl, .inr ⟨hg, rfl⟩⟩
  rw [evOps_cons] at h hob
  dsimp only at h hob
  split at h
  ·rename_i hg
   simp only [hg] at hob
   exact run pc dec nv _ rfl hpc hdec h hob (.inl hg)
  ·rename_i j want hg
   simp only [hg] at hob
   split at h
   ·rename_i e0 he
    simp only [he] at hob
    obtain ⟨t, ht, hte⟩ := Option.map_eq_some_iff.1 he
    split at h
    ·rename_i b hb
     simp only [hb] at hob
     split at h
     ·rename_i hbw
      simp only [hbw, if_true] at hob
      obtain rfl : b = want := by simpa using hbw
      exact run pc dec nv _ rfl hpc hdec h hob (.inr ⟨j, b, t, e0, hg, ht, hte, decided_spec hdec hb⟩)
     ·rename_i hbw
      simp only [hbw, if_false, Bool.false_eq_true] at hob
      exact skip pc dec nv hpc hdec h hob ⟨j, want, t, hg, ht, .inl ⟨e0, hte, by rw [decided_spec hdec hb]; simpa using hbw⟩⟩
    ·rename_i hb
     simp only [hb] at hob
     have hund := under_den hpc e0
     split at h
     ·rename_i b hu
      simp only [hu] at hob
      have hb0 : (e0.den ε).2 = b := by rw [← hund, hu]; rfl
      split at h
      ·rename_i hbw
       simp only [hbw, if_true] at hob
       obtain rfl : b = want := by simpa using hbw
       exact run pc dec nv _ rfl hpc hdec h hob (.inr ⟨j, b, t, e0, hg, ht, hte, hb0⟩)
      ·rename_i hbw
       simp only [hbw, if_false, Bool.false_eq_true] at hob
       exact skip pc dec nv hpc hdec h hob ⟨j, want, t, hg, ht, .inl ⟨e0, hte, by rw [hb0]; simpa using hbw⟩⟩
     ·rename_i hnb
      split at hob
      ·rename_i b hu; exact absurd hu (hnb b)
      generalize under pc e0 = e at h hob hund
      have ht1 : ∀ c, (e0.den ε).2 = c → ∀ p ∈ (e0, c) :: dec, (p.1.den ε).2 = p.2 := fun c hc p hp => by
       rcases List.mem_cons.1 hp with rfl | hp
       ·exact hc
       ·exact hdec p hp
      split at h
      ·rename_i hw
       subst hw
       simp only [if_true, Ops.obs] at hob
       simp only [Ops.path] at h
       cases hc : (e.den ε).2
       ·simp only [hc, Bool.false_eq_true, if_false] at h
        rw [hc] at hund
        exact skip _ _ _ (by rw [mkIf_den, hc, if_neg (by simp)]; exact hpc) (ht1 _ hund.symm) h (fun ob hb => hob ob (List.mem_append_right _ hb)) ⟨j, true, t, hg, ht, .inl ⟨e0, hte, by rw [← hund]; simp⟩⟩
       ·simp only [hc, if_true] at h
        rw [hc] at hund
        exact run _ _ _ _ rfl (by rw [mkIf_den, hc, if_pos rfl]; exact hpc) (ht1 _ hund.symm) h (fun ob hb => hob ob (List.mem_append_left _ hb)) (.inr ⟨j, true, t, e0, hg, ht, hte, hund.symm⟩)
      ·rename_i hw
       obtain rfl : want = false := by simpa using hw
       simp only [Bool.false_eq_true, if_false, Ops.obs] at hob
       simp only [Ops.path] at h
       cases hc : (e.den ε).2
       ·simp only [hc, Bool.false_eq_true, if_false] at h
        rw [hc] at hund
        exact run _ _ _ _ rfl (by rw [mkIf_den, hc, if_neg (by simp)]; exact hpc) (ht1 _ hund.symm) h (fun ob hb => hob ob (List.mem_append_right _ hb)) (.inr ⟨j, false, t, e0, hg, ht, hte, hund.symm⟩)
       ·simp only [hc, if_true] at h
        rw [hc] at hund
        exact skip _ _ _ (by rw [mkIf_den, hc, if_pos rfl]; exact hpc) (ht1 _ hund.symm) h (fun ob hb => hob ob (List.mem_append_left _ hb)) ⟨j, false, t, hg, ht, .inl ⟨e0, hte, by rw [← hund]; simp⟩⟩
   ·rename_i he
    simp only [he] at hob
    obtain ⟨t, ht, hte⟩ := Option.map_eq_some_iff.1 he
    exact skip pc dec nv hpc hdec h hob ⟨j, want, t, hg, ht, .inr hte⟩
   ·cases h
end SX
end
end Go.Proofs.Ytfgfnjckklldbaa
