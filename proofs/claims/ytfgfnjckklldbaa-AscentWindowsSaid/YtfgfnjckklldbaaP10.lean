/- Packed: SxS SxT SxU SxV SxW. -/
import Derived.Test.YtfgfnjckklldbaaP9
set_option linter.unusedVariables false
set_option linter.unusedSimpArgs false
namespace Go.Proofs.Ytfgfnjckklldbaa
section
namespace SX
open Go.RowKit
variable {P : Program} {ε : Env}
def bef (bs : List Nat) (i j : Nat) : Prop := (bs.getD i 0).testBit j = true
structure RegOk (ops : Array Oper) (recs : List Rec) (bs : List Nat) (base sp : Nat) (i : Nat) (o : Oper) (r : Rec) : Prop where
 sel : ∀ cs b, o.op ≠ .select cs b
 lt : ∀ j, bef bs i j → j < i
 edge : ∀ e ∈ o.after, Region.binds .any e = true → bef bs i e.on
 back : ∀ j, bef bs i j → ∃ e ∈ o.after, Region.binds .any e = true ∧ (e.on = j ∨ bef bs e.on j)
 apart : ∀ j, j < ops.size → j ≠ i → ∀ q, recs[j]? = some q → (∃ k ∈ changes q, k ∈ footprint ops o r) → bef bs i j ∨ bef bs j i
 names : ∀ b ∈ mentions r, b < base ∨ NW (base + i * sp) sp b ∨ ∃ j, bef bs i j ∧ NW (base + j * sp) sp b
 keys : ∀ u ∈ r.upd, u.1 < base ∨ NW (base + i * sp) sp u.1 ∨ ∃ j, bef bs i j ∧ NW (base + j * sp) sp u.1
theorem testBit_shl (k j : Nat) : (1 <<< k).testBit j = decide (k = j) := by
 rw [Nat.shiftLeft_eq, Nat.one_mul, Nat.testBit_two_pow]
theorem maskS_bit {l : List Nat} {k : Nat} (h : k ∈ l) : (maskS l).testBit (squeeze k) = true := by
 have key : ∀ (l : List Nat) (m : Nat), (m.testBit (squeeze k) = true ∨ k ∈ l) → (l.foldl (fun m k => m ||| 1 <<< squeeze k) m).testBit (squeeze k) = true := by
  intro l
  induction l with
  | nil => intro m h; simpa using h
  | cons x l ih =>
   intro m h
   rw [List.foldl_cons]
   refine ih _ ?_
   rcases h with h | h
   ·left; rw [Nat.testBit_or, h, Bool.true_or]
   ·rcases List.mem_cons.1 h with rfl | h
    ·left; rw [Nat.testBit_or, testBit_shl]; simp
    ·exact .inr h
 exact key l 0 (.inr h)
theorem bmOf_bit {bm : List Nat} {o : Oper} {j : Nat} : (bmOf bm o).testBit j = true ↔ ∃ e ∈ o.after, Region.binds .any e = true ∧ (e.on = j ∨ bef bm e.on j) := by
 have key : ∀ (l : List _) (m : Nat), (l.foldl (fun m (e : Edge) => if Region.binds .any e then m ||| (1 <<< e.on) ||| bm.getD e.on 0 else m) m).testBit j = true ↔
   m.testBit j = true ∨ ∃ e ∈ l, Region.binds .any e = true ∧ (e.on = j ∨ bef bm e.on j) := by
  intro l
  induction l with
  | nil => intro m; simp
  | cons x l ih =>
   intro m
   rw [List.foldl_cons, ih]
   split
   ·rename_i hb
    rw [Nat.testBit_or, Nat.testBit_or, testBit_shl]
    simp only [Bool.or_eq_true, decide_eq_true_eq, List.mem_cons]
    constructor
    ·rintro (((h | h) | h) | ⟨e, h1, h2⟩)
     ·exact .inl h
     ·exact .inr ⟨x, .inl rfl, hb, .inl h⟩
     ·exact .inr ⟨x, .inl rfl, hb, .inr h⟩
     ·exact .inr ⟨e, .inr h1, h2⟩
    ·rintro (h | ⟨e, rfl | h1, h2, h3⟩)
     ·exact .inl (.inl (.inl h))
     ·rcases h3 with h3 | h3
      ·exact .inl (.inl (.inr h3))
      ·exact .inl (.inr h3)
     ·exact .inr ⟨e, h1, h2, h3⟩
   ·rename_i hb
    constructor
    ·rintro (h | ⟨e, h1, h2⟩)
     ·exact .inl h
     ·exact .inr ⟨e, List.mem_cons_of_mem _ h1, h2⟩
    ·rintro (h | ⟨e, h1, h2, h3⟩)
     ·exact .inl h
     ·rcases List.mem_cons.1 h1 with rfl | h1
      ·exact absurd h2 hb
      ·exact .inr ⟨e, h1, h2, h3⟩
 have := key o.after.toList 0
 unfold bmOf
 rw [this]
 simp
theorem apartFrom_acc {bi s : Nat} : ∀ (k j : Nat) (cs fs : List Nat) (c' f' : Nat), (c'.testBit s = true → (apartFrom bi j k cs fs c' f').1.testBit s = true) ∧ (f'.testBit s = true → (apartFrom bi j k cs fs c' f').2.testBit s = true)
 | 0, j, cs, fs, c', f' => by simp [apartFrom]
 | k + 1, j, [], fs, c', f' => by simp [apartFrom]
 | k + 1, j, _ :: _, [], c', f' => by simp [apartFrom]
 | k + 1, j, c :: cs, f :: fs, c', f' => by
  unfold apartFrom
  split
  ·exact apartFrom_acc k _ _ _ _ _
  ·obtain ⟨h1, h2⟩ := apartFrom_acc (s := s) k (j + 1) cs fs (c' ||| c) (f' ||| f)
   exact ⟨fun h => h1 (by rw [Nat.testBit_or, h, Bool.true_or]), fun h => h2 (by rw [Nat.testBit_or, h, Bool.true_or])⟩
theorem apartFrom_bit {bi s m : Nat} : ∀ (k j : Nat) (cs fs : List Nat) (c' f' c f : Nat), m < k → cs[m]? = some c → fs[m]? = some f → bi.testBit (j + m) = false →
  (c.testBit s = true → (apartFrom bi j k cs fs c' f').1.testBit s = true) ∧ (f.testBit s = true → (apartFrom bi j k cs fs c' f').2.testBit s = true) := by
 intro k
 induction k generalizing m with
 | zero => intro j cs fs c' f' c f h; omega
 | succ k ih =>
  intro j cs fs c' f' c f hm hc hf hb
  cases cs with
  | nil => simp at hc
  | cons c0 cs =>
   cases fs with
   | nil => simp at hf
   | cons f0 fs =>
    cases m with
    | zero =>
     simp only [List.getElem?_cons_zero, Option.some.injEq] at hc hf
     subst hc hf
     rw [Nat.add_zero] at hb
     unfold apartFrom
     rw [hb]
     simp only [Bool.false_eq_true, if_false]
     obtain ⟨h1, h2⟩ := apartFrom_acc (bi := bi) (s := s) k (j + 1) cs fs (c' ||| c0) (f' ||| f0)
     exact ⟨fun h => h1 (by rw [Nat.testBit_or, h, Bool.or_true]), fun h => h2 (by rw [Nat.testBit_or, h, Bool.or_true])⟩
    | succ m =>
     unfold apartFrom
     have hb' : bi.testBit (j + 1 + m) = false := by rw [← hb]; congr 1; omega
     split
     ·exact ih _ _ _ _ _ _ _ (by omega) (by simpa using hc) (by simpa using hf) hb'
     ·exact ih _ _ _ _ _ _ _ (by omega) (by simpa using hc) (by simpa using hf) hb'
theorem land_zero {x y s : Nat} (h : (x &&& y == 0) = true) (h1 : x.testBit s = true) (h2 : y.testBit s = true) : False := by
 have : (x &&& y).testBit s = true := by rw [Nat.testBit_and, h1, h2]; rfl
 rw [eq_of_beq h] at this
 simp at this
theorem ownB_spec {base sp i b : Nat} (h : ownB base sp i b = true) : NW (base + i * sp) sp b := by
 unfold ownB at h
 simp only [Bool.and_eq_true, decide_eq_true_eq] at h
 exact h
theorem blockOk_spec {base sp i b : Nat} {bs : List Nat} (h : blockOk base sp i (bs.getD i 0) b = true) : b < base ∨ NW (base + i * sp) sp b ∨ ∃ j, bef bs i j ∧ NW (base + j * sp) sp b := by
 unfold blockOk at h
 simp only [Bool.or_eq_true, Bool.and_eq_true, decide_eq_true_eq] at h
 rcases h with (h | h) | ⟨h1, h2⟩
 ·exact .inl h
 ·exact .inr (.inl (ownB_spec h))
 ·exact .inr (.inr ⟨_, h2, ownB_spec h1⟩)
theorem regionOk_spec {ops : Array Oper} {recs : List Rec} {bs : List Nat} {base sp : Nat} (h : regionOk ops recs bs base sp = true) :
  recs.length = ops.size ∧ bs.length = ops.size ∧ ∀ i o r, ops[i]? = some o → recs[i]? = some r → RegOk ops recs bs base sp i o r := by
 unfold regionOk at h
 simp only [fNs_eq, fN_eq] at h
 simp only [Bool.and_eq_true, beq_iff_eq, List.all_eq_true, List.mem_range] at h
 obtain ⟨⟨h1, h2⟩, h3⟩ := h
 have lt : ∀ {i o}, ops[i]? = some o → i < ops.size := fun {i o} ho => by
  rcases Nat.lt_or_ge i ops.size with h | h
  ·exact h
  ·rw [Array.getElem?_eq_none h] at ho; cases ho
 have all : ∀ (i : Nat) o r, ops[i]? = some o → recs[i]? = some r → (match o.op with | .select _ _ => false | _ => true) = true ∧ bs.getD i 0 >>> i = 0 ∧ bmOf bs o = bs.getD i 0 ∧
   (∀ b ∈ mentions r, blockOk base sp i (bs.getD i 0) b = true) ∧ (∀ u ∈ r.upd, blockOk base sp i (bs.getD i 0) u.1 = true) ∧
   (i = 0 ∨ pairOk (apartFrom (bs.getD i 0) 0 i (recs.map fun r => maskS (changes r)) ((ops.toList.zip recs).map fun x => maskS (footprint ops x.1 x.2)) 0 0) ((recs.map fun r => maskS (changes r)).getD i 0) (((ops.toList.zip recs).map fun x => maskS (footprint ops x.1 x.2)).getD i 0) = true) := fun i o r ho hr => by
  have := h3 i (lt ho)
  simp only [ho, hr, Bool.and_eq_true, List.all_eq_true, beq_iff_eq, Bool.or_eq_true] at this
  obtain ⟨a1, ⟨⟨⟨a2, a3⟩, a4⟩, a5⟩, a6⟩ := this
  exact ⟨a1, a2, a3, a4, a5, a6⟩
 have cmI : ∀ (i : Nat) r, recs[i]? = some r → (recs.map (fun r => maskS (changes r)))[i]? = some (maskS (changes r)) := fun i r hr => by rw [List.getElem?_map, hr]; rfl
 have fmI : ∀ (i : Nat) o r, ops[i]? = some o → recs[i]? = some r → ((ops.toList.zip recs).map (fun x => maskS (footprint ops x.1 x.2)))[i]? = some (maskS (footprint ops o r)) := fun i o r ho hr => by
  have ho' : ops.toList[i]? = some o := by simpa using ho
  have hz : (ops.toList.zip recs)[i]? = some (o, r) := List.getElem?_zip_eq_some.2 ⟨ho', hr⟩
  rw [List.getElem?_map, hz]; rfl
 have pairs : ∀ (i j : Nat) o r p q, j < i → ops[i]? = some o → recs[i]? = some r → ops[j]? = some p → recs[j]? = some q → ¬ bef bs i j →
   (∀ k ∈ changes q, k ∉ footprint ops o r) ∧ (∀ k ∈ changes r, k ∉ footprint ops p q) := fun i j o r p q hji ho hr hp hq hb => by
  have hb' : (bs.getD i 0).testBit (0 + j) = false := by rw [Nat.zero_add]; unfold bef at hb; simpa using hb
  rcases (all i o r ho hr).2.2.2.2.2 with h0 | hpair
  ·omega
  ·unfold pairOk at hpair
   simp only [Bool.and_eq_true] at hpair
   have e1 : (recs.map fun r => maskS (changes r)).getD i 0 = maskS (changes r) := by rw [List.getD_eq_getElem?_getD, cmI i r hr]; rfl
   have e2 : ((ops.toList.zip recs).map fun x => maskS (footprint ops x.1 x.2)).getD i 0 = maskS (footprint ops o r) := by rw [List.getD_eq_getElem?_getD, fmI i o r ho hr]; rfl
   rw [e1, e2] at hpair
   refine ⟨fun k hk hk' => ?_, fun k hk hk' => ?_⟩
   ·exact land_zero hpair.1 ((apartFrom_bit i 0 _ _ 0 0 _ _ hji (cmI j q hq) (fmI j p q hp hq) hb').1 (maskS_bit hk)) (maskS_bit hk')
   ·exact land_zero hpair.2 ((apartFrom_bit i 0 _ _ 0 0 _ _ hji (cmI j q hq) (fmI j p q hp hq) hb').2 (maskS_bit hk')) (maskS_bit hk)
 refine ⟨h1, h2, fun i o r ho hr => ?_⟩
 obtain ⟨a1, a2, a3, a4, a5, a6⟩ := all i o r ho hr
 refine ⟨fun cs b e => (by rw [e] at a1; cases a1), fun j hj => ?_, fun e he hb => ?_, fun j hj => ?_, fun j hj hne q hq hk => ?_, fun b hb => blockOk_spec (a4 b hb), fun u hu => blockOk_spec (a5 u hu)⟩
 ·rcases Nat.lt_or_ge j i with h | h
  ·exact h
  ·exfalso
   unfold bef at hj
   have : ((bs.getD i 0) >>> i).testBit (j - i) = true := by rw [Nat.testBit_shiftRight, show i + (j - i) = j by omega]; exact hj
   rw [a2] at this
   simp at this
 ·unfold bef; rw [← a3]; exact bmOf_bit.2 ⟨e, he, hb, .inl rfl⟩
 ·unfold bef at hj; rw [← a3] at hj; exact bmOf_bit.1 hj
 ·obtain ⟨k, k1, k2⟩ := hk
  have hp : ops[j]? = some ops[j] := Array.getElem?_eq_getElem hj
  rcases Nat.lt_or_ge j i with h | h
  ·refine .inl (Classical.byContradiction fun hb => ?_)
   exact (pairs i j o r _ q h ho hr hp hq hb).1 k k1 k2
  ·refine .inr (Classical.byContradiction fun hb => ?_)
   exact (pairs j i _ q o r (by omega) hp hq ho hr hb).2 k k1 k2
theorem lookup_mem {α : Type} {b : Nat} {x : α} : ∀ {l : List (Nat × α)}, l.lookup b = some x → (b, x) ∈ l
 | [], h => by cases h
 | (k, y) :: l, h => by
  simp only [List.lookup] at h
  split at h
  ·rename_i hk; cases h; rw [eq_of_beq hk]; exact List.mem_cons_self
  ·exact List.mem_cons_of_mem _ (lookup_mem h)
theorem lookup_isSome {α : Type} {b : Nat} : ∀ {l : List (Nat × α)}, (∃ u ∈ l, u.1 = b) → (l.lookup b).isSome = true
 | [], ⟨u, hu, _⟩ => by cases hu
 | (k, y) :: l, ⟨u, hu, hb⟩ => by
  simp only [List.lookup]
  split
  ·rfl
  ·rename_i hk
   rcases List.mem_cons.1 hu with rfl | hu
   ·subst hb; simp at hk
   ·exact lookup_isSome ⟨u, hu, hb⟩
section
variable {ops : Array Oper} {recs : List Rec} {bs : List Nat} {st : St} {nid sp : Nat}
structure Inv (ε : Env) (w0 : World) (d : List Deferred) (recs : List Rec) (bs : List Nat) (st : St) (nid : Nat) (ρ0 : Nat → Nat) (w1 : World) (D : Nat → Prop) [DecidablePred D] (ρ : Nat → Nat) (a : Act) (w : World) : Prop where
 size : a.tmps.size = st.tmps.length
 defers : a.defers = d
 slots : ∀ t, RV ε ρ (lookD recs st D t) (a.tmps.getD t undef)
 blocks : ∀ b cs, atD recs st D b = some cs → Blk ε ρ w0.heap.size w b cs
 inj : ∀ b b', (atD recs st D b).isSome = true → (atD recs st D b').isSome = true → ρ b = ρ b' → b = b'
 world : Below w0.heap.size w0 w
 agree : ∀ b, b < nid → ρ b = ρ0 b
 ext : Ext w1 w (fun x => ∃ b, (∃ j q, D j ∧ recs[j]? = some q ∧ b ∈ q.upd.map (·.1)) ∧ (st.at b).isSome = true ∧ ρ0 b = x)
 fresh : ∀ b, (atD recs st D b).isSome = true → (st.at b).isSome = true ∨ w1.heap.size ≤ ρ b ∨ ∃ k, (∃ j q, D j ∧ recs[j]? = some q ∧ k ∈ q.upd.map (·.1)) ∧ (st.at k).isSome = true ∧ atD recs st D k = none ∧ ρ0 k = ρ b
 keep : ∀ b, b < nid → (atD recs st D b).isSome = true → (st.at b).isSome = true
 closed : ∀ j, D j → ∀ k, bef bs j k → D k
theorem agree_at {α : Type} {D : Nat → Prop} [DecidablePred D] {i : Nat} {o : Oper} {r : Rec} {f : Nat → Option α} (hok : RegOk ops recs bs nid sp i o r) (hlen : recs.length = ops.size) (hi : i < ops.size)
  (hlt : ∀ j k, bef bs j k → k < j) (hD : ¬ D i) (hcl : ∀ j, D j → ∀ k, bef bs j k → D k) (hpre : ∀ e ∈ o.after, Region.binds .any e = true → D e.on)
  (hf : ∀ j q, f j ≠ none → recs[j]? = some q → ∃ k ∈ changes q, k ∈ footprint ops o r) (hfn : ∀ j, recs[j]? = none → f j = none) :
  latest (on D f) recs.length = latest f i := by
 have hbs : ∀ j, bef bs i j → D j := fun j hj => by
  obtain ⟨e, he, hb, h⟩ := hok.back j hj
  rcases h with rfl | h
  ·exact hpre e he hb
  ·exact hcl _ (hpre e he hb) _ h
 have ord : ∀ j, j < ops.size → j ≠ i → f j ≠ none → bef bs i j ∨ bef bs j i := fun j hj hne hfj => by
  have hr : recs[j]? = some recs[j] := List.getElem?_eq_getElem (by omega)
  exact hok.apart j hj hne _ hr (hf j _ hfj hr)
 have e1 : latest (on D f) recs.length = latest (on (· < i) f) recs.length := by
  refine latest_congr _ fun j hj => ?_
  unfold on
  by_cases hfj : f j = none
  ·simp [hfj]
  ·by_cases hji : j = i
   ·subst hji; simp [hD]
   ·have := ord j (by omega) hji hfj
    by_cases hji2 : j < i
    ·have : D j := by
      rcases this with h | h
      ·exact hbs j h
      ·exact absurd (hlt j i h) (by omega)
     simp [this, hji2]
    ·have : ¬ D j := fun hd => by
      rcases this with h | h
      ·exact hji2 (hok.lt j h)
      ·exact hD (hcl j hd i h)
     simp [this, hji2]
 rw [e1, latest_below recs.length (by omega) (i := i) fun j h1 h2 => by simp [on, show ¬ j < i by omega]]
 exact latest_congr i fun j hj => by simp [on, hj]
theorem contains_mentions {r : Rec} {b : Nat} (h : b ∈ r.val.ids) : b ∈ mentions r := List.mem_append_left _ h
theorem upd_mentions {r : Rec} {b k : Nat} {cs : Cells} (h : r.upd.lookup k = some cs) (hb : b ∈ Cells.ids cs) : b ∈ mentions r :=
 List.mem_append_right _ (List.mem_flatMap.2 ⟨_, lookup_mem h, hb⟩)
theorem changes_dst {r : Rec} {t : Nat} (h : r.dst = some t) : 2 * t ∈ changes r := List.mem_append_left _ (by simp [h])
theorem changes_upd {r : Rec} {b : Nat} {cs : Cells} (h : r.upd.lookup b = some cs) : 2 * b + 1 ∈ changes r := List.mem_append_right _ (List.mem_map.2 ⟨_, lookup_mem h, rfl⟩)
theorem on_some {α : Type} {D : Nat → Prop} [DecidablePred D] {f : Nat → Option α} {j : Nat} {x : α} (h : on D f j = some x) : D j ∧ f j = some x := by
 unfold on at h; split at h
 ·exact ⟨by assumption, h⟩
 ·cases h
theorem lookD_cases (D : Nat → Prop) [DecidablePred D] (t : Nat) : lookD recs st D t = .bad ∨ lookD recs st D t = st.look t ∨ ∃ j q, D j ∧ recs[j]? = some q ∧ lookD recs st D t = q.val := by
 unfold lookD
 split
 ·cases hl : latest (on D (wT recs t)) recs.length with
  | none => exact .inr (.inl rfl)
  | some x =>
   obtain ⟨j, _, h2⟩ := latest_some _ hl
   obtain ⟨h3, h4⟩ := on_some h2
   unfold wT at h4
   split at h4
   ·rename_i q hq
    split at h4
    ·cases h4; exact .inr (.inr ⟨j, q, h3, hq, rfl⟩)
    ·cases h4
   ·cases h4
 ·exact .inl rfl
theorem atD_cases {D : Nat → Prop} [DecidablePred D] {b : Nat} {cs : Cells} (h : atD recs st D b = some cs) : st.at b = some cs ∨ ∃ j q, D j ∧ recs[j]? = some q ∧ q.upd.lookup b = some cs := by
 unfold atD at h
 split at h
 ·cases h
 ·rename_i c hnn hl
  cases h
  obtain ⟨j, _, h2⟩ := latest_some _ hl
  obtain ⟨h3, h4⟩ := on_some h2
  unfold wM at h4
  split at h4
  ·rename_i q hq; exact .inr ⟨j, q, h3, hq, h4⟩
  ·cases h4
 ·exact .inl h
theorem on_with {α : Type} {D : Nat → Prop} [DecidablePred D] {i : Nat} {f : Nat → Option α} {n : Nat} (hn : i < n) (hD : ¬ D i) (hb : f i ≠ none → ∀ j, i < j → j < n → D j → f j = none) :
  latest (on (fun j => D j ∨ j = i) f) n = match f i with | some x => some x | none => latest (on D f) n := by
 cases hf : f i with
 | some x =>
  refine latest_at n hn (by simp [on, hf]) fun j h1 h2 => ?_
  unfold on
  by_cases hd : D j
  ·simp [hd, hb (by simp [hf]) j h1 h2 hd]
  ·rw [if_neg (by intro h; rcases h with h | h; exact hd h; omega)]
 | none =>
  refine latest_congr n fun j hj => ?_
  unfold on
  by_cases hji : j = i
  ·subst hji; simp [hf]
  ·simp [hji]
end
end SX
end
section
namespace SX
open Go.RowKit
variable {P : Program} {ε : Env}
theorem at_look {st : St} {b : Nat} {cs : Cells} (h : st.at b = some cs) : st.mem.lookup b = some cs ∧ cs ≠ [] := by
 unfold St.at at h
 split at h
 ·cases h
 ·rename_i x hx
  exact ⟨h, fun e => by subst e; exact hx h⟩
theorem at_some {st : St} {b : Nat} (h : (st.at b).isSome = true) : (st.mem.lookup b).isSome = true := by
 obtain ⟨c, hc⟩ := Option.isSome_iff_exists.1 h
 rw [(at_look hc).1]; rfl
theorem look_at {st : St} {b : Nat} {cs : Cells} (h : st.mem.lookup b = some cs) (hn : cs ≠ []) : st.at b = some cs := by
 unfold St.at
 rw [h]
 cases cs with
 | nil => exact absurd rfl hn
 | cons x xs => rfl
theorem at_ids {st : St} {b : Nat} {cs : Cells} (h : st.at b = some cs) : b ∈ stIds st ∧ ∀ k ∈ Cells.ids cs, k ∈ stIds st := by
 have := lookup_mem (at_look h).1
 exact ⟨List.mem_append_right _ (List.mem_flatMap.2 ⟨_, this, List.mem_cons_self⟩), fun k hk => List.mem_append_right _ (List.mem_flatMap.2 ⟨_, this, List.mem_cons_of_mem _ hk⟩)⟩
theorem look_ids {st : St} {t k : Nat} (h : k ∈ (st.look t).ids) : k ∈ stIds st := by
 unfold St.look at h
 by_cases ht : t < st.tmps.length
 ·rw [List.getD_eq_getElem?_getD, List.getElem?_eq_getElem ht] at h
  exact List.mem_append_left _ (List.mem_flatMap.2 ⟨_, List.getElem_mem ht, h⟩)
 ·rw [List.getD_eq_getElem?_getD, List.getElem?_eq_none (by omega)] at h
  cases h
theorem NW_inj {base sp i j b : Nat} (h : NW (base + i * sp) sp b) (k : NW (base + j * sp) sp b) : i = j := by
 obtain ⟨h1, h2⟩ := h
 obtain ⟨k1, k2⟩ := k
 rcases Nat.lt_trichotomy i j with hlt | he | hlt
 ·have := Nat.mul_le_mul_right sp (show i + 1 ≤ j from hlt)
  rw [Nat.succ_mul] at this; omega
 ·exact he
 ·have := Nat.mul_le_mul_right sp (show j + 1 ≤ i from hlt)
  rw [Nat.succ_mul] at this; omega
theorem NW_ge {base sp i b : Nat} (h : NW (base + i * sp) sp b) : base ≤ b := by
 obtain ⟨h1, _⟩ := h; omega
section
variable {ops : Array Oper} {recs : List Rec} {bs : List Nat} {st : St} {nid sp : Nat} {w0 w1 w w' : World} {d : List Deferred} {ρ0 ρ ρ' : Nat → Nat} {D : Nat → Prop} [DecidablePred D] {a : Act} {i : Nat} {o : Oper} {r : Rec} {v : Value}
theorem inv_put (hR : ∀ i o r, ops[i]? = some o → recs[i]? = some r → RegOk ops recs bs nid sp i o r) (hlen : recs.length = ops.size)
  (hids : ∀ b ∈ stIds st, b < nid) (hI : Inv ε w0 d recs bs st nid ρ0 w1 D ρ a w) (ho : ops[i]? = some o) (hr : recs[i]? = some r) (hdst : r.dst = o.dst) (hD : ¬ D i)
  (hpre : ∀ k, bef bs i k → D k)
  (h1 : ∀ b, ¬ NW (nid + i * sp) sp b → ρ' b = ρ b) (h2 : v = r.val.den ε ρ') (h3 : ∀ u ∈ r.upd, Blk ε ρ' w0.heap.size w' u.1 u.2)
  (h5 : ∀ u ∈ r.upd, NW (nid + i * sp) sp u.1 → w.heap.size ≤ ρ' u.1 ∨ ∃ k, ¬ NW (nid + i * sp) sp k ∧ r.upd.lookup k = some [] ∧ ρ k = ρ' u.1)
  (h5' : ∀ u ∈ r.upd, ∀ u' ∈ r.upd, NW (nid + i * sp) sp u.1 → NW (nid + i * sp) sp u'.1 → ρ' u.1 = ρ' u'.1 → u.1 = u'.1)
  (h6 : Ext w w' (fun x => ∃ u ∈ r.upd, ¬ NW (nid + i * sp) sp u.1 ∧ ρ u.1 = x))
  (h7 : ∀ u ∈ r.upd, NW (nid + i * sp) sp u.1 ∨ (atD recs st D u.1).isSome = true) :
  Inv ε w0 d recs bs st nid ρ0 w1 (fun j => D j ∨ j = i) ρ' (a.put o.dst v) w' := by
 have hok := hR i o r ho hr
 have hi : i < ops.size := by
  rcases Nat.lt_or_ge i ops.size with h | h
  ·exact h
  ·rw [Array.getElem?_eq_none h] at ho; cases ho
 have rok : ∀ j q, recs[j]? = some q → ∃ oj, ops[j]? = some oj ∧ RegOk ops recs bs nid sp j oj q := fun j q hq => by
  have hj : j < ops.size := by
   rcases Nat.lt_or_ge j recs.length with h | h
   ·omega
   ·rw [List.getElem?_eq_none h] at hq; cases hq
  exact ⟨ops[j], Array.getElem?_eq_getElem hj, hR _ _ _ (Array.getElem?_eq_getElem hj) hq⟩
 have later : ∀ k, k ∈ footprint ops o r → ∀ j, i < j → j < recs.length → D j → ∀ q, recs[j]? = some q → k ∉ changes q := fun k hk j hij hj hd q hq hc => by
  rcases hok.apart j (by omega) (by omega) q hq ⟨k, hc, hk⟩ with h | h
  ·exact absurd (hok.lt j h) (by omega)
  ·exact hD (hI.closed j hd i h)
 have names : ∀ j q, D j → recs[j]? = some q → ∀ b ∈ mentions q, ¬ NW (nid + i * sp) sp b := fun j q hd hq b hb e => by
  obtain ⟨oj, _, hq2⟩ := rok j q hq
  rcases hq2.names b hb with h | h | ⟨j', h, h'⟩
  ·have := NW_ge e; omega
  ·have : j = i := NW_inj h e
   subst this; exact hD hd
  ·have : j' = i := NW_inj h' e
   subst this; exact hD (hI.closed j hd j' h)
 have new : ∀ b, NW (nid + i * sp) sp b → atD recs st D b = none := fun b e => by
  cases h : atD recs st D b with
  | none => rfl
  | some cs =>
   exfalso
   rcases atD_cases h with h | ⟨j, q, hd, hq, h⟩
   ·have := hids _ (at_ids h).1; have := NW_ge e; omega
   ·obtain ⟨oj, _, hq2⟩ := rok j q hq
    have hk := hq2.keys _ (lookup_mem h)
    dsimp only at hk
    rcases hk with g | g | ⟨j', g, g'⟩
    ·have := NW_ge e; omega
    ·have : j = i := NW_inj g e
     subst this; exact hD hd
    ·have : j' = i := NW_inj g' e
     subst this; exact hD (hI.closed j hd j' g)
 have wTi : ∀ t, wT recs t i = if r.dst = some t then some r.val else none := fun t => by simp [wT, hr]
 have wMi : ∀ b, wM recs b i = r.upd.lookup b := fun b => by simp [wM, hr]
 have slotW : ∀ t, t < st.tmps.length → lookD recs st (fun j => D j ∨ j = i) t = if r.dst = some t then r.val else lookD recs st D t := fun t ht => by
  unfold lookD
  rw [if_pos ht, if_pos ht, on_with (by omega) hD, wTi]
  ·by_cases hdt : r.dst = some t <;> simp [hdt]
  ·intro hne j h1 h2 hd
   cases hq : recs[j]? with
   | none => simp [wT, hq]
   | some q =>
    unfold wT
    rw [hq]
    dsimp only
    rw [if_neg]
    intro hqd
    have hdt : r.dst = some t := by rw [wTi] at hne; by_cases h : r.dst = some t; exact h; simp [h] at hne
    exact later (2 * t) (by unfold footprint; simp [hdt]) j h1 h2 hd q hq (changes_dst hqd)
 have blkW : ∀ b, atD recs st (fun j => D j ∨ j = i) b = match r.upd.lookup b with | some [] => none | some c => some c | none => atD recs st D b := fun b => by
  unfold atD
  rw [on_with (by omega) hD, wMi]
  ·cases r.upd.lookup b with
   | none => rfl
   | some c => cases c <;> rfl
  ·intro hne j h1 h2 hd
   cases hq : recs[j]? with
   | none => simp [wM, hq]
   | some q =>
    unfold wM
    rw [hq]
    dsimp only
    cases hl : q.upd.lookup b with
    | none => rfl
    | some c =>
     exfalso
     rw [wMi] at hne
     obtain ⟨c', hc'⟩ := Option.ne_none_iff_exists'.1 hne
     refine later (2 * b + 1) ?_ j h1 h2 hd q hq (changes_upd hl)
     unfold footprint
     refine List.mem_append_right _ (List.mem_map.2 ⟨_, lookup_mem hc', rfl⟩)
 have domW : ∀ b, (atD recs st (fun j => D j ∨ j = i) b).isSome = true → (NW (nid + i * sp) sp b ∧ ∃ u ∈ r.upd, u.1 = b) ∨ (¬ NW (nid + i * sp) sp b ∧ (atD recs st D b).isSome = true) := fun b hb => by
  rw [blkW] at hb
  cases hl : r.upd.lookup b with
  | some c =>
   rcases h7 _ (lookup_mem hl) with h | h
   ·exact .inl ⟨h, _, lookup_mem hl, rfl⟩
   ·exact .inr ⟨fun e => (by rw [new b e] at h; cases h), h⟩
  | none =>
   rw [hl] at hb
   exact .inr ⟨fun e => (by rw [new b e] at hb; cases hb), hb⟩
 have gone : ∀ k, r.upd.lookup k = some [] → ¬ NW (nid + i * sp) sp k → (atD recs st D k).isSome = true ∧ atD recs st (fun j => D j ∨ j = i) k = none := fun k hk hn => by
  refine ⟨(h7 _ (lookup_mem hk)).resolve_left hn, ?_⟩
  rw [blkW, hk]
 have stays : ∀ k, k < nid → atD recs st D k = none → atD recs st (fun j => D j ∨ j = i) k = none := fun k hkn hk => by
  rw [blkW]
  cases hl : r.upd.lookup k with
  | none => exact hk
  | some c =>
   exfalso
   rcases h7 _ (lookup_mem hl) with h | h
   ·have := NW_ge h; dsimp only at this; omega
   ·dsimp only at h; rw [hk] at h; cases h
 refine ⟨?_, ?_, ?_, ?_, ?_, ?_, ?_, ?_, ?_, ?_, ?_⟩
 ·rw [← hI.size]; unfold Act.put; cases o.dst <;> simp
 ·rw [← hI.defers]; unfold Act.put; cases o.dst <;> rfl
 ·intro t
  by_cases ht : t < st.tmps.length
  ·rw [slotW t ht]
   by_cases hdt : r.dst = some t
   ·rw [if_pos hdt]
    refine .inr ?_
    rw [← h2, ← hdst, hdt]
    have : t < a.tmps.size := by rw [hI.size]; exact ht
    simp [Act.put, Array.getD_eq_getD_getElem?, this]
   ·rw [if_neg hdt]
    have e1 : (a.put o.dst v).tmps.getD t undef = a.tmps.getD t undef := by
     rw [← hdst]
     unfold Act.put
     cases hd : r.dst with
     | none => rfl
     | some d0 =>
      have : d0 ≠ t := fun e => hdt (by rw [hd, e])
      simp [Array.getD_eq_getD_getElem?, Array.getElem?_setIfInBounds_ne this]
    rw [e1]
    refine (hI.slots t).congr fun b hb => (h1 b ?_).symm
    rcases lookD_cases (recs := recs) (st := st) D t with h | h | ⟨j, q, hd, hq, h⟩
    ·rw [h] at hb; cases hb
    ·rw [h] at hb; have := hids _ (look_ids hb); intro e; have := NW_ge e; omega
    ·rw [h] at hb; exact names j q hd hq b (contains_mentions hb)
  ·exact .inl (by unfold lookD; rw [if_neg ht])
 ·intro b cs hb
  rw [blkW] at hb
  cases hl : r.upd.lookup b with
  | some c =>
   rw [hl] at hb
   cases c with
   | nil => cases hb
   | cons x xs =>
    cases hb
    exact h3 _ (lookup_mem hl)
  | none =>
   rw [hl] at hb
   dsimp only at hb
   have hbk := hI.blocks b cs hb
   have hne : ¬ NW (nid + i * sp) sp b := fun e => by rw [new b e] at hb; cases hb
   refine (hbk.ext h6 ?_).congr (h1 b hne).symm fun k hk => (h1 k ?_).symm
   ·rintro ⟨u, hu, hun, hue⟩
    have hs := (h7 u hu).resolve_left hun
    have := hI.inj _ _ hs (by rw [hb]; rfl) hue
    subst this
    have := lookup_isSome ⟨u, hu, rfl⟩
    rw [hl] at this
    cases this
   ·rcases atD_cases hb with h | ⟨j, q, hd, hq, h⟩
    ·have := hids _ ((at_ids h).2 k hk); intro e; have := NW_ge e; omega
    ·exact names j q hd hq k (upd_mentions h hk)
 ·intro b b' hb hb' he
  rcases domW b hb with ⟨e1, u, hu, rfl⟩ | ⟨e1, f1⟩ <;> rcases domW b' hb' with ⟨e2, u', hu', rfl⟩ | ⟨e2, f2⟩
  ·exact h5' u hu u' hu' e1 e2 he
  ·exfalso
   rw [h1 b' e2] at he
   rcases h5 u hu e1 with h5a | ⟨k, k1, k2, k3⟩
   ·obtain ⟨cs, hcs⟩ := Option.isSome_iff_exists.1 f2
    have := (hI.blocks b' cs hcs).2.1
    omega
   ·obtain ⟨g1, g2⟩ := gone k k2 k1
    have := hI.inj k b' g1 f2 (k3.trans he)
    subst this
    rw [g2] at hb'; cases hb'
  ·exfalso
   rw [h1 b e1] at he
   rcases h5 u' hu' e2 with h5a | ⟨k, k1, k2, k3⟩
   ·obtain ⟨cs, hcs⟩ := Option.isSome_iff_exists.1 f1
    have := (hI.blocks b cs hcs).2.1
    omega
   ·obtain ⟨g1, g2⟩ := gone k k2 k1
    have := hI.inj k b g1 f1 (k3.trans he.symm)
    subst this
    rw [g2] at hb; cases hb
  ·rw [h1 b e1, h1 b' e2] at he
   exact hI.inj b b' f1 f2 he
 ·refine h6.below ?_ hI.world.size hI.world
  rintro x ⟨u, hu, hun, rfl⟩
  have hs := (h7 u hu).resolve_left hun
  obtain ⟨cs, hcs⟩ := Option.isSome_iff_exists.1 hs
  exact (hI.blocks _ cs hcs).1
 ·intro b hb
  rw [h1 b (fun e => by have := NW_ge e; omega)]; exact hI.agree b hb
 ·refine (hI.ext.trans h6).mono ?_
  rintro x hx (⟨b, ⟨j, q, hd, hq, hb⟩, h, h'⟩ | ⟨u, hu, hun, rfl⟩)
  ·exact ⟨b, ⟨j, q, .inl hd, hq, hb⟩, h, h'⟩
  ·have hs := (h7 u hu).resolve_left hun
   rcases hI.fresh _ hs with h | h | ⟨k, ⟨j, q, k1, k2, k3⟩, k4, k5, k6⟩
   ·obtain ⟨cs, hcs⟩ := Option.isSome_iff_exists.1 h
    exact ⟨u.1, ⟨i, r, .inr rfl, hr, List.mem_map.2 ⟨u, hu, rfl⟩⟩, h, (hI.agree _ (hids _ (at_ids hcs).1)).symm⟩
   ·omega
   ·exact ⟨k, ⟨j, q, .inl k1, k2, k3⟩, k4, k6⟩
 ·intro b hb
  have older : ∀ b', (atD recs st D b').isSome = true → (∀ k, k < nid → ((atD recs st D k).isSome = true → k ≠ b' ∨ atD recs st (fun j => D j ∨ j = i) b' = none)) → ∀ x, ρ b' = x → ((∃ j q, (D j ∨ j = i) ∧ recs[j]? = some q ∧ b' ∈ q.upd.map (·.1)) ∧ atD recs st (fun j => D j ∨ j = i) b' = none) →
    w1.heap.size ≤ x ∨ ∃ k, (∃ j q, (D j ∨ j = i) ∧ recs[j]? = some q ∧ k ∈ q.upd.map (·.1)) ∧ (st.at k).isSome = true ∧ atD recs st (fun j => D j ∨ j = i) k = none ∧ ρ0 k = x := by
   intro b' hb' _ x hx ⟨hw', hg'⟩
   rcases hI.fresh b' hb' with h | h | ⟨k, ⟨j, q, k1, k2, k3⟩, k4, k5, k6⟩
   ·obtain ⟨cs, hcs⟩ := Option.isSome_iff_exists.1 h
    exact .inr ⟨b', hw', h, hg', (hI.agree _ (hids _ (at_ids hcs).1)).symm.trans hx⟩
   ·exact .inl (by omega)
   ·obtain ⟨cs, hcs⟩ := Option.isSome_iff_exists.1 k4
    exact .inr ⟨k, ⟨j, q, .inl k1, k2, k3⟩, k4, stays k (hids _ (at_ids hcs).1) k5, k6.trans hx⟩
  rcases domW b hb with ⟨e1, u, hu, rfl⟩ | ⟨e1, f1⟩
  ·rcases h5 u hu e1 with h5a | ⟨k, k1, k2, k3⟩
   ·exact .inr (.inl (Nat.le_trans hI.ext.size h5a))
   ·obtain ⟨g1, g2⟩ := gone k k2 k1
    exact .inr (older k g1 (fun _ _ _ => .inr g2) _ k3 ⟨⟨i, r, .inr rfl, hr, List.mem_map.2 ⟨_, lookup_mem k2, rfl⟩⟩, g2⟩)
  ·rw [h1 b e1]
   rcases hI.fresh b f1 with h | h | ⟨k, ⟨j, q, k1, k2, k3⟩, k4, k5, k6⟩
   ·exact .inl h
   ·exact .inr (.inl h)
   ·obtain ⟨cs, hcs⟩ := Option.isSome_iff_exists.1 k4
    exact .inr (.inr ⟨k, ⟨j, q, .inl k1, k2, k3⟩, k4, stays k (hids _ (at_ids hcs).1) k5, k6⟩)
 ·intro b hb hs
  rcases domW b hs with ⟨e1, _⟩ | ⟨_, f1⟩
  ·have := NW_ge e1; omega
  ·exact hI.keep b hb f1
 ·intro j hj k hk
  rcases hj with hj | rfl
  ·exact .inl (hI.closed j hj k hk)
  ·exact .inl (hpre k hk)
end
end SX
end
section
namespace SX
open Go.RowKit
variable {P : Program} {ε : Env}
section
variable {sub : Sub} {ops : Array Oper} {pc : E} {dec : List (E × Bool)} {recs : List Rec} {bs : List Nat} {obs : List Ob} {st : St} {nid sp : Nat} {w0 w1 : World} {d : List Deferred} {ρ0 : Nat → Nat}
theorem Inv.congr {D D' : Nat → Prop} [DecidablePred D] [DecidablePred D'] {ρ : Nat → Nat} {a : Act} {w : World} (hD : ∀ j, D j ↔ D' j) (h : Inv ε w0 d recs bs st nid ρ0 w1 D ρ a w) : Inv ε w0 d recs bs st nid ρ0 w1 D' ρ a w := by
 have e : ∀ {α : Type} (f : Nat → Option α), on D f = on D' f := fun f => funext fun j => by
  unfold on; by_cases hj : D j
  ·rw [if_pos hj, if_pos ((hD j).1 hj)]
  ·rw [if_neg hj, if_neg fun h => hj ((hD j).2 h)]
 have eL : ∀ t, lookD recs st D t = lookD recs st D' t := fun t => by unfold lookD; rw [e]
 have eA : ∀ b, atD recs st D b = atD recs st D' b := fun b => by unfold atD; rw [e]
 exact ⟨h.size, h.defers, fun t => eL t ▸ h.slots t, fun b cs hb => h.blocks b cs (eA b ▸ hb), fun b b' hb hb' => h.inj b b' (eA b ▸ hb) (eA b' ▸ hb'), h.world, h.agree, h.ext.mono fun x _ ⟨b, ⟨j, q, hj, hq, hb⟩, h'⟩ => ⟨b, ⟨j, q, (hD j).1 hj, hq, hb⟩, h'⟩, fun b hb => (h.fresh b (eA b ▸ hb)).imp id fun h => h.imp id fun ⟨k, ⟨j, q, k1, k2, k3⟩, k4, k5, k6⟩ => ⟨k, ⟨j, q, (hD j).1 k1, k2, k3⟩, k4, eA k ▸ k5, k6⟩, fun b hb hs => h.keep b hb (eA b ▸ hs),
  fun j hj k hk => (hD k).1 (h.closed j ((hD j).2 hj) k hk)⟩
structure RegD (P : Program) (ε : Env) (w0 : World) (sub : Sub) (sp : Nat) (ops : Array Oper) (recs : List Rec) (bs : List Nat) (st : St) (nid : Nat) : Prop where
 pos : 0 < sp
 reg : ∀ i o r, ops[i]? = some o → recs[i]? = some r → RegOk ops recs bs nid sp i o r
 len : recs.length = ops.size
 lt : ∀ j k, bef bs j k → k < j
 ids : ∀ b ∈ stIds st, b < nid
 subok : SubOk P ε w0 sub
 did : ∀ i o, ops[i]? = some o → ∃ rc, recs[i]? = some rc ∧ DidAt P ε w0 sub sp ops nid recs st i o rc
theorem step_inv (hd : RegD P ε w0 sub sp ops recs bs st nid) {D : Nat → Prop} [DecidablePred D] {ρ : Nat → Nat} {a : Act} {w : World} (hI : Inv ε w0 d recs bs st nid ρ0 w1 D ρ a w) {i : Nat} {o : Oper}
  (ho : ops[i]? = some o) (hD : ¬ D i) (hpre : ∀ e ∈ o.after, Region.binds .any e = true → D e.on) {K : Act → World → Prop} {Q : Exit → Act → World → Prop}
  (hK : ∀ ρ' a' w', Inv ε w0 d recs bs st nid ρ0 w1 (fun j => D j ∨ j = i) ρ' a' w' → K a' w') : wpOp P ops Q i K a w := by
 obtain ⟨r, hr, hdid⟩ := hd.did i o ho
 have hok := hd.reg i o r ho hr
 have hi : i < ops.size := by
  rcases Nat.lt_or_ge i ops.size with h | h
  ·exact h
  ·rw [Array.getElem?_eq_none h] at ho; cases ho
 have hpre2 : ∀ k, bef bs i k → D k := fun k hk => by
  obtain ⟨e, he, hb, h⟩ := hok.back k hk
  rcases h with rfl | h
  ·exact hpre e he hb
  ·exact hI.closed _ (hpre e he hb) _ h
 have agT : ∀ t : Nat, t ∈ Go.Oper.looksAt ops o → RV ε ρ ((lexSt recs st i).look t) (a.tmps.getD t undef) := fun t ht => by
  by_cases hl : t < st.tmps.length
  ·have := hI.slots t
   unfold lookD at this
   rw [if_pos hl, agree_at hok hd.len hi hd.lt hD hI.closed hpre (f := wT recs t) (fun j q hne hq => by
    unfold wT at hne; rw [hq] at hne; dsimp only at hne
    by_cases hqd : q.dst = some t
    ·exact ⟨2 * t, changes_dst hqd, by unfold footprint Oper.looks; exact List.mem_append_left _ (List.mem_append_left _ (List.mem_append_left _ (List.mem_map.2 ⟨t, ht, rfl⟩)))⟩
    ·rw [if_neg hqd] at hne; exact absurd rfl hne) (fun j hq => by simp [wT, hq])] at this
   rw [lexSt_look recs st t hl i (by have := hd.len; omega)]
   exact this
  ·refine .inl ?_
   unfold St.look
   rw [List.getD_eq_getElem?_getD, List.getElem?_eq_none (by rw [lexSt_len]; omega)]; rfl
 have agM : ∀ b, b ∈ r.fp → (lexSt recs st i).at b = atD recs st D b := fun b hb => by
  rw [lexSt_at recs st b i (by have := hd.len; omega)]
  unfold atD
  rw [agree_at hok hd.len hi hd.lt hD hI.closed hpre (f := wM recs b) (fun j q hne hq => by
   unfold wM at hne; rw [hq] at hne; dsimp only at hne
   obtain ⟨c, hc⟩ := Option.ne_none_iff_exists'.1 hne
   exact ⟨2 * b + 1, changes_upd hc, by unfold footprint; exact List.mem_append_left _ (List.mem_append_right _ (List.mem_map.2 ⟨b, hb, rfl⟩))⟩) (fun j hq => by simp [wM, hq])]
 obtain ⟨hdst, hcase⟩ := hdid
 unfold wpOp
 simp only [ho]
 have yields : ∀ j t e, (ops[j]?).bind (·.dst) = some t → (lexSt recs st i).look t = .v (.s (.a (.bool e))) → t ∈ Go.Oper.looksAt ops o → yielded ops a.tmps j = some (e.den ε).2 := fun j t e hj hl ht => by
  have h1 := agT t ht
  rw [hl] at h1
  have h2 : a.tmps.getD t undef = .bool (e.den ε).2 := h1.get (by simp)
  have h3 : a.tmps[t]? = some (.bool (e.den ε).2) := by
   rw [Array.getD_eq_getD_getElem?] at h2
   cases h4 : a.tmps[t]? with
   | none => rw [h4] at h2; simp [undef] at h2
   | some x => rw [h4] at h2; simp at h2; rw [h2]
  unfold yielded
  rw [hj]
  simp [h3]
 have guardT : ∀ j want t, o.guard = some (j, want) → (ops[j]?).bind (·.dst) = some t → t ∈ Go.Oper.looksAt ops o := fun j want t hg ht => by
  unfold Go.Oper.looksAt
  refine List.mem_append_right _ ?_
  rw [hg]; simp [ht]
 rcases hcase with ⟨hg, pc, dec, nv, r1, hpc, hdec, hev, hrc, hobs⟩ | ⟨hg, hrc⟩
 ·have hwant : Region.wanted o (yielded ops a.tmps) = true := by
   unfold Region.wanted
   rcases hg with hg | ⟨j, want, t, e, hg, ht, hl, hb⟩
   ·rw [hg]
   ·rw [hg]
    dsimp only
    rw [yields j t e ht hl (guardT j want t hg ht), hb]
    simp
  rw [if_pos hwant]
  refine .inl ?_
  have efp : r.fp = r1.fp := by rw [hrc]
  have eup : r.upd = r1.upd := by rw [hrc]
  have evl : r.val = r1.val := by rw [hrc]
  have hid : ∀ b, NW (nid + i * sp) sp b → (lexSt recs st i).at b = none := fun b hn => by
   cases h : (lexSt recs st i).at b with
   | none => rfl
   | some cs =>
    exfalso
    rw [lexSt_at recs st _ i (by have := hd.len; omega)] at h
    split at h
    ·cases h
    ·rename_i c hnn hl
     obtain ⟨j, hj, h2⟩ := latest_some _ hl
     unfold wM at h2
     split at h2
     ·rename_i q hq
      have hjn : j < ops.size := by omega
      have hk := (hd.reg j _ q (Array.getElem?_eq_getElem hjn) hq).keys _ (lookup_mem h2)
      dsimp only at hk
      rcases hk with g | g | ⟨j', g, g'⟩
      ·have := NW_ge hn; omega
      ·have := NW_inj g hn; omega
      ·have := hd.lt j j' g; have := NW_inj g' hn; omega
     ·cases h2
    ·have := hd.ids _ (at_ids h).1; have := NW_ge hn; omega
  obtain ⟨h7, hop⟩ := evOp_sound (ρ := ρ) (a := a) (w := w) hd.pos hd.subok hev hid hobs hpc hdec
   (fun t ht => agT t (by unfold Go.Oper.looksAt; exact List.mem_append_left _ (List.mem_filterMap.2 ⟨.tmp t, by simpa using ht, rfl⟩))) hI.world
   (fun b hb cs hcs => hI.blocks b cs (by rw [← agM b (efp ▸ hb)]; exact hcs))
   (fun b hb b' hb' hs hs' => hI.inj b b' (by rw [← agM b (efp ▸ hb)]; exact hs) (by rw [← agM b' (efp ▸ hb')]; exact hs'))
  refine hop _ _ fun v w' hout => ?_
  obtain ⟨ρ', g1, g2, g3, g4, g5, g6⟩ := hout
  refine hK ρ' _ _ (inv_put hd.reg hd.len hd.ids hI ho hr hdst hD hpre2 g1 (by rw [evl]; exact g2) (by rw [eup]; exact g3) (by rw [eup]; exact g4) (by rw [eup]; exact g5) (by rw [eup]; exact g6) fun u hu => ?_)
  rw [eup] at hu
  rcases h7 u hu with h | ⟨h, h'⟩
  ·exact .inl h
  ·exact .inr (by rw [← agM u.1 (efp ▸ h)]; exact h')
 ·obtain ⟨j, want, t, hg, ht, hc⟩ := hg
  have hwant : Region.wanted o (yielded ops a.tmps) = false := by
   unfold Region.wanted
   rw [hg]
   dsimp only
   rcases hc with ⟨e, hl, hne⟩ | hl
   ·rw [yields j t e ht hl (guardT j want t hg ht)]
    simpa using hne
   ·have h1 := agT t (guardT j want t hg ht)
    rw [hl] at h1
    have h2 : a.tmps.getD t undef = .tuple #[] := h1.get (by simp)
    have : yielded ops a.tmps j = none := by
     unfold yielded
     rw [ht]
     rw [Array.getD_eq_getD_getElem?] at h2
     cases h4 : a.tmps[t]? with
     | none => simp [h4]
     | some x => rw [h4] at h2; simp at h2; simp [h4, h2]
    rw [this]; rfl
  rw [if_neg (by rw [hwant]; simp)]
  refine hK ρ _ _ (inv_put hd.reg hd.len hd.ids hI ho hr hdst hD hpre2 (fun _ _ => rfl) (by rw [hrc]; rfl) (by rw [hrc]; simp) (by rw [hrc]; simp) (by rw [hrc]; simp) (Ext.refl _ _) (by rw [hrc]; simp))
theorem inv_all (hd : RegD P ε w0 sub sp ops recs bs st nid) {D : Nat → Prop} [DecidablePred D] {ρ : Nat → Nat} {a : Act} {w : World} (hI : Inv ε w0 d recs bs st nid ρ0 w1 D ρ a w) (hD : ∀ j, j < ops.size → D j) :
  Rep ε w0 d (recs.foldl St.apply st) ρ a w ∧ Aft st ρ0 w1 nid (recs.foldl St.apply st) ρ w := by
 have e0 : recs.foldl St.apply st = lexSt recs st recs.length := by unfold lexSt; rw [List.take_length]
 have eL : ∀ t, t < st.tmps.length → lookD recs st D t = (lexSt recs st recs.length).look t := fun t ht => by
  rw [lexSt_look recs st t ht _ (Nat.le_refl _)]
  unfold lookD
  rw [if_pos ht]
  congr 1
  exact latest_congr _ fun j hj => by unfold on; rw [if_pos (hD j (by have := hd.len; omega))]
 have eA : ∀ b, atD recs st D b = (lexSt recs st recs.length).at b := fun b => by
  rw [lexSt_at recs st b _ (Nat.le_refl _)]
  unfold atD
  rw [latest_congr (f := on D (wM recs b)) (g := wM recs b) _ fun j hj => by unfold on; rw [if_pos (hD j (by have := hd.len; omega))]]
 rw [e0]
 refine ⟨⟨by rw [lexSt_len]; exact hI.size, hI.defers, fun t => ?_, fun b cs hb => hI.blocks b cs (by rw [eA]; exact hb), fun b b' hb hb' => hI.inj b b' (by rw [eA]; exact hb) (by rw [eA]; exact hb'), hI.world⟩,
  ⟨hI.agree, hI.ext.mono fun x _ ⟨b, ⟨j, q, _, hq, hb⟩, h'⟩ => ⟨b, by rw [← e0]; exact (foldl_wr _ _ _).2 (.inl ⟨q, List.mem_of_getElem? hq, hb⟩), h'⟩, fun b hb => by rw [← e0]; exact (foldl_wr _ _ _).2 (.inr hb), fun b hb => (hI.fresh b (by rw [eA]; exact hb)).imp id fun h => h.imp id fun ⟨k, ⟨j, q, _, k2, k3⟩, k4, k5, k6⟩ => ⟨k, by rw [← e0]; exact (foldl_wr _ _ _).2 (.inl ⟨q, List.mem_of_getElem? k2, k3⟩), k4, by rw [← eA]; exact k5, k6⟩, fun b hb hs => hI.keep b hb (by rw [eA]; exact hs)⟩⟩
 by_cases ht : t < st.tmps.length
 ·rw [← eL t ht]; exact hI.slots t
 ·refine .inl ?_
  unfold St.look
  rw [List.getD_eq_getElem?_getD, List.getElem?_eq_none (by rw [lexSt_len]; omega)]; rfl
theorem inv_none {ρ : Nat → Nat} {a : Act} {w : World} {D : Nat → Prop} [DecidablePred D] (hD : ∀ j, ¬ D j) (h : Rep ε w0 d st ρ a w) : Inv ε w0 d recs bs st nid ρ w D ρ a w := by
 have e : ∀ {α : Type} (f : Nat → Option α) n, latest (on D f) n = none := fun f n => by
  induction n with
  | zero => rfl
  | succ n ih => rw [latest]; unfold on; rw [if_neg (hD n)]; exact ih
 have eA : ∀ b, atD recs st D b = st.at b := fun b => by unfold atD; rw [e]
 refine ⟨h.size, h.defers, fun t => ?_, fun b cs hb => h.blocks b cs (by rw [← eA]; exact hb), fun b b' hb hb' => h.inj b b' (by rw [← eA]; exact hb) (by rw [← eA]; exact hb'), h.world, fun _ _ => rfl, Ext.refl _ _, fun b hb => .inl (by rw [← eA]; exact hb), fun b _ hs => by rw [← eA]; exact hs, fun j hj => absurd hj (hD j)⟩
 unfold lookD
 split
 ·rw [e]; exact h.slots t
 ·exact .inl rfl
theorem Inv.drew {D : Nat → Prop} [DecidablePred D] {ρ : Nat → Nat} {a : Act} {w : World} (h : Inv ε w0 d recs bs st nid ρ0 w1 D ρ a w) : Inv ε w0 d recs bs st nid ρ0 w1 D ρ a w.drew :=
 ⟨h.size, h.defers, h.slots, h.blocks, h.inj, h.world.drew, h.agree, ⟨h.ext.os, h.ext.tape, h.ext.output, h.ext.size, h.ext.block⟩, h.fresh, h.keep, h.closed⟩
theorem countP_lt {p p' : Nat → Bool} {i : Nat} (h1 : p i = true) (h2 : p' i = false) (h : ∀ j, p' j = true → p j = true) : ∀ l : List Nat, i ∈ l → l.countP p' < l.countP p
 | [], hi => by cases hi
 | x :: l, hi => by
  have hm : l.countP p' ≤ l.countP p := List.countP_mono_left fun j _ => h j
  rcases List.mem_cons.1 hi with rfl | hi
  ·rw [List.countP_cons_of_pos h1, List.countP_cons_of_neg (by simp [h2])]; omega
  ·have := countP_lt h1 h2 h l hi
   rw [List.countP_cons, List.countP_cons]
   cases hx : p' x
   ·simp; omega
   ·simp [h x hx]; omega
theorem wpAny_inv (hd : RegD P ε w0 sub sp ops recs bs st nid) {Q : Exit → Act → World → Prop}
  (hQ : ∀ ρ a w, Rep ε w0 d (recs.foldl St.apply st) ρ a w → Aft st ρ0 w1 nid (recs.foldl St.apply st) ρ w → Q .normal a w) :
  ∀ (fuel : Nat) (listed : Array Bool) (ρ : Nat → Nat) (a : Act) (w : World), listed.size = ops.size → (List.range ops.size).countP (fun j => !listed.getD j false) ≤ fuel →
   Inv ε w0 d recs bs st nid ρ0 w1 (fun j => listed.getD j false = true) ρ a w → wpAny P .any ops Q fuel listed a w := by
 have done : ∀ (listed : Array Bool), listed.size = ops.size → Region.ready .any ops listed = [] → ∀ j, j < ops.size → listed.getD j false = true := by
  intro listed hsz hr j
  induction j using Nat.strongRecOn with
  | _ j ih =>
   intro hj
   cases hc : listed.getD j false with
   | true => rfl
   | false =>
    exfalso
    have : j ∈ Region.ready .any ops listed := by
     have hs : ops[j]? = some ops[j] := Array.getElem?_eq_getElem hj
     refine mem_ready.2 ⟨?_, _, hs, fun e he hb => ?_⟩
     ·rw [Array.getD_eq_getD_getElem?, Array.getElem?_eq_getElem (by omega)] at hc ⊢; simpa using hc
     ·obtain ⟨rc, hrc, _⟩ := hd.did j _ hs
      have hlt := hd.lt j _ ((hd.reg j _ rc hs hrc).edge e he hb)
      exact ih _ hlt (by omega)
    rw [hr] at this
    cases this
 intro fuel
 induction fuel with
 | zero =>
  intro listed ρ a w hsz hc hI
  have hall : ∀ j, j < ops.size → listed.getD j false = true := fun j hj => by
   have := List.countP_eq_zero.1 (Nat.le_zero.1 hc) j (List.mem_range.2 hj)
   simpa using this
  refine ⟨?_, ?_⟩
  ·cases hr : Region.ready .any ops listed with
   | nil => rfl
   | cons x xs =>
    exfalso
    have hx : x ∈ Region.ready .any ops listed := by rw [hr]; exact List.mem_cons_self
    obtain ⟨h1, o, h2, _⟩ := mem_ready.1 hx
    have hlt : x < ops.size := by
     rcases Nat.lt_or_ge x ops.size with h | h
     ·exact h
     ·rw [Array.getElem?_eq_none h] at h2; cases h2
    have := hall x hlt
    rw [Array.getD_eq_getD_getElem?, Array.getElem?_eq_getElem (by omega)] at this h1
    simp at this h1
    rw [this] at h1; cases h1
  ·obtain ⟨h1, h2⟩ := inv_all hd hI hall
   exact hQ _ _ _ h1 h2
 | succ fuel ih =>
  intro listed ρ a w hsz hc hI
  refine ⟨fun hr => ?_, fun i hi => ?_⟩
  ·obtain ⟨h1, h2⟩ := inv_all hd hI (done listed hsz hr)
   exact hQ _ _ _ h1 h2
  ·obtain ⟨h1, o, h2, h3⟩ := mem_ready.1 hi
   have hlt : i < ops.size := by
    rcases Nat.lt_or_ge i ops.size with h | h
    ·exact h
    ·rw [Array.getElem?_eq_none h] at h2; cases h2
   have h1' : listed.getD i false = false := by
    rw [Array.getD_eq_getD_getElem?, Array.getElem?_eq_getElem (by omega)] at h1 ⊢; simpa using h1
   have hset : ∀ j, (listed.setIfInBounds i true).getD j false = true ↔ (listed.getD j false = true ∨ j = i) := fun j => by
    by_cases hji : j = i
    ·subst hji
     simp only [Array.getD_eq_getD_getElem?, or_true, iff_true]
     rw [Array.getElem?_setIfInBounds_self_of_lt (by omega)]; rfl
    ·simp only [Array.getD_eq_getD_getElem?, Array.getElem?_setIfInBounds_ne (Ne.symm hji), hji, or_false]
   refine step_inv hd hI h2 (by rw [h1']; simp) (fun e he hb => h3 e he hb) fun ρ' a' w' hI' => ih _ ρ' a' w' (by simpa using hsz) ?_ (hI'.congr fun j => (hset j).symm)
   have := countP_lt (p := fun j => !listed.getD j false) (p' := fun j => !(listed.setIfInBounds i true).getD j false) (i := i) (by simp [h1']) (by simpa using (hset i).2 (.inr rfl)) (fun j hj => by
    cases hb : listed.getD j false with
    | false => rfl
    | true => have := (hset j).2 (.inl hb); simp only [this] at hj; cases hj) (List.range ops.size) (List.mem_range.2 hlt)
   omega
theorem wpOps_inv (hd : RegD P ε w0 sub sp ops recs bs st nid) {Q : Exit → Act → World → Prop}
  (hQ : ∀ ρ a w, Rep ε w0 d (recs.foldl St.apply st) ρ a w → Aft st ρ0 w1 nid (recs.foldl St.apply st) ρ w → Q .normal a w) :
  ∀ (m i : Nat) (ρ : Nat → Nat) (a : Act) (w : World), i + m = ops.size → Inv ε w0 d recs bs st nid ρ0 w1 (fun j => j < i) ρ a w → wpOps P ops Q (List.range' i m) a w
 | 0, i, ρ, a, w, hm, hI => by
  obtain ⟨h1, h2⟩ := inv_all hd hI (fun j hj => by omega)
  simpa [wpOps] using hQ _ _ _ h1 h2
 | m + 1, i, ρ, a, w, hm, hI => by
  rw [List.range'_succ, wpOps_cons]
  have hs : ops[i]? = some ops[i] := Array.getElem?_eq_getElem (by omega)
  obtain ⟨rc, hrc, _⟩ := hd.did i _ hs
  exact step_inv hd hI hs (by omega) (fun e he hb => hd.lt i _ ((hd.reg i _ rc hs hrc).edge e he hb)) fun ρ' a' w' hI' => wpOps_inv hd hQ m (i + 1) ρ' a' w' (by omega) (hI'.congr fun j => by omega)
theorem region_leaf (hmix : P.follows .mixedOrders = true) (hsp : 0 < sp) (hsub : SubOk P ε w0 sub) {nv : Nat} {st' : St} (h : (evOps P sub sp ops ops.toList nid pc [] st nv).path ε = some (recs, st')) (hok : regionOk ops recs (befores ops.toList) nid sp = true)
  (hids : (stIds st).all (· < nid) = true) (hobs : ∀ ob ∈ (evOps P sub sp ops ops.toList nid pc [] st nv).obs, ob.ok P ε w0) (hpc : (pc.den ε).2 = true) {ρ : Nat → Nat} {a : Act} {w : World} (hrep : Rep ε w0 d st ρ a w)
  {Q : Exit → Act → World → Prop} (hQ : ∀ ρ' a' w', Rep ε w0 d st' ρ' a' w' → Aft st ρ w nid st' ρ' w' → Q .normal a' w') {id : Nat} {draw : Bool} : (Code.region id ops draw).wp P Q a w := by
 obtain ⟨e1, e2, e3⟩ := evOps_spec h hobs hpc (by simp)
 obtain ⟨f1, f2, f3⟩ := regionOk_spec hok
 subst e2
 have hd : RegD P ε w0 sub sp ops recs (befores ops.toList) st nid := by
  refine ⟨hsp, f3, f1, fun j k hk => ?_, fun b hb => by simpa using List.all_eq_true.1 hids b hb, hsub, fun i o ho => e3 i o (by simpa using ho)⟩
  by_cases hj : j < ops.size
  ·have hs : ops[j]? = some ops[j] := Array.getElem?_eq_getElem hj
   have hr : recs[j]? = some recs[j] := List.getElem?_eq_getElem (by omega)
   exact (f3 j _ _ hs hr).lt k hk
  ·unfold bef at hk
   rw [List.getD_eq_getElem?_getD, List.getElem?_eq_none (by omega)] at hk
   simp at hk
 cases draw with
 | false =>
  refine wp_region ?_
  rw [List.range_eq_range']
  exact wpOps_inv hd hQ _ 0 ρ a w (by omega) (inv_none (fun j => by omega) hrep)
 | true =>
  refine wp_region_any hmix ?_
  refine wpAny_inv hd hQ _ _ ρ a w.drew (by simp) ?_ (Inv.drew (inv_none (fun j => ?_) hrep))
  ·exact Nat.le_trans List.countP_le_length (by simp)
  ·rw [Array.getD_eq_getD_getElem?]
   by_cases hj : j < ops.size
   ·rw [Array.getElem?_replicate, if_pos hj]; simp
   ·rw [Array.getElem?_replicate, if_neg hj]; simp
end
end SX
end
section
namespace SX
open Go.RowKit
variable {P : Program} {ε : Env}
structure Weak (ε : Env) (s t : St) : Prop where
 len : t.tmps.length = s.tmps.length
 look : ∀ ρ i v, RV ε ρ (s.look i) v → RV ε ρ (t.look i) v
 at_ : ∀ b cs, t.at b = some cs → ∃ cs', s.at b = some cs' ∧ ∀ ρ base w, Blk ε ρ base w b cs' → Blk ε ρ base w b cs
 wr : ∀ b ∈ s.wr, b ∈ t.wr
theorem Weak.refl (s : St) : Weak ε s s := ⟨rfl, fun _ _ _ h => h, fun b cs h => ⟨cs, h, fun _ _ _ h => h⟩, fun _ h => h⟩
theorem Weak.trans {s t u : St} (h : Weak ε s t) (k : Weak ε t u) : Weak ε s u :=
 ⟨k.len.trans h.len, fun ρ i v hv => k.look ρ i v (h.look ρ i v hv), fun b cs hb => by
  obtain ⟨c1, e1, f1⟩ := k.at_ b cs hb
  obtain ⟨c2, e2, f2⟩ := h.at_ b c1 e1
  exact ⟨c2, e2, fun ρ base w hw => f1 ρ base w (f2 ρ base w hw)⟩, fun b hb => k.wr b (h.wr b hb)⟩
theorem Weak.some {s t : St} (h : Weak ε s t) {b : Nat} (hb : (t.at b).isSome = true) : (s.at b).isSome = true := by
 obtain ⟨cs, hcs⟩ := Option.isSome_iff_exists.1 hb
 obtain ⟨c, hc, _⟩ := h.at_ b cs hcs
 rw [hc]; rfl
theorem Weak.none {s t : St} (h : Weak ε s t) {b : Nat} (hb : s.at b = none) : t.at b = none := by
 cases ht : t.at b with
 | none => rfl
 | some c => have := h.some (b := b) (by rw [ht]; rfl); rw [hb] at this; cases this
theorem Rep.weak {w0 : World} {d : List Deferred} {s t : St} {ρ : Nat → Nat} {a : Act} {w : World} (h : Weak ε s t) (hr : Rep ε w0 d s ρ a w) : Rep ε w0 d t ρ a w :=
 ⟨hr.size.trans h.len.symm, hr.defers, fun i => h.look _ _ _ (hr.slots i), fun b cs hb => by
  obtain ⟨c, hc, hf⟩ := h.at_ b cs hb
  exact hf _ _ _ (hr.blocks b c hc), fun b b' hb hb' => hr.inj b b' (h.some hb) (h.some hb'), hr.world⟩
theorem mergeTmps_len (c : E) : ∀ (l m : List LV), l.length = m.length → (mergeTmps c l m).length = l.length
 | [], [], _ => rfl
 | x :: l, y :: m, h => by simp only [mergeTmps, List.length_cons]; rw [mergeTmps_len c l m (by simpa using h)]
 | [], _ :: _, h => by simp at h
 | _ :: _, [], h => by simp at h
theorem mergeTmps_get (c : E) : ∀ (l m : List LV) (i : Nat), l.length = m.length → i < l.length → (mergeTmps c l m).getD i .bad = LV.merge c (l.getD i .bad) (m.getD i .bad)
 | x :: l, y :: m, i, h, hi => by
  cases i with
  | zero => rfl
  | succ i =>
   simp only [mergeTmps, List.getD_cons_succ]
   exact mergeTmps_get c l m i (by simpa using h) (by simpa using hi)
 | [], _, _, _, hi => by simp at hi
 | _ :: _, [], _, h, _ => by simp at h
theorem SV.merge_row {c : E} {u v s : SV} (h : SV.merge c u v = some s) (hs : isRow s = true) : isRow u = true := by
 unfold SV.merge at h
 split at h
 ·cases h; exact hs
 ·split at h
  ·obtain ⟨q, _, rfl⟩ := Option.map_eq_some_iff.1 h
   cases hs
  ·cases h
theorem mergeC_spec (c : E) : ∀ {x y z : Cells}, mergeC c x y = some z → ∀ (j : Nat) (o : Option SV), z[j]? = some o → ∃ p q, x[j]? = some p ∧ y[j]? = some q ∧ (isRowC p = true ∨ isRowC o = true → p = o) ∧ (isRowC q = true ∨ isRowC o = true → q = o) ∧
  ∀ s, o = some s → ∃ u v, p = some u ∧ q = some v ∧ SV.merge c u v = some s
 | [], [], z, h, j, o, hj => by simp [mergeC] at h; subst h; simp at hj
 | x :: xs, y :: ys, z, h, j, o, hj => by
  simp only [mergeC] at h
  split at h
  ·rename_i zs hz
   split at h
   ·rename_i hrow
    split at h
    ·rename_i hxy
     obtain rfl := eq_of_beq hxy
     cases h
     cases j with
     | zero =>
      simp only [List.getElem?_cons_zero, Option.some.injEq] at hj
      subst hj
      refine ⟨x, x, rfl, rfl, fun _ => rfl, fun _ => rfl, fun s hs => ⟨s, s, hs, hs, ?_⟩⟩
      unfold SV.merge
      rw [if_pos (by simp)]
     | succ j => exact mergeC_spec c hz j o (by simpa using hj)
    ·cases h
   ·rename_i hrow
    simp only [Bool.or_eq_true, not_or, Bool.not_eq_true] at hrow
    cases h
    cases j with
    | zero =>
     simp only [List.getElem?_cons_zero, Option.some.injEq] at hj
     subst hj
     have key : ∀ s, mergeO c x y = some s → ∃ u v, x = some u ∧ y = some v ∧ SV.merge c u v = some s := fun s hs => by
      unfold mergeO at hs
      split at hs
      ·exact ⟨_, _, rfl, rfl, hs⟩
      ·cases hs
     have norow : isRowC (mergeO c x y) = false := by
      cases ho : mergeO c x y with
      | none => rfl
      | some s =>
       cases hr : isRow s with
       | false => exact hr
       | true =>
        obtain ⟨u, v, rfl, rfl, hm⟩ := key s ho
        have := SV.merge_row hm hr
        rw [show isRowC (some u) = isRow u from rfl, this] at hrow
        cases hrow.1
     refine ⟨x, y, rfl, rfl, fun h => ?_, fun h => ?_, key⟩
     ·rw [hrow.1, norow] at h; simp at h
     ·rw [hrow.2, norow] at h; simp at h
    | succ j => exact mergeC_spec c hz j o (by simpa using hj)
  ·cases h
 | [], _ :: _, _, h, _, _, _ => by simp [mergeC] at h
 | _ :: _, [], _, h, _, _, _ => by simp [mergeC] at h
theorem mergeMem_spec (c : E) (s m : List (Nat × Cells)) : ∀ {l : List Nat} {b : Nat} {z : Cells}, (mergeMem c s m l).lookup b = some z → ∃ x y, s.lookup b = some x ∧ m.lookup b = some y ∧ mergeC c x y = some z
 | [], b, z, h => by simp [mergeMem] at h
 | k :: l, b, z, h => by
  unfold mergeMem at h
  split at h
  ·rename_i x y hx hy
   split at h
   ·rename_i z' hz
    simp only [List.lookup] at h
    split at h
    ·rename_i hk
     cases h
     obtain rfl := eq_of_beq hk
     exact ⟨x, y, hx, hy, hz⟩
    ·exact mergeMem_spec c s m h
   ·exact mergeMem_spec c s m h
  ·exact mergeMem_spec c s m h
theorem merge_t {c : E} {s t : St} (hc : (c.den ε).2 = true) (hl : s.tmps.length = t.tmps.length) : Weak ε s (St.merge c s t) := by
 refine ⟨mergeTmps_len c _ _ hl, fun ρ i v hv => ?_, fun b cs hb => ?_, fun b hb => mem_addL.2 (.inl hb)⟩
 ·unfold St.look St.merge
  by_cases hi : i < s.tmps.length
  ·rw [mergeTmps_get c _ _ i hl hi]; exact LV.merge_t hc hv
  ·refine .inl ?_
   rw [List.getD_eq_getElem?_getD, List.getElem?_eq_none (by rw [mergeTmps_len c _ _ hl]; omega)]; rfl
 ·obtain ⟨hb, hne⟩ := at_look hb
  obtain ⟨x, y, hx, hy, hz⟩ := mergeMem_spec c s.mem t.mem hb
  have hxn : x ≠ [] := by
   rintro rfl
   obtain ⟨o, os, rfl⟩ := List.exists_cons_of_ne_nil hne
   obtain ⟨p, q, hp, _⟩ := mergeC_spec c hz 0 o rfl
   cases hp
  refine ⟨x, look_at hx hxn, fun ρ base w ⟨h1, h2, h3⟩ => ⟨h1, h2, fun j o hj => ?_⟩⟩
  obtain ⟨p, q, hp, hq, hr, _, hs⟩ := mergeC_spec c hz j o hj
  refine (h3 j p hp).of hr fun s' hs' => ?_
  obtain ⟨u, u', rfl, rfl, hm⟩ := hs s' hs'
  exact ⟨u, rfl, by rw [SV.merge_den hm, hc, if_pos rfl]⟩
theorem merge_f {c : E} {s t : St} (hc : (c.den ε).2 = false) (hl : s.tmps.length = t.tmps.length) : Weak ε t (St.merge c s t) := by
 refine ⟨(mergeTmps_len c _ _ hl).trans hl, fun ρ i v hv => ?_, fun b cs hb => ?_, fun b hb => mem_addL.2 (.inr hb)⟩
 ·unfold St.look St.merge
  by_cases hi : i < s.tmps.length
  ·rw [mergeTmps_get c _ _ i hl hi]; exact LV.merge_f hc hv
  ·refine .inl ?_
   rw [List.getD_eq_getElem?_getD, List.getElem?_eq_none (by rw [mergeTmps_len c _ _ hl]; omega)]; rfl
 ·obtain ⟨hb, hne⟩ := at_look hb
  obtain ⟨x, y, hx, hy, hz⟩ := mergeMem_spec c s.mem t.mem hb
  have hyn : y ≠ [] := by
   rintro rfl
   obtain ⟨o, os, rfl⟩ := List.exists_cons_of_ne_nil hne
   obtain ⟨p, q, _, hq, _⟩ := mergeC_spec c hz 0 o rfl
   cases hq
  refine ⟨y, look_at hy hyn, fun ρ base w ⟨h1, h2, h3⟩ => ⟨h1, h2, fun j o hj => ?_⟩⟩
  obtain ⟨p, q, hp, hq, _, hr, hs⟩ := mergeC_spec c hz j o hj
  refine (h3 j q hq).of hr fun s' hs' => ?_
  obtain ⟨u, u', rfl, rfl, hm⟩ := hs s' hs'
  exact ⟨u', rfl, by rw [SV.merge_den hm, hc, if_neg (by simp)]⟩
theorem gather_len {k : Ex} {n : Nat} : ∀ {t : Tr} {g : E} {s : St}, allLen k n t = true → gather k t = some (g, s) → s.tmps.length = n
 | .leaf k' s', g, s, h, hg => by
  simp only [gather] at hg
  split at hg
  ·rename_i hk
   cases hg
   simp only [allLen, hk, Bool.not_true, Bool.false_or, beq_iff_eq] at h
   exact h
  ·cases hg
 | .node c x y, g, s, h, hg => by
  simp only [allLen, Bool.and_eq_true] at h
  simp only [gather] at hg
  split at hg
  ·rename_i g1 s1 g2 s2 h1 h2
   cases hg
   have l1 := gather_len h.1 h1
   have l2 := gather_len h.2 h2
   show (mergeTmps c _ _).length = n
   rw [mergeTmps_len c _ _ (l1.trans l2.symm)]; exact l1
  ·rename_i g1 s1 h1 h2
   cases hg; exact gather_len h.1 h1
  ·rename_i g2 s2 h1 h2
   cases hg; exact gather_len h.2 h2
  ·cases hg
theorem gather_none {k : Ex} : ∀ {t : Tr}, gather k t = none → (t.sel ε).1 ≠ k
 | .leaf k' s, h, e => by
  simp only [Tr.sel] at e
  subst e
  simp [gather] at h
 | .node c x y, h, e => by
  simp only [gather] at h
  simp only [Tr.sel] at e
  split at h <;> try cases h
  rename_i h1 h2
  split at e
  ·exact gather_none h1 e
  ·exact gather_none h2 e
theorem gather_spec {k : Ex} {n : Nat} : ∀ {t : Tr} {g : E} {s : St}, allLen k n t = true → gather k t = some (g, s) →
  ((g.den ε).2 = true → (t.sel ε).1 = k ∧ Weak ε (t.sel ε).2 s) ∧ ((g.den ε).2 = false → (t.sel ε).1 ≠ k)
 | .leaf k' s', g, s, h, hg => by
  simp only [gather] at hg
  split at hg
  ·rename_i hk
   cases hg
   exact ⟨fun _ => ⟨(eq_of_beq hk).symm, Weak.refl _⟩, fun h => by simp [E.den] at h⟩
  ·cases hg
 | .node c x y, g, s, h, hg => by
  have h' := h
  simp only [allLen, Bool.and_eq_true] at h
  simp only [gather] at hg
  simp only [Tr.sel]
  split at hg
  ·rename_i g1 s1 g2 s2 h1 h2
   cases hg
   have l1 := gather_len h.1 h1
   have l2 := gather_len h.2 h2
   obtain ⟨a1, b1⟩ := gather_spec h.1 h1
   obtain ⟨a2, b2⟩ := gather_spec h.2 h2
   rw [mkIf_den]
   cases hc : (c.den ε).2
   ·simp only [Bool.false_eq_true, if_false]
    exact ⟨fun hg => ⟨(a2 hg).1, (a2 hg).2.trans (merge_f hc (l1.trans l2.symm))⟩, b2⟩
   ·simp only [if_true]
    exact ⟨fun hg => ⟨(a1 hg).1, (a1 hg).2.trans (merge_t hc (l1.trans l2.symm))⟩, b1⟩
  ·rename_i g1 s1 h1 h2
   cases hg
   obtain ⟨a1, b1⟩ := gather_spec h.1 h1
   rw [mkIf_den]
   cases hc : (c.den ε).2
   ·simp only [Bool.false_eq_true, if_false]
    exact ⟨fun hg => by simp [E.den] at hg, fun _ => gather_none h2⟩
   ·simp only [if_true]; exact ⟨a1, b1⟩
  ·rename_i g2 s2 h1 h2
   cases hg
   obtain ⟨a2, b2⟩ := gather_spec h.2 h2
   rw [mkIf_den]
   cases hc : (c.den ε).2
   ·simp only [Bool.false_eq_true, if_false]; exact ⟨a2, b2⟩
   ·simp only [if_true]
    exact ⟨fun hg => by simp [E.den] at hg, fun _ => gather_none h1⟩
  ·cases hg
theorem prune_none {k : Ex} : ∀ {t : Tr}, prune k t = none → (t.sel ε).1 = k
 | .leaf k' s, h => by
  simp only [prune] at h
  split at h
  ·rename_i hk; exact (eq_of_beq hk).symm
  ·cases h
 | .node c x y, h => by
  simp only [prune] at h
  split at h <;> try cases h
  rename_i h1 h2
  simp only [Tr.sel]
  split
  ·exact prune_none h1
  ·exact prune_none h2
theorem prune_some {k : Ex} : ∀ {t t' : Tr}, prune k t = some t' → (t.sel ε).1 ≠ k → t'.sel ε = t.sel ε
 | .leaf k' s, t', h, hk => by
  simp only [prune] at h
  split at h
  ·cases h
  ·cases h; rfl
 | .node c x y, t', h, hk => by
  simp only [prune] at h
  simp only [Tr.sel] at hk ⊢
  split at h
  ·rename_i x' y' h1 h2
   cases h
   simp only [Tr.sel]
   split
   ·rename_i hc; rw [if_pos hc] at hk; exact prune_some h1 hk
   ·rename_i hc; rw [if_neg hc] at hk; exact prune_some h2 hk
  ·rename_i x' h1 h2
   cases h
   split
   ·rename_i hc; rw [if_pos hc] at hk; exact prune_some h1 hk
   ·rename_i hc; rw [if_neg hc] at hk; exact absurd (prune_none h2) hk
  ·rename_i y' h1 h2
   cases h
   split
   ·rename_i hc; rw [if_pos hc] at hk; exact absurd (prune_none h1) hk
   ·rename_i hc; rw [if_neg hc] at hk; exact prune_some h2 hk
  ·cases h
theorem norm_spec (ε : Env) (k : Ex) (t : Tr) : ((norm k t).sel ε).1 = (t.sel ε).1 ∧ Weak ε (t.sel ε).2 ((norm k t).sel ε).2 := by
 unfold norm
 split
 ·exact ⟨rfl, Weak.refl _⟩
 ·rename_i hn
  simp only [Bool.or_eq_true, not_or, Bool.not_eq_true', Bool.not_eq_false] at hn
  have hl := hn.2
  simp only [fSt_eq, fE_eq]
  split
  ·rename_i g s hg hp
   have hk := prune_none (ε := ε) hp
   obtain ⟨a, b⟩ := gather_spec (ε := ε) hl hg
   cases hgd : (g.den ε).2
   ·exact absurd hk (b hgd)
   ·exact ⟨hk.symm, (a hgd).2⟩
  ·rename_i g s t' hg hp
   obtain ⟨a, b⟩ := gather_spec (ε := ε) hl hg
   simp only [Tr.sel]
   cases hgd : (g.den ε).2
   ·simp only [Bool.false_eq_true, if_false]
    rw [prune_some hp (b hgd)]
    exact ⟨rfl, Weak.refl _⟩
   ·simp only [if_true]
    exact ⟨(a hgd).1.symm, (a hgd).2⟩
  ·exact ⟨rfl, Weak.refl _⟩
theorem Blk.ceq {ρ : Nat → Nat} {base b : Nat} {w : World} {c d : Cells} (h : Blk ε ρ base w b c) (hc : CEq ε c d) : Blk ε ρ base w b d := by
 obtain ⟨h1, h2, h3⟩ := h
 refine ⟨h1, h2, fun j x hj => ?_⟩
 obtain ⟨y, hy, hr, hs⟩ := hc j x hj
 refine (h3 j y hy).of hr fun s hx => ?_
 obtain ⟨s', hs1, hs2⟩ := hs s hx
 exact ⟨s', hs1, hs2 ρ⟩
theorem nameLVs_len : ∀ l : List LV, (nameLVs l).1.length = l.length
 | [] => rfl
 | x :: xs => by simp only [nameLVs, List.length_cons, nameLVs_len xs]
theorem nameLVs_get : ∀ {l : List LV} {i : Nat}, (∀ ob ∈ (nameLVs l).2, ob.nm ε) → ∀ ρ v, RV ε ρ (l.getD i .bad) v → RV ε ρ ((nameLVs l).1.getD i .bad) v
 | [], i, _, ρ, v, _ => by simp only [nameLVs, List.getD_nil]; exact .inl rfl
 | x :: xs, 0, h, ρ, v, hv => by
  simp only [nameLVs, List.getD_cons_zero] at hv ⊢
  rcases hv with hv | hv
  ·exact .inl (nameLV_bad.2 hv)
  ·exact .inr (hv.trans (nameLV_den (ρ := ρ) fun ob hb => h ob (List.mem_append_left _ hb)).1.symm)
 | x :: xs, i + 1, h, ρ, v, hv => by
  simp only [nameLVs, List.getD_cons_succ] at hv ⊢
  exact nameLVs_get (fun ob hb => h ob (List.mem_append_right _ hb)) ρ v hv
theorem nameSt_spec {s : St} (h : ∀ ob ∈ (nameSt s).2, ob.nm ε) : Weak ε s (nameSt s).1 := by
 refine ⟨nameLVs_len _, fun ρ i v hv => nameLVs_get (fun ob hb => h ob (List.mem_append_left _ hb)) ρ v hv, fun b cs hb => ?_, fun _ h => h⟩
 obtain ⟨hb, hne⟩ := at_look hb
 obtain ⟨c, h1, h2, h3⟩ := (nameM_den (ε := ε) (fun ob hb => h ob (List.mem_append_right _ hb)) b).2 cs hb
 refine ⟨c, look_at h1 ?_, fun ρ base w hw => hw.ceq h2⟩
 rintro rfl
 obtain ⟨o, os, rfl⟩ := List.exists_cons_of_ne_nil hne
 obtain ⟨y, hy, _⟩ := h2 0 o rfl
 cases hy
theorem nameK_spec {k : Ex} : ∀ {t : Tr}, (∀ ob ∈ (nameK k t).2, ob.nm ε) → ((nameK k t).1.sel ε).1 = (t.sel ε).1 ∧ Weak ε (t.sel ε).2 ((nameK k t).1.sel ε).2
 | .leaf k' s, h => by
  unfold nameK at h ⊢
  split
  ·rename_i hk
   simp only [hk, if_true, fSt_eq] at h
   rw [fSt_eq]
   exact ⟨rfl, nameSt_spec h⟩
  ·exact ⟨rfl, Weak.refl _⟩
 | .node c x y, h => by
  simp only [nameK, Tr.sel] at h ⊢
  split
  ·exact nameK_spec fun ob hb => h ob (List.mem_append_left _ hb)
  ·exact nameK_spec fun ob hb => h ob (List.mem_append_right _ hb)
theorem rnorm_spec (ε : Env) (nm : Bool) (k : Ex) (r : Res) : (Res.norm nm k r).nid = r.nid ∧ (∀ ob ∈ r.obs, ob ∈ (Res.norm nm k r).obs) ∧
  ((∀ ob ∈ (Res.norm nm k r).obs, ob.nm ε) → ((Res.norm nm k r).tr.sel ε).1 = (r.tr.sel ε).1 ∧ Weak ε (r.tr.sel ε).2 ((Res.norm nm k r).tr.sel ε).2) := by
 unfold Res.norm
 have n := norm_spec ε k r.tr
 split
 ·refine ⟨rfl, fun ob hb => List.mem_append_left _ hb, fun h => ?_⟩
  obtain ⟨h1, h2⟩ := nameK_spec (ε := ε) (k := k) (t := norm k r.tr) fun ob hb => h ob (List.mem_append_right _ hb)
  exact ⟨h1.trans n.1, n.2.trans h2⟩
 ·exact ⟨rfl, fun ob hb => hb, fun _ => n⟩
end SX
end
section
namespace SX
open Go.RowKit
variable {P : Program} {ε : Env}
theorem Dom.mono {st : St} {n m : Nat} (h : Dom st n) (hm : n ≤ m) : Dom st m := fun b hb => Nat.lt_of_lt_of_le (h b hb) hm
theorem Dom.weak {s t : St} {n : Nat} (h : Weak ε s t) (hd : Dom s n) : Dom t n := fun b hb => hd b (h.some hb)
theorem Aft.refl (st : St) (ρ : Nat → Nat) (w : World) (nid : Nat) : Aft st ρ w nid st ρ w := ⟨fun _ _ => rfl, Ext.refl _ _, fun _ h => h, fun b hb => .inl hb, fun _ _ h => h⟩
theorem Aft.weak {st s t : St} {ρ ρ' : Nat → Nat} {w w' : World} {nid : Nat} (h : Aft st ρ w nid s ρ' w') (hw : Weak ε s t) : Aft st ρ w nid t ρ' w' :=
 ⟨h.agree, h.ext.mono fun x _ ⟨b, hb, h'⟩ => ⟨b, hw.wr b hb, h'⟩, fun b hb => hw.wr b (h.sub b hb), fun b hb => (h.fresh b (hw.some hb)).imp id fun h => h.imp id fun ⟨k, k1, k2, k3, k4⟩ => ⟨k, hw.wr k k1, k2, hw.none k3, k4⟩, fun b hb hs => h.keep b hb (hw.some hs)⟩
theorem Aft.trans {s0 s1 s2 : St} {ρ0 ρ1 ρ2 : Nat → Nat} {w0 w1 w2 : World} {n0 n1 : Nat} (hd : Dom s0 n0) (hd1 : Dom s1 n1) (hn : n0 ≤ n1) (h : Aft s0 ρ0 w0 n0 s1 ρ1 w1) (k : Aft s1 ρ1 w1 n1 s2 ρ2 w2) : Aft s0 ρ0 w0 n0 s2 ρ2 w2 := by
 have none2 : ∀ b, (s0.at b).isSome = true → s1.at b = none → s2.at b = none := fun b h0 h1 => by
  cases h2 : s2.at b with
  | none => rfl
  | some c =>
   have := k.keep b (Nat.lt_of_lt_of_le (hd b h0) hn) (by rw [h2]; rfl)
   rw [h1] at this; cases this
 refine ⟨fun b hb => (k.agree b (by omega)).trans (h.agree b hb), (h.ext.trans k.ext).mono ?_, fun b hb => k.sub b (h.sub b hb), fun b hb => ?_, fun b hb hs => h.keep b hb (k.keep b (by omega) hs)⟩
 ·rintro x hx (⟨b, hb, h1, h2⟩ | ⟨b, hw, hb, rfl⟩)
  ·exact ⟨b, k.sub b hb, h1, h2⟩
  ·rcases h.fresh b hb with h1 | h1 | ⟨k', k1, k2, k3, k4⟩
   ·exact ⟨b, hw, h1, (h.agree b (hd b h1)).symm⟩
   ·omega
   ·exact ⟨k', k.sub k' k1, k2, k4⟩
 ·rcases k.fresh b hb with h1 | h1 | ⟨k', k1, k2, k3, k4⟩
  ·rcases h.fresh b h1 with h2 | h2 | ⟨k', k1, k2, k3, k4⟩
   ·exact .inl h2
   ·refine .inr (.inl ?_)
    rw [k.agree b (hd1 b h1)]; exact h2
   ·exact .inr (.inr ⟨k', k.sub k' k1, k2, none2 k' k2 k3, k4.trans (k.agree b (hd1 b h1)).symm⟩)
  ·exact .inr (.inl (Nat.le_trans h.ext.size h1))
  ·rcases h.fresh k' k2 with h2 | h2 | ⟨k'', q1, q2, q3, q4⟩
   ·exact .inr (.inr ⟨k', k1, h2, k3, (h.agree k' (hd k' h2)).symm.trans k4⟩)
   ·exact .inr (.inl (by omega))
   ·exact .inr (.inr ⟨k'', k.sub k'' q1, q2, none2 k'' q2 q3, q4.trans k4⟩)
def CodeOk (P : Program) (ε : Env) (w0 : World) (c : Code) (pc : E) (st : St) (nid : Nat) (r : Res) : Prop :=
 nid ≤ r.nid ∧ ((∀ ob ∈ r.obs, ob.ok P ε w0) → (Dom st nid → Dom (r.tr.sel ε).2 r.nid) ∧
 ((pc.den ε).2 = true → Dom st nid → ∀ (d : List Deferred) (ρ : Nat → Nat) (a : Act) (w : World), Rep ε w0 d st ρ a w → ∀ Q : Exit → Act → World → Prop,
  (∀ ρ' a' w', Rep ε w0 d (r.tr.sel ε).2 ρ' a' w' → Aft st ρ w nid (r.tr.sel ε).2 ρ' w' → Q (r.tr.sel ε).1.to a' w') → c.wp P Q a w))
theorem wp_loop_of {c : Code} {Q : Exit → Act → World → Prop} {a : Act} {w : World} (h : LoopWp P c Q a w) : (Code.loop c).wp P Q a w := fun b k cs =>
 let ⟨e, a', w', hq, harr⟩ := h b k cs
 ⟨e, a', w', hq, .of_steps (.one step_loop) harr⟩
theorem loop_round {c : Code} {Q : Exit → Act → World → Prop} {a : Act} {w : World} (h : c.wp P (Exit.then (LoopWp P c Q) Q) a w) : LoopWp P c Q a w := by
 intro b k cs
 obtain ⟨e, a₁, w₁, hq, harr⟩ := h b (.inLoop c :: k) cs
 cases e with
 | normal =>
  obtain ⟨e₂, a₂, w₂, hq₂, harr₂⟩ := hq b k cs
  exact ⟨e₂, a₂, w₂, hq₂, .of_steps (Steps.trans harr (.one step_inLoop)) harr₂⟩
 | exit id => exact ⟨_, a₁, w₁, hq, .pass (x := .inLoop c) rfl (fun _ _ => .inl (by simp)) harr⟩
 | goto l => exact ⟨_, a₁, w₁, hq, .pass (x := .inLoop c) rfl (fun _ _ => .inl (by simp)) harr⟩
 | ret => exact ⟨_, a₁, w₁, hq, .pass (x := .inLoop c) rfl (fun _ _ => .inl (by simp)) harr⟩
 | panic ch => exact ⟨_, a₁, w₁, hq, .pass (x := .inLoop c) rfl (fun _ _ => .inl (by simp)) harr⟩
 | outgrown => exact ⟨_, a₁, w₁, hq, .pass (x := .inLoop c) rfl (fun _ _ => .inl (by simp)) harr⟩
def LoopOk (P : Program) (ε : Env) (w0 : World) (c : Code) (pc : E) (st : St) (nid : Nat) (r : Res) : Prop :=
 nid ≤ r.nid ∧ ((∀ ob ∈ r.obs, ob.ok P ε w0) → (Dom st nid → Dom (r.tr.sel ε).2 r.nid) ∧
 ((pc.den ε).2 = true → Dom st nid → ∀ (d : List Deferred) (ρ : Nat → Nat) (a : Act) (w : World), Rep ε w0 d st ρ a w → ∀ Q : Exit → Act → World → Prop,
  (∀ ρ' a' w', Rep ε w0 d (r.tr.sel ε).2 ρ' a' w' → Aft st ρ w nid (r.tr.sel ε).2 ρ' w' → Q (r.tr.sel ε).1.to a' w') → LoopWp P c Q a w))
theorem CodeOk.norm {w0 : World} {c : Code} {pc : E} {st : St} {nid : Nat} {r : Res} (nm : Bool) (k : Ex) (h : CodeOk P ε w0 c pc st nid r) : CodeOk P ε w0 c pc st nid (Res.norm nm k r) := by
 obtain ⟨h1, h2⟩ := h
 obtain ⟨m1, m2, m3⟩ := rnorm_spec ε nm k r
 refine ⟨by rw [m1]; exact h1, fun hobs => ?_⟩
 obtain ⟨n1, n2⟩ := m3 fun ob hb => (hobs ob hb).nm
 obtain ⟨h2, h3⟩ := h2 fun ob hb => hobs ob (m2 ob hb)
 refine ⟨fun hd => by rw [m1]; exact (h2 hd).weak n2, fun hpc hd d ρ a w hr Q hQ => h3 hpc hd d ρ a w hr Q fun ρ' a' w' hr' ha' => ?_⟩
 rw [← n1]
 exact hQ ρ' a' w' (hr'.weak n2) (ha'.weak n2)
theorem pc_t {e pc : E} (h1 : (e.den ε).2 = true) (h2 : (pc.den ε).2 = true) : ((mkIf e pc (.blit false)).den ε).2 = true := by rw [mkIf_den, h1, if_pos rfl]; exact h2
theorem pc_f {e pc : E} (h1 : (e.den ε).2 = false) (h2 : (pc.den ε).2 = true) : ((mkIf e (.blit false) pc).den ε).2 = true := by rw [mkIf_den, h1, if_neg (by simp)]; exact h2
theorem flat_spec {ops : Array Oper} {bs : List Nat} {nid sp : Nat} : ∀ {T : Ops} {acc : List Rec} {tr : Tr}, flat ops bs nid sp T acc = some tr → ∃ recs st', T.path ε = some (recs, st') ∧ regionOk ops (acc.reverse ++ recs) bs nid sp = true ∧ tr.sel ε = (.normal, st')
 | .done st nv, acc, tr, h => by
  simp only [flat, recsK_eq, List.append_nil] at h
  split at h
  ·rename_i hok; cases h; exact ⟨[], st, rfl, by simpa using hok, rfl⟩
  ·cases h
 | .op r obs rest, acc, tr, h => by
  simp only [flat] at h
  obtain ⟨recs, st', h1, h2, h3⟩ := flat_spec h
  exact ⟨r :: recs, st', by simp [Ops.path, h1], by simpa using h2, h3⟩
 | .fork e x y, acc, tr, h => by
  simp only [flat] at h
  split at h
  ·rename_i a b ha hb
   cases h
   simp only [Ops.path, Tr.sel]
   cases (e.den ε).2
   ·simp only [Bool.false_eq_true, if_false]; exact flat_spec hb
   ·simp only [if_true]; exact flat_spec ha
  ·cases h
 | .none, acc, tr, h => by cases h
theorem path_fold {sub : Sub} {sp : Nat} {ops : Array Oper} : ∀ {l : List Oper} {nid : Nat} {pc : E} {dec : List (E × Bool)} {st : St} {nv : Nat} {recs : List Rec} {st' : St},
  (evOps P sub sp ops l nid pc dec st nv).path ε = some (recs, st') → st' = recs.foldl St.apply st
 | [], nid, pc, dec, st, nv, recs, st', h => by simp only [evOps, Ops.path] at h; cases h; rfl
 | o :: l, nid, pc, dec, st, nv, recs, st', h => by
  have go : ∀ (rc : Rec) (pc : E) (dec : List (E × Bool)) (nv : Nat) (obs : List Ob), (Ops.op rc obs (evOps P sub sp ops l (nid + sp) pc dec (st.apply rc) nv)).path ε = some (recs, st') → st' = recs.foldl St.apply st := by
   intro rc pc dec nv obs hp
   simp only [Ops.path, Option.map_eq_some_iff] at hp
   obtain ⟨⟨recs1, st1⟩, he, heq⟩ := hp
   cases heq
   rw [path_fold he]; rfl
  have run : ∀ (pc : E) (dec : List (E × Bool)) (nv : Nat) (T : Ops), T = (match evOp P sub sp nid pc st.look st.at nv dec o with
    | some r => .op ⟨o.dst, r.val, r.fp, r.upd⟩ r.obs (evOps P sub sp ops l (nid + sp) pc dec (st.apply ⟨o.dst, r.val, r.fp, r.upd⟩) r.nv)
    | none => .none) → T.path ε = some (recs, st') → st' = recs.foldl St.apply st := by
   intro pc dec nv T hT hr
   split at hT
   ·subst hT; exact go _ _ _ _ _ hr
   ·subst hT; cases hr
  rw [evOps_cons] at h
  dsimp only at h
  split at h
  ·exact run _ _ _ _ rfl h
  ·split at h
   ·split at h
    ·split at h
     ·exact run _ _ _ _ rfl h
     ·exact go _ _ _ _ [] h
    ·split at h
     ·split at h
      ·exact run _ _ _ _ rfl h
      ·exact go _ _ _ _ [] h
     ·split at h
      ·simp only [Ops.path] at h
       split at h
       ·exact run _ _ _ _ rfl h
       ·exact go _ _ _ _ [] h
      ·simp only [Ops.path] at h
       split at h
       ·exact go _ _ _ _ [] h
       ·exact run _ _ _ _ rfl h
   ·exact go _ _ _ _ [] h
   ·cases h
theorem evRegion_ok (hmix : P.follows .mixedOrders = true) {w0 : World} {sub : Sub} {sp : Nat} (hsp : 0 < sp) (hsub : SubOk P ε w0 sub) {ops : Array Oper} {st : St} {nid id : Nat} {draw : Bool} {pc : E} {nv : Nat} {r : Res}
  (h : evRegion P sub sp ops st nid pc nv = some r) : CodeOk P ε w0 (Code.region id ops draw) pc st nid r := by
 unfold evRegion at h
 dsimp only at h
 simp only [fNs_eq] at h
 split at h
 ·rename_i hids
  split at h
  ·rename_i tr htr
   cases h
   obtain ⟨recs, st', hp, hok, hsel⟩ := flat_spec (ε := ε) htr
   simp only [List.reverse_nil, List.nil_append] at hok
   have hn := regionOk_spec hok
   obtain ⟨f1, f2, f3⟩ := hn
   refine ⟨by dsimp only; omega, fun hobs => ⟨fun hd b hb => ?_, fun hpc hd d ρ a w hr Q hQ => ?_⟩⟩
   ·dsimp only at hb ⊢
    rw [hsel] at hb
    dsimp only at hb
    by_cases hold : (st.at b).isSome = true
    ·have := hd b hold; omega
    ·-- a block of an operation's own
     have e0 : st' = recs.foldl St.apply st := path_fold hp
     have e1 : st' = lexSt recs st recs.length := by rw [e0]; unfold lexSt; rw [List.take_length]
     rw [e1, lexSt_at recs st b _ (Nat.le_refl _)] at hb
     have top : ∀ j, j < ops.size → NW (nid + j * sp) sp b → b < nid + ops.size * sp := fun j hj h => by
      obtain ⟨_, h2⟩ := h
      have := Nat.mul_le_mul_right sp (show j + 1 ≤ ops.size from hj)
      rw [Nat.succ_mul] at this; omega
     split at hb
     ·cases hb
     ·rename_i c hnn hl
      obtain ⟨j, hj, h2⟩ := latest_some _ hl
      unfold wM at h2
      split at h2
      ·rename_i q hq
       have hjn : j < ops.size := by omega
       have hro := f3 j _ q (Array.getElem?_eq_getElem hjn) hq
       have hk := hro.keys _ (lookup_mem h2)
       dsimp only at hk
       rcases hk with g | g | ⟨j', g, g'⟩
       ·omega
       ·exact top j hjn g
       ·have := hro.lt j' g; exact top j' (by omega) g'
      ·cases h2
     ·exact absurd hb hold
   ·rw [hsel] at hQ
    exact region_leaf hmix hsp hsub hp hok hids hobs hpc hr fun ρ' a' w' h1 h2 => hQ ρ' a' w' h1 h2
  ·cases h
 ·cases h
theorem behind_spec {f : E → St → Nat → Nat → Option Res} (hf : ∀ pc s nv nid r, f pc s nv nid = some r → nid ≤ r.nid) : ∀ {t : Tr} {pc : E} {nv nid : Nat} {q : Res}, behind f t pc nv nid = some q →
  nid ≤ q.nid ∧ ((t.sel ε).1 ≠ .normal → q.tr.sel ε = t.sel ε) ∧
  ((t.sel ε).1 = .normal → ∃ pc' nv' nid' r, f pc' (t.sel ε).2 nv' nid' = some r ∧ q.tr.sel ε = r.tr.sel ε ∧ ((pc.den ε).2 = true → (pc'.den ε).2 = true) ∧ (∀ ob ∈ r.obs, ob ∈ q.obs) ∧ nid ≤ nid' ∧ r.nid ≤ q.nid)
 | .leaf .normal s, pc, nv, nid, q, h => by
  simp only [behind] at h
  exact ⟨hf _ _ _ _ _ h, fun hn => absurd rfl hn, fun _ => ⟨pc, nv, nid, q, h, rfl, id, fun _ h => h, Nat.le_refl _, Nat.le_refl _⟩⟩
 | .leaf (.exit i) s, pc, nv, nid, q, h => by
  simp only [behind] at h; cases h
  exact ⟨Nat.le_refl _, fun _ => rfl, fun hn => by cases hn⟩
 | .leaf .ret s, pc, nv, nid, q, h => by
  simp only [behind] at h; cases h
  exact ⟨Nat.le_refl _, fun _ => rfl, fun hn => by cases hn⟩
 | .node c x y, pc, nv, nid, q, h => by
  simp only [behind, fE_eq] at h
  split at h
  ·rename_i r1 h1
   split at h
   ·rename_i r2 h2
    cases h
    obtain ⟨a1, a2, a3⟩ := behind_spec hf h1
    obtain ⟨b1, b2, b3⟩ := behind_spec hf h2
    simp only [Tr.sel]
    refine ⟨by omega, ?_, ?_⟩
    ·cases hc : (c.den ε).2
     ·simp only [Bool.false_eq_true, if_false]; exact b2
     ·simp only [if_true]; exact a2
    ·cases hc : (c.den ε).2
     ·simp only [Bool.false_eq_true, if_false]
      intro hn
      obtain ⟨pc', nv', nid', r, e1, e2, e3, e4, e5, e6⟩ := b3 hn
      exact ⟨pc', nv', nid', r, e1, e2, fun hp => e3 (pc_f hc hp), fun ob hb => List.mem_append_right _ (e4 ob hb), by omega, e6⟩
     ·simp only [if_true]
      intro hn
      obtain ⟨pc', nv', nid', r, e1, e2, e3, e4, e5, e6⟩ := a3 hn
      exact ⟨pc', nv', nid', r, e1, e2, fun hp => e3 (pc_t hc hp), fun ob hb => List.mem_append_left _ (e4 ob hb), e5, by omega⟩
   ·cases h
  ·cases h
theorem unExit_sel (id : Nat) : ∀ (t : Tr), (unExit id t).sel ε = (match (t.sel ε).1 with | .exit id' => if id' = id then .normal else .exit id' | k => k, (t.sel ε).2)
 | .leaf .normal s => rfl
 | .leaf .ret s => rfl
 | .leaf (.exit id') s => by simp only [unExit, Tr.sel]; split <;> rfl
 | .node c x y => by
  simp only [unExit, Tr.sel]
  split
  ·exact unExit_sel id x
  ·exact unExit_sel id y
theorem toRet_sel : ∀ (t : Tr), (toRet t).sel ε = (match (t.sel ε).1 with | .normal => .ret | k => k, (t.sel ε).2)
 | .leaf .normal s => rfl
 | .leaf .ret s => rfl
 | .leaf (.exit id') s => rfl
 | .node c x y => by
  simp only [toRet, Tr.sel]
  split
  ·exact toRet_sel x
  ·exact toRet_sel y
def resVar (tmps : Array Value) : ResultVar → Sem Value
 | .tmp t => pure (tmps.getD t undef)
 | .cell b t => asAddr (tmps.getD b undef) >>= fun a => loadVar t a
theorem results_eq (fn : Func) (tmps : Array Value) : results fn tmps = (fn.results.mapM (resVar tmps) >>= fun vs => pure (if h : vs.size = 1 then vs[0] else .tuple vs)) := by
 unfold results
 congr 2
theorem resultsOf_spec {w0 : World} {d : List Deferred} {s : St} {ρ : Nat → Nat} {a : Act} {w : World} (hr : Rep ε w0 d s ρ a w) : ∀ {rs : List ResultVar} {vs : List V1}, resultsOf P s rs = some vs →
  (rs.mapM (resVar a.tmps)).run P w = .ok (vs.map (V1.den ε ρ)) w
 | [], vs, h => by simp [resultsOf] at h; subst h; simp
 | .tmp t :: rest, vs, h => by
  simp only [resultsOf] at h
  split at h
  ·rename_i v vs' h1 h2
   cases h
   have e : a.tmps.getD t undef = v.den ε ρ := by
    have := (hr.slots t).get (by rw [h1]; simp)
    rw [h1] at this; exact this
   rw [List.mapM_cons]
   have hB : (resVar a.tmps (.tmp t)).run P w = .ok (v.den ε ρ) w := by
    simp only [resVar, e, Sem.run_pure]
   simp only [Sem.run_bind, hB, Sem.run_pure, Result.andThen, resultsOf_spec hr h2, List.map_cons]

  ·cases h
 | .cell b t :: rest, vs, h => by
  simp only [resultsOf] at h
  split at h
  ·rename_i v _ _ _ _ vs' h1 h2
   cases h
   have hb : s.look b ≠ .bad := by intro e; rw [e] at h1; simp [evLoad] at h1
   have e := (hr.slots b).get hb
   obtain ⟨_, _, l3⟩ := load_out (base := w0.heap.size) (ρ := ρ) (ε := ε) (w := w) h1 (fun b _ cs hcs => hr.blocks b cs hcs)
   rw [← e] at l3
   obtain ⟨y, hy, hl⟩ : ∃ y, a.tmps.getD b undef = .pointer (some y) ∧ (loadVar t y).run P w = .ok (v.den ε ρ) w := by
    cases hv : a.tmps.getD b undef with
    | pointer x =>
     cases x with
     | some y =>
      rw [hv] at l3
      refine ⟨y, rfl, ?_⟩
      simpa [Instr.loadAt, Instr.sureAddr, Result.andThen, LV.den] using l3
     | none => rw [hv] at l3; simp [Instr.loadAt, Instr.sureAddr, Result.andThen] at l3
    | _ => rw [hv] at l3; simp [Instr.loadAt, Instr.sureAddr, Result.andThen] at l3
   have hA : (asAddr (a.tmps.getD b undef)).run P w = .ok y w := by rw [hy]; rfl
   rw [List.mapM_cons]
   have hB : (resVar a.tmps (.cell b t)).run P w = .ok (v.den ε ρ) w := by
    simp only [resVar, Sem.run_bind, hA, hl, Result.andThen]
   simp only [Sem.run_bind, hB, Result.andThen, Sem.run_pure, resultsOf_spec hr h2, List.map_cons]
  ·cases h
end SX
end
end Go.Proofs.Ytfgfnjckklldbaa
