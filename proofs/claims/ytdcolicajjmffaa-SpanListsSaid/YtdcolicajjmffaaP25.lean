/- Packed: QX. -/
import Derived.KernelRfl
import Derived.Test.YtdcolicajjmffaaP4
set_option linter.unusedVariables false
set_option linter.unusedSimpArgs false
namespace Go.Proofs.Ytdcolicajjmffaa
section
namespace QX
section
variable {P : Program} {ops : Array Oper} {md : Region.Mode} {C : World → Prop}
def reachB (md : Region.Mode) (ops : Array Oper) : Nat → Nat → Nat → Bool
 | 0, _, _ => false
 | f + 1, t, i => match ops[t]? with
  | some o => o.after.any fun e => Region.binds md e && (e.on == i || reachB md ops f e.on i)
  | none => true
def reachAll (md : Region.Mode) (ops : Array Oper) (n : Nat) : Bool := (List.range ops.size).all fun t => decide (t < n) || (List.range n).all fun i => reachB md ops ops.size t i
theorem reach_listed {n i : Nat} {done : Array Bool} (inv : HeadInv md ops n done) : ∀ (f t : Nat), (∃ o, ops[t]? = some o ∧ ∀ e ∈ o.after, Region.binds md e = true → done.getD e.on false = true) → reachB md ops f t i = true → done.getD i false = true
 | 0, t, h, hr => by cases hr
 | f + 1, t, ⟨o, ho, hall⟩, hr => by
  simp only [reachB, ho] at hr
  obtain ⟨e, he, hb⟩ := Array.any_eq_true'.1 hr
  simp only [Bool.and_eq_true, Bool.or_eq_true, beq_iff_eq] at hb
  have h1 := hall e he hb.1
  rcases hb.2 with h2 | h2
  ·rw [← h2]; exact h1
  ·have hlt : e.on < ops.size := by
    rcases Nat.lt_or_ge e.on done.size with h' | h'
    ·exact inv.size ▸ h'
    ·simp [Array.getElem?_eq_none h'] at h1
   have hs : ops[e.on]? = some ops[e.on] := by simp [hlt]
   exact reach_listed inv f e.on ⟨ops[e.on], hs, inv.closed e.on _ hs h1⟩ h2
theorem waits {n i j : Nat} {done : Array Bool} (hT : reachAll md ops n = true) (inv : HeadInv md ops n done) (hin : i < n) (hun : done.getD i true = false) (hle : n ≤ j) (hj : j ∈ Region.ready md ops done) : False := by
 obtain ⟨_, o, ho, hall⟩ := mem_ready.1 hj
 have hlt : j < ops.size := (Array.getElem?_eq_some_iff.1 ho).1
 have h1 := List.all_eq_true.1 hT j (List.mem_range.2 hlt)
 simp only [Bool.or_eq_true, decide_eq_true_eq] at h1
 have h2 := List.all_eq_true.1 (h1.resolve_left (by omega)) i (List.mem_range.2 hin)
 have := reach_listed inv _ j ⟨o, ho, hall⟩ h2
 rw [getD_both hun] at this
 cases this
theorem head_take {n i : Nat} {oi : Oper} {v : Value} {L : Array Bool → Act → Prop} (hi : ops[i]? = some oi) (hsel : ∀ (j : Nat) (o : Oper) cs b, ops[j]? = some o → o.op ≠ .select cs b)
  (hT : reachAll md ops n = true) (hin : i < n)
  (hend : ∀ done a, L done a → ∀ j ∈ Region.ready md ops done, n ≤ j) (k : Nat) :
  ∀ (done : Array Bool) (a : Act), HeadInv md ops n done →
   (∀ j oj, ops[j]? = some oj → j ≠ i → done.getD j true = false → (∀ e ∈ oj.after, Region.binds md e = true → e.on ≠ i) → oi.apart ops oj = true) →
   i ∈ Region.ready md ops done → YieldsIn P ops C oi v a →
   QT.headFirst P md ops C n L k (done.setIfInBounds i true) (a.put oi.dst v) → QT.headFirst P md ops C n L (k + 1) done a := by
 induction k with
 | zero =>
  intro done a inv _ hr hy H
  refine ⟨List.ne_nil_of_mem hr, fun j hj => ?_⟩
  have hjn : j < n := Nat.lt_of_not_le fun hle => waits hT inv hin (mem_ready.1 hr).1 hle hj
  refine ⟨hjn, ?_⟩
  by_cases hji : j = i
  ·subst hji; exact hy.qOp hi H
  ·exact absurd (hend _ _ H j (ready_mono hj hji)) (by omega)
 | succ k ih =>
  intro done a inv hfree hr hy H
  refine ⟨List.ne_nil_of_mem hr, fun j hj => ?_⟩
  have hun := (mem_ready.1 hr).1
  have hjn : j < n := Nat.lt_of_not_le fun hle => waits hT inv hin hun hle hj
  refine ⟨hjn, ?_⟩
  by_cases hji : j = i
  ·subst hji; exact hy.qOp hi H
  ·obtain ⟨hjun, oj, hoj, hall⟩ := mem_ready.1 hj
   have hno : ∀ e ∈ oj.after, Region.binds md e = true → e.on ≠ i := fun e he hb heq => by
    have h1 := hall e he hb
    rw [heq, getD_both hun] at h1
    cases h1
   have step := qOp_put hoj (hfree j oj hoj hji hjun hno) (fun cs b => hsel i oi cs b hi) (fun cs b => hsel j oj cs b hoj) hy (H.2 j (ready_mono hj hji)).2
   refine qOp_mono (fun a' h3 => ih _ a' (inv.set hj hjn) (fun q oq hq hqi hqun hqno => ?_) (ready_mono hr (Ne.symm hji)) h3.1 ?_) step
   ·refine hfree q oq hq hqi ?_ hqno
    by_cases hjq : j = q
    ·exact hjq ▸ hjun
    ·rwa [getD_set_ne true hjq] at hqun
   ·rw [Array.setIfInBounds_comm _ _ hji]; exact h3.2

def seqI (md : Region.Mode) (ops : Array Oper) : List Nat → Array Bool → Bool
 | [], done => (Region.ready md ops done).isEmpty
 | i :: is, done => decide (Region.ready md ops done = [i]) && seqI md ops is (done.setIfInBounds i true)
theorem wpAny_of_seqI {Q' : Exit → Act → World → Prop} : ∀ (is : List Nat) (l : List Oper) (done : Array Bool) (a : Act) (w : World), is.map (ops[·]?) = l.map some →
  seqI md ops is done = true → wpList P ops Q' l a w → wpAny P md ops Q' is.length done a w
 | [], l, done, a, w, hl, hB, h => by
  obtain rfl : l = [] := by cases l <;> simp_all
  exact ⟨by simpa [seqI] using hB, h⟩
 | i :: is, l, done, a, w, hl, hB, h => by
  match l, hl with
  | o :: l, hl =>
   simp only [List.map_cons, List.cons.injEq] at hl
   obtain ⟨h0, hl2⟩ := hl
   simp only [seqI, Bool.and_eq_true, decide_eq_true_eq] at hB
   refine ⟨fun h1 => (by rw [hB.1] at h1; cases h1), fun j hj => ?_⟩
   rw [hB.1] at hj
   obtain rfl : j = i := by simpa using hj
   have hw : wpOp P ops Q' j (wpList P ops Q' l) a w := by unfold wpOp; simp only [h0]; exact h
   exact wpOp_mono (fun a' w' h' => wpAny_of_seqI is l _ a' w' hl2 hB.2 h') hw
def tail2 (md : Region.Mode) (ops : Array Oper) (is : List Nat) (n m : Nat) (done : Array Bool) : Bool :=
 (Region.ready md ops done).all (fun j => decide (n ≤ j)) && (Region.ready md ops done).contains m && Region.free md ops done m && seqI md ops is (done.setIfInBounds m true)
def lexHead2 (md : Region.Mode) (ops : Array Oper) (is : List Nat) (n m : Nat) : Nat → Nat → Array Bool → Bool
 | 0, _, done => tail2 md ops is n m done
 | f + 1, k, done => (Region.ready md ops done).contains k && Region.free md ops done k && lexHead2 md ops is n m f (k + 1) (done.setIfInBounds k true)
theorem tail2_ready {is : List Nat} {n m : Nat} {done : Array Bool} (h : tail2 md ops is n m done = true) : ∀ j ∈ Region.ready md ops done, n ≤ j := by
 intro j hj
 simp only [tail2, Bool.and_eq_true] at h
 exact of_decide_eq_true (List.all_eq_true.1 h.1.1.1 j hj)
theorem head_lex2 {is : List Nat} {n m : Nat} {Lq : Act → Prop} (hsel : Region.noSelect ops = true) (hT : reachAll md ops n = true) :
  ∀ (l : List Oper) (k : Nat) (done : Array Bool) (a : Act), (∀ j, j < l.length → l[j]? = ops[k + j]?) → k + l.length = n → HeadInv md ops n done →
  lexHead2 md ops is n m l.length k done = true → wpQuiet P ops C Lq l a →
  QT.headFirst P md ops C n (fun done' a' => tail2 md ops is n m done' = true ∧ Lq a') l.length done a := by
 intro l
 induction l with
 | nil =>
  intro k done a _ hk _ hB h
  exact ⟨by simpa [lexHead2] using hB, h⟩
 | cons o l ih =>
  intro k done a hl hk inv hB h
  have h0 : ops[k]? = some o := by simpa using (hl 0 (by simp)).symm
  have hk' : k + (l.length + 1) = n := by simpa using hk
  simp only [List.length_cons, lexHead2, Bool.and_eq_true] at hB
  obtain ⟨⟨hr, hf⟩, hB'⟩ := hB
  have hr' : k ∈ Region.ready md ops done := by simpa using hr
  have hq : qOp P ops C k (wpQuiet P ops C Lq l) a := by unfold qOp; simp only [h0]; exact h
  obtain ⟨v, hy, hK⟩ := yieldsIn_of_qOp h0 hq
  exact head_take h0 (Region.noSelect_spec hsel) hT (by omega) (fun _ _ hL => tail2_ready hL.1) l.length done a inv (Region.free_spec h0 hf) hr' hy
   (ih (k + 1) _ _ (fun j hj => by have := hl (j + 1) (by simpa using hj); simpa [Nat.add_assoc, Nat.add_comm 1 j] using this) (by omega) (inv.set hr' (by omega)) hB' hK)
def tail1B (md : Region.Mode) (ops : Array Oper) (n m : Nat) (is : List Nat) : Bool :=
 Region.noSelect ops && decide (n < ops.size) && decide (n + is.length + 1 = ops.size) && reachAll md ops n && lexHead2 md ops is n m n 0 (Array.replicate ops.size false)
theorem region_tail1 {id : Nat} {Q : Exit → Act → World → Prop} {a : Act} {w : World} {l : List Oper} (n m : Nat) (is : List Nat) (C : World → Prop) (on : Oper) (tl : List Oper) (hm : P.follows .mixedOrders = true) (hB : tail1B .any l.toArray n m is = true) (hC : C w.drew)
  (hon : l[m]? = some on) (htl' : is.map (l.toArray[·]?) = tl.map some) (hQ : ∀ v c a w, Q (.panic c) (a.put on.dst v) w → Q (.panic c) a w)
  (h : wpQuiet P l.toArray C (fun a' => ∃ v, Yields P l.toArray on v a' ∧ ∀ w', C w' → wpList P l.toArray Q tl (a'.put on.dst v) w') (l.take n) a) : (Code.region id l.toArray true).wp P Q a w := by
 simp only [tail1B, Bool.and_eq_true, decide_eq_true_eq] at hB
 obtain ⟨⟨⟨⟨hsel, hn⟩, hsz⟩, hT0⟩, hlex⟩ := hB
 have hn' : n < l.length := by simpa using hn
 have htl : (l.take n).length = n := by simp; omega
 have inv0 : HeadInv .any l.toArray n (Array.replicate l.toArray.size false) :=
  ⟨by simp, fun j oj _ hl => (by rw [getD_replicate_false] at hl; cases hl), fun t _ ht => getD_in (by simpa using ht) (getD_replicate_false _ _)⟩
 have H := head_lex2 (P := P) (C := C) (md := .any) (is := is) (m := m) hsel hT0 (l.take n) 0 _ a (fun j hj => by
  have hj' : j < n := by rw [htl] at hj; exact hj
  simp [hj']) (by simpa using htl) inv0 (by rw [htl]; exact hlex) h
 refine wp_region_any hm ?_
 have := QT.any_of_head (R := Q) (g := is.length + 1) (fun done a' w' hw' hL => by
  obtain ⟨hT, v, hy, hk⟩ := hL
  simp only [tail2, Bool.and_eq_true] at hT
  obtain ⟨⟨⟨_, hr⟩, hf⟩, hseq⟩ := hT
  exact wpAny_take (i := m) (by simpa using hon) hsel hf hr (hQ v) hy (wpAny_of_seqI is tl _ _ w' htl' hseq (hk w' hw'))) _ _ _ _ hC H
 rw [htl, show n + (is.length + 1) = l.toArray.size by omega] at this
 exact this
end
open Go.RowKit in
theorem tail1_b {P : Program} {id : Nat} {Q : Exit → Act → World → Prop} {a : Act} {w : World} {l : List Oper} (n m : Nat) (is : List Nat) (on : Oper) (tl : List Oper) (hm : P.follows .mixedOrders = true) (hB : tail1B .any l.toArray n m is = true)
  (hon : l[m]? = some on) (htl' : is.map (l.toArray[·]?) = tl.map some) (hQ : ∀ v c a w, Q (.panic c) (a.put on.dst v) w → Q (.panic c) a w)
  (h : wpQuiet P l.toArray (fun w' => Below w.heap.size w w') (fun a' => ∃ v, Yields P l.toArray on v a' ∧ ∀ w', Below w.heap.size w w' → wpList P l.toArray Q tl (a'.put on.dst v) w') (l.take n) a) : (Code.region id l.toArray true).wp P Q a w :=
 region_tail1 n m is _ on tl hm hB (Below.refl _ _).drew hon htl' hQ h
end QX
end
end Go.Proofs.Ytdcolicajjmffaa
