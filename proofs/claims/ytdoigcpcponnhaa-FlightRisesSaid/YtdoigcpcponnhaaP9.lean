/- Packed: Div DivA DivB QF. -/
import Derived.Test.YtdoigcpcponnhaaP8
set_option linter.unusedVariables false
set_option linter.unusedSimpArgs false
section
namespace Go.Proofs.Ytdoigcpcponnhaa
open Go.RowKit
theorem quo_u64 {a b : Int} (ha : 0 ≤ a ∧ a < 18446744073709551616) (hb : 0 < b) : IntKind.u64.wrap (a.tdiv b) = a / b ∧ a.tmod b = a % b := by
 have h1 := Int.ediv_nonneg ha.1 (Int.le_of_lt hb)
 have h2 := Int.ediv_le_self b ha.1
 have h3 := Int.emod_nonneg a (show b ≠ 0 by omega)
 have h4 : a % b ≤ a := by
  have := Int.emod_add_mul_ediv a b
  have := Int.mul_nonneg (Int.le_of_lt hb) h1
  omega
 rw [Int.tdiv_eq_ediv_of_nonneg ha.1, Int.tmod_eq_emod_of_nonneg ha.1, u64w]
 generalize a / b = x at *
 exact ⟨by omega, rfl⟩
theorem wsmall {n : Int} (h : 0 ≤ n) (h2 : n < 18446744073709551616) : wH n = 0 ∧ wL n = n := by unfold wH wL; omega
structure DivInv (w wr : World) (n d : Int) : Prop where
 below : Below w.heap.size w wr
 size : w.heap.size + 1 + 1 + 1 < wr.heap.size
 n0 : wr.cell? ⟨w.heap.size, 0, none⟩ = some (.int .i64 (wH n))
 n1 : wr.cell? ⟨w.heap.size, 1, none⟩ = some (.int .u64 (wL n))
 d0 : wr.cell? ⟨w.heap.size + 1, 0, none⟩ = some (.int .i64 (wH d))
 d1 : wr.cell? ⟨w.heap.size + 1, 1, none⟩ = some (.int .u64 (wL d))
 q0 : wr.cell? ⟨w.heap.size + 1 + 1, 0, none⟩ = some (.int .i64 0)
 q1 : wr.cell? ⟨w.heap.size + 1 + 1, 1, none⟩ = some (.int .u64 0)
 r0 : wr.cell? ⟨w.heap.size + 1 + 1 + 1, 0, none⟩ = some (.int .i64 0)
 r1 : wr.cell? ⟨w.heap.size + 1 + 1 + 1, 1, none⟩ = some (.int .u64 0)
 qf0 : wr.frozen? ⟨w.heap.size + 1 + 1, 0, none⟩ = false
 qf1 : wr.frozen? ⟨w.heap.size + 1 + 1, 1, none⟩ = false
 rf0 : wr.frozen? ⟨w.heap.size + 1 + 1 + 1, 0, none⟩ = false
 rf1 : wr.frozen? ⟨w.heap.size + 1 + 1 + 1, 1, none⟩ = false
theorem DivInv.next {w wr w' : World} {n d : Int} (h : DivInv w wr n d) (hb : Below (w.heap.size + 1 + 1 + 1 + 1) wr w') : DivInv w w' n d := by
 have hs := hb.size
 have c : ∀ b o, b < w.heap.size + 1 + 1 + 1 + 1 → w'.cell? ⟨b, o, none⟩ = wr.cell? ⟨b, o, none⟩ := fun b o hlt => hb.cell (p := ⟨b, o, none⟩) hlt
 have f : ∀ b o, b < w.heap.size + 1 + 1 + 1 + 1 → w'.frozen? ⟨b, o, none⟩ = wr.frozen? ⟨b, o, none⟩ := fun b o hlt => hb.frozen (p := ⟨b, o, none⟩) hlt
 exact ⟨h.below.trans (hb.mono (by omega)), by have := h.size; omega, (c _ _ (by omega)).trans h.n0, (c _ _ (by omega)).trans h.n1, (c _ _ (by omega)).trans h.d0, (c _ _ (by omega)).trans h.d1,
  (c _ _ (by omega)).trans h.q0, (c _ _ (by omega)).trans h.q1, (c _ _ (by omega)).trans h.r0, (c _ _ (by omega)).trans h.r1,
  (f _ _ (by omega)).trans h.qf0, (f _ _ (by omega)).trans h.qf1, (f _ _ (by omega)).trans h.rf0, (f _ _ (by omega)).trans h.rf1⟩
theorem tb_step (n t : Nat) (h : n < 2 ^ (t + 1)) (hb : bitB n t = false) : n < 2 ^ t := by
 unfold bitB at hb
 rw [Nat.testBit_eq_decide_div_mod_eq, decide_eq_false_iff_not] at hb
 have h1 : n / 2 ^ t < 2 := by rw [Nat.div_lt_iff_lt_mul (Nat.two_pow_pos t)]; rw [Nat.pow_succ] at h; omega
 have h2 : n / 2 ^ t = 0 := by generalize n / 2 ^ t = m at *; omega
 exact (Nat.div_eq_zero_iff_lt (Nat.two_pow_pos t)).1 h2
structure Div2 (w wr : World) (n d : Int) (bq br : Nat) (q r : Int) : Prop where
 inv : DivInv w wr n d
 lo : w.heap.size + 1 + 1 + 1 < bq
 lt : bq < br
 sz : br < wr.heap.size
 q0 : wr.cell? ⟨bq, 0, none⟩ = some (.int .i64 (wH q))
 q1 : wr.cell? ⟨bq, 1, none⟩ = some (.int .u64 (wL q))
 r0 : wr.cell? ⟨br, 0, none⟩ = some (.int .i64 (wH r))
 r1 : wr.cell? ⟨br, 1, none⟩ = some (.int .u64 (wL r))
 qf0 : wr.frozen? ⟨bq, 0, none⟩ = false
 qf1 : wr.frozen? ⟨bq, 1, none⟩ = false
 rf0 : wr.frozen? ⟨br, 0, none⟩ = false
 rf1 : wr.frozen? ⟨br, 1, none⟩ = false
theorem rplus1 (x : Int) (h : R127 x) (h2 : R127 (x + 1)) (w : World) :
  Calls Try.prog 61 #[.agg #[.int .i64 (wH (x)), .int .u64 (wL (x))], .agg #[.int .i64 0, .int .u64 1]] w fun e w' => e = .returned (.agg #[.int .i64 (wH (x + 1)), .int .u64 (wL (x + 1))]) ∧ Below w.heap.size w w' :=
 rplus x 1 h (by constructor <;> omega) h2 w
theorem bit_split (n k : Nat) : n / 2 ^ k = 2 * (n / 2 ^ (k + 1)) + (if bitB n k then 1 else 0) := by
 have h1 : n / 2 ^ (k + 1) = n / 2 ^ k / 2 := by rw [Nat.pow_succ, Nat.div_div_eq_div_mul]
 unfold bitB
 rw [h1, Nat.testBit_eq_decide_div_mod_eq]
 generalize n / 2 ^ k = m
 by_cases h : m % 2 = 1
 ·simp [h]; omega
 ·simp [h]; omega
def DivEq (n : Nat) (d : Int) (m q r : Int) : Prop := ((n / 2 ^ (m + 1).toNat : Nat) : Int) = q * d + r
theorem div_top {n : Nat} {d : Int} {t : Nat} (h : n < 2 ^ (t + 1)) : DivEq n d t 0 0 := by
 unfold DivEq
 rw [show ((t : Int) + 1).toNat = t + 1 by omega, Nat.div_eq_of_lt h]
 simp
theorem div_low {n : Nat} {d m q r : Int} (hm : 0 ≤ m) (h : DivEq n d m q r) : ((n / 2 ^ (m - 1 + 1).toNat : Nat) : Int) = 2 * (q * d + r) + (if bitB n m.toNat then 1 else 0) := by
 unfold DivEq at h
 rw [show (m - 1 + 1).toNat = m.toNat by omega, bit_split, ← h, show (m + 1).toNat = m.toNat + 1 by omega]
 split <;> simp
theorem div_same {n : Nat} {d m q r : Int} (b : Int) (hm : 0 ≤ m) (h : DivEq n d m q r) (hb : (if bitB n m.toNat then (1 : Int) else 0) = b) : DivEq n d (m - 1) (q + q) (r + r + b) := by
 unfold DivEq
 have := div_low hm h
 rw [hb] at this
 rw [this, Int.add_mul]
 generalize q * d = x
 omega
theorem div_sub {n : Nat} {d m q r : Int} (b : Int) (hm : 0 ≤ m) (h : DivEq n d m q r) (hb : (if bitB n m.toNat then (1 : Int) else 0) = b) : DivEq n d (m - 1) (q + q + 1) (r + r + b + -d) := by
 unfold DivEq
 have := div_low hm h
 rw [hb] at this
 rw [this, Int.add_mul, Int.add_mul, Int.one_mul]
 generalize q * d = x
 omega
theorem div_bd {n : Nat} {d m q r : Int} (h : DivEq n d m q r) (hn : n < 2 ^ 127) (hd : 0 < d) (hq : 0 ≤ q) (hr : 0 ≤ r) : q < 170141183460469231731687303715884105728 := by
 unfold DivEq at h
 have h1 : n / 2 ^ (m + 1).toNat ≤ n := Nat.div_le_self _ _
 generalize n / 2 ^ (m + 1).toNat = A at *
 have h2 : q ≤ q * d := by
  have := Int.mul_le_mul_of_nonneg_left (show (1 : Int) ≤ d by omega) hq
  rw [Int.mul_one] at this
  exact this
 generalize q * d = x at *
 omega
theorem div_end {n : Nat} {d q r : Int} (h : DivEq n d (-1) q r) (h0 : 0 ≤ r) (h1 : r < d) : (n : Int) / d = q ∧ (n : Int) % d = r := by
 have h : (n : Int) = q * d + r := by unfold DivEq at h; simpa using h
 have hd : 0 < d := by omega
 rw [Int.ediv_emod_unique hd]
 refine ⟨?_, h0, h1⟩
 rw [h, Int.mul_comm]; omega
theorem ite_t {b : Bool} (h : b = true) : (if b then (1 : Int) else 0) = 1 := by simp [h]
theorem ite_f {b : Bool} (h : b = false) : (if b then (1 : Int) else 0) = 0 := by simp [h]
end Go.Proofs.Ytdoigcpcponnhaa
end
section
namespace Go.Proofs.Ytdoigcpcponnhaa
open Go.RowKit
end Go.Proofs.Ytdoigcpcponnhaa
end
section
namespace Go.Proofs.Ytdoigcpcponnhaa
open Go.RowKit
end Go.Proofs.Ytdoigcpcponnhaa
end
section
namespace Go.Proofs.Ytdoigcpcponnhaa
namespace QF
section
variable {P : Program} {ops : Array Oper} {md : Region.Mode} {D : Option Value → World → Prop}

def floatRes (r : Result Next) (R : Value → World → Prop) : Prop :=
 match r with
 | .ok (.value u) w' => R u w'
 | .ok .skip w' => R undef w'
 | _ => False
theorem floatRes_mono {r : Result Next} {R R' : Value → World → Prop} (h : ∀ u w, R u w → R' u w) (hr : floatRes r R) : floatRes r R' := by
 unfold floatRes at *
 split <;> first | exact h _ _ (by simpa using hr) | (simp_all)

def goF (P : Program) (md : Region.Mode) (ops : Array Oper) (D : Option Value → World → Prop) (n : Nat) (L : Option Value → Array Bool → Act → Prop) : Nat → Option Value → Array Bool → Act → Prop
 | 0, fl, done, a => L fl done a
 | k + 1, fl, done, a => Region.ready md ops done ≠ [] ∧ ∀ i ∈ Region.ready md ops done, ∀ o, ops[i]? = some o →
   (i < n ∧ ∃ v, (∀ j, YieldsIn P ops (D j) o v a) ∧ goF P md ops D n L k fl (done.setIfInBounds i true) (a.put o.dst v)) ∨
   (i = n ∧ fl = none ∧ Region.wanted o (yielded ops a.tmps) = true ∧ ∀ w, D none w → floatRes ((execOp a.eval o).run P w) fun u w' => D (some u) w' ∧ goF P md ops D n L k (some u) (done.setIfInBounds i true) (a.put o.dst u))

theorem any_of_goF {n g : Nat} {L : Option Value → Array Bool → Act → Prop} {R : Exit → Act → World → Prop} (hL : ∀ fl done a w, D fl w → L fl done a → wpAny P md ops R g done a w) (k : Nat) :
  ∀ (fl : Option Value) (done : Array Bool) (a : Act) (w : World), D fl w → goF P md ops D n L k fl done a → wpAny P md ops R (k + g) done a w := by
 induction k with
 | zero => intro fl done a w hw h; rw [Nat.zero_add]; exact hL _ _ _ _ hw h
 | succ k ih =>
  intro fl done a w hw h
  rw [show k + 1 + g = (k + g) + 1 by omega]
  refine ⟨fun h0 => absurd h0 h.1, fun i hi => ?_⟩
  obtain ⟨_, o, ho, _⟩ := mem_ready.1 hi
  rcases h.2 i hi o ho with ⟨_, v, hv, hk⟩ | ⟨rfl, rfl, hwant, hf⟩
  ·exact wpOp_of_qOp (C := D fl) hw (fun a' w' hw' h' => ih fl _ a' w' hw' h') ((hv fl).qOp ho hk)
  ·have hr := hf w hw
   unfold wpOp
   simp only [ho, hwant, if_true]
   left
   unfold Oper.wp
   generalize (execOp a.eval o).run P w = r at hr
   unfold floatRes at hr
   split at hr
   ·exact ih _ _ _ _ hr.1 hr.2
   ·exact ih _ _ _ _ hr.1 hr.2
   ·exact hr.elim

theorem yields_back {o oi : Oper} {u v : Value} {a : Act} {C : World → Prop} (hap : oi.apart ops o = true) (hso : ∀ cs b, o.op ≠ .select cs b) (h : YieldsIn P ops C o u (a.put oi.dst v)) : YieldsIn P ops C o u a := by
 obtain ⟨h1, _, _⟩ := Oper.apart_spec hap
 exact h.of_same (execOp_put o hso a oi.dst v h1).symm (wanted_put o a oi.dst v h1).symm
theorem yields_on {o oi : Oper} {u v : Value} {a : Act} {C : World → Prop} (hap : oi.apart ops o = true) (hsi : ∀ cs b, oi.op ≠ .select cs b) (h : YieldsIn P ops C oi v a) : YieldsIn P ops C oi v (a.put o.dst u) := by
 obtain ⟨_, _, h3⟩ := Oper.apart_spec hap
 exact h.of_same (execOp_put oi hsi a o.dst u h3) (wanted_put oi a o.dst u h3)

theorem takeF {n i : Nat} {oi : Oper} {v : Value} {L : Option Value → Array Bool → Act → Prop} (hi : ops[i]? = some oi) (hsel : ∀ (j : Nat) (o : Oper) cs b, ops[j]? = some o → o.op ≠ .select cs b)
  (hs : Region.sinkB md ops (n + 1) = true) (hc : Region.chainB md ops (n + 1) = true) (hn : n + 1 < ops.size) (hin : i < n)
  (hend : ∀ fl done a, L fl done a → ∀ j ∈ Region.ready md ops done, n + 1 ≤ j) (k : Nat) :
  ∀ (fl : Option Value) (done : Array Bool) (a : Act), HeadInv md ops (n + 1) done →
   (∀ j oj, ops[j]? = some oj → j ≠ i → done.getD j true = false → (∀ e ∈ oj.after, Region.binds md e = true → e.on ≠ i) → oi.apart ops oj = true) →
   i ∈ Region.ready md ops done → (∀ j, YieldsIn P ops (D j) oi v a) →
   goF P md ops D n L k fl (done.setIfInBounds i true) (a.put oi.dst v) → goF P md ops D n L (k + 1) fl done a := by
 induction k with
 | zero =>
  intro fl done a inv _ hr hy H
  refine ⟨List.ne_nil_of_mem hr, fun j hj o ho => ?_⟩
  have hjn : j < n + 1 := Nat.lt_of_not_le fun hle => tail_waits hs hc hn inv _ i rfl (by omega) (mem_ready.1 hr).1 j hle hj
  by_cases hji : j = i
  ·subst hji
   obtain rfl : oi = o := Option.some.inj (hi.symm.trans ho)
   exact .inl ⟨hin, v, hy, H⟩
  ·exact absurd (hend _ _ _ H j (ready_mono hj hji)) (by omega)
 | succ k ih =>
  intro fl done a inv hfree hr hy H
  refine ⟨List.ne_nil_of_mem hr, fun j hj o ho => ?_⟩
  have hun := (mem_ready.1 hr).1
  have hjn : j < n + 1 := Nat.lt_of_not_le fun hle => tail_waits hs hc hn inv _ i rfl (by omega) hun j hle hj
  by_cases hji : j = i
  ·subst hji
   obtain rfl : oi = o := Option.some.inj (hi.symm.trans ho)
   exact .inl ⟨hin, v, hy, H⟩
  ·obtain ⟨hjun, oj, hoj, hall⟩ := mem_ready.1 hj
   obtain rfl : oj = o := Option.some.inj (hoj.symm.trans ho)
   have hno : ∀ e ∈ oj.after, Region.binds md e = true → e.on ≠ i := fun e he hb heq => by
    have h1 := hall e he hb
    rw [heq, getD_both hun] at h1
    cases h1
   have hap := hfree j oj hoj hji hjun hno
   obtain ⟨h1, h2, h3⟩ := Oper.apart_spec hap
   have inv' := inv.set hj hjn
   have hfree' : ∀ q oq, ops[q]? = some oq → q ≠ i → (done.setIfInBounds j true).getD q true = false → (∀ e ∈ oq.after, Region.binds md e = true → e.on ≠ i) → oi.apart ops oq = true := fun q oq hq hqi hqun hqno => by
    refine hfree q oq hq hqi ?_ hqno
    by_cases hjq : j = q
    ·exact hjq ▸ hjun
    ·rwa [getD_set_ne true hjq] at hqun
   rcases H.2 j (ready_mono hj hji) oj hoj with ⟨hlt, u, hu, hk⟩ | ⟨rfl, hfl, hw, hf⟩
   ·refine .inl ⟨hlt, u, fun c => yields_back hap (fun cs b => hsel j oj cs b hoj) (hu c), ?_⟩
    refine ih fl _ _ inv' hfree' (ready_mono hr (Ne.symm hji)) (fun c => yields_on hap (fun cs b => hsel i oi cs b hi) (hy c)) ?_
    rw [Array.setIfInBounds_comm _ _ hji, ← Act.put_comm a v u h2]
    exact hk
   ·refine .inr ⟨rfl, hfl, by rwa [wanted_put oj a oi.dst v h1] at hw, fun w hwD => ?_⟩
    have hr2 := hf w hwD
    rw [execOp_put oj (fun cs b => hsel _ oj cs b hoj) a oi.dst v h1] at hr2
    refine floatRes_mono (fun u w' hh => ⟨hh.1, ?_⟩) hr2
    refine ih (some u) _ _ inv' hfree' (ready_mono hr (Ne.symm hji)) (fun c => yields_on hap (fun cs b => hsel i oi cs b hi) (hy c)) ?_
    rw [Array.setIfInBounds_comm _ _ hji, ← Act.put_comm a v u h2]
    exact hh.2

def dstOk (sz : Nat) : List Oper → Bool
 | [] => true
 | o :: r => (match o.dst with | some d => decide (d < sz) && r.all (fun o' => o'.dst != some d) | none => false) && dstOk sz r
theorem put_size (a : Act) (d : Option Tmp) (v : Value) : (a.put d v).tmps.size = a.tmps.size := by
 cases d <;> simp [Act.put]
theorem slot_kept {C : World → Prop} {A : Act} {d : Nat} : ∀ (l : List Oper) (a : Act), wpQuiet P ops C (fun a' => a' = A) l a → (l.all fun o => o.dst != some d) = true → A.tmps[d]? = a.tmps[d]?
 | [], a, h, _ => by rw [show a = A from h]
 | o :: l, a, h, hd => by
  simp only [List.all_cons, Bool.and_eq_true] at hd
  have hne : o.dst ≠ some d := by simpa using hd.1
  have step : ∀ v : Value, (a.put o.dst v).tmps[d]? = a.tmps[d]? := fun v => by
   cases h2 : o.dst with
   | none => rfl
   | some e =>
    have : e ≠ d := fun he => hne (by rw [h2, he])
    simp only [Act.put]
    rw [Array.getElem?_setIfInBounds_ne this]
  have hh : (if Region.wanted o (yielded ops a.tmps) then o.quiet P a C (wpQuiet P ops C (fun a' => a' = A) l) else wpQuiet P ops C (fun a' => a' = A) l (a.put o.dst undef)) := h
  split at hh
  ·obtain ⟨v, _, hk⟩ := hh
   exact (slot_kept l _ hk hd.2).trans (step v)
  ·exact (slot_kept l _ hh hd.2).trans (step _)

def lexFB (md : Region.Mode) (ops : Array Oper) (g n : Nat) : Nat → Nat → Array Bool → Bool
 | 0, _, done => decide (Region.ready md ops done = [n]) && Region.seqB md ops g (n + 1) (done.setIfInBounds n true)
 | f + 1, k, done => (Region.ready md ops done).contains k && Region.free md ops done k && lexFB md ops g n f (k + 1) (done.setIfInBounds k true)
theorem lexF {n g : Nat} {A : Act} {L : Option Value → Array Bool → Act → Prop} (hsel : Region.noSelect ops = true) (hs : Region.sinkB md ops (n + 1) = true) (hc : Region.chainB md ops (n + 1) = true) (hn : n + 1 < ops.size)
  (hend : ∀ fl done a, L fl done a → ∀ j ∈ Region.ready md ops done, n + 1 ≤ j) {on : Oper} (hon : ops[n]? = some on) (hwant : ∀ y, Region.wanted on y = true)
  (hf : ∀ w, D none w → floatRes ((execOp A.eval on).run P w) fun u w' => D (some u) w' ∧ ∀ done, Region.ready md ops done = [n] → Region.seqB md ops g (n + 1) (done.setIfInBounds n true) = true → L (some u) (done.setIfInBounds n true) (A.put on.dst u)) :
  ∀ (l : List Oper) (k : Nat) (done : Array Bool) (a : Act), (∀ j, j < l.length → l[j]? = ops[k + j]?) → k + l.length = n → HeadInv md ops (n + 1) done → dstOk a.tmps.size l = true →
  lexFB md ops g n l.length k done = true → (∀ j, wpQuiet P ops (D j) (fun a' => a' = A) l a) → goF P md ops D n L (l.length + 1) none done a := by
 intro l
 induction l with
 | nil =>
  intro k done a _ hk _ _ hB h
  obtain rfl : k = n := by simpa using hk
  obtain rfl : a = A := h none
  simp only [List.length_nil, lexFB, Bool.and_eq_true, decide_eq_true_eq] at hB
  refine ⟨by rw [hB.1]; simp, fun i hi o ho => ?_⟩
  rw [hB.1] at hi
  obtain rfl : i = k := by simpa using hi
  obtain rfl : on = o := Option.some.inj (hon.symm.trans ho)
  exact .inr ⟨rfl, rfl, hwant _, fun w hw => floatRes_mono (fun u w' hh => ⟨hh.1, hh.2 done hB.1 hB.2⟩) (hf w hw)⟩
 | cons o l ih =>
  intro k done a hl hk inv hd hB h
  have h0 : ops[k]? = some o := by simpa using (hl 0 (by simp)).symm
  have hk' : k + (l.length + 1) = n := by simpa using hk
  simp only [List.length_cons, lexFB, Bool.and_eq_true] at hB
  obtain ⟨⟨hr, hfr⟩, hB'⟩ := hB
  have hr' : k ∈ Region.ready md ops done := by simpa using hr
  simp only [dstOk, Bool.and_eq_true] at hd
  obtain ⟨hd1, hd2⟩ := hd
  obtain ⟨d, hod, hdl, hda⟩ : ∃ d, o.dst = some d ∧ d < a.tmps.size ∧ (l.all fun o' => o'.dst != some d) = true := by
   cases h2 : o.dst with
   | none => rw [h2] at hd1; cases hd1
   | some d => rw [h2] at hd1; simp only [Bool.and_eq_true, decide_eq_true_eq] at hd1; exact ⟨d, rfl, hd1.1, hd1.2⟩
  have hv : ∀ j, ∃ v, YieldsIn P ops (D j) o v a ∧ wpQuiet P ops (D j) (fun a' => a' = A) l (a.put o.dst v) := fun j => by
   have hq : qOp P ops (D j) k (wpQuiet P ops (D j) (fun a' => a' = A) l) a := by unfold qOp; simp only [h0]; exact h j
   exact yieldsIn_of_qOp h0 hq
  obtain ⟨v, _, hw0⟩ := hv none
  have same : ∀ j, YieldsIn P ops (D j) o v a ∧ wpQuiet P ops (D j) (fun a' => a' = A) l (a.put o.dst v) := fun j => by
   obtain ⟨u, hu, hwu⟩ := hv j
   have e1 := slot_kept l _ hw0 hda
   have e2 := slot_kept l _ hwu hda
   rw [hod] at e1 e2
   simp only [Act.put] at e1 e2
   rw [Array.getElem?_setIfInBounds_self_of_lt hdl] at e1 e2
   have : u = v := Option.some.inj (e2.symm.trans e1)
   subst this
   exact ⟨hu, hwu⟩
  exact takeF h0 (Region.noSelect_spec hsel) hs hc hn (by omega) hend (l.length + 1) none done a inv (Region.free_spec h0 hfr) hr' (fun j => (same j).1)
   (ih (k + 1) _ _ (fun j hj => by have := hl (j + 1) (by simpa using hj); simpa [Nat.add_assoc, Nat.add_comm 1 j] using this) (by omega) (inv.set hr' (by omega)) (by rw [put_size]; exact hd2) hB' (fun j => (same j).2))
def floatB (md : Region.Mode) (l : List Oper) (n sz : Nat) : Bool :=
 Region.noSelect l.toArray && decide (n + 1 < l.length) && Region.sinkB md l.toArray (n + 1) && Region.chainB md l.toArray (n + 1) && dstOk sz (l.take n) && lexFB md l.toArray (l.length - (n + 1)) n n 0 (Array.replicate l.toArray.size false)

theorem region_float {id : Nat} {Q : Exit → Act → World → Prop} {a A : Act} {w : World} {l : List Oper} (n sz : Nat) (D : Option Value → World → Prop) (on : Oper) (hm : P.follows .mixedOrders = true) (hB : floatB .any l n sz = true) (hsz : a.tmps.size = sz)
  (hon : l[n]? = some on) (hg : on.guard = none) (h0 : D none w.drew)
  (h1 : ∀ j, wpQuiet P l.toArray (D j) (fun a' => a' = A) (l.take n) a)
  (hf : ∀ w', D none w' → floatRes ((execOp A.eval on).run P w') fun u w'' => D (some u) w'')
  (ht : ∀ u w', D (some u) w' → wpList P l.toArray Q (l.drop (n + 1)) (A.put on.dst u) w') : (Code.region id l.toArray true).wp P Q a w := by
 simp only [floatB, Bool.and_eq_true, decide_eq_true_eq] at hB
 obtain ⟨⟨⟨⟨⟨hsel, hn⟩, hs⟩, hc⟩, hd⟩, hlex⟩ := hB
 have hn' : n + 1 < l.toArray.size := by simpa using hn
 have htl : (l.take n).length = n := by simp; omega
 have hdl : (l.drop (n + 1)).length = l.length - (n + 1) := by simp
 have inv0 : HeadInv .any l.toArray (n + 1) (Array.replicate l.toArray.size false) :=
  ⟨by simp, fun j oj _ hl => (by rw [getD_replicate_false] at hl; cases hl), fun t _ ht => getD_in (by simpa using ht) (getD_replicate_false _ _)⟩
 have H := lexF (P := P) (D := D) (md := .any) (g := l.length - (n + 1)) (A := A)
  (L := fun fl done a' => Region.seqB .any l.toArray (l.length - (n + 1)) (n + 1) done = true ∧ ∀ w', D fl w' → wpList P l.toArray Q (l.drop (n + 1)) a' w')
  hsel hs hc hn' (fun _ _ _ hL => seqB_ready hL.1) (on := on) (by simpa using hon) (fun y => by simp [Region.wanted, hg])
  (fun w' hw' => floatRes_mono (fun u w'' hh => ⟨hh, fun done _ hq => ⟨hq, fun w3 hw3 => ht u w3 hw3⟩⟩) (hf w' hw'))
  (l.take n) 0 _ a (fun j hj => by
   have hj' : j < n := by rw [htl] at hj; exact hj
   simp [hj']) (by simpa using htl) inv0 (by rw [hsz]; exact hd) (by rw [htl]; exact hlex) h1
 refine wp_region_any hm ?_
 have := any_of_goF (R := Q) (g := l.length - (n + 1)) (fun fl done a' w' hw' hL => by
  have := wpAny_of_seq (P := P) (md := .any) (Q' := Q) (l.drop (n + 1)) (n + 1) done a' w' (fun j => by simp [List.getElem?_drop]) (by rw [hdl]; exact hL.1) (hL.2 w' hw')
  rwa [hdl] at this) _ _ _ _ _ h0 H
 rw [htl, show n + 1 + (l.length - (n + 1)) = l.toArray.size by simp; omega] at this
 exact this
end
theorem region_float_ex {P : Program} {id : Nat} {Q : Exit → Act → World → Prop} {a : Act} {w : World} {l : List Oper} (n sz : Nat) (D : Option Value → World → Prop) (on : Oper) (hm : P.follows .mixedOrders = true) (hB : floatB .any l n sz = true) (hsz : a.tmps.size = sz)
  (hon : l[n]? = some on) (hg : on.guard = none) (h0 : D none w.drew)
  (h : ∃ A, (∀ j, wpQuiet P l.toArray (D j) (fun a' => a' = A) (l.take n) a) ∧ (∀ w', D none w' → floatRes ((execOp A.eval on).run P w') fun u w'' => D (some u) w'') ∧
   (∀ u w', D (some u) w' → wpList P l.toArray Q (l.drop (n + 1)) (A.put on.dst u) w')) : (Code.region id l.toArray true).wp P Q a w :=
 let ⟨_, h1, h2, h3⟩ := h
 region_float n sz D on hm hB hsz hon hg h0 h1 h2 h3
open Go.RowKit
def FD (B : Nat) (W0 : World) (z0 z1 : Value) : Option Value → World → Prop
 | none, w => Below B W0 w
 | some u, w => Below B W0 w ∧ ∃ p : Nat, u = .pointer (some ⟨p, 0, none⟩) ∧ W0.heap.size ≤ p ∧ p < w.heap.size ∧ w.cell? ⟨p, 0, none⟩ = some z0 ∧ w.cell? ⟨p, 1, none⟩ = some z1 ∧ w.frozen? ⟨p, 0, none⟩ = false ∧ w.frozen? ⟨p, 1, none⟩ = false
theorem FD.below {B : Nat} {W0 w : World} {z0 z1 : Value} {j : Option Value} (h : FD B W0 z0 z1 j w) : Below B W0 w := by
 cases j
 ·exact h
 ·exact h.1
theorem FD.call {B : Nat} {W0 w w' : World} {z0 z1 : Value} {j : Option Value} (hB : B ≤ W0.heap.size) (h : FD B W0 z0 z1 j w) (hb : Below w.heap.size w w') : FD B W0 z0 z1 j w' := by
 cases j
 ·exact qtrans hB h hb
 ·obtain ⟨h1, p, h2, h3, h4, c0, c1, f0, f1⟩ := h
  exact ⟨qtrans hB h1 hb, p, h2, h3, Nat.lt_of_lt_of_le h4 hb.size, (hb.cell (p := ⟨p, 0, none⟩) h4).trans c0, (hb.cell (p := ⟨p, 1, none⟩) h4).trans c1, (hb.frozen (p := ⟨p, 0, none⟩) h4).trans f0, (hb.frozen (p := ⟨p, 1, none⟩) h4).trans f1⟩
theorem FD.made {B : Nat} {W0 w : World} {z0 z1 : Value} {t : TypeId} (hB : B ≤ W0.heap.size) (h : FD B W0 z0 z1 none w) : FD B W0 z0 z1 (some (.pointer (some ⟨w.heap.size, 0, none⟩))) (w.alloc (.cells #[z0, z1] t)) := by
 have h : Below B W0 w := h
 refine ⟨h.alloc (Nat.le_trans hB h.size) _, w.heap.size, rfl, h.size, by simp, by simp, by simp, by simp [go_sem], by simp [go_sem]⟩
end QF
end Go.Proofs.Ytdoigcpcponnhaa
end
