/- Packed: Abs QG. -/
import Derived.Test.YtacpahebbnnckaaP5
import Derived.Test.YtacpahebbnnckaaP6
set_option linter.unusedVariables false
set_option linter.unusedSimpArgs false
namespace Go.Proofs.Ytacpahebbnnckaa
section
open Go.RowKit
theorem most_any (al ah bl bh : Int) (i0 : I64 al) (i2 : I64 bl) (w : World) :
  Calls Try.prog 97 #[.agg #[.int .i64 (al), .int .i64 (ah)], .agg #[.int .i64 (bl), .int .i64 (bh)]] w fun e w' => e = .returned (.tuple #[.agg #[.int .i64 (okI (vB al ah && vB bl bh) (mx al bl)), .int .i64 (okI (vB al ah && vB bl bh) (mx ah bh))], .int .i64 (errE (vB al ah && vB bl bh) 0)]) ∧ Below w.heap.size w w' := by
 have h0 := i0.1
 have h1 := i2.1
 have m1 := mx_eq al bl
 have m2 := mx_eq ah bh
 clear i0 i2
 cases hv : (vB al ah && vB bl bh)
 ·rw [ok_f, ok_f, err_f]
  have HV := hide hv
  clear hv
  go_enter Try.func97, Try.ntmps97
  go_wp2_with fail
  go_at_call 116
  refine (invalid2 al ah bl bh _ _ _ h0 h1 (by go_simp) (by go_simp) (by go_simp) (by go_simp) (by go_simp) true (by simpa using HV.out)).mono ?_
  rintro e w1 ⟨rfl, hb1⟩
  obtain ⟨hc1, hf1⟩ := bcell hb1
  have hz1 := hb1.size
  try simp only [World.size_alloc, World.size_setCell] at hz1
  try refine zw4 w w1 (by omega) fun _ _ _ _ _ _ _ _ => ?_
  go_wp2
  refine bodyPost_ret (v := .tuple #[.agg #[.int .i64 (0), .int .i64 (0)], .int .i64 2]) (by simp only [results, Try.results97]; go_simp) rfl ⟨rfl, blw_⟩
 ·rw [ok_t, ok_t, err_t]
  have HV := hide hv
  clear hv
  go_enter Try.func97, Try.ntmps97
  go_wp2_with fail
  go_at_call 116
  refine (invalid2 al ah bl bh _ _ _ h0 h1 (by go_simp) (by go_simp) (by go_simp) (by go_simp) (by go_simp) false (by simpa using HV.out)).mono ?_
  rintro e w1 ⟨rfl, hb1⟩
  obtain ⟨hc1, hf1⟩ := bcell hb1
  have hz1 := hb1.size
  try simp only [World.size_alloc, World.size_setCell] at hz1
  try refine zw4 w w1 (by omega) fun _ _ _ _ _ _ _ _ => ?_
  go_wp2
  refine bodyPost_ret (v := .tuple #[.agg #[.int .i64 (mx al bl), .int .i64 (mx ah bh)], .int .i64 0]) (by simp only [results, Try.results97]; go_simp) rfl ⟨rfl, blw_⟩
theorem rmost_any (al ah bl bh : Int) (w : World) :
  Calls Try.prog 61 #[.agg #[.int .i64 (al), .int .i64 (ah)], .agg #[.int .i64 (bl), .int .i64 (bh)]] w fun e w' => e = .returned (.tuple #[.agg #[.int .i64 (okI (vB al ah && vB bl bh) (mx al bl)), .int .i64 (okI (vB al ah && vB bl bh) (mx ah bh))], .int .i64 (errE (vB al ah && vB bl bh) 0)]) ∧ Below w.heap.size w w' := by
 have m1 := mx_eq al bl
 have m2 := mx_eq ah bh
 cases hv : (vB al ah && vB bl bh)
 ·rw [ok_f, ok_f, err_f]
  have HV := hide (both2 hv)
  clear hv
  go_enter Try.func61, Try.ntmps61
  go_wp2_with fail
  refine (rboth al ah bl bh 2 HV.out _).mono ?_
  rintro e w1 ⟨rfl, hb1⟩
  obtain ⟨hc1, hf1⟩ := bcell hb1
  have hz1 := hb1.size
  try simp only [World.size_alloc, World.size_setCell] at hz1
  try refine zw3 w w1 (by omega) fun _ _ _ _ _ _ => ?_
  go_wp2
  refine bodyPost_ret (v := .tuple #[.agg #[.int .i64 (0), .int .i64 (0)], .int .i64 2]) (by simp only [results, Try.results61]; go_simp) rfl ⟨rfl, blw_⟩
 ·rw [ok_t, ok_t, err_t]
  have HV := hide (both0 hv)
  clear hv
  go_enter Try.func61, Try.ntmps61
  go_wp2_with fail
  refine (rboth al ah bl bh 0 HV.out _).mono ?_
  rintro e w1 ⟨rfl, hb1⟩
  obtain ⟨hc1, hf1⟩ := bcell hb1
  have hz1 := hb1.size
  try simp only [World.size_alloc, World.size_setCell] at hz1
  try refine zw3 w w1 (by omega) fun _ _ _ _ _ _ => ?_
  go_wp2
  refine bodyPost_ret (v := .tuple #[.agg #[.int .i64 (mx al bl), .int .i64 (mx ah bh)], .int .i64 0]) (by simp only [results, Try.results61]; go_simp) rfl ⟨rfl, blw_⟩
theorem least_any (al ah bl bh : Int) (i0 : I64 al) (i2 : I64 bl) (w : World) :
  Calls Try.prog 98 #[.agg #[.int .i64 (al), .int .i64 (ah)], .agg #[.int .i64 (bl), .int .i64 (bh)]] w fun e w' => e = .returned (.tuple #[.agg #[.int .i64 (okI (vB al ah && vB bl bh) (mi al bl)), .int .i64 (okI (vB al ah && vB bl bh) (mi ah bh))], .int .i64 (errE (vB al ah && vB bl bh) 0)]) ∧ Below w.heap.size w w' := by
 have h0 := i0.1
 have h1 := i2.1
 have m1 := mi_eq al bl
 have m2 := mi_eq ah bh
 clear i0 i2
 cases hv : (vB al ah && vB bl bh)
 ·rw [ok_f, ok_f, err_f]
  have HV := hide hv
  clear hv
  go_enter Try.func98, Try.ntmps98
  go_wp2_with fail
  go_at_call 116
  refine (invalid2 al ah bl bh _ _ _ h0 h1 (by go_simp) (by go_simp) (by go_simp) (by go_simp) (by go_simp) true (by simpa using HV.out)).mono ?_
  rintro e w1 ⟨rfl, hb1⟩
  obtain ⟨hc1, hf1⟩ := bcell hb1
  have hz1 := hb1.size
  try simp only [World.size_alloc, World.size_setCell] at hz1
  try refine zw4 w w1 (by omega) fun _ _ _ _ _ _ _ _ => ?_
  go_wp2
  refine bodyPost_ret (v := .tuple #[.agg #[.int .i64 (0), .int .i64 (0)], .int .i64 2]) (by simp only [results, Try.results98]; go_simp) rfl ⟨rfl, blw_⟩
 ·rw [ok_t, ok_t, err_t]
  have HV := hide hv
  clear hv
  go_enter Try.func98, Try.ntmps98
  go_wp2_with fail
  go_at_call 116
  refine (invalid2 al ah bl bh _ _ _ h0 h1 (by go_simp) (by go_simp) (by go_simp) (by go_simp) (by go_simp) false (by simpa using HV.out)).mono ?_
  rintro e w1 ⟨rfl, hb1⟩
  obtain ⟨hc1, hf1⟩ := bcell hb1
  have hz1 := hb1.size
  try simp only [World.size_alloc, World.size_setCell] at hz1
  try refine zw4 w w1 (by omega) fun _ _ _ _ _ _ _ _ => ?_
  go_wp2
  refine bodyPost_ret (v := .tuple #[.agg #[.int .i64 (mi al bl), .int .i64 (mi ah bh)], .int .i64 0]) (by simp only [results, Try.results98]; go_simp) rfl ⟨rfl, blw_⟩
theorem rleast_any (al ah bl bh : Int) (w : World) :
  Calls Try.prog 60 #[.agg #[.int .i64 (al), .int .i64 (ah)], .agg #[.int .i64 (bl), .int .i64 (bh)]] w fun e w' => e = .returned (.tuple #[.agg #[.int .i64 (okI (vB al ah && vB bl bh) (mi al bl)), .int .i64 (okI (vB al ah && vB bl bh) (mi ah bh))], .int .i64 (errE (vB al ah && vB bl bh) 0)]) ∧ Below w.heap.size w w' := by
 have m1 := mi_eq al bl
 have m2 := mi_eq ah bh
 cases hv : (vB al ah && vB bl bh)
 ·rw [ok_f, ok_f, err_f]
  have HV := hide (both2 hv)
  clear hv
  go_enter Try.func60, Try.ntmps60
  go_wp2_with fail
  refine (rboth al ah bl bh 2 HV.out _).mono ?_
  rintro e w1 ⟨rfl, hb1⟩
  obtain ⟨hc1, hf1⟩ := bcell hb1
  have hz1 := hb1.size
  try simp only [World.size_alloc, World.size_setCell] at hz1
  try refine zw3 w w1 (by omega) fun _ _ _ _ _ _ => ?_
  go_wp2
  refine bodyPost_ret (v := .tuple #[.agg #[.int .i64 (0), .int .i64 (0)], .int .i64 2]) (by simp only [results, Try.results60]; go_simp) rfl ⟨rfl, blw_⟩
 ·rw [ok_t, ok_t, err_t]
  have HV := hide (both0 hv)
  clear hv
  go_enter Try.func60, Try.ntmps60
  go_wp2_with fail
  refine (rboth al ah bl bh 0 HV.out _).mono ?_
  rintro e w1 ⟨rfl, hb1⟩
  obtain ⟨hc1, hf1⟩ := bcell hb1
  have hz1 := hb1.size
  try simp only [World.size_alloc, World.size_setCell] at hz1
  try refine zw3 w w1 (by omega) fun _ _ _ _ _ _ => ?_
  go_wp2
  refine bodyPost_ret (v := .tuple #[.agg #[.int .i64 (mi al bl), .int .i64 (mi ah bh)], .int .i64 0]) (by simp only [results, Try.results60]; go_simp) rfl ⟨rfl, blw_⟩
end
section
namespace QG
open QF
section
variable {S : Type} {P : Program} {ops : Array Oper} {md : Region.Mode} {D : S → World → Prop}

def goG (P : Program) (md : Region.Mode) (ops : Array Oper) (D : S → World → Prop) (n : Nat) (L : S → Array Bool → Act → Prop) : Nat → S → Array Bool → Act → Prop
 | 0, s, done, a => L s done a
 | k + 1, s, done, a => Region.ready md ops done ≠ [] ∧ ∀ i ∈ Region.ready md ops done, ∀ o, ops[i]? = some o →
   (i < n ∧ ∃ v, (∀ j, YieldsIn P ops (D j) o v a) ∧ goG P md ops D n L k s (done.setIfInBounds i true) (a.put o.dst v)) ∨
   (n ≤ i ∧ Region.wanted o (yielded ops a.tmps) = true ∧ ∀ w, D s w → floatRes ((execOp a.eval o).run P w) fun u w' => ∃ s', D s' w' ∧ goG P md ops D n L k s' (done.setIfInBounds i true) (a.put o.dst u))

theorem float_wp {o : Oper} {i : Nat} {a : Act} {w : World} {R : Value → World → Prop} (ho : ops[i]? = some o) (hwant : Region.wanted o (yielded ops a.tmps) = true) (hr : floatRes ((execOp a.eval o).run P w) R)
  {Q : Exit → Act → World → Prop} {g : Nat} {done : Array Bool} (hk : ∀ u w', R u w' → wpAny P md ops Q g (done.setIfInBounds i true) (a.put o.dst u) w') : wpOp P ops Q i (fun a' w' => wpAny P md ops Q g (done.setIfInBounds i true) a' w') a w := by
 unfold wpOp
 simp only [ho, hwant, if_true]
 left
 unfold Oper.wp
 generalize (execOp a.eval o).run P w = r at hr
 unfold floatRes at hr
 split at hr
 ·exact hk _ _ hr
 ·exact hk _ _ hr
 ·exact hr.elim

theorem any_of_goG {n g : Nat} {L : S → Array Bool → Act → Prop} {R : Exit → Act → World → Prop} (hL : ∀ s done a w, D s w → L s done a → wpAny P md ops R g done a w) (k : Nat) :
  ∀ (s : S) (done : Array Bool) (a : Act) (w : World), D s w → goG P md ops D n L k s done a → wpAny P md ops R (k + g) done a w := by
 induction k with
 | zero => intro s done a w hw h; rw [Nat.zero_add]; exact hL _ _ _ _ hw h
 | succ k ih =>
  intro s done a w hw h
  rw [show k + 1 + g = (k + g) + 1 by omega]
  refine ⟨fun h0 => absurd h0 h.1, fun i hi => ?_⟩
  obtain ⟨_, o, ho, _⟩ := mem_ready.1 hi
  rcases h.2 i hi o ho with ⟨_, v, hv, hk⟩ | ⟨_, hwant, hf⟩
  ·exact wpOp_of_qOp (C := D s) hw (fun a' w' hw' h' => ih s _ a' w' hw' h') ((hv s).qOp ho hk)
  ·exact float_wp ho hwant (hf w hw) fun u w' ⟨s', h1, h2⟩ => ih _ _ _ _ h1 h2

theorem takeG {n N i : Nat} {oi : Oper} {v : Value} {L : S → Array Bool → Act → Prop} (hi : ops[i]? = some oi) (hsel : ∀ (j : Nat) (o : Oper) cs b, ops[j]? = some o → o.op ≠ .select cs b)
  (hs : Region.sinkB md ops N = true) (hc : Region.chainB md ops N = true) (hn : N < ops.size) (hin : i < n) (hnN : n ≤ N)
  (hend : ∀ s done a, L s done a → ∀ j ∈ Region.ready md ops done, N ≤ j) (k : Nat) :
  ∀ (s : S) (done : Array Bool) (a : Act), HeadInv md ops N done →
   (∀ j oj, ops[j]? = some oj → j ≠ i → done.getD j true = false → (∀ e ∈ oj.after, Region.binds md e = true → e.on ≠ i) → oi.apart ops oj = true) →
   i ∈ Region.ready md ops done → (∀ j, YieldsIn P ops (D j) oi v a) →
   goG P md ops D n L k s (done.setIfInBounds i true) (a.put oi.dst v) → goG P md ops D n L (k + 1) s done a := by
 induction k with
 | zero =>
  intro s done a inv _ hr hy H
  refine ⟨List.ne_nil_of_mem hr, fun j hj o ho => ?_⟩
  have hjn : j < N := Nat.lt_of_not_le fun hle => tail_waits hs hc hn inv _ i rfl (by omega) (mem_ready.1 hr).1 j hle hj
  by_cases hji : j = i
  ·subst hji
   obtain rfl : oi = o := Option.some.inj (hi.symm.trans ho)
   exact .inl ⟨hin, v, hy, H⟩
  ·exact absurd (hend _ _ _ H j (ready_mono hj hji)) (by omega)
 | succ k ih =>
  intro s done a inv hfree hr hy H
  refine ⟨List.ne_nil_of_mem hr, fun j hj o ho => ?_⟩
  have hun := (mem_ready.1 hr).1
  have hjn : j < N := Nat.lt_of_not_le fun hle => tail_waits hs hc hn inv _ i rfl (by omega) hun j hle hj
  by_cases hji : j = i
  ·subst hji
   obtain rfl : oi = o := Option.some.inj (hi.symm.trans ho)
   exact .inl ⟨hin, v, hy, H⟩
  ·obtain ⟨hjun, oj, hoj, hall⟩ := mem_ready.1 hj
   obtain rfl : oj = o := Option.some.inj (hoj.symm.trans ho)
   have hno : ∀ e ∈ oj.after, Region.binds md e = true → e.on ≠ i := fun e he hb heq => by
    have h1 := hall e he hb
    rw [heq, getD_both hun] at h1
    cases h1
   have hap := hfree j oj hoj hji hjun hno
   obtain ⟨h1, h2, h3⟩ := Oper.apart_spec hap
   have inv' := inv.set hj hjn
   have hfree' : ∀ q oq, ops[q]? = some oq → q ≠ i → (done.setIfInBounds j true).getD q true = false → (∀ e ∈ oq.after, Region.binds md e = true → e.on ≠ i) → oi.apart ops oq = true := fun q oq hq hqi hqun hqno => by
    refine hfree q oq hq hqi ?_ hqno
    by_cases hjq : j = q
    ·exact hjq ▸ hjun
    ·rwa [getD_set_ne true hjq] at hqun
   rcases H.2 j (ready_mono hj hji) oj hoj with ⟨hlt, u, hu, hk⟩ | ⟨hge, hw, hf⟩
   ·refine .inl ⟨hlt, u, fun c => yields_back hap (fun cs b => hsel j oj cs b hoj) (hu c), ?_⟩
    refine ih s _ _ inv' hfree' (ready_mono hr (Ne.symm hji)) (fun c => yields_on hap (fun cs b => hsel i oi cs b hi) (hy c)) ?_
    rw [Array.setIfInBounds_comm _ _ hji, ← Act.put_comm a v u h2]
    exact hk
   ·refine .inr ⟨hge, by rwa [wanted_put oj a oi.dst v h1] at hw, fun w hwD => ?_⟩
    have hr2 := hf w hwD
    rw [execOp_put oj (fun cs b => hsel _ oj cs b hoj) a oi.dst v h1] at hr2
    refine floatRes_mono (fun u w' ⟨s', hh1, hh2⟩ => ⟨s', hh1, ?_⟩) hr2
    refine ih s' _ _ inv' hfree' (ready_mono hr (Ne.symm hji)) (fun c => yields_on hap (fun cs b => hsel i oi cs b hi) (hy c)) ?_
    rw [Array.setIfInBounds_comm _ _ hji, ← Act.put_comm a v u h2]
    exact hh2

def lexGB (md : Region.Mode) (ops : Array Oper) (n : Nat) (E : Array Bool → Bool) : Nat → Nat → Array Bool → Bool
 | 0, _, done => E done
 | f + 1, k, done => (Region.ready md ops done).contains k && Region.free md ops done k && lexGB md ops n E f (k + 1) (done.setIfInBounds k true)
theorem lexG {n m : Nat} {A : Act} {E : Array Bool → Bool} {s0 : S} {L : S → Array Bool → Act → Prop} (hsel : Region.noSelect ops = true) (hs : Region.sinkB md ops (n + m) = true) (hc : Region.chainB md ops (n + m) = true) (hn : n + m < ops.size)
  (hend : ∀ s done a, L s done a → ∀ j ∈ Region.ready md ops done, n + m ≤ j)
  (hbase : ∀ done, E done = true → goG P md ops D n L m s0 done A) :
  ∀ (l : List Oper) (k : Nat) (done : Array Bool) (a : Act), (∀ j, j < l.length → l[j]? = ops[k + j]?) → k + l.length = n → HeadInv md ops (n + m) done → dstOk a.tmps.size l = true →
  lexGB md ops n E l.length k done = true → (∀ j, wpQuiet P ops (D j) (fun a' => a' = A) l a) → goG P md ops D n L (l.length + m) s0 done a := by
 intro l
 induction l with
 | nil =>
  intro k done a _ hk _ _ hB h
  obtain rfl : a = A := h s0
  rw [List.length_nil, Nat.zero_add]
  exact hbase done hB
 | cons o l ih =>
  intro k done a hl hk inv hd hB h
  have h0 : ops[k]? = some o := by simpa using (hl 0 (by simp)).symm
  have hk' : k + (l.length + 1) = n := by simpa using hk
  simp only [List.length_cons, lexGB, Bool.and_eq_true] at hB
  obtain ⟨⟨hr, hfr⟩, hB'⟩ := hB
  have hr' : k ∈ Region.ready md ops done := by simpa using hr
  simp only [dstOk, Bool.and_eq_true] at hd
  obtain ⟨hd1, hd2⟩ := hd
  obtain ⟨d, hod, hdl, hda⟩ : ∃ d, o.dst = some d ∧ d < a.tmps.size ∧ (l.all fun o' => o'.dst != some d) = true := by
   cases h2 : o.dst with
   | none => rw [h2] at hd1; cases hd1
   | some d => rw [h2] at hd1; simp only [Bool.and_eq_true, decide_eq_true_eq] at hd1; exact ⟨d, rfl, hd1.1, hd1.2⟩
  have hv : ∀ j, ∃ v, YieldsIn P ops (D j) o v a ∧ wpQuiet P ops (D j) (fun a' => a' = A) l (a.put o.dst v) := fun j => by
   have hq : qOp P ops (D j) k (wpQuiet P ops (D j) (fun a' => a' = A) l) a := by unfold qOp; simp only [h0]; exact h j
   exact yieldsIn_of_qOp h0 hq
  obtain ⟨v, _, hw0⟩ := hv s0
  have same : ∀ j, YieldsIn P ops (D j) o v a ∧ wpQuiet P ops (D j) (fun a' => a' = A) l (a.put o.dst v) := fun j => by
   obtain ⟨u, hu, hwu⟩ := hv j
   have e1 := slot_kept l _ hw0 hda
   have e2 := slot_kept l _ hwu hda
   rw [hod] at e1 e2
   simp only [Act.put] at e1 e2
   rw [Array.getElem?_setIfInBounds_self_of_lt hdl] at e1 e2
   have : u = v := Option.some.inj (e2.symm.trans e1)
   subst this
   exact ⟨hu, hwu⟩
  rw [List.length_cons, Nat.add_right_comm]
  exact takeG h0 (Region.noSelect_spec hsel) hs hc hn (by omega) (by omega) hend (l.length + m) s0 done a inv (Region.free_spec h0 hfr) hr' (fun j => (same j).1)
   (ih (k + 1) _ _ (fun j hj => by have := hl (j + 1) (by simpa using hj); simpa [Nat.add_assoc, Nat.add_comm 1 j] using this) (by omega) (inv.set hr' (by omega)) (by rw [put_size]; exact hd2) hB' (fun j => (same j).2))

def endB (md : Region.Mode) (ops : Array Oper) (g n : Nat) (done : Array Bool) : Bool :=
 decide (Region.ready md ops done = [n, n + 1]) && decide (Region.ready md ops (done.setIfInBounds n true) = [n + 1]) && decide (Region.ready md ops (done.setIfInBounds (n + 1) true) = [n]) &&
 decide (Region.ready md ops ((done.setIfInBounds n true).setIfInBounds (n + 1) true) = [n + 2]) &&
 Region.seqB md ops g (n + 3) (((done.setIfInBounds n true).setIfInBounds (n + 1) true).setIfInBounds (n + 2) true)
abbrev St := Option Value × Option Value × Bool
theorem base {D : St → World → Prop} {n g : Nat} {A : Act} {L : St → Array Bool → Act → Prop} (hsel : Region.noSelect ops = true)
  {o1 o2 o3 : Oper} (ho1 : ops[n]? = some o1) (ho2 : ops[n + 1]? = some o2) (ho3 : ops[n + 2]? = some o3) (hw1 : ∀ y, Region.wanted o1 y = true) (hw2 : ∀ y, Region.wanted o2 y = true) (hw3 : ∀ y, Region.wanted o3 y = true)
  (hap : o1.apart ops o2 = true) (hap3 : o2.apart ops o3 = true) (hd3 : o3.dst = none)
  (hf1 : ∀ f2 w, D (none, f2, false) w → floatRes ((execOp A.eval o1).run P w) fun u w' => D (some u, f2, false) w')
  (hf2 : ∀ f1 b w, D (f1, none, b) w → floatRes ((execOp A.eval o2).run P w) fun u w' => D (f1, some u, b) w')
  (hf3 : ∀ u f2 w, D (some u, f2, false) w → floatRes ((execOp (A.put o1.dst u).eval o3).run P w) fun _ w' => D (some u, f2, true) w')
  (hL : ∀ u1 u2 done, Region.seqB md ops g (n + 3) done = true → L (some u1, some u2, true) done ((A.put o1.dst u1).put o2.dst u2)) (done : Array Bool) (hB : endB md ops g n done = true) : goG P md ops D n L 3 (none, none, false) done A := by
 simp only [endB, Bool.and_eq_true, decide_eq_true_eq] at hB
 obtain ⟨⟨⟨⟨hB1, hB2⟩, hB3⟩, hB4⟩, hB6⟩ := hB
 obtain ⟨p1, p2, p3⟩ := Oper.apart_spec hap
 obtain ⟨q1, q2, q3⟩ := Oper.apart_spec hap3
 have put3 : ∀ (a : Act) v, a.put o3.dst v = a := fun a v => by rw [hd3]; rfl
 have n2 : n ≠ n + 1 := by omega
 have n3 : n + 1 ≠ n + 2 := by omega
 have hB4' : Region.ready md ops ((done.setIfInBounds (n + 1) true).setIfInBounds n true) = [n + 2] := by
  rw [Array.setIfInBounds_comm _ _ (Ne.symm n2)]; exact hB4
 have hB6' : Region.seqB md ops g (n + 3) (((done.setIfInBounds (n + 1) true).setIfInBounds n true).setIfInBounds (n + 2) true) = true := by
  rw [Array.setIfInBounds_comm _ _ (Ne.symm n2)]; exact hB6
 have s1 := fun cs b => Region.noSelect_spec hsel _ _ cs b ho1
 have s2 := fun cs b => Region.noSelect_spec hsel _ _ cs b ho2
 have s3 := fun cs b => Region.noSelect_spec hsel _ _ cs b ho3
 refine ⟨by rw [hB1]; simp, fun i hi o ho => .inr ?_⟩
 rw [hB1] at hi
 have hi' : i = n ∨ i = n + 1 := by simpa using hi
 rcases hi' with rfl | rfl
 ·obtain rfl : o1 = o := Option.some.inj (ho1.symm.trans ho)
  refine ⟨Nat.le_refl _, hw1 _, fun w hw => floatRes_mono (fun u w' hh => ⟨_, hh, ?_⟩) (hf1 none w hw)⟩
  refine ⟨by rw [hB2]; simp, fun i2 hi2 q hq => .inr ?_⟩
  rw [hB2] at hi2
  obtain rfl : i2 = i + 1 := by simpa using hi2
  ·obtain rfl : o2 = q := Option.some.inj (ho2.symm.trans hq)
   refine ⟨by omega, hw2 _, fun w2 hw2' => ?_⟩
   rw [execOp_put o2 s2 A o1.dst u p1]
   refine floatRes_mono (fun u2 w3 hh3 => ⟨_, hh3, ?_⟩) (hf2 (some u) false w2 hw2')
   refine ⟨by rw [hB4]; simp, fun i3 hi3 r hr => .inr ?_⟩
   rw [hB4] at hi3
   obtain rfl : i3 = i + 2 := by simpa using hi3
   obtain rfl : o3 = r := Option.some.inj (ho3.symm.trans hr)
   refine ⟨by omega, hw3 _, fun w4 hw4 => ?_⟩
   rw [execOp_put o3 s3 _ o2.dst u2 q1]
   refine floatRes_mono (fun u3 w5 hh5 => ⟨_, hh5, ?_⟩) (hf3 u (some u2) w4 hw4)
   rw [put3]
   exact hL u u2 _ hB6
 ·obtain rfl : o2 = o := Option.some.inj (ho2.symm.trans ho)
  refine ⟨by omega, hw2 _, fun w hw => floatRes_mono (fun u2 w' hh => ⟨_, hh, ?_⟩) (hf2 none false w hw)⟩
  refine ⟨by rw [hB3]; simp, fun i2 hi2 q hq => .inr ?_⟩
  rw [hB3] at hi2
  obtain rfl : i2 = n := by simpa using hi2
  obtain rfl : o1 = q := Option.some.inj (ho1.symm.trans hq)
  refine ⟨Nat.le_refl _, hw1 _, fun w2 hw2' => ?_⟩
  rw [execOp_put o1 s1 A o2.dst u2 p3]
  refine floatRes_mono (fun u w3 hh3 => ⟨_, hh3, ?_⟩) (hf1 (some u2) w2 hw2')
  refine ⟨by rw [hB4']; simp, fun i3 hi3 r hr => .inr ?_⟩
  rw [hB4'] at hi3
  obtain rfl : i3 = i2 + 2 := by simpa using hi3
  obtain rfl : o3 = r := Option.some.inj (ho3.symm.trans hr)
  refine ⟨by omega, hw3 _, fun w4 hw4 => ?_⟩
  rw [← Act.put_comm A u u2 p2, execOp_put o3 s3 _ o2.dst u2 q1]
  refine floatRes_mono (fun u3 w5 hh5 => ⟨_, hh5, ?_⟩) (hf3 u (some u2) w4 hw4)
  rw [put3]
  exact hL u u2 _ hB6'

def floatGB (md : Region.Mode) (l : List Oper) (n sz : Nat) : Bool :=
 Region.noSelect l.toArray && decide (n + 3 < l.length) && Region.sinkB md l.toArray (n + 3) && Region.chainB md l.toArray (n + 3) && dstOk sz (l.take n) && lexGB md l.toArray n (endB md l.toArray (l.length - (n + 3)) n) n 0 (Array.replicate l.toArray.size false)

theorem region_float2 {id : Nat} {Q : Exit → Act → World → Prop} {a A : Act} {w : World} {l : List Oper} (n sz : Nat) (D : St → World → Prop) (o1 o2 o3 : Oper) (hm : P.follows .mixedOrders = true) (hB : floatGB .any l n sz = true) (hsz : a.tmps.size = sz)
  (ho1 : l[n]? = some o1) (ho2 : l[n + 1]? = some o2) (ho3 : l[n + 2]? = some o3) (hg1 : o1.guard = none) (hg2 : o2.guard = none) (hg3 : o3.guard = none) (hap : o1.apart l.toArray o2 = true) (hap3 : o2.apart l.toArray o3 = true) (hd3 : o3.dst = none) (h0 : D (none, none, false) w.drew)
  (h1 : ∀ j, wpQuiet P l.toArray (D j) (fun a' => a' = A) (l.take n) a)
  (hf1 : ∀ f2 w', D (none, f2, false) w' → floatRes ((execOp A.eval o1).run P w') fun u w'' => D (some u, f2, false) w'')
  (hf2 : ∀ f1 b w', D (f1, none, b) w' → floatRes ((execOp A.eval o2).run P w') fun u w'' => D (f1, some u, b) w'')
  (hf3 : ∀ u f2 w', D (some u, f2, false) w' → floatRes ((execOp (A.put o1.dst u).eval o3).run P w') fun _ w'' => D (some u, f2, true) w'')
  (ht : ∀ u1 u2 w', D (some u1, some u2, true) w' → wpList P l.toArray Q (l.drop (n + 3)) ((A.put o1.dst u1).put o2.dst u2) w') : (Code.region id l.toArray true).wp P Q a w := by
 simp only [floatGB, Bool.and_eq_true, decide_eq_true_eq] at hB
 obtain ⟨⟨⟨⟨⟨hsel, hn⟩, hs⟩, hc⟩, hd⟩, hlex⟩ := hB
 have hn' : n + 3 < l.toArray.size := by simpa using hn
 have htl : (l.take n).length = n := by simp; omega
 have hdl : (l.drop (n + 3)).length = l.length - (n + 3) := by simp
 have inv0 : HeadInv .any l.toArray (n + 3) (Array.replicate l.toArray.size false) :=
  ⟨by simp, fun j oj _ hl => (by rw [getD_replicate_false] at hl; cases hl), fun t _ ht => getD_in (by simpa using ht) (getD_replicate_false _ _)⟩
 obtain ⟨p1, _, _⟩ := Oper.apart_spec hap
 have H := lexG (P := P) (D := D) (md := .any) (n := n) (m := 3) (A := A) (s0 := ((none, none, false) : St)) (E := endB .any l.toArray (l.length - (n + 3)) n)
  (L := fun s done a' => Region.seqB .any l.toArray (l.length - (n + 3)) (n + 3) done = true ∧ ∀ w', D s w' → wpList P l.toArray Q (l.drop (n + 3)) a' w')
  hsel hs hc hn' (fun _ _ _ hL => seqB_ready hL.1)
  (base hsel (by simpa using ho1) (by simpa using ho2) (by simpa using ho3) (fun y => by simp [Region.wanted, hg1]) (fun y => by simp [Region.wanted, hg2]) (fun y => by simp [Region.wanted, hg3]) hap hap3 hd3 hf1 hf2 hf3
   (fun u1 u2 done hq => ⟨hq, fun w3 hw3 => ht u1 u2 w3 hw3⟩))
  (l.take n) 0 _ a (fun j hj => by
   have hj' : j < n := by rw [htl] at hj; exact hj
   simp [hj']) (by simpa using htl) inv0 (by rw [hsz]; exact hd) (by rw [htl]; exact hlex) h1
 refine wp_region_any hm ?_
 have := any_of_goG (R := Q) (g := l.length - (n + 3)) (fun s done a' w' hw' hL => by
  have := wpAny_of_seq (P := P) (md := .any) (Q' := Q) (l.drop (n + 3)) (n + 3) done a' w' (fun j => by simp [List.getElem?_drop]) (by rw [hdl]; exact hL.1) (hL.2 w' hw')
  rwa [hdl] at this) _ _ _ _ _ h0 H
 rw [htl, show n + 3 + (l.length - (n + 3)) = l.toArray.size by simp; omega] at this
 exact this
end
theorem region_float2_ex {P : Program} {id : Nat} {Q : Exit → Act → World → Prop} {a : Act} {w : World} {l : List Oper} (n sz : Nat) (D : St → World → Prop) (o1 o2 o3 : Oper) (hm : P.follows .mixedOrders = true) (hB : floatGB .any l n sz = true) (hsz : a.tmps.size = sz)
  (ho1 : l[n]? = some o1) (ho2 : l[n + 1]? = some o2) (ho3 : l[n + 2]? = some o3) (hg1 : o1.guard = none) (hg2 : o2.guard = none) (hg3 : o3.guard = none) (hap : o1.apart l.toArray o2 = true) (hap3 : o2.apart l.toArray o3 = true) (hd3 : o3.dst = none) (h0 : D (none, none, false) w.drew)
  (h : ∃ A, (∀ j, wpQuiet P l.toArray (D j) (fun a' => a' = A) (l.take n) a) ∧ (∀ f2 w', D (none, f2, false) w' → floatRes ((execOp A.eval o1).run P w') fun u w'' => D (some u, f2, false) w'') ∧
   (∀ f1 b w', D (f1, none, b) w' → floatRes ((execOp A.eval o2).run P w') fun u w'' => D (f1, some u, b) w'') ∧
   (∀ u f2 w', D (some u, f2, false) w' → floatRes ((execOp (A.put o1.dst u).eval o3).run P w') fun _ w'' => D (some u, f2, true) w'') ∧
   (∀ u1 u2 w', D (some u1, some u2, true) w' → wpList P l.toArray Q (l.drop (n + 3)) ((A.put o1.dst u1).put o2.dst u2) w')) : (Code.region id l.toArray true).wp P Q a w :=
 let ⟨_, h1, h2, h3, h4, h5⟩ := h
 region_float2 n sz D o1 o2 o3 hm hB hsz ho1 ho2 ho3 hg1 hg2 hg3 hap hap3 hd3 h0 h1 h2 h3 h4 h5
open Go.RowKit
def Box (W0 w : World) (z0 z1 : Value) : Option Value → Prop
 | none => True
 | some u => ∃ p : Nat, u = .pointer (some ⟨p, 0, none⟩) ∧ W0.heap.size ≤ p ∧ p < w.heap.size ∧ w.cell? ⟨p, 0, none⟩ = some z0 ∧ w.cell? ⟨p, 1, none⟩ = some z1 ∧ w.frozen? ⟨p, 0, none⟩ = false ∧ w.frozen? ⟨p, 1, none⟩ = false
theorem Box.kept {W0 w w' : World} {z0 z1 : Value} {j : Option Value} (h : Box W0 w z0 z1 j) (hb : Below w.heap.size w w') : Box W0 w' z0 z1 j := by
 cases j
 ·trivial
 ·obtain ⟨p, h2, h3, h4, c0, c1, f0, f1⟩ := h
  exact ⟨p, h2, h3, Nat.lt_of_lt_of_le h4 hb.size, (hb.cell (p := ⟨p, 0, none⟩) h4).trans c0, (hb.cell (p := ⟨p, 1, none⟩) h4).trans c1, (hb.frozen (p := ⟨p, 0, none⟩) h4).trans f0, (hb.frozen (p := ⟨p, 1, none⟩) h4).trans f1⟩
def Two : Option Value → Option Value → Prop
 | some u, some v => u ≠ v
 | _, _ => True
def FD2 (B : Nat) (W0 : World) (z0 z1 s0 s1 : Value) (j : St) (w : World) : Prop := Below B W0 w ∧ Box W0 w (if j.2.2 then s0 else z0) (if j.2.2 then s1 else z1) j.1 ∧ Box W0 w z0 z1 j.2.1 ∧ Two j.1 j.2.1
theorem FD2.below {B : Nat} {W0 w : World} {z0 z1 s0 s1 : Value} {j : St} (h : FD2 B W0 z0 z1 s0 s1 j w) : Below B W0 w := h.1
theorem FD2.call {B : Nat} {W0 w w' : World} {z0 z1 s0 s1 : Value} {j : St} (hB : B ≤ W0.heap.size) (h : FD2 B W0 z0 z1 s0 s1 j w) (hb : Below w.heap.size w w') : FD2 B W0 z0 z1 s0 s1 j w' :=
 ⟨qtrans hB h.1 hb, h.2.1.kept hb, h.2.2.1.kept hb, h.2.2.2⟩
theorem Box.ne {W0 w : World} {z0 z1 : Value} {u : Value} (h : Box W0 w z0 z1 (some u)) : u ≠ .pointer (some ⟨w.heap.size, 0, none⟩) := by
 obtain ⟨p, rfl, _, h4, _⟩ := h
 intro h
 injection h with h
 injection h with h
 injection h with h
 omega
theorem FD2.made1 {B : Nat} {W0 w : World} {z0 z1 s0 s1 : Value} {t : TypeId} {j : Option Value} (hB : B ≤ W0.heap.size) (h : FD2 B W0 z0 z1 s0 s1 (none, j, false) w) : FD2 B W0 z0 z1 s0 s1 (some (.pointer (some ⟨w.heap.size, 0, none⟩)), j, false) (w.alloc (.cells #[z0, z1] t)) := by
 obtain ⟨h, -, h2, -⟩ := h
 have hb : Below w.heap.size w (w.alloc (.cells #[z0, z1] t)) := (Below.refl _ _).alloc (Nat.le_refl _) _
 refine ⟨h.alloc (Nat.le_trans hB h.size) _, ⟨w.heap.size, rfl, h.size, by simp, by simp, by simp, by simp [go_sem], by simp [go_sem]⟩, h2.kept hb, ?_⟩
 cases j with
 | none => trivial
 | some u => exact fun e => h2.ne e.symm
theorem FD2.made2 {B : Nat} {W0 w : World} {z0 z1 s0 s1 : Value} {t : TypeId} {j : Option Value} {b : Bool} (hB : B ≤ W0.heap.size) (h : FD2 B W0 z0 z1 s0 s1 (j, none, b) w) : FD2 B W0 z0 z1 s0 s1 (j, some (.pointer (some ⟨w.heap.size, 0, none⟩)), b) (w.alloc (.cells #[z0, z1] t)) := by
 obtain ⟨h, h2, -, -⟩ := h
 have hb : Below w.heap.size w (w.alloc (.cells #[z0, z1] t)) := (Below.refl _ _).alloc (Nat.le_refl _) _
 refine ⟨h.alloc (Nat.le_trans hB h.size) _, h2.kept hb, ⟨w.heap.size, rfl, h.size, by simp, by simp, by simp, by simp [go_sem], by simp [go_sem]⟩, ?_⟩
 cases j with
 | none => trivial
 | some u => exact fun e => h2.ne e
theorem FD2.open_ {B : Nat} {W0 w : World} {z0 z1 s0 s1 : Value} {u : Value} {j : Option Value} {b : Bool} (h : FD2 B W0 z0 z1 s0 s1 (some u, j, b) w) : ∃ p : Nat, u = .pointer (some ⟨p, 0, none⟩) ∧ p < w.heap.size ∧ w.cell? ⟨p, 0, none⟩ = some (if b then s0 else z0) ∧ w.cell? ⟨p, 1, none⟩ = some (if b then s1 else z1) ∧ w.frozen? ⟨p, 0, none⟩ = false ∧ w.frozen? ⟨p, 1, none⟩ = false := by
 obtain ⟨_, ⟨p, h2, h3, h4, c0, c1, f0, f1⟩, _⟩ := h
 exact ⟨p, h2, h4, c0, c1, f0, f1⟩
theorem FD2.stored {B : Nat} {W0 w : World} {z0 z1 s0 s1 : Value} {p : Nat} {j : Option Value} (hB : B ≤ W0.heap.size) (h : FD2 B W0 z0 z1 s0 s1 (some (.pointer (some ⟨p, 0, none⟩)), j, false) w) : FD2 B W0 z0 z1 s0 s1 (some (.pointer (some ⟨p, 0, none⟩)), j, true) ((w.setCell ⟨p, 0, none⟩ s0).setCell ⟨p, 1, none⟩ s1) := by
 obtain ⟨h, ⟨p', hp, h3, h4, c0, c1, f0, f1⟩, h5, h6⟩ := h
 have hpp : p' = p := by
  injection hp with hp
  injection hp with hp
  injection hp with hp
  exact hp.symm
 subst hpp
 refine ⟨(h.setCell (p := ⟨p', 0, none⟩) (by simp; omega) _).setCell (p := ⟨p', 1, none⟩) (by simp; omega) _, ⟨p', rfl, h3, by simpa using h4, ?_, ?_, ?_, ?_⟩, ?_, h6⟩
 ·go_simp
 ·go_simp
 ·go_simp
 ·go_simp
 ·cases j with
  | none => trivial
  | some v =>
   obtain ⟨q, hq, g3, g4, d0, d1, e0, e1⟩ := h5
   have hne : ¬ q = p' := fun e => h6 (by rw [hq, e])
   exact ⟨q, hq, g3, by simpa using g4, by go_simp, by go_simp, by go_simp, by go_simp⟩
end QG
end
end Go.Proofs.Ytacpahebbnnckaa
