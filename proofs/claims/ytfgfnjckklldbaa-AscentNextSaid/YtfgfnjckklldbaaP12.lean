/- Packed: MtD MtE MtF MtG MtH MtI MtJ MtK NxB. -/
import Derived.KernelRfl
import Derived.BigQuiet
import Derived.Test.YtfgfnjckklldbaaP4
import Derived.Test.YtfgfnjckklldbaaP11
set_option linter.unusedVariables false
set_option linter.unusedSimpArgs false
namespace Go.Proofs.Ytfgfnjckklldbaa
section
set_option maxRecDepth 1000000
open Go.RowKit
namespace SX
def K0 : Cfg := ⟨fun _ => true, fun _ => false, fun _ _ _ => none, fun _ _ => none⟩
def rd0 (P : Program) (f : FuncId) (pat : List LV) (v : LV) (q : Ob → Bool) : Bool := noIds pat && v.ids.isEmpty && match evFn P K0 3000 (2^240) f pat [] (.blit true) 0 2 with
 | some (v', _, _, obs) => v' == v && obs.all q
 | none => false
theorem rd0_ok {P : Program} (hmix : P.follows .mixedOrders = true) {f : FuncId} {pat : List LV} {v : LV} {q : Ob → Bool} (h : rd0 P f pat v q = true) (ε : Env) (w : World) (hq : ∀ ob, q ob = true → ob.ok P ε w) :
  Calls P f (pat.map (LV.den ε fun _ => 0)).toArray w (fun e w' => e = .returned (v.den ε fun _ => 0) ∧ Below w.heap.size w w') := by
 unfold rd0 at h
 simp only [Bool.and_eq_true] at h
 obtain ⟨⟨h1, h2⟩, h⟩ := h
 split at h
 ·rename_i v' s nv' obs he
  simp only [Bool.and_eq_true, beq_iff_eq] at h
  obtain ⟨rfl, ho⟩ := h
  exact reads4 hmix (by decide) he h1 h2 ε w fun ob hob => hq ob (List.all_eq_true.1 ho ob hob)
 ·cases h
def rem (a b : E) : E := .ar .rem .i64 a b
def restE (n m : E) : E := .ite (.cmp .lss (rem n m) (.lit 0)) (.ar .add .i64 (rem n m) m) (rem n m)
def winP (k : Nat) : LV := .v (.agg [.a (.int .i64 (.var k)), .a (.int .i64 (.var (k + 1))), .a (.int .i64 (.var (k + 2)))])
def intP (k : Nat) : LV := .v (.s (.a (.int .i64 (.var k))))
def qP : Ob → Bool := fun ob => ob == .req (.blit true) (.cmp .neq (.var 0) (.lit 0))
theorem hmixM : Try.prog.follows .mixedOrders = true := rfl
def behE : E := restE (.ar .sub .i64 (rem (.var 3) (.var 0)) (.var 1)) (.var 0)
theorem behB : rd0 Try.prog 24 [winP 0, intP 3] (.v (.s (.a (.int .i64 behE)))) qP = true := by kernel_rfl
theorem restE_den {ε : Env} {n m : E} (hm : 0 < (m.den ε).1) (hb : (m.den ε).1 ≤ 4611686018427387904) : ((restE n m).den ε).1 = (n.den ε).1 % (m.den ε).1 := by
 obtain ⟨e1, e2⟩ := rest_eq (n := (n.den ε).1) hm hb
 show (if decide ((n.den ε).1.tmod (m.den ε).1 < 0) = true then IntKind.i64.wrap ((n.den ε).1.tmod (m.den ε).1 + (m.den ε).1) else (n.den ε).1.tmod (m.den ε).1) = _
 by_cases h : (n.den ε).1.tmod (m.den ε).1 < 0
 ·rw [if_pos (decide_eq_true h), IntKind.wrap_i64]; have := e1 h; unfold wrap64 at this; omega
 ·rw [if_neg (by rw [decide_eq_true_eq]; exact h)]; exact e2 h
theorem mod_sub {t f p : Int} : (t.tmod p - f) % p = (t - f) % p := by
 rw [Meet.mod_eq_iff, show t.tmod p - f - (t - f) = -(t - t.tmod p) by omega, Int.dvd_neg]
 exact ⟨t.tdiv p, by have := Int.mul_tdiv_add_tmod t p; omega⟩
structure Win (p l : Nat) (f : Int) : Prop where
 p0 : 0 < p
 p1 : p ≤ 1073741824
 f0 : -1073741824 ≤ f
 f1 : f ≤ 1073741824
 l1 : l ≤ p
def wv (p l : Nat) (f : Int) : Value := .agg #[.int .i64 p, .int .i64 f, .int .i64 l]
def envW (L : List Int) : Env := ⟨fun v => L.getD v 0, fun _ => false, fun _ => none, fun _ => 0, fun _ => 0, fun _ => default, fun _ _ => 0⟩
theorem small_tmod (t : Int) {p : Nat} (h : 0 < p) : -(p : Int) < t.tmod p ∧ t.tmod p < p := by
 have a := Int.tmod_lt_of_pos t (show (0 : Int) < p by omega)
 have b := Int.tmod_lt_of_pos (-t) (show (0 : Int) < p by omega)
 rw [Int.neg_tmod] at b
 omega
theorem wrapI {x : Int} (h : -9223372036854775808 ≤ x ∧ x ≤ 9223372036854775807) : IntKind.i64.wrap x = x := by rw [IntKind.wrap_i64]; omega
theorem req_p {p l : Nat} {f t : Int} (hp : 0 < p) {P : Program} {w : World} (ob : Ob) (h : qP ob = true) : ob.ok P (envW [p, f, l, t]) w := by
 obtain rfl := eq_of_beq h
 intro _
 simp only [E.den, CO.den, envW, List.getD_cons_zero]
 simp; omega
theorem behind_any {p l : Nat} {f : Int} (hw : Win p l f) (t : Int) (w : World) :
  Calls Try.prog 24 #[wv p l f, .int .i64 t] w fun e w' => e = .returned (.int .i64 ((t - f) % p)) ∧ Below w.heap.size w w' := by
 have run := rd0_ok hmixM behB (envW [p, f, l, t]) w (fun ob h => req_p hw.p0 ob h)
 refine Calls.mono run fun e w' ⟨q1, q2⟩ => ⟨q1.trans ?_, q2⟩
 have hs := small_tmod t hw.p0
 have h0 := hw.p0
 have h1 := hw.p1
 have h2 := hw.f0
 have h3 := hw.f1
 simp only [LV.den, V1.den, SV.den, AV.den]
 have e : (behE.den (envW [p, f, l, t])).1 = (t - f) % p := by
  unfold behE
  rw [restE_den (by simp only [E.den, envW, List.getD_cons_zero]; omega) (by simp only [E.den, envW, List.getD_cons_zero]; omega)]
  show (IntKind.i64.wrap (t.tmod p - f)) % (p : Int) = _
  rw [wrapI (by omega), mod_sub]
 rw [e]
end SX
end
section
set_option maxRecDepth 1000000
open Go.RowKit
namespace SX
def contE : E := .ite (.cmp .lss (.var 0) (.lit 1)) (.blit false) (.ite (.cmp .lss (.lit 1073741824) (.var 0)) (.blit false) (.ite (.cmp .lss (.var 1) (.lit (-1073741824))) (.blit false) (.ite (.cmp .lss (.lit 1073741824) (.var 1)) (.blit false) (.ite (.cmp .lss (.var 2) (.lit 0)) (.blit false) (.ite (.cmp .lss (.var 0) (.var 2)) (.blit false) (.cmp .lss behE (.var 2)))))))
def qC : Ob → Bool
 | .req _ c => c == .cmp .neq (.var 0) (.lit 0)
 | _ => false
theorem contB : rd0 Try.prog 9 [winP 0, intP 3] (.v (.s (.a (.bool contE)))) qC = true := by kernel_rfl
theorem beh_den {p l : Nat} {f : Int} (hw : Win p l f) (t : Int) : (behE.den (envW [p, f, l, t])).1 = (t - f) % p := by
 have hs := small_tmod t hw.p0
 have h0 := hw.p0
 have h1 := hw.p1
 have h2 := hw.f0
 have h3 := hw.f1
 unfold behE
 rw [restE_den (by simp only [E.den, envW, List.getD_cons_zero]; omega) (by simp only [E.den, envW, List.getD_cons_zero]; omega)]
 show (IntKind.i64.wrap (t.tmod p - f)) % (p : Int) = _
 rw [wrapI (by omega), mod_sub]
theorem contains_any {p l : Nat} {f : Int} (hw : Win p l f) (t : Int) (w : World) :
  Calls Try.prog 9 #[wv p l f, .int .i64 t] w fun e w' => e = .returned (.bool (Meet.hs p l f t)) ∧ Below w.heap.size w w' := by
 have run := rd0_ok hmixM contB (envW [p, f, l, t]) w (fun ob h => by
  cases ob with
  | req pc c =>
   obtain rfl := eq_of_beq h
   intro _
   have := hw.p0
   simp only [E.den, CO.den, envW, List.getD_cons_zero]
   simp; omega
  | _ => cases h)
 refine Calls.mono run fun e w' ⟨q1, q2⟩ => ⟨q1.trans ?_, q2⟩
 have h0 := hw.p0
 have h1 := hw.p1
 have h2 := hw.f0
 have h3 := hw.f1
 have h4 := hw.l1
 have n (a b : Int) (h : ¬ a < b) : decide (a < b) = false := decide_eq_false h
 simp only [LV.den, V1.den, SV.den, AV.den]
 have e : (contE.den (envW [p, f, l, t])).2 = decide ((behE.den (envW [p, f, l, t])).1 < (l : Int)) := by
  show (if decide ((p : Int) < 1) = true then false else if decide ((1073741824 : Int) < p) = true then false else if decide (f < -1073741824) = true then false else if decide ((1073741824 : Int) < f) = true then false else if decide ((l : Int) < 0) = true then false else if decide ((p : Int) < l) = true then false else decide ((behE.den (envW [p, f, l, t])).1 < (l : Int))) = _
  rw [n _ _ (by omega), n _ _ (by omega), n _ _ (by omega), n _ _ (by omega), n _ _ (by omega), n _ _ (by omega)]
  rfl
 rw [e, beh_den hw]
 rfl
end SX
open SX
def optI : Option Int → Value
 | none => .tuple #[.int .i64 0, .bool false]
 | some n => .tuple #[.int .i64 n, .bool true]
theorem arc_facts {q PL k : Nat} (h : ¬ (PL : Int) < k) (d1 : (PL : Int) < q) (hk : 0 < k) (k1 : k ≤ q) (q1 : q ≤ 1073741824) : ∃ lo hi lk : Nat, q - PL = lo ∧ lo + k - 1 = hi ∧ wrap64 ((q : Int) - PL) = lo ∧ wrap64 ((lo : Int) + k) = lk ∧ wrap64 ((lk : Int) - 1) = hi ∧ 0 < lo ∧ lo ≤ hi ∧ hi < q := by
 refine ⟨q - PL, q - PL + k - 1, q - PL + k, rfl, rfl, ?_, ?_, ?_, by omega, by omega, by omega⟩
 ·rw [wrapSmall (by omega)]; omega
 ·rw [wrapSmall (by omega)]; omega
 ·rw [wrapSmall (by omega)]; omega
theorem addS {S : Int} {R : Nat} (h : -1152921504606846976 ≤ S ∧ S ≤ 1152921505680588800) (h2 : R ≤ 1152921504606846976) : wrap64 (S + (R : Int)) = S + R := wrapSmall (by omega)
set_option maxHeartbeats 1000000 in
theorem opening_any {p l q k : Nat} {f g : Int} (hw : Win p l f) (hv : Win q k g) (hk : 0 < k) (t : Int) (ht : -1152921504606846976 ≤ t ∧ t ≤ 1152921504606846976) (w : World) :
  Calls Try.prog 40 #[wv p l f, wv q k g, .int .i64 t] w fun e w' => e = .returned (optI (Meet.opening p f q k g t)) ∧ Below w.heap.size w w' := by
 have p0 := hw.p0
 have p1 := hw.p1
 have q0 := hv.p0
 have q1 := hv.p1
 have k1 := hv.l1
 have sf := Meet.start_facts (show (0 : Int) < p by omega) f t
 have C1 := hide (behind_any hw t)
 have b0 := Int.emod_nonneg (t - f) (show (p : Int) ≠ 0 by omega)
 have b1 := Int.emod_lt_of_pos (t - f) (show (0 : Int) < p by omega)
 have C2 := hide (rest_any (-((t - f) % p)) p ⟨by omega, by omega⟩)
 have eS : t + (-((t - f) % p)) % p = Meet.start p f t := rfl
 have C3 := hide (behind_any hv (Meet.start p f t))
 have d0 := Int.emod_nonneg (Meet.start p f t - g) (show (q : Int) ≠ 0 by omega)
 have d1 := Int.emod_lt_of_pos (Meet.start p f t - g) (show (0 : Int) < q by omega)
 have s0 : -1152921504606846976 ≤ Meet.start p f t ∧ Meet.start p f t ≤ 1152921505680588800 := by omega
 clear sf
 have e1 : wrap64 (-((t - f) % p)) = -((t - f) % p) := wrapSmall (by omega)
 have e2 : wrap64 (t + (-((t - f) % p)) % p) = Meet.start p f t := by rw [eS]; exact wrapSmall (by omega)
 clear eS
 unfold Meet.opening
 by_cases h : (Meet.start p f t - g) % q < k
 ·rw [if_pos h]
  simp only [optI, wv] at *
  clear hw hv p0 p1 q0 q1 k1 b0 b1 d0 d1 s0
  go_enter Try.func40, Try.ntmps40
  go_wp2_with fail
  refine QT.quiet_b (by kernel_rfl) (by kernel_rfl) ?_
  repeat (first
   | go_big_quiet_skip
   | (go_big_quiet_want; go_big_quiet_op; first
    | go_big_quiet_on
    | (apply Exists.intro
       refine ⟨fun _ => ?_, ?_⟩
       ·first
        | rfl
        | (intro hC; obtain ⟨hcq, hfq⟩ := bcellB hC; go_simp; done)
        | (intro hC; obtain ⟨hcq, hfq⟩ := bcellB hC; go_simp; rfl)
        | (intro hC; have hcq := bcellG hC; go_simp; done)
        | (intro hC; have hcq := bcellG hC; go_simp; rfl)
        | (intro hC; go_at_call 24; (first | (with_reducible refine (C1.out _).mono ?_)); (intro e w2 hw; exact ⟨hw.1, qtrans (by simp) hC hw.2⟩))
        | (intro hC; go_at_call 42; (first | (with_reducible refine (C2.out _).mono ?_)); (intro e w2 hw; exact ⟨hw.1, qtrans (by simp) hC hw.2⟩))
       go_big_quiet_on)))
  refine wpQuiet_nil ?_
  intro w9 hC9
  obtain ⟨hc9, hf9⟩ := bcellB hC9
  have hz9 := hC9.size
  try simp only [World.size_alloc, World.size_setCell] at hz9
  have z1 : w.heap.size < w9.heap.size := by omega
  have z2 : w.heap.size + 1 < w9.heap.size := by omega
  go_wp2_with fail
  refine (C3.out _).mono ?_
  rintro e w10 ⟨rfl, hb10⟩
  obtain ⟨hc10, hf10⟩ := bcell hb10
  have hz10 := hb10.size
  try simp only [World.size_alloc, World.size_setCell] at hz10
  go_wp2
  refine bodyPost_ret (v := .tuple #[.int .i64 (Meet.start p f t), .bool true]) (by simp only [results, Try.results40]; go_simp) rfl ⟨rfl, blw_⟩
 ·rw [if_neg h]
  obtain ⟨PL, hPL⟩ : ∃ PL : Nat, (Meet.start p f t - g) % q = PL := ⟨((Meet.start p f t - g) % q).toNat, (Int.toNat_of_nonneg d0).symm⟩
  rw [hPL] at h d0 d1 C3 ⊢
  rw [Int.toNat_natCast]
  obtain ⟨lo, hi, lk, hlo, hhi, e3, e4, e5, l0, l2, l3⟩ := arc_facts h d1 hk k1 q1
  rw [hlo, hhi]
  have C4 := hide (hit_any q p q lo hi (Nat.le_refl _) q0 q1 p1 l0 l2 l3)
  have ls := Meet.hit_least q p q lo hi (Nat.le_refl _) l0 l2 l3
  cases hres : Meet.hit q p q lo hi with
  | none =>
   rw [hres] at C4
   simp only [optI, optV, wv] at *
   clear hw hv p0 p1 q0 q1 k1 b0 b1 d0 d1 s0 ls hlo hhi l0 l2 l3 hPL hres
   go_enter Try.func40, Try.ntmps40
   go_wp2_with fail
   refine QT.quiet_b (by kernel_rfl) (by kernel_rfl) ?_
   repeat (first
    | go_big_quiet_skip
    | (go_big_quiet_want; go_big_quiet_op; first
     | go_big_quiet_on
     | (apply Exists.intro
        refine ⟨fun _ => ?_, ?_⟩
        ·first
         | rfl
         | (intro hC; obtain ⟨hcq, hfq⟩ := bcellB hC; go_simp; done)
         | (intro hC; obtain ⟨hcq, hfq⟩ := bcellB hC; go_simp; rfl)
         | (intro hC; have hcq := bcellG hC; go_simp; done)
         | (intro hC; have hcq := bcellG hC; go_simp; rfl)
         | (intro hC; go_at_call 24; (first | (with_reducible refine (C1.out _).mono ?_)); (intro e w2 hw; exact ⟨hw.1, qtrans (by simp) hC hw.2⟩))
         | (intro hC; go_at_call 42; (first | (with_reducible refine (C2.out _).mono ?_)); (intro e w2 hw; exact ⟨hw.1, qtrans (by simp) hC hw.2⟩))
        go_big_quiet_on)))
   refine wpQuiet_nil ?_
   intro w9 hC9
   obtain ⟨hc9, hf9⟩ := bcellB hC9
   have hz9 := hC9.size
   try simp only [World.size_alloc, World.size_setCell] at hz9
   have z1 : w.heap.size < w9.heap.size := by omega
   have z2 : w.heap.size + 1 < w9.heap.size := by omega
   go_wp2_with fail
   refine (C3.out _).mono ?_
   rintro e w10 ⟨rfl, hb10⟩
   obtain ⟨hc10, hf10⟩ := bcell hb10
   have hz10 := hb10.size
   try simp only [World.size_alloc, World.size_setCell] at hz10
   have z3 : w.heap.size < w10.heap.size := by omega
   have z4 : w.heap.size + 1 < w10.heap.size := by omega
   go_wp2_with fail
   refine (C4.out _).mono ?_
   rintro e w11 ⟨rfl, hb11⟩
   obtain ⟨hc11, hf11⟩ := bcell hb11
   have hz11 := hb11.size
   try simp only [World.size_alloc, World.size_setCell] at hz11
   have z5 : w.heap.size < w11.heap.size := by omega
   have z6 : w.heap.size + 1 < w11.heap.size := by omega
   go_wp2
   refine bodyPost_ret (v := .tuple #[.int .i64 0, .bool false]) (by simp only [results, Try.results40]; go_simp) rfl ⟨rfl, blw_⟩
  | some n =>
   rw [hres] at C4 ls
   have rl := Meet.least_lt q0 ls
   have rb : n ≤ 1073741824 := Nat.le_trans (Nat.le_of_lt rl) q1
   obtain ⟨R, hR, hR2⟩ := prod_facts rb p1
   have e6 := mul_nat hR hR2
   have e7 := addS s0 hR2
   have e8 : (n : Int) * p = R := by rw [← Int.natCast_mul, hR]
   dsimp only
   rw [e8]
   simp only [optI, optV, wv] at *
   clear hw hv p0 p1 q0 q1 k1 b0 b1 d0 d1 s0 ls hlo hhi l0 l2 l3 hPL hres rl rb hR hR2 e8
   go_enter Try.func40, Try.ntmps40
   go_wp2_with fail
   refine QT.quiet_b (by kernel_rfl) (by kernel_rfl) ?_
   repeat (first
    | go_big_quiet_skip
    | (go_big_quiet_want; go_big_quiet_op; first
     | go_big_quiet_on
     | (apply Exists.intro
        refine ⟨fun _ => ?_, ?_⟩
        ·first
         | rfl
         | (intro hC; obtain ⟨hcq, hfq⟩ := bcellB hC; go_simp; done)
         | (intro hC; obtain ⟨hcq, hfq⟩ := bcellB hC; go_simp; rfl)
         | (intro hC; have hcq := bcellG hC; go_simp; done)
         | (intro hC; have hcq := bcellG hC; go_simp; rfl)
         | (intro hC; go_at_call 24; (first | (with_reducible refine (C1.out _).mono ?_)); (intro e w2 hw; exact ⟨hw.1, qtrans (by simp) hC hw.2⟩))
         | (intro hC; go_at_call 42; (first | (with_reducible refine (C2.out _).mono ?_)); (intro e w2 hw; exact ⟨hw.1, qtrans (by simp) hC hw.2⟩))
        go_big_quiet_on)))
   refine wpQuiet_nil ?_
   intro w9 hC9
   obtain ⟨hc9, hf9⟩ := bcellB hC9
   have hz9 := hC9.size
   try simp only [World.size_alloc, World.size_setCell] at hz9
   have z1 : w.heap.size < w9.heap.size := by omega
   have z2 : w.heap.size + 1 < w9.heap.size := by omega
   go_wp2_with fail
   refine (C3.out _).mono ?_
   rintro e w10 ⟨rfl, hb10⟩
   obtain ⟨hc10, hf10⟩ := bcell hb10
   have hz10 := hb10.size
   try simp only [World.size_alloc, World.size_setCell] at hz10
   have z3 : w.heap.size < w10.heap.size := by omega
   have z4 : w.heap.size + 1 < w10.heap.size := by omega
   go_wp2_with fail
   refine (C4.out _).mono ?_
   rintro e w11 ⟨rfl, hb11⟩
   obtain ⟨hc11, hf11⟩ := bcell hb11
   have hz11 := hb11.size
   try simp only [World.size_alloc, World.size_setCell] at hz11
   have z5 : w.heap.size < w11.heap.size := by omega
   have z6 : w.heap.size + 1 < w11.heap.size := by omega
   go_wp2
   refine bodyPost_ret (v := .tuple #[.int .i64 (Meet.start p f t + R), .bool true]) (by simp only [results, Try.results40]; go_simp) rfl ⟨rfl, blw_⟩
end
section
set_option maxRecDepth 1000000
open Go.RowKit
namespace SX
def winE : E := .ite (.cmp .lss (.var 0) (.lit 1)) (.blit false) (.ite (.cmp .lss (.lit 1073741824) (.var 0)) (.blit false) (.ite (.cmp .lss (.var 1) (.lit (-1073741824))) (.blit false) (.ite (.cmp .lss (.lit 1073741824) (.var 1)) (.blit false) (.ite (.cmp .lss (.var 2) (.lit 0)) (.blit false) (.not (.cmp .lss (.var 0) (.var 2)))))))
def wB (p f l : Int) : Bool := decide (1 ≤ p ∧ p ≤ 1073741824 ∧ -1073741824 ≤ f ∧ f ≤ 1073741824 ∧ 0 ≤ l ∧ l ≤ p)
theorem winB0 : rd0 Try.prog 22 [winP 0] (.v (.s (.a (.bool winE)))) (fun _ => false) = true := by kernel_rfl
theorem win_den (p f l : Int) : (winE.den (envW [p, f, l])).2 = wB p f l := by
 show (if decide (p < 1) = true then false else if decide ((1073741824 : Int) < p) = true then false else if decide (f < -1073741824) = true then false else if decide ((1073741824 : Int) < f) = true then false else if decide (l < 0) = true then false else !decide (p < l)) = _
 unfold wB
 simp only [decide_eq_true_eq]
 by_cases a : p < 1
 ·rw [if_pos a, eq_comm, decide_eq_false_iff_not]; omega
 ·rw [if_neg a]
  by_cases b : (1073741824 : Int) < p
  ·rw [if_pos b, eq_comm, decide_eq_false_iff_not]; omega
  ·rw [if_neg b]
   by_cases c : f < -1073741824
   ·rw [if_pos c, eq_comm, decide_eq_false_iff_not]; omega
   ·rw [if_neg c]
    by_cases d : (1073741824 : Int) < f
    ·rw [if_pos d, eq_comm, decide_eq_false_iff_not]; omega
    ·rw [if_neg d]
     by_cases e : l < 0
     ·rw [if_pos e, eq_comm, decide_eq_false_iff_not]; omega
     ·rw [if_neg e]
      by_cases g : p < l
      ·rw [decide_eq_true g, eq_comm, Bool.not_true, decide_eq_false_iff_not]; omega
      ·rw [decide_eq_false g, eq_comm, Bool.not_false, decide_eq_true_eq]; omega
def wvI (p f l : Int) : Value := .agg #[.int .i64 p, .int .i64 f, .int .i64 l]
theorem isWindow_any (p f l : Int) (w : World) : Calls Try.prog 22 #[wvI p f l] w fun e w' => e = .returned (.bool (wB p f l)) ∧ Below w.heap.size w w' := by
 have run := rd0_ok hmixM winB0 (envW [p, f, l]) w (fun ob h => by cases h)
 refine Calls.mono run fun e w' ⟨q1, q2⟩ => ⟨q1.trans ?_, q2⟩
 simp only [LV.den, V1.den, SV.den, AV.den]
 rw [win_den]
def timeE : E := .ite (.cmp .lss (.var 0) (.lit (-1152921504606846976))) (.blit false) (.not (.cmp .lss (.lit 1152921504606846976) (.var 0)))
theorem instB : rd0 Try.prog 23 [intP 0] (.v (.s (.a (.bool timeE)))) (fun _ => false) = true := by kernel_rfl
def tB (t : Int) : Bool := decide (-1152921504606846976 ≤ t ∧ t ≤ 1152921504606846976)
theorem time_den (t : Int) : (timeE.den (envW [t])).2 = tB t := by
 show (if decide (t < -1152921504606846976) = true then false else !decide ((1152921504606846976 : Int) < t)) = _
 unfold tB
 simp only [decide_eq_true_eq]
 by_cases a : t < -1152921504606846976
 ·rw [if_pos a, eq_comm, decide_eq_false_iff_not]; omega
 ·rw [if_neg a]
  by_cases g : (1152921504606846976 : Int) < t
  ·rw [decide_eq_true g, eq_comm, Bool.not_true, decide_eq_false_iff_not]; omega
  ·rw [decide_eq_false g, eq_comm, Bool.not_false, decide_eq_true_eq]; omega
theorem isInstant_any (t : Int) (w : World) : Calls Try.prog 23 #[.int .i64 t] w fun e w' => e = .returned (.bool (tB t)) ∧ Below w.heap.size w w' := by
 have run := rd0_ok hmixM instB (envW [t]) w (fun ob h => by cases h)
 refine Calls.mono run fun e w' ⟨q1, q2⟩ => ⟨q1.trans ?_, q2⟩
 simp only [LV.den, V1.den, SV.den, AV.den]
 rw [time_den]
end SX
end
section
set_option maxRecDepth 1000000
open Go.RowKit
namespace SX
def comE : E := .mx (.lit 0) (.ar .sub .i64 (.mn (.var 0) (.var 2)) (.mx (.lit 0) (.var 1)))
theorem comB : rd0 Try.prog 43 [intP 0, intP 1, intP 2] (.v (.s (.a (.int .i64 comE)))) (fun _ => false) = true := by kernel_rfl
def smI (x : Int) : Prop := -4611686018427387904 ≤ x ∧ x ≤ 4611686018427387904
theorem common_any {n a b : Int} (h0 : smI n) (h1 : smI a) (h2 : smI b) (w : World) : Calls Try.prog 43 #[.int .i64 n, .int .i64 a, .int .i64 b] w fun e w' => e = .returned (.int .i64 (Meet.com n a b)) ∧ Below w.heap.size w w' := by
 have run := rd0_ok hmixM comB (envW [n, a, b]) w (fun ob h => by cases h)
 refine Calls.mono run fun e w' ⟨q1, q2⟩ => ⟨q1.trans ?_, q2⟩
 simp only [LV.den, V1.den, SV.den, AV.den]
 have e : (comE.den (envW [n, a, b])).1 = Meet.com n a b := by
  show (if IntKind.i64.wrap ((if b < n then b else n) - (if a > 0 then a else 0)) > 0 then IntKind.i64.wrap ((if b < n then b else n) - (if a > 0 then a else 0)) else 0) = _
  unfold smI at *
  unfold Meet.com
  rw [wrapI (by split <;> split <;> omega)]
  split <;> split <;> split <;> omega
 rw [e]
end SX
open SX
theorem quo_nat {a g : Nat} (h : a ≤ 1073741824) : wrap64 ((a : Int).tdiv g) = ((a / g : Nat) : Int) := by
 rw [Int.tdiv_eq_ediv_of_nonneg (by omega), ← Int.natCast_ediv]
 have := Nat.div_le_self a g
 generalize a / g = x at *
 exact wrapSmall (by omega)
theorem quo_nat2 {a g : Nat} (h : a ≤ 1073741824) : wrap64 ((a : Int) / g) = ((a / g : Nat) : Int) := by
 rw [← Int.natCast_ediv]
 have := Nat.div_le_self a g
 generalize a / g = x at *
 exact wrapSmall (by omega)
theorem sum3 {x y z : Nat} {c : Int} (h1 : x ≤ 1152921504606846976) (h2 : y ≤ 1152921504606846976) (h3 : z ≤ 1152921504606846976) (h4 : 0 ≤ c ∧ c ≤ 4294967296) :
  wrap64 ((x : Int) + y) = x + y ∧ wrap64 ((x : Int) + y + z) = x + y + z ∧ wrap64 ((x : Int) + y + z + c) = x + y + z + c := by
 refine ⟨?_, ?_, ?_⟩ <;> exact wrapSmall (by omega)
theorem com_bd {n a b : Int} (h : 0 ≤ n ∧ n ≤ 1073741824) : 0 ≤ Meet.com n a b ∧ Meet.com n a b ≤ 1073741824 := by unfold Meet.com; omega
set_option maxHeartbeats 1000000 in
theorem often_any {p la q lb : Nat} {fa fb : Int} (hw : Win p la fa) (hv : Win q lb fb) (w : World) :
  Calls Try.prog 21 #[wv p la fa, wv q lb fb] w fun e w' => e = .returned (.tuple #[.int .i64 (Meet.cn (Meet.lc p q) (fun t => Meet.hs p la fa t && Meet.hs q lb fb t) : Nat), .int .i64 0]) ∧ Below w.heap.size w w' := by
 have p0 := hw.p0
 have p1 := hw.p1
 have q0 := hv.p0
 have q1 := hv.p1
 have la1 : la ≤ 1073741824 := Nat.le_trans hw.l1 p1
 have lb1 : lb ≤ 1073741824 := Nat.le_trans hv.l1 q1
 have g0 := (Meet.lc_facts p0 q0).1
 have gp : Nat.gcd p q ≤ p := Nat.le_of_dvd p0 (Nat.gcd_dvd_left p q)
 have of := Meet.often p0 q0 fa fb hw.l1 hv.l1
 have W1 := hide (isWindow_any p fa la)
 have W2 := hide (isWindow_any q fb lb)
 have v1 : wB p fa la = true := decide_eq_true (by have := hw.f0; have := hw.f1; have := hw.l1; omega)
 have v2 : wB q fb lb = true := decide_eq_true (by have := hv.f0; have := hv.f1; have := hv.l1; omega)
 rw [v1] at W1
 rw [v2] at W2
 have D := hide (divisor_any p q (by omega) (by omega))
 rw [of]
 clear of v1 v2
 generalize Nat.gcd p q = g at *
 have gI : ¬ (g : Int) = 0 := by omega
 have qa := quo_nat (a := la) (g := g) la1
 have qb := quo_nat (a := lb) (g := g) lb1
 have qa2 := quo_nat2 (a := la) (g := g) la1
 have qb2 := quo_nat2 (a := lb) (g := g) lb1
 have ma := tmod_nat la g
 have mb := tmod_nat lb g
 have x1 := Nat.le_trans (Nat.div_le_self la g) la1
 have x2 := Nat.le_trans (Nat.div_le_self lb g) lb1
 have x3 := Nat.mod_lt la g0
 have x4 := Nat.mod_lt lb g0
 have x5 := Nat.le_trans (Nat.div_mul_le_self la g) la1
 have f0 := hw.f0
 have f1 := hw.f1
 have f2 := hv.f0
 have f3 := hv.f1
 have e1 : wrap64 (fb - fa) = fb - fa := wrapSmall (by omega)
 have R := hide (rest_any (fb - fa) g ⟨by omega, by omega⟩)
 have d0 := Int.emod_nonneg (fb - fa) (show (g : Int) ≠ 0 by omega)
 have d1 := Int.emod_lt_of_pos (fb - fa) (show (0 : Int) < g by omega)
 generalize (fb - fa) % (g : Int) = d at *
 generalize la / g = RA at *
 generalize lb / g = RB at *
 generalize la % g = ra at *
 generalize lb % g = rb at *
 have e2 : wrap64 (d + (rb : Int)) = d + rb := wrapSmall (by omega)
 have e3 : wrap64 (d - (g : Int)) = d - g := wrapSmall (by omega)
 have e4 : wrap64 (d - (g : Int) + rb) = d - g + rb := wrapSmall (by omega)
 have M1 := hide (common_any (n := ra) (a := d) (b := d + rb) (by unfold smI; omega) (by unfold smI; omega) (by unfold smI; omega))
 have M2 := hide (common_any (n := ra) (a := d - g) (b := d - g + rb) (by unfold smI; omega) (by unfold smI; omega) (by unfold smI; omega))
 have b1 := com_bd (n := ra) (a := d) (b := d + rb) (by omega)
 have b2 := com_bd (n := ra) (a := d - g) (b := d - g + rb) (by omega)
 generalize Meet.com ra d (d + rb) = c1 at *
 generalize Meet.com ra (d - g) (d - g + rb) = c2 at *
 have e5 : wrap64 (c1 + c2) = c1 + c2 := wrapSmall (by omega)
 obtain ⟨y1, hy1, _⟩ : ∃ y : Nat, RA * g = y ∧ True := ⟨_, rfl, trivial⟩
 rw [hy1] at x5
 have hg1 : g ≤ 1073741824 := Nat.le_trans gp p1
 have r1 : ra ≤ 1073741824 := by omega
 have r2 : rb ≤ 1073741824 := by omega
 have b3 : 0 ≤ c1 + c2 ∧ c1 + c2 ≤ 4294967296 := by omega
 have m1 := mul_nat hy1 (Nat.le_trans x5 (by omega))
 obtain ⟨y2, hy2, by2⟩ := prod_facts x5 x2
 have m2 := mul_nat hy2 by2
 obtain ⟨y3, hy3, by3⟩ := prod_facts x1 r2
 have m3 := mul_nat hy3 by3
 obtain ⟨y4, hy4, by4⟩ := prod_facts r1 x2
 have m4 := mul_nat hy4 by4
 obtain ⟨s1, s2, s3⟩ := sum3 by2 by3 by4 b3
 rw [hy1, hy2, hy3, hy4, Int.natCast_add, Int.natCast_add]
 simp only [wv, wvI] at *
 clear hw hv p0 p1 q0 q1 la1 lb1 gp x1 x2 x3 x4 x5 f0 f1 f2 f3 d0 d1 b1 b2 b3 hy1 hy2 hy3 hy4 by2 by3 by4 hg1 r1 r2 g0
 go_enter Try.func21, Try.ntmps21
 go_wp2_with fail
 refine (W1.out _).mono ?_
 rintro e w1 ⟨rfl, hb1⟩
 obtain ⟨hc1, hf1⟩ := bcell hb1
 have hz1 := hb1.size
 try simp only [World.size_alloc, World.size_setCell] at hz1
 try refine zw2 w w1 (by omega) fun _ _ _ _ => ?_
 go_wp2_with fail
 refine (W2.out _).mono ?_
 rintro e w2 ⟨rfl, hb2⟩
 obtain ⟨hc2, hf2⟩ := bcell hb2
 have hz2 := hb2.size
 try simp only [World.size_alloc, World.size_setCell] at hz2
 try refine zw2 w w2 (by omega) fun _ _ _ _ => ?_
 try have : w1.heap.size < w2.heap.size := by omega
 try have : w1.heap.size ≤ w2.heap.size := by omega
 go_wp2_with fail
 refine (D.out _).mono ?_
 rintro e w3 ⟨rfl, hb3⟩
 obtain ⟨hc3, hf3⟩ := bcell hb3
 have hz3 := hb3.size
 try simp only [World.size_alloc, World.size_setCell] at hz3
 try refine zw2 w w3 (by omega) fun _ _ _ _ => ?_
 try have : w1.heap.size < w3.heap.size := by omega
 try have : w1.heap.size ≤ w3.heap.size := by omega
 try have : w2.heap.size < w3.heap.size := by omega
 try have : w2.heap.size ≤ w3.heap.size := by omega
 go_wp2_with fail
 refine QT.quiet_b (by kernel_rfl) (by kernel_rfl) ?_
 repeat (first
  | go_big_quiet_skip
  | (go_big_quiet_want; go_big_quiet_op; first
   | go_big_quiet_on
   | (apply Exists.intro
      refine ⟨fun _ => ?_, ?_⟩
      ·first
       | rfl
       | (intro hC; obtain ⟨hcq, hfq⟩ := bcellB hC; go_simp; done)
       | (intro hC; obtain ⟨hcq, hfq⟩ := bcellB hC; go_simp; rfl)
       | (intro hC; have hcq := bcellG hC; go_simp; done)
       | (intro hC; have hcq := bcellG hC; go_simp; rfl)
      go_big_quiet_on)))
 refine wpQuiet_nil ?_
 intro w9 hC9
 obtain ⟨hc9, hf9⟩ := bcellB hC9
 have hz9 := hC9.size
 try simp only [World.size_alloc, World.size_setCell] at hz9
 have z1 : w.heap.size < w9.heap.size := by omega
 have z2 : w.heap.size + 1 < w9.heap.size := by omega
 go_wp2_with fail
 refine QT.quiet_b (by kernel_rfl) (by kernel_rfl) ?_
 repeat (first
  | go_big_quiet_skip
  | (go_big_quiet_want; go_big_quiet_op; first
   | go_big_quiet_on
   | (apply Exists.intro
      refine ⟨fun _ => ?_, ?_⟩
      ·first
       | rfl
       | (intro hC; obtain ⟨hcq, hfq⟩ := bcellB hC; go_simp; done)
       | (intro hC; obtain ⟨hcq, hfq⟩ := bcellB hC; go_simp; rfl)
       | (intro hC; have hcq := bcellG hC; go_simp; done)
       | (intro hC; have hcq := bcellG hC; go_simp; rfl)
      go_big_quiet_on)))
 refine wpQuiet_nil ?_
 intro w9 hC9
 obtain ⟨hc9, hf9⟩ := bcellB hC9
 have hz9 := hC9.size
 try simp only [World.size_alloc, World.size_setCell] at hz9
 have z3 : w.heap.size < w9.heap.size := by omega
 have z4 : w.heap.size + 1 < w9.heap.size := by omega
 go_wp2_with fail
 refine (R.out _).mono ?_
 rintro e w10 ⟨rfl, hb10⟩
 obtain ⟨hc10, hf10⟩ := bcell hb10
 have hz10 := hb10.size
 have z5 : w.heap.size < w10.heap.size := by omega
 have z6 : w.heap.size + 1 < w10.heap.size := by omega
 go_wp2_with fail
 refine (M1.out _).mono ?_
 rintro e w11 ⟨rfl, hb11⟩
 obtain ⟨hc11, hf11⟩ := bcell hb11
 have hz11 := hb11.size
 go_wp2_with fail
 refine (M2.out _).mono ?_
 rintro e w12 ⟨rfl, hb12⟩
 have hz12 := hb12.size
 go_wp2
 refine bodyPost_ret (v := .tuple #[.int .i64 ((y2 : Int) + y3 + y4 + (c1 + c2)), .int .i64 0]) (by simp only [results, Try.results21]; go_simp) rfl ⟨rfl, blw_⟩
end
section
set_option maxRecDepth 1000000
open Go.RowKit
open SX
theorem inc_nat {t L : Nat} (h : t < L) (hL : L ≤ 1152921504606846976) : wrap64 ((t : Int) + 1) = ((t + 1 : Nat) : Int) := by rw [wrapSmall (by omega)]; omega
theorem lc_is {p q : Nat} (hq : q ≤ 1073741824) (hp : p ≤ 1073741824) : Meet.lc p q ≤ 1152921504606846976 := by
 obtain ⟨R, hR, h⟩ := prod_facts (Nat.le_trans (Nat.div_le_self p (Nat.gcd p q)) hp) hq
 unfold Meet.lc; rw [hR]; exact h
end
section
set_option maxRecDepth 1000000
open Go.RowKit
open SX
theorem addT {T : Int} {i L : Nat} (h : -1152921504606846976 ≤ T ∧ T ≤ 1152921504606846976) (h2 : i < L) (hL : L ≤ 1152921504606846976) : wrap64 (T + (i : Int)) = T + i := wrapSmall (by omega)
end
section
set_option maxRecDepth 1000000
open Go.RowKit
open SX
def both (p la : Nat) (fa : Int) (q lb : Nat) (fb : Int) : Nat := Meet.cn (Meet.lc p q) (fun t => Meet.hs p la fa t && Meet.hs q lb fb t)
theorem both_pos {p la q lb : Nat} {fa fb : Int} (hp : 0 < p) (hq : 0 < q) (h : ¬ both p la fa q lb fb = 0) : 0 < la ∧ 0 < lb := by
 refine ⟨?_, ?_⟩
 ·rcases Nat.eq_zero_or_pos la with e | e
  ·refine absurd (Meet.cn_none fun t _ => ?_) h
   subst e
   rw [Meet.hs_zero (by omega), Bool.false_and]
  ·exact e
 ·rcases Nat.eq_zero_or_pos lb with e | e
  ·refine absurd (Meet.cn_none fun t _ => ?_) h
   subst e
   rw [Meet.hs_zero (by omega), Bool.and_false]
  ·exact e
def nxV (p la : Nat) (fa : Int) (q lb : Nat) (fb T : Int) : Value :=
 if tB T = false then .tuple #[.int .i64 0, .int .i64 2]
 else if both p la fa q lb fb = 0 then .tuple #[.int .i64 0, .int .i64 7]
 else .tuple #[.int .i64 (Meet.next p la fa q lb fb T), .int .i64 0]
set_option maxHeartbeats 1000000 in
theorem next_any {p la q lb : Nat} {fa fb : Int} (hw : Win p la fa) (hv : Win q lb fb) (T : Int) (w : World) :
  Calls Try.prog 20 #[wv p la fa, wv q lb fb, .int .i64 T] w fun e w' => e = .returned (nxV p la fa q lb fb T) ∧ Below w.heap.size w w' := by
 have O := hide (often_any hw hv)
 have I := hide (isInstant_any T)
 change Hid (∀ w, Calls Try.prog 21 #[wv p la fa, wv q lb fb] w fun e w' => e = .returned (.tuple #[.int .i64 (both p la fa q lb fb : Nat), .int .i64 0]) ∧ Below w.heap.size w w') at O
 unfold nxV
 cases ht : tB T with
 | false =>
  rw [ht] at I
  rw [if_pos rfl]
  simp only [wv] at *
  clear hw hv ht
  go_enter Try.func20, Try.ntmps20
  go_wp2_with fail
  refine (O.out _).mono ?_
  rintro e w1 ⟨rfl, hb1⟩
  obtain ⟨hc1, hf1⟩ := bcell hb1
  have hz1 := hb1.size
  try simp only [World.size_alloc, World.size_setCell] at hz1
  try refine zw2 w w1 (by omega) fun _ _ _ _ => ?_
  go_wp2_with fail
  refine (I.out _).mono ?_
  rintro e w2 ⟨rfl, hb2⟩
  obtain ⟨hc2, hf2⟩ := bcell hb2
  have hz2 := hb2.size
  try simp only [World.size_alloc, World.size_setCell] at hz2
  try refine zw2 w w2 (by omega) fun _ _ _ _ => ?_
  try have : w1.heap.size < w2.heap.size := by omega
  try have : w1.heap.size ≤ w2.heap.size := by omega
  go_wp2
  refine bodyPost_ret (v := .tuple #[.int .i64 0, .int .i64 2]) (by simp only [results, Try.results20]; go_simp) rfl ⟨rfl, blw_⟩
 | true =>
  rw [ht] at I
  rw [if_neg (by simp)]
  have hT : -1152921504606846976 ≤ T ∧ T ≤ 1152921504606846976 := of_decide_eq_true ht
  by_cases hN : both p la fa q lb fb = 0
  ·rw [if_pos hN]
   rw [hN] at O
   simp only [wv] at *
   clear hw hv ht hT hN
   go_enter Try.func20, Try.ntmps20
   go_wp2_with fail
   refine (O.out _).mono ?_
   rintro e w1 ⟨rfl, hb1⟩
   obtain ⟨hc1, hf1⟩ := bcell hb1
   have hz1 := hb1.size
   try simp only [World.size_alloc, World.size_setCell] at hz1
   try refine zw2 w w1 (by omega) fun _ _ _ _ => ?_
   go_wp2_with fail
   refine (I.out _).mono ?_
   rintro e w2 ⟨rfl, hb2⟩
   obtain ⟨hc2, hf2⟩ := bcell hb2
   have hz2 := hb2.size
   try simp only [World.size_alloc, World.size_setCell] at hz2
   try refine zw2 w w2 (by omega) fun _ _ _ _ => ?_
   try have : w1.heap.size < w2.heap.size := by omega
   try have : w1.heap.size ≤ w2.heap.size := by omega
   go_wp2
   refine bodyPost_ret (v := .tuple #[.int .i64 0, .int .i64 7]) (by simp only [results, Try.results20]; go_simp) rfl ⟨rfl, blw_⟩
  ·rw [if_neg hN]
   obtain ⟨l0, k0⟩ := both_pos hw.p0 hv.p0 hN
   have hNI : ¬ ((both p la fa q lb fb : Nat) : Int) = 0 := by omega
   have A := hide (contains_any hw T)
   have B := hide (contains_any hv T)
   have P1 := hide (opening_any hw hv k0 T hT)
   have P2 := hide (opening_any hv hw l0 T hT)
   unfold Meet.next
   generalize both p la fa q lb fb = N at *
   generalize Meet.hs p la fa T = x at *
   generalize Meet.hs q lb fb T = y at *
   generalize Meet.opening p fa q lb fb T = o1 at *
   generalize Meet.opening q fb p la fa T = o2 at *
   simp only [wv] at *
   clear hw hv ht hT hN l0 k0
   cases x
   ·rw [if_neg (by simp)]
    cases o1 with
    | none =>
     cases o2 with
     | none =>
      simp only [optI] at P1 P2
      dsimp only
      go_enter Try.func20, Try.ntmps20
      go_wp2_with fail
      refine (O.out _).mono ?_
      rintro e w1 ⟨rfl, hb1⟩
      obtain ⟨hc1, hf1⟩ := bcell hb1
      have hz1 := hb1.size
      try simp only [World.size_alloc, World.size_setCell] at hz1
      try refine zw2 w w1 (by omega) fun _ _ _ _ => ?_
      go_wp2_with fail
      refine (I.out _).mono ?_
      rintro e w2 ⟨rfl, hb2⟩
      obtain ⟨hc2, hf2⟩ := bcell hb2
      have hz2 := hb2.size
      try simp only [World.size_alloc, World.size_setCell] at hz2
      try refine zw2 w w2 (by omega) fun _ _ _ _ => ?_
      try have : w1.heap.size < w2.heap.size := by omega
      try have : w1.heap.size ≤ w2.heap.size := by omega
      go_wp2_with fail
      refine (A.out _).mono ?_
      rintro e w3 ⟨rfl, hb3⟩
      obtain ⟨hc3, hf3⟩ := bcell hb3
      have hz3 := hb3.size
      try simp only [World.size_alloc, World.size_setCell] at hz3
      try refine zw2 w w3 (by omega) fun _ _ _ _ => ?_
      try have : w1.heap.size < w3.heap.size := by omega
      try have : w1.heap.size ≤ w3.heap.size := by omega
      try have : w2.heap.size < w3.heap.size := by omega
      try have : w2.heap.size ≤ w3.heap.size := by omega
      go_wp2_with fail
      refine (P1.out _).mono ?_
      rintro e w4 ⟨rfl, hb4⟩
      obtain ⟨hc4, hf4⟩ := bcell hb4
      have hz4 := hb4.size
      try simp only [World.size_alloc, World.size_setCell] at hz4
      try refine zw2 w w4 (by omega) fun _ _ _ _ => ?_
      try have : w1.heap.size < w4.heap.size := by omega
      try have : w1.heap.size ≤ w4.heap.size := by omega
      try have : w2.heap.size < w4.heap.size := by omega
      try have : w2.heap.size ≤ w4.heap.size := by omega
      try have : w3.heap.size < w4.heap.size := by omega
      try have : w3.heap.size ≤ w4.heap.size := by omega
      go_wp2_with fail
      refine (P2.out _).mono ?_
      rintro e w5 ⟨rfl, hb5⟩
      obtain ⟨hc5, hf5⟩ := bcell hb5
      have hz5 := hb5.size
      try simp only [World.size_alloc, World.size_setCell] at hz5
      try refine zw2 w w5 (by omega) fun _ _ _ _ => ?_
      try have : w1.heap.size < w5.heap.size := by omega
      try have : w1.heap.size ≤ w5.heap.size := by omega
      try have : w2.heap.size < w5.heap.size := by omega
      try have : w2.heap.size ≤ w5.heap.size := by omega
      try have : w3.heap.size < w5.heap.size := by omega
      try have : w3.heap.size ≤ w5.heap.size := by omega
      try have : w4.heap.size < w5.heap.size := by omega
      try have : w4.heap.size ≤ w5.heap.size := by omega
      go_wp2
      refine bodyPost_ret (v := .tuple #[.int .i64 0, .int .i64 0]) (by simp only [results, Try.results20]; go_simp) rfl ⟨rfl, blw_⟩
     | some v =>
      simp only [optI] at P1 P2
      dsimp only
      go_enter Try.func20, Try.ntmps20
      go_wp2_with fail
      refine (O.out _).mono ?_
      rintro e w1 ⟨rfl, hb1⟩
      obtain ⟨hc1, hf1⟩ := bcell hb1
      have hz1 := hb1.size
      try simp only [World.size_alloc, World.size_setCell] at hz1
      try refine zw2 w w1 (by omega) fun _ _ _ _ => ?_
      go_wp2_with fail
      refine (I.out _).mono ?_
      rintro e w2 ⟨rfl, hb2⟩
      obtain ⟨hc2, hf2⟩ := bcell hb2
      have hz2 := hb2.size
      try simp only [World.size_alloc, World.size_setCell] at hz2
      try refine zw2 w w2 (by omega) fun _ _ _ _ => ?_
      try have : w1.heap.size < w2.heap.size := by omega
      try have : w1.heap.size ≤ w2.heap.size := by omega
      go_wp2_with fail
      refine (A.out _).mono ?_
      rintro e w3 ⟨rfl, hb3⟩
      obtain ⟨hc3, hf3⟩ := bcell hb3
      have hz3 := hb3.size
      try simp only [World.size_alloc, World.size_setCell] at hz3
      try refine zw2 w w3 (by omega) fun _ _ _ _ => ?_
      try have : w1.heap.size < w3.heap.size := by omega
      try have : w1.heap.size ≤ w3.heap.size := by omega
      try have : w2.heap.size < w3.heap.size := by omega
      try have : w2.heap.size ≤ w3.heap.size := by omega
      go_wp2_with fail
      refine (P1.out _).mono ?_
      rintro e w4 ⟨rfl, hb4⟩
      obtain ⟨hc4, hf4⟩ := bcell hb4
      have hz4 := hb4.size
      try simp only [World.size_alloc, World.size_setCell] at hz4
      try refine zw2 w w4 (by omega) fun _ _ _ _ => ?_
      try have : w1.heap.size < w4.heap.size := by omega
      try have : w1.heap.size ≤ w4.heap.size := by omega
      try have : w2.heap.size < w4.heap.size := by omega
      try have : w2.heap.size ≤ w4.heap.size := by omega
      try have : w3.heap.size < w4.heap.size := by omega
      try have : w3.heap.size ≤ w4.heap.size := by omega
      go_wp2_with fail
      refine (P2.out _).mono ?_
      rintro e w5 ⟨rfl, hb5⟩
      obtain ⟨hc5, hf5⟩ := bcell hb5
      have hz5 := hb5.size
      try simp only [World.size_alloc, World.size_setCell] at hz5
      try refine zw2 w w5 (by omega) fun _ _ _ _ => ?_
      try have : w1.heap.size < w5.heap.size := by omega
      try have : w1.heap.size ≤ w5.heap.size := by omega
      try have : w2.heap.size < w5.heap.size := by omega
      try have : w2.heap.size ≤ w5.heap.size := by omega
      try have : w3.heap.size < w5.heap.size := by omega
      try have : w3.heap.size ≤ w5.heap.size := by omega
      try have : w4.heap.size < w5.heap.size := by omega
      try have : w4.heap.size ≤ w5.heap.size := by omega
      go_wp2
      refine bodyPost_ret (v := .tuple #[.int .i64 v, .int .i64 0]) (by simp only [results, Try.results20]; go_simp) rfl ⟨rfl, blw_⟩
    | some u =>
     cases o2 with
     | none =>
      simp only [optI] at P1 P2
      dsimp only
      go_enter Try.func20, Try.ntmps20
      go_wp2_with fail
      refine (O.out _).mono ?_
      rintro e w1 ⟨rfl, hb1⟩
      obtain ⟨hc1, hf1⟩ := bcell hb1
      have hz1 := hb1.size
      try simp only [World.size_alloc, World.size_setCell] at hz1
      try refine zw2 w w1 (by omega) fun _ _ _ _ => ?_
      go_wp2_with fail
      refine (I.out _).mono ?_
      rintro e w2 ⟨rfl, hb2⟩
      obtain ⟨hc2, hf2⟩ := bcell hb2
      have hz2 := hb2.size
      try simp only [World.size_alloc, World.size_setCell] at hz2
      try refine zw2 w w2 (by omega) fun _ _ _ _ => ?_
      try have : w1.heap.size < w2.heap.size := by omega
      try have : w1.heap.size ≤ w2.heap.size := by omega
      go_wp2_with fail
      refine (A.out _).mono ?_
      rintro e w3 ⟨rfl, hb3⟩
      obtain ⟨hc3, hf3⟩ := bcell hb3
      have hz3 := hb3.size
      try simp only [World.size_alloc, World.size_setCell] at hz3
      try refine zw2 w w3 (by omega) fun _ _ _ _ => ?_
      try have : w1.heap.size < w3.heap.size := by omega
      try have : w1.heap.size ≤ w3.heap.size := by omega
      try have : w2.heap.size < w3.heap.size := by omega
      try have : w2.heap.size ≤ w3.heap.size := by omega
      go_wp2_with fail
      refine (P1.out _).mono ?_
      rintro e w4 ⟨rfl, hb4⟩
      obtain ⟨hc4, hf4⟩ := bcell hb4
      have hz4 := hb4.size
      try simp only [World.size_alloc, World.size_setCell] at hz4
      try refine zw2 w w4 (by omega) fun _ _ _ _ => ?_
      try have : w1.heap.size < w4.heap.size := by omega
      try have : w1.heap.size ≤ w4.heap.size := by omega
      try have : w2.heap.size < w4.heap.size := by omega
      try have : w2.heap.size ≤ w4.heap.size := by omega
      try have : w3.heap.size < w4.heap.size := by omega
      try have : w3.heap.size ≤ w4.heap.size := by omega
      go_wp2_with fail
      refine (P2.out _).mono ?_
      rintro e w5 ⟨rfl, hb5⟩
      obtain ⟨hc5, hf5⟩ := bcell hb5
      have hz5 := hb5.size
      try simp only [World.size_alloc, World.size_setCell] at hz5
      try refine zw2 w w5 (by omega) fun _ _ _ _ => ?_
      try have : w1.heap.size < w5.heap.size := by omega
      try have : w1.heap.size ≤ w5.heap.size := by omega
      try have : w2.heap.size < w5.heap.size := by omega
      try have : w2.heap.size ≤ w5.heap.size := by omega
      try have : w3.heap.size < w5.heap.size := by omega
      try have : w3.heap.size ≤ w5.heap.size := by omega
      try have : w4.heap.size < w5.heap.size := by omega
      try have : w4.heap.size ≤ w5.heap.size := by omega
      go_wp2
      refine bodyPost_ret (v := .tuple #[.int .i64 u, .int .i64 0]) (by simp only [results, Try.results20]; go_simp) rfl ⟨rfl, blw_⟩
     | some v =>
      simp only [optI] at P1 P2
      dsimp only
      rcases Int.lt_or_le v u with huv | huv
      ·rw [Int.min_eq_right (Int.le_of_lt huv)]
       go_enter Try.func20, Try.ntmps20
       go_wp2_with fail
       refine (O.out _).mono ?_
       rintro e w1 ⟨rfl, hb1⟩
       obtain ⟨hc1, hf1⟩ := bcell hb1
       have hz1 := hb1.size
       try simp only [World.size_alloc, World.size_setCell] at hz1
       try refine zw2 w w1 (by omega) fun _ _ _ _ => ?_
       go_wp2_with fail
       refine (I.out _).mono ?_
       rintro e w2 ⟨rfl, hb2⟩
       obtain ⟨hc2, hf2⟩ := bcell hb2
       have hz2 := hb2.size
       try simp only [World.size_alloc, World.size_setCell] at hz2
       try refine zw2 w w2 (by omega) fun _ _ _ _ => ?_
       try have : w1.heap.size < w2.heap.size := by omega
       try have : w1.heap.size ≤ w2.heap.size := by omega
       go_wp2_with fail
       refine (A.out _).mono ?_
       rintro e w3 ⟨rfl, hb3⟩
       obtain ⟨hc3, hf3⟩ := bcell hb3
       have hz3 := hb3.size
       try simp only [World.size_alloc, World.size_setCell] at hz3
       try refine zw2 w w3 (by omega) fun _ _ _ _ => ?_
       try have : w1.heap.size < w3.heap.size := by omega
       try have : w1.heap.size ≤ w3.heap.size := by omega
       try have : w2.heap.size < w3.heap.size := by omega
       try have : w2.heap.size ≤ w3.heap.size := by omega
       go_wp2_with fail
       refine (P1.out _).mono ?_
       rintro e w4 ⟨rfl, hb4⟩
       obtain ⟨hc4, hf4⟩ := bcell hb4
       have hz4 := hb4.size
       try simp only [World.size_alloc, World.size_setCell] at hz4
       try refine zw2 w w4 (by omega) fun _ _ _ _ => ?_
       try have : w1.heap.size < w4.heap.size := by omega
       try have : w1.heap.size ≤ w4.heap.size := by omega
       try have : w2.heap.size < w4.heap.size := by omega
       try have : w2.heap.size ≤ w4.heap.size := by omega
       try have : w3.heap.size < w4.heap.size := by omega
       try have : w3.heap.size ≤ w4.heap.size := by omega
       go_wp2_with fail
       refine (P2.out _).mono ?_
       rintro e w5 ⟨rfl, hb5⟩
       obtain ⟨hc5, hf5⟩ := bcell hb5
       have hz5 := hb5.size
       try simp only [World.size_alloc, World.size_setCell] at hz5
       try refine zw2 w w5 (by omega) fun _ _ _ _ => ?_
       try have : w1.heap.size < w5.heap.size := by omega
       try have : w1.heap.size ≤ w5.heap.size := by omega
       try have : w2.heap.size < w5.heap.size := by omega
       try have : w2.heap.size ≤ w5.heap.size := by omega
       try have : w3.heap.size < w5.heap.size := by omega
       try have : w3.heap.size ≤ w5.heap.size := by omega
       try have : w4.heap.size < w5.heap.size := by omega
       try have : w4.heap.size ≤ w5.heap.size := by omega
       go_wp2
       refine bodyPost_ret (v := .tuple #[.int .i64 v, .int .i64 0]) (by simp only [results, Try.results20]; go_simp) rfl ⟨rfl, blw_⟩
      ·rw [Int.min_eq_left huv]
       have huv2 : ¬ v < u := by omega
       go_enter Try.func20, Try.ntmps20
       go_wp2_with fail
       refine (O.out _).mono ?_
       rintro e w1 ⟨rfl, hb1⟩
       obtain ⟨hc1, hf1⟩ := bcell hb1
       have hz1 := hb1.size
       try simp only [World.size_alloc, World.size_setCell] at hz1
       try refine zw2 w w1 (by omega) fun _ _ _ _ => ?_
       go_wp2_with fail
       refine (I.out _).mono ?_
       rintro e w2 ⟨rfl, hb2⟩
       obtain ⟨hc2, hf2⟩ := bcell hb2
       have hz2 := hb2.size
       try simp only [World.size_alloc, World.size_setCell] at hz2
       try refine zw2 w w2 (by omega) fun _ _ _ _ => ?_
       try have : w1.heap.size < w2.heap.size := by omega
       try have : w1.heap.size ≤ w2.heap.size := by omega
       go_wp2_with fail
       refine (A.out _).mono ?_
       rintro e w3 ⟨rfl, hb3⟩
       obtain ⟨hc3, hf3⟩ := bcell hb3
       have hz3 := hb3.size
       try simp only [World.size_alloc, World.size_setCell] at hz3
       try refine zw2 w w3 (by omega) fun _ _ _ _ => ?_
       try have : w1.heap.size < w3.heap.size := by omega
       try have : w1.heap.size ≤ w3.heap.size := by omega
       try have : w2.heap.size < w3.heap.size := by omega
       try have : w2.heap.size ≤ w3.heap.size := by omega
       go_wp2_with fail
       refine (P1.out _).mono ?_
       rintro e w4 ⟨rfl, hb4⟩
       obtain ⟨hc4, hf4⟩ := bcell hb4
       have hz4 := hb4.size
       try simp only [World.size_alloc, World.size_setCell] at hz4
       try refine zw2 w w4 (by omega) fun _ _ _ _ => ?_
       try have : w1.heap.size < w4.heap.size := by omega
       try have : w1.heap.size ≤ w4.heap.size := by omega
       try have : w2.heap.size < w4.heap.size := by omega
       try have : w2.heap.size ≤ w4.heap.size := by omega
       try have : w3.heap.size < w4.heap.size := by omega
       try have : w3.heap.size ≤ w4.heap.size := by omega
       go_wp2_with fail
       refine (P2.out _).mono ?_
       rintro e w5 ⟨rfl, hb5⟩
       obtain ⟨hc5, hf5⟩ := bcell hb5
       have hz5 := hb5.size
       try simp only [World.size_alloc, World.size_setCell] at hz5
       try refine zw2 w w5 (by omega) fun _ _ _ _ => ?_
       try have : w1.heap.size < w5.heap.size := by omega
       try have : w1.heap.size ≤ w5.heap.size := by omega
       try have : w2.heap.size < w5.heap.size := by omega
       try have : w2.heap.size ≤ w5.heap.size := by omega
       try have : w3.heap.size < w5.heap.size := by omega
       try have : w3.heap.size ≤ w5.heap.size := by omega
       try have : w4.heap.size < w5.heap.size := by omega
       try have : w4.heap.size ≤ w5.heap.size := by omega
       go_wp2
       refine bodyPost_ret (v := .tuple #[.int .i64 u, .int .i64 0]) (by simp only [results, Try.results20]; go_simp) rfl ⟨rfl, blw_⟩
   ·cases y
    ·rw [if_neg (by simp)]
     cases o1 with
     | none =>
      cases o2 with
      | none =>
       simp only [optI] at P1 P2
       dsimp only
       go_enter Try.func20, Try.ntmps20
       go_wp2_with fail
       refine (O.out _).mono ?_
       rintro e w1 ⟨rfl, hb1⟩
       obtain ⟨hc1, hf1⟩ := bcell hb1
       have hz1 := hb1.size
       try simp only [World.size_alloc, World.size_setCell] at hz1
       try refine zw2 w w1 (by omega) fun _ _ _ _ => ?_
       go_wp2_with fail
       refine (I.out _).mono ?_
       rintro e w2 ⟨rfl, hb2⟩
       obtain ⟨hc2, hf2⟩ := bcell hb2
       have hz2 := hb2.size
       try simp only [World.size_alloc, World.size_setCell] at hz2
       try refine zw2 w w2 (by omega) fun _ _ _ _ => ?_
       try have : w1.heap.size < w2.heap.size := by omega
       try have : w1.heap.size ≤ w2.heap.size := by omega
       go_wp2_with fail
       refine (A.out _).mono ?_
       rintro e w3 ⟨rfl, hb3⟩
       obtain ⟨hc3, hf3⟩ := bcell hb3
       have hz3 := hb3.size
       try simp only [World.size_alloc, World.size_setCell] at hz3
       try refine zw2 w w3 (by omega) fun _ _ _ _ => ?_
       try have : w1.heap.size < w3.heap.size := by omega
       try have : w1.heap.size ≤ w3.heap.size := by omega
       try have : w2.heap.size < w3.heap.size := by omega
       try have : w2.heap.size ≤ w3.heap.size := by omega
       go_wp2_with fail
       refine (B.out _).mono ?_
       rintro e w4 ⟨rfl, hb4⟩
       obtain ⟨hc4, hf4⟩ := bcell hb4
       have hz4 := hb4.size
       try simp only [World.size_alloc, World.size_setCell] at hz4
       try refine zw2 w w4 (by omega) fun _ _ _ _ => ?_
       try have : w1.heap.size < w4.heap.size := by omega
       try have : w1.heap.size ≤ w4.heap.size := by omega
       try have : w2.heap.size < w4.heap.size := by omega
       try have : w2.heap.size ≤ w4.heap.size := by omega
       try have : w3.heap.size < w4.heap.size := by omega
       try have : w3.heap.size ≤ w4.heap.size := by omega
       go_wp2_with fail
       refine (P1.out _).mono ?_
       rintro e w5 ⟨rfl, hb5⟩
       obtain ⟨hc5, hf5⟩ := bcell hb5
       have hz5 := hb5.size
       try simp only [World.size_alloc, World.size_setCell] at hz5
       try refine zw2 w w5 (by omega) fun _ _ _ _ => ?_
       try have : w1.heap.size < w5.heap.size := by omega
       try have : w1.heap.size ≤ w5.heap.size := by omega
       try have : w2.heap.size < w5.heap.size := by omega
       try have : w2.heap.size ≤ w5.heap.size := by omega
       try have : w3.heap.size < w5.heap.size := by omega
       try have : w3.heap.size ≤ w5.heap.size := by omega
       try have : w4.heap.size < w5.heap.size := by omega
       try have : w4.heap.size ≤ w5.heap.size := by omega
       go_wp2_with fail
       refine (P2.out _).mono ?_
       rintro e w6 ⟨rfl, hb6⟩
       obtain ⟨hc6, hf6⟩ := bcell hb6
       have hz6 := hb6.size
       try simp only [World.size_alloc, World.size_setCell] at hz6
       try refine zw2 w w6 (by omega) fun _ _ _ _ => ?_
       try have : w1.heap.size < w6.heap.size := by omega
       try have : w1.heap.size ≤ w6.heap.size := by omega
       try have : w2.heap.size < w6.heap.size := by omega
       try have : w2.heap.size ≤ w6.heap.size := by omega
       try have : w3.heap.size < w6.heap.size := by omega
       try have : w3.heap.size ≤ w6.heap.size := by omega
       try have : w4.heap.size < w6.heap.size := by omega
       try have : w4.heap.size ≤ w6.heap.size := by omega
       try have : w5.heap.size < w6.heap.size := by omega
       try have : w5.heap.size ≤ w6.heap.size := by omega
       go_wp2
       refine bodyPost_ret (v := .tuple #[.int .i64 0, .int .i64 0]) (by simp only [results, Try.results20]; go_simp) rfl ⟨rfl, blw_⟩
      | some v =>
       simp only [optI] at P1 P2
       dsimp only
       go_enter Try.func20, Try.ntmps20
       go_wp2_with fail
       refine (O.out _).mono ?_
       rintro e w1 ⟨rfl, hb1⟩
       obtain ⟨hc1, hf1⟩ := bcell hb1
       have hz1 := hb1.size
       try simp only [World.size_alloc, World.size_setCell] at hz1
       try refine zw2 w w1 (by omega) fun _ _ _ _ => ?_
       go_wp2_with fail
       refine (I.out _).mono ?_
       rintro e w2 ⟨rfl, hb2⟩
       obtain ⟨hc2, hf2⟩ := bcell hb2
       have hz2 := hb2.size
       try simp only [World.size_alloc, World.size_setCell] at hz2
       try refine zw2 w w2 (by omega) fun _ _ _ _ => ?_
       try have : w1.heap.size < w2.heap.size := by omega
       try have : w1.heap.size ≤ w2.heap.size := by omega
       go_wp2_with fail
       refine (A.out _).mono ?_
       rintro e w3 ⟨rfl, hb3⟩
       obtain ⟨hc3, hf3⟩ := bcell hb3
       have hz3 := hb3.size
       try simp only [World.size_alloc, World.size_setCell] at hz3
       try refine zw2 w w3 (by omega) fun _ _ _ _ => ?_
       try have : w1.heap.size < w3.heap.size := by omega
       try have : w1.heap.size ≤ w3.heap.size := by omega
       try have : w2.heap.size < w3.heap.size := by omega
       try have : w2.heap.size ≤ w3.heap.size := by omega
       go_wp2_with fail
       refine (B.out _).mono ?_
       rintro e w4 ⟨rfl, hb4⟩
       obtain ⟨hc4, hf4⟩ := bcell hb4
       have hz4 := hb4.size
       try simp only [World.size_alloc, World.size_setCell] at hz4
       try refine zw2 w w4 (by omega) fun _ _ _ _ => ?_
       try have : w1.heap.size < w4.heap.size := by omega
       try have : w1.heap.size ≤ w4.heap.size := by omega
       try have : w2.heap.size < w4.heap.size := by omega
       try have : w2.heap.size ≤ w4.heap.size := by omega
       try have : w3.heap.size < w4.heap.size := by omega
       try have : w3.heap.size ≤ w4.heap.size := by omega
       go_wp2_with fail
       refine (P1.out _).mono ?_
       rintro e w5 ⟨rfl, hb5⟩
       obtain ⟨hc5, hf5⟩ := bcell hb5
       have hz5 := hb5.size
       try simp only [World.size_alloc, World.size_setCell] at hz5
       try refine zw2 w w5 (by omega) fun _ _ _ _ => ?_
       try have : w1.heap.size < w5.heap.size := by omega
       try have : w1.heap.size ≤ w5.heap.size := by omega
       try have : w2.heap.size < w5.heap.size := by omega
       try have : w2.heap.size ≤ w5.heap.size := by omega
       try have : w3.heap.size < w5.heap.size := by omega
       try have : w3.heap.size ≤ w5.heap.size := by omega
       try have : w4.heap.size < w5.heap.size := by omega
       try have : w4.heap.size ≤ w5.heap.size := by omega
       go_wp2_with fail
       refine (P2.out _).mono ?_
       rintro e w6 ⟨rfl, hb6⟩
       obtain ⟨hc6, hf6⟩ := bcell hb6
       have hz6 := hb6.size
       try simp only [World.size_alloc, World.size_setCell] at hz6
       try refine zw2 w w6 (by omega) fun _ _ _ _ => ?_
       try have : w1.heap.size < w6.heap.size := by omega
       try have : w1.heap.size ≤ w6.heap.size := by omega
       try have : w2.heap.size < w6.heap.size := by omega
       try have : w2.heap.size ≤ w6.heap.size := by omega
       try have : w3.heap.size < w6.heap.size := by omega
       try have : w3.heap.size ≤ w6.heap.size := by omega
       try have : w4.heap.size < w6.heap.size := by omega
       try have : w4.heap.size ≤ w6.heap.size := by omega
       try have : w5.heap.size < w6.heap.size := by omega
       try have : w5.heap.size ≤ w6.heap.size := by omega
       go_wp2
       refine bodyPost_ret (v := .tuple #[.int .i64 v, .int .i64 0]) (by simp only [results, Try.results20]; go_simp) rfl ⟨rfl, blw_⟩
     | some u =>
      cases o2 with
      | none =>
       simp only [optI] at P1 P2
       dsimp only
       go_enter Try.func20, Try.ntmps20
       go_wp2_with fail
       refine (O.out _).mono ?_
       rintro e w1 ⟨rfl, hb1⟩
       obtain ⟨hc1, hf1⟩ := bcell hb1
       have hz1 := hb1.size
       try simp only [World.size_alloc, World.size_setCell] at hz1
       try refine zw2 w w1 (by omega) fun _ _ _ _ => ?_
       go_wp2_with fail
       refine (I.out _).mono ?_
       rintro e w2 ⟨rfl, hb2⟩
       obtain ⟨hc2, hf2⟩ := bcell hb2
       have hz2 := hb2.size
       try simp only [World.size_alloc, World.size_setCell] at hz2
       try refine zw2 w w2 (by omega) fun _ _ _ _ => ?_
       try have : w1.heap.size < w2.heap.size := by omega
       try have : w1.heap.size ≤ w2.heap.size := by omega
       go_wp2_with fail
       refine (A.out _).mono ?_
       rintro e w3 ⟨rfl, hb3⟩
       obtain ⟨hc3, hf3⟩ := bcell hb3
       have hz3 := hb3.size
       try simp only [World.size_alloc, World.size_setCell] at hz3
       try refine zw2 w w3 (by omega) fun _ _ _ _ => ?_
       try have : w1.heap.size < w3.heap.size := by omega
       try have : w1.heap.size ≤ w3.heap.size := by omega
       try have : w2.heap.size < w3.heap.size := by omega
       try have : w2.heap.size ≤ w3.heap.size := by omega
       go_wp2_with fail
       refine (B.out _).mono ?_
       rintro e w4 ⟨rfl, hb4⟩
       obtain ⟨hc4, hf4⟩ := bcell hb4
       have hz4 := hb4.size
       try simp only [World.size_alloc, World.size_setCell] at hz4
       try refine zw2 w w4 (by omega) fun _ _ _ _ => ?_
       try have : w1.heap.size < w4.heap.size := by omega
       try have : w1.heap.size ≤ w4.heap.size := by omega
       try have : w2.heap.size < w4.heap.size := by omega
       try have : w2.heap.size ≤ w4.heap.size := by omega
       try have : w3.heap.size < w4.heap.size := by omega
       try have : w3.heap.size ≤ w4.heap.size := by omega
       go_wp2_with fail
       refine (P1.out _).mono ?_
       rintro e w5 ⟨rfl, hb5⟩
       obtain ⟨hc5, hf5⟩ := bcell hb5
       have hz5 := hb5.size
       try simp only [World.size_alloc, World.size_setCell] at hz5
       try refine zw2 w w5 (by omega) fun _ _ _ _ => ?_
       try have : w1.heap.size < w5.heap.size := by omega
       try have : w1.heap.size ≤ w5.heap.size := by omega
       try have : w2.heap.size < w5.heap.size := by omega
       try have : w2.heap.size ≤ w5.heap.size := by omega
       try have : w3.heap.size < w5.heap.size := by omega
       try have : w3.heap.size ≤ w5.heap.size := by omega
       try have : w4.heap.size < w5.heap.size := by omega
       try have : w4.heap.size ≤ w5.heap.size := by omega
       go_wp2_with fail
       refine (P2.out _).mono ?_
       rintro e w6 ⟨rfl, hb6⟩
       obtain ⟨hc6, hf6⟩ := bcell hb6
       have hz6 := hb6.size
       try simp only [World.size_alloc, World.size_setCell] at hz6
       try refine zw2 w w6 (by omega) fun _ _ _ _ => ?_
       try have : w1.heap.size < w6.heap.size := by omega
       try have : w1.heap.size ≤ w6.heap.size := by omega
       try have : w2.heap.size < w6.heap.size := by omega
       try have : w2.heap.size ≤ w6.heap.size := by omega
       try have : w3.heap.size < w6.heap.size := by omega
       try have : w3.heap.size ≤ w6.heap.size := by omega
       try have : w4.heap.size < w6.heap.size := by omega
       try have : w4.heap.size ≤ w6.heap.size := by omega
       try have : w5.heap.size < w6.heap.size := by omega
       try have : w5.heap.size ≤ w6.heap.size := by omega
       go_wp2
       refine bodyPost_ret (v := .tuple #[.int .i64 u, .int .i64 0]) (by simp only [results, Try.results20]; go_simp) rfl ⟨rfl, blw_⟩
      | some v =>
       simp only [optI] at P1 P2
       dsimp only
       rcases Int.lt_or_le v u with huv | huv
       ·rw [Int.min_eq_right (Int.le_of_lt huv)]
        go_enter Try.func20, Try.ntmps20
        go_wp2_with fail
        refine (O.out _).mono ?_
        rintro e w1 ⟨rfl, hb1⟩
        obtain ⟨hc1, hf1⟩ := bcell hb1
        have hz1 := hb1.size
        try simp only [World.size_alloc, World.size_setCell] at hz1
        try refine zw2 w w1 (by omega) fun _ _ _ _ => ?_
        go_wp2_with fail
        refine (I.out _).mono ?_
        rintro e w2 ⟨rfl, hb2⟩
        obtain ⟨hc2, hf2⟩ := bcell hb2
        have hz2 := hb2.size
        try simp only [World.size_alloc, World.size_setCell] at hz2
        try refine zw2 w w2 (by omega) fun _ _ _ _ => ?_
        try have : w1.heap.size < w2.heap.size := by omega
        try have : w1.heap.size ≤ w2.heap.size := by omega
        go_wp2_with fail
        refine (A.out _).mono ?_
        rintro e w3 ⟨rfl, hb3⟩
        obtain ⟨hc3, hf3⟩ := bcell hb3
        have hz3 := hb3.size
        try simp only [World.size_alloc, World.size_setCell] at hz3
        try refine zw2 w w3 (by omega) fun _ _ _ _ => ?_
        try have : w1.heap.size < w3.heap.size := by omega
        try have : w1.heap.size ≤ w3.heap.size := by omega
        try have : w2.heap.size < w3.heap.size := by omega
        try have : w2.heap.size ≤ w3.heap.size := by omega
        go_wp2_with fail
        refine (B.out _).mono ?_
        rintro e w4 ⟨rfl, hb4⟩
        obtain ⟨hc4, hf4⟩ := bcell hb4
        have hz4 := hb4.size
        try simp only [World.size_alloc, World.size_setCell] at hz4
        try refine zw2 w w4 (by omega) fun _ _ _ _ => ?_
        try have : w1.heap.size < w4.heap.size := by omega
        try have : w1.heap.size ≤ w4.heap.size := by omega
        try have : w2.heap.size < w4.heap.size := by omega
        try have : w2.heap.size ≤ w4.heap.size := by omega
        try have : w3.heap.size < w4.heap.size := by omega
        try have : w3.heap.size ≤ w4.heap.size := by omega
        go_wp2_with fail
        refine (P1.out _).mono ?_
        rintro e w5 ⟨rfl, hb5⟩
        obtain ⟨hc5, hf5⟩ := bcell hb5
        have hz5 := hb5.size
        try simp only [World.size_alloc, World.size_setCell] at hz5
        try refine zw2 w w5 (by omega) fun _ _ _ _ => ?_
        try have : w1.heap.size < w5.heap.size := by omega
        try have : w1.heap.size ≤ w5.heap.size := by omega
        try have : w2.heap.size < w5.heap.size := by omega
        try have : w2.heap.size ≤ w5.heap.size := by omega
        try have : w3.heap.size < w5.heap.size := by omega
        try have : w3.heap.size ≤ w5.heap.size := by omega
        try have : w4.heap.size < w5.heap.size := by omega
        try have : w4.heap.size ≤ w5.heap.size := by omega
        go_wp2_with fail
        refine (P2.out _).mono ?_
        rintro e w6 ⟨rfl, hb6⟩
        obtain ⟨hc6, hf6⟩ := bcell hb6
        have hz6 := hb6.size
        try simp only [World.size_alloc, World.size_setCell] at hz6
        try refine zw2 w w6 (by omega) fun _ _ _ _ => ?_
        try have : w1.heap.size < w6.heap.size := by omega
        try have : w1.heap.size ≤ w6.heap.size := by omega
        try have : w2.heap.size < w6.heap.size := by omega
        try have : w2.heap.size ≤ w6.heap.size := by omega
        try have : w3.heap.size < w6.heap.size := by omega
        try have : w3.heap.size ≤ w6.heap.size := by omega
        try have : w4.heap.size < w6.heap.size := by omega
        try have : w4.heap.size ≤ w6.heap.size := by omega
        try have : w5.heap.size < w6.heap.size := by omega
        try have : w5.heap.size ≤ w6.heap.size := by omega
        go_wp2
        refine bodyPost_ret (v := .tuple #[.int .i64 v, .int .i64 0]) (by simp only [results, Try.results20]; go_simp) rfl ⟨rfl, blw_⟩
       ·rw [Int.min_eq_left huv]
        have huv2 : ¬ v < u := by omega
        go_enter Try.func20, Try.ntmps20
        go_wp2_with fail
        refine (O.out _).mono ?_
        rintro e w1 ⟨rfl, hb1⟩
        obtain ⟨hc1, hf1⟩ := bcell hb1
        have hz1 := hb1.size
        try simp only [World.size_alloc, World.size_setCell] at hz1
        try refine zw2 w w1 (by omega) fun _ _ _ _ => ?_
        go_wp2_with fail
        refine (I.out _).mono ?_
        rintro e w2 ⟨rfl, hb2⟩
        obtain ⟨hc2, hf2⟩ := bcell hb2
        have hz2 := hb2.size
        try simp only [World.size_alloc, World.size_setCell] at hz2
        try refine zw2 w w2 (by omega) fun _ _ _ _ => ?_
        try have : w1.heap.size < w2.heap.size := by omega
        try have : w1.heap.size ≤ w2.heap.size := by omega
        go_wp2_with fail
        refine (A.out _).mono ?_
        rintro e w3 ⟨rfl, hb3⟩
        obtain ⟨hc3, hf3⟩ := bcell hb3
        have hz3 := hb3.size
        try simp only [World.size_alloc, World.size_setCell] at hz3
        try refine zw2 w w3 (by omega) fun _ _ _ _ => ?_
        try have : w1.heap.size < w3.heap.size := by omega
        try have : w1.heap.size ≤ w3.heap.size := by omega
        try have : w2.heap.size < w3.heap.size := by omega
        try have : w2.heap.size ≤ w3.heap.size := by omega
        go_wp2_with fail
        refine (B.out _).mono ?_
        rintro e w4 ⟨rfl, hb4⟩
        obtain ⟨hc4, hf4⟩ := bcell hb4
        have hz4 := hb4.size
        try simp only [World.size_alloc, World.size_setCell] at hz4
        try refine zw2 w w4 (by omega) fun _ _ _ _ => ?_
        try have : w1.heap.size < w4.heap.size := by omega
        try have : w1.heap.size ≤ w4.heap.size := by omega
        try have : w2.heap.size < w4.heap.size := by omega
        try have : w2.heap.size ≤ w4.heap.size := by omega
        try have : w3.heap.size < w4.heap.size := by omega
        try have : w3.heap.size ≤ w4.heap.size := by omega
        go_wp2_with fail
        refine (P1.out _).mono ?_
        rintro e w5 ⟨rfl, hb5⟩
        obtain ⟨hc5, hf5⟩ := bcell hb5
        have hz5 := hb5.size
        try simp only [World.size_alloc, World.size_setCell] at hz5
        try refine zw2 w w5 (by omega) fun _ _ _ _ => ?_
        try have : w1.heap.size < w5.heap.size := by omega
        try have : w1.heap.size ≤ w5.heap.size := by omega
        try have : w2.heap.size < w5.heap.size := by omega
        try have : w2.heap.size ≤ w5.heap.size := by omega
        try have : w3.heap.size < w5.heap.size := by omega
        try have : w3.heap.size ≤ w5.heap.size := by omega
        try have : w4.heap.size < w5.heap.size := by omega
        try have : w4.heap.size ≤ w5.heap.size := by omega
        go_wp2_with fail
        refine (P2.out _).mono ?_
        rintro e w6 ⟨rfl, hb6⟩
        obtain ⟨hc6, hf6⟩ := bcell hb6
        have hz6 := hb6.size
        try simp only [World.size_alloc, World.size_setCell] at hz6
        try refine zw2 w w6 (by omega) fun _ _ _ _ => ?_
        try have : w1.heap.size < w6.heap.size := by omega
        try have : w1.heap.size ≤ w6.heap.size := by omega
        try have : w2.heap.size < w6.heap.size := by omega
        try have : w2.heap.size ≤ w6.heap.size := by omega
        try have : w3.heap.size < w6.heap.size := by omega
        try have : w3.heap.size ≤ w6.heap.size := by omega
        try have : w4.heap.size < w6.heap.size := by omega
        try have : w4.heap.size ≤ w6.heap.size := by omega
        try have : w5.heap.size < w6.heap.size := by omega
        try have : w5.heap.size ≤ w6.heap.size := by omega
        go_wp2
        refine bodyPost_ret (v := .tuple #[.int .i64 u, .int .i64 0]) (by simp only [results, Try.results20]; go_simp) rfl ⟨rfl, blw_⟩
    ·rw [if_pos (show (true && true) = true from rfl)]
     go_enter Try.func20, Try.ntmps20
     go_wp2_with fail
     refine (O.out _).mono ?_
     rintro e w1 ⟨rfl, hb1⟩
     obtain ⟨hc1, hf1⟩ := bcell hb1
     have hz1 := hb1.size
     try simp only [World.size_alloc, World.size_setCell] at hz1
     try refine zw2 w w1 (by omega) fun _ _ _ _ => ?_
     go_wp2_with fail
     refine (I.out _).mono ?_
     rintro e w2 ⟨rfl, hb2⟩
     obtain ⟨hc2, hf2⟩ := bcell hb2
     have hz2 := hb2.size
     try simp only [World.size_alloc, World.size_setCell] at hz2
     try refine zw2 w w2 (by omega) fun _ _ _ _ => ?_
     try have : w1.heap.size < w2.heap.size := by omega
     try have : w1.heap.size ≤ w2.heap.size := by omega
     go_wp2_with fail
     refine (A.out _).mono ?_
     rintro e w3 ⟨rfl, hb3⟩
     obtain ⟨hc3, hf3⟩ := bcell hb3
     have hz3 := hb3.size
     try simp only [World.size_alloc, World.size_setCell] at hz3
     try refine zw2 w w3 (by omega) fun _ _ _ _ => ?_
     try have : w1.heap.size < w3.heap.size := by omega
     try have : w1.heap.size ≤ w3.heap.size := by omega
     try have : w2.heap.size < w3.heap.size := by omega
     try have : w2.heap.size ≤ w3.heap.size := by omega
     go_wp2_with fail
     refine (B.out _).mono ?_
     rintro e w4 ⟨rfl, hb4⟩
     obtain ⟨hc4, hf4⟩ := bcell hb4
     have hz4 := hb4.size
     try simp only [World.size_alloc, World.size_setCell] at hz4
     try refine zw2 w w4 (by omega) fun _ _ _ _ => ?_
     try have : w1.heap.size < w4.heap.size := by omega
     try have : w1.heap.size ≤ w4.heap.size := by omega
     try have : w2.heap.size < w4.heap.size := by omega
     try have : w2.heap.size ≤ w4.heap.size := by omega
     try have : w3.heap.size < w4.heap.size := by omega
     try have : w3.heap.size ≤ w4.heap.size := by omega
     go_wp2
     refine bodyPost_ret (v := .tuple #[.int .i64 T, .int .i64 0]) (by simp only [results, Try.results20]; go_simp) rfl ⟨rfl, blw_⟩
end
section
set_option maxRecDepth 1000000
open Go.RowKit
open SX
theorem often_bad (p fa la q fb lb : Int) (h : (wB p fa la && wB q fb lb) = false) (w : World) : Calls Try.prog 21 #[wvI p fa la, wvI q fb lb] w fun e w' => e = .returned (.tuple #[.int .i64 0, .int .i64 2]) ∧ Below w.heap.size w w' := by
 have W1 := hide (isWindow_any p fa la)
 have W2 := hide (isWindow_any q fb lb)
 generalize wB p fa la = x at *
 generalize wB q fb lb = y at *
 simp only [wvI] at *
 cases x
 ·clear h
  cases y
  ·go_enter Try.func21, Try.ntmps21
   go_wp2_with fail
   refine (W1.out _).mono ?_
   rintro e w1 ⟨rfl, hb1⟩
   obtain ⟨hc1, hf1⟩ := bcell hb1
   have hz1 := hb1.size
   try simp only [World.size_alloc, World.size_setCell] at hz1
   try refine zw2 w w1 (by omega) fun _ _ _ _ => ?_
   go_wp2
   refine bodyPost_ret (v := .tuple #[.int .i64 0, .int .i64 2]) (by simp only [results, Try.results21]; go_simp) rfl ⟨rfl, blw_⟩
  ·go_enter Try.func21, Try.ntmps21
   go_wp2_with fail
   refine (W1.out _).mono ?_
   rintro e w1 ⟨rfl, hb1⟩
   obtain ⟨hc1, hf1⟩ := bcell hb1
   have hz1 := hb1.size
   try simp only [World.size_alloc, World.size_setCell] at hz1
   try refine zw2 w w1 (by omega) fun _ _ _ _ => ?_
   go_wp2
   refine bodyPost_ret (v := .tuple #[.int .i64 0, .int .i64 2]) (by simp only [results, Try.results21]; go_simp) rfl ⟨rfl, blw_⟩
 ·cases y
  ·clear h
   go_enter Try.func21, Try.ntmps21
   go_wp2_with fail
   refine (W1.out _).mono ?_
   rintro e w1 ⟨rfl, hb1⟩
   obtain ⟨hc1, hf1⟩ := bcell hb1
   have hz1 := hb1.size
   try simp only [World.size_alloc, World.size_setCell] at hz1
   try refine zw2 w w1 (by omega) fun _ _ _ _ => ?_
   go_wp2_with fail
   refine (W2.out _).mono ?_
   rintro e w2 ⟨rfl, hb2⟩
   obtain ⟨hc2, hf2⟩ := bcell hb2
   have hz2 := hb2.size
   try simp only [World.size_alloc, World.size_setCell] at hz2
   try refine zw2 w w2 (by omega) fun _ _ _ _ => ?_
   try have : w1.heap.size < w2.heap.size := by omega
   try have : w1.heap.size ≤ w2.heap.size := by omega
   go_wp2
   refine bodyPost_ret (v := .tuple #[.int .i64 0, .int .i64 2]) (by simp only [results, Try.results21]; go_simp) rfl ⟨rfl, blw_⟩
  ·cases h
theorem next_bad (p fa la q fb lb : Int) (h : (wB p fa la && wB q fb lb) = false) (T : Int) (w : World) : Calls Try.prog 20 #[wvI p fa la, wvI q fb lb, .int .i64 T] w fun e w' => e = .returned (.tuple #[.int .i64 0, .int .i64 2]) ∧ Below w.heap.size w w' := by
 have O := hide (often_bad p fa la q fb lb h)
 simp only [wvI] at *
 clear h
 go_enter Try.func20, Try.ntmps20
 go_wp2_with fail
 refine (O.out _).mono ?_
 rintro e w1 ⟨rfl, hb1⟩
 obtain ⟨hc1, hf1⟩ := bcell hb1
 have hz1 := hb1.size
 try simp only [World.size_alloc, World.size_setCell] at hz1
 try refine zw2 w w1 (by omega) fun _ _ _ _ => ?_
 go_wp2
 refine bodyPost_ret (v := .tuple #[.int .i64 0, .int .i64 2]) (by simp only [results, Try.results20]; go_simp) rfl ⟨rfl, blw_⟩
end
section
set_option maxRecDepth 1000000
open Go.RowKit
open SX
theorem both_comm {p la q lb : Nat} {fa fb : Int} (hp : 0 < p) (hq : 0 < q) : both p la fa q lb fb = both q lb fb p la fa := by
 unfold both
 rw [Meet.lc_comm p q hp hq]
 exact Meet.cn_congr fun t _ => Bool.and_comm _ _
theorem nxV_comm {p la q lb : Nat} {fa fb : Int} (hw : Win p la fa) (hv : Win q lb fb) (T : Int) : nxV p la fa q lb fb T = nxV q lb fb p la fa T := by
 unfold nxV
 rw [both_comm (p := q) (la := lb) (q := p) (lb := la) (fa := fb) (fb := fa) hv.p0 hw.p0]
 split
 ·rfl
 ·split
  ·rfl
  ·rename_i h1 hN
   obtain ⟨l0, k0⟩ := both_pos hw.p0 hv.p0 hN
   have ex := (Meet.meets_iff hw.p0 hv.p0 la lb fa fb T).2 (Nat.pos_of_ne_zero hN)
   have ex2 : ∃ s, T ≤ s ∧ Meet.hs q lb fb s = true ∧ Meet.hs p la fa s = true := by
    obtain ⟨s, a, b, c⟩ := ex; exact ⟨s, a, c, b⟩
   obtain ⟨n1, n2, n3, n4⟩ := Meet.next_first hw.p0 hv.p0 l0 hw.l1 k0 hv.l1 fa fb T ex
   obtain ⟨m1, m2, m3, m4⟩ := Meet.next_first hv.p0 hw.p0 k0 hv.l1 l0 hw.l1 fb fa T ex2
   have a := n4 _ m1 m3 m2
   have b := m4 _ n1 n3 n2
   rw [Int.le_antisymm a b]
structure Nxt (p la : Nat) (fa : Int) (q lb : Nat) (fb T x : Int) (j : Nat) : Prop where
 at_ : x = T + j
 lt : j < Meet.lc p q
 a1 : Meet.hs p la fa x = true
 b1 : Meet.hs q lb fb x = true
 a2 : Meet.hs p la fa (x - (Meet.lc p q : Nat)) = true
 b2 : Meet.hs q lb fb (x - (Meet.lc p q : Nat)) = true
 no : ∀ i : Nat, i < j → (Meet.hs p la fa (T + i) && Meet.hs q lb fb (T + i)) = false
theorem nxt_is {p la q lb : Nat} {fa fb : Int} (hw : Win p la fa) (hv : Win q lb fb) {T : Int} (hN : ¬ both p la fa q lb fb = 0) :
  ∃ j, Nxt p la fa q lb fb T (Meet.next p la fa q lb fb T) j := by
 obtain ⟨hg, hL, hpL, hqL, hL0⟩ := Meet.lc_facts hw.p0 hv.p0
 obtain ⟨l0, k0⟩ := both_pos hw.p0 hv.p0 hN
 have ex := (Meet.meets_iff hw.p0 hv.p0 la lb fa fb T).2 (Nat.pos_of_ne_zero hN)
 obtain ⟨n1, n2, n3, n4⟩ := Meet.next_first hw.p0 hv.p0 l0 hw.l1 k0 hv.l1 fa fb T ex
 generalize Meet.next p la fa q lb fb T = x at *
 have sub (l : Nat) (f s : Int) {r : Nat} (h : r ∣ Meet.lc p q) : Meet.hs r l f (s - (Meet.lc p q : Nat)) = Meet.hs r l f s := by
  rw [← Meet.hs_add h l f (s - (Meet.lc p q : Nat))]
  congr 1; omega
 have a2 : Meet.hs p la fa (x - (Meet.lc p q : Nat)) = true := by rw [sub _ _ _ hpL]; exact n2
 have b2 : Meet.hs q lb fb (x - (Meet.lc p q : Nat)) = true := by rw [sub _ _ _ hqL]; exact n3
 refine ⟨(x - T).toNat, by omega, ?_, n2, n3, a2, b2, ?_⟩
 ·rcases Nat.lt_or_ge (x - T).toNat (Meet.lc p q) with h | h
  ·exact h
  ·have := n4 (x - (Meet.lc p q : Nat)) (by omega) a2 b2
   omega
 ·intro i hi
  cases e : (Meet.hs p la fa (T + i) && Meet.hs q lb fb (T + i)) with
  | false => rfl
  | true =>
   rw [Bool.and_eq_true] at e
   have := n4 (T + i) (by omega) e.1 e.2
   omega
theorem both_le {p la q lb : Nat} {fa fb : Int} : both p la fa q lb fb ≤ Meet.lc p q := by unfold both; exact Meet.cn_le
end
end Go.Proofs.Ytfgfnjckklldbaa
