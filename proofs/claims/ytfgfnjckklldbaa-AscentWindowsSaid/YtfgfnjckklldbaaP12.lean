/- Packed: MtD MtE MtF MtG MtH MtI MtJ MtK WnB. -/
import Derived.KernelRfl
import Derived.BigQuiet
import Derived.Test.YtfgfnjckklldbaaP3
import Derived.Test.YtfgfnjckklldbaaP4
import Derived.Test.YtfgfnjckklldbaaP11
set_option linter.unusedVariables false
set_option linter.unusedSimpArgs false
namespace Go.Proofs.Ytfgfnjckklldbaa
section
set_option maxRecDepth 1000000
open Go.RowKit
namespace SX
def K0 : Cfg := ⟨fun _ => true, fun _ => false, fun _ _ _ => none, fun _ _ => none⟩
def rd0 (P : Program) (f : FuncId) (pat : List LV) (v : LV) (q : Ob → Bool) : Bool := noIds pat && v.ids.isEmpty && match evFn P K0 3000 (2^240) f pat [] (.blit true) 0 2 with
 | some (v', _, _, obs) => v' == v && obs.all q
 | none => false
theorem rd0_ok {P : Program} (hmix : P.follows .mixedOrders = true) {f : FuncId} {pat : List LV} {v : LV} {q : Ob → Bool} (h : rd0 P f pat v q = true) (ε : Env) (w : World) (hq : ∀ ob, q ob = true → ob.ok P ε w) :
  Calls P f (pat.map (LV.den ε fun _ => 0)).toArray w (fun e w' => e = .returned (v.den ε fun _ => 0) ∧ Below w.heap.size w w') := by
 unfold rd0 at h
 simp only [Bool.and_eq_true] at h
 obtain ⟨⟨h1, h2⟩, h⟩ := h
 split at h
 ·rename_i v' s nv' obs he
  simp only [Bool.and_eq_true, beq_iff_eq] at h
  obtain ⟨rfl, ho⟩ := h
  exact reads4 hmix (by decide) he h1 h2 ε w fun ob hob => hq ob (List.all_eq_true.1 ho ob hob)
 ·cases h
def rem (a b : E) : E := .ar .rem .i64 a b
def restE (n m : E) : E := .ite (.cmp .lss (rem n m) (.lit 0)) (.ar .add .i64 (rem n m) m) (rem n m)
def winP (k : Nat) : LV := .v (.agg [.a (.int .i64 (.var k)), .a (.int .i64 (.var (k + 1))), .a (.int .i64 (.var (k + 2)))])
def intP (k : Nat) : LV := .v (.s (.a (.int .i64 (.var k))))
def qP : Ob → Bool := fun ob => ob == .req (.blit true) (.cmp .neq (.var 0) (.lit 0))
theorem hmixM : Try.prog.follows .mixedOrders = true := rfl
def behE : E := restE (.ar .sub .i64 (rem (.var 3) (.var 0)) (.var 1)) (.var 0)
def hasE : E := .cmp .lss (restE (.ar .sub .i64 (restE (.var 3) (.var 0)) (restE (.var 1) (.var 0))) (.var 0)) (.var 2)
theorem behB : rd0 Try.prog 24 [winP 0, intP 3] (.v (.s (.a (.int .i64 behE)))) qP = true := by kernel_rfl
theorem hasB : rd0 Try.prog 27 [winP 0, intP 3] (.v (.s (.a (.bool hasE)))) qP = true := by kernel_rfl
theorem restE_den {ε : Env} {n m : E} (hm : 0 < (m.den ε).1) (hb : (m.den ε).1 ≤ 4611686018427387904) : ((restE n m).den ε).1 = (n.den ε).1 % (m.den ε).1 := by
 obtain ⟨e1, e2⟩ := rest_eq (n := (n.den ε).1) hm hb
 show (if decide ((n.den ε).1.tmod (m.den ε).1 < 0) = true then IntKind.i64.wrap ((n.den ε).1.tmod (m.den ε).1 + (m.den ε).1) else (n.den ε).1.tmod (m.den ε).1) = _
 by_cases h : (n.den ε).1.tmod (m.den ε).1 < 0
 ·rw [if_pos (decide_eq_true h), IntKind.wrap_i64]; have := e1 h; unfold wrap64 at this; omega
 ·rw [if_neg (by rw [decide_eq_true_eq]; exact h)]; exact e2 h
theorem mod_sub {t f p : Int} : (t.tmod p - f) % p = (t - f) % p := by
 rw [Meet.mod_eq_iff, show t.tmod p - f - (t - f) = -(t - t.tmod p) by omega, Int.dvd_neg]
 exact ⟨t.tdiv p, by have := Int.mul_tdiv_add_tmod t p; omega⟩
structure Win (p l : Nat) (f : Int) : Prop where
 p0 : 0 < p
 p1 : p ≤ 1073741824
 f0 : -1073741824 ≤ f
 f1 : f ≤ 1073741824
 l1 : l ≤ p
def wv (p l : Nat) (f : Int) : Value := .agg #[.int .i64 p, .int .i64 f, .int .i64 l]
def envW (L : List Int) : Env := ⟨fun v => L.getD v 0, fun _ => false, fun _ => none, fun _ => 0, fun _ => 0, fun _ => default, fun _ _ => 0⟩
theorem small_tmod (t : Int) {p : Nat} (h : 0 < p) : -(p : Int) < t.tmod p ∧ t.tmod p < p := by
 have a := Int.tmod_lt_of_pos t (show (0 : Int) < p by omega)
 have b := Int.tmod_lt_of_pos (-t) (show (0 : Int) < p by omega)
 rw [Int.neg_tmod] at b
 omega
theorem wrapI {x : Int} (h : -9223372036854775808 ≤ x ∧ x ≤ 9223372036854775807) : IntKind.i64.wrap x = x := by rw [IntKind.wrap_i64]; omega
theorem req_p {p l : Nat} {f t : Int} (hp : 0 < p) {P : Program} {w : World} (ob : Ob) (h : qP ob = true) : ob.ok P (envW [p, f, l, t]) w := by
 obtain rfl := eq_of_beq h
 intro _
 simp only [E.den, CO.den, envW, List.getD_cons_zero]
 simp; omega
theorem behind_any {p l : Nat} {f : Int} (hw : Win p l f) (t : Int) (w : World) :
  Calls Try.prog 24 #[wv p l f, .int .i64 t] w fun e w' => e = .returned (.int .i64 ((t - f) % p)) ∧ Below w.heap.size w w' := by
 have run := rd0_ok hmixM behB (envW [p, f, l, t]) w (fun ob h => req_p hw.p0 ob h)
 refine Calls.mono run fun e w' ⟨q1, q2⟩ => ⟨q1.trans ?_, q2⟩
 have hs := small_tmod t hw.p0
 have h0 := hw.p0
 have h1 := hw.p1
 have h2 := hw.f0
 have h3 := hw.f1
 simp only [LV.den, V1.den, SV.den, AV.den]
 have e : (behE.den (envW [p, f, l, t])).1 = (t - f) % p := by
  unfold behE
  rw [restE_den (by simp only [E.den, envW, List.getD_cons_zero]; omega) (by simp only [E.den, envW, List.getD_cons_zero]; omega)]
  show (IntKind.i64.wrap (t.tmod p - f)) % (p : Int) = _
  rw [wrapI (by omega), mod_sub]
 rw [e]
theorem has_any {p l : Nat} {f : Int} (hw : Win p l f) (t : Int) (w : World) :
  Calls Try.prog 27 #[wv p l f, .int .i64 t] w fun e w' => e = .returned (.bool (Meet.hs p l f t)) ∧ Below w.heap.size w w' := by
 have run := rd0_ok hmixM hasB (envW [p, f, l, t]) w (fun ob h => req_p hw.p0 ob h)
 refine Calls.mono run fun e w' ⟨q1, q2⟩ => ⟨q1.trans ?_, q2⟩
 have h0 := hw.p0
 have h1 := hw.p1
 simp only [LV.den, V1.den, SV.den, AV.den]
 have a0 : (0 : Int) < ((E.var 0).den (envW [p, f, l, t])).1 := by simp only [E.den, envW, List.getD_cons_zero]; omega
 have a1 : ((E.var 0).den (envW [p, f, l, t])).1 ≤ 4611686018427387904 := by simp only [E.den, envW, List.getD_cons_zero]; omega
 have e : (hasE.den (envW [p, f, l, t])).2 = Meet.hs p l f t := by
  have b1 := Int.emod_nonneg t (show (p : Int) ≠ 0 by omega)
  have b2 := Int.emod_lt_of_pos t (show (0 : Int) < p by omega)
  have b3 := Int.emod_nonneg f (show (p : Int) ≠ 0 by omega)
  have b4 := Int.emod_lt_of_pos f (show (0 : Int) < p by omega)
  show decide (((restE (.ar .sub .i64 (restE (.var 3) (.var 0)) (restE (.var 1) (.var 0))) (.var 0)).den (envW [p, f, l, t])).1 < (l : Int)) = _
  rw [restE_den a0 a1]
  show decide (IntKind.i64.wrap (((restE (.var 3) (.var 0)).den (envW [p, f, l, t])).1 - ((restE (.var 1) (.var 0)).den (envW [p, f, l, t])).1) % (p : Int) < (l : Int)) = _
  rw [restE_den a0 a1, restE_den a0 a1]
  show decide (IntKind.i64.wrap (t % p - f % p) % (p : Int) < (l : Int)) = _
  rw [wrapI (by omega), ← Int.sub_emod]
  rfl
 rw [e]
end SX
end
section
set_option maxRecDepth 1000000
open Go.RowKit
namespace SX
def contE : E := .ite (.cmp .lss (.var 0) (.lit 1)) (.blit false) (.ite (.cmp .lss (.lit 1073741824) (.var 0)) (.blit false) (.ite (.cmp .lss (.var 1) (.lit (-1073741824))) (.blit false) (.ite (.cmp .lss (.lit 1073741824) (.var 1)) (.blit false) (.ite (.cmp .lss (.var 2) (.lit 0)) (.blit false) (.ite (.cmp .lss (.var 0) (.var 2)) (.blit false) (.cmp .lss behE (.var 2)))))))
def qC : Ob → Bool
 | .req _ c => c == .cmp .neq (.var 0) (.lit 0)
 | _ => false
theorem contB : rd0 Try.prog 9 [winP 0, intP 3] (.v (.s (.a (.bool contE)))) qC = true := by kernel_rfl
theorem beh_den {p l : Nat} {f : Int} (hw : Win p l f) (t : Int) : (behE.den (envW [p, f, l, t])).1 = (t - f) % p := by
 have hs := small_tmod t hw.p0
 have h0 := hw.p0
 have h1 := hw.p1
 have h2 := hw.f0
 have h3 := hw.f1
 unfold behE
 rw [restE_den (by simp only [E.den, envW, List.getD_cons_zero]; omega) (by simp only [E.den, envW, List.getD_cons_zero]; omega)]
 show (IntKind.i64.wrap (t.tmod p - f)) % (p : Int) = _
 rw [wrapI (by omega), mod_sub]
theorem contains_any {p l : Nat} {f : Int} (hw : Win p l f) (t : Int) (w : World) :
  Calls Try.prog 9 #[wv p l f, .int .i64 t] w fun e w' => e = .returned (.bool (Meet.hs p l f t)) ∧ Below w.heap.size w w' := by
 have run := rd0_ok hmixM contB (envW [p, f, l, t]) w (fun ob h => by
  cases ob with
  | req pc c =>
   obtain rfl := eq_of_beq h
   intro _
   have := hw.p0
   simp only [E.den, CO.den, envW, List.getD_cons_zero]
   simp; omega
  | _ => cases h)
 refine Calls.mono run fun e w' ⟨q1, q2⟩ => ⟨q1.trans ?_, q2⟩
 have h0 := hw.p0
 have h1 := hw.p1
 have h2 := hw.f0
 have h3 := hw.f1
 have h4 := hw.l1
 have n (a b : Int) (h : ¬ a < b) : decide (a < b) = false := decide_eq_false h
 simp only [LV.den, V1.den, SV.den, AV.den]
 have e : (contE.den (envW [p, f, l, t])).2 = decide ((behE.den (envW [p, f, l, t])).1 < (l : Int)) := by
  show (if decide ((p : Int) < 1) = true then false else if decide ((1073741824 : Int) < p) = true then false else if decide (f < -1073741824) = true then false else if decide ((1073741824 : Int) < f) = true then false else if decide ((l : Int) < 0) = true then false else if decide ((p : Int) < l) = true then false else decide ((behE.den (envW [p, f, l, t])).1 < (l : Int))) = _
  rw [n _ _ (by omega), n _ _ (by omega), n _ _ (by omega), n _ _ (by omega), n _ _ (by omega), n _ _ (by omega)]
  rfl
 rw [e, beh_den hw]
 rfl
end SX
open SX
end
section
set_option maxRecDepth 1000000
open Go.RowKit
namespace SX
def winE : E := .ite (.cmp .lss (.var 0) (.lit 1)) (.blit false) (.ite (.cmp .lss (.lit 1073741824) (.var 0)) (.blit false) (.ite (.cmp .lss (.var 1) (.lit (-1073741824))) (.blit false) (.ite (.cmp .lss (.lit 1073741824) (.var 1)) (.blit false) (.ite (.cmp .lss (.var 2) (.lit 0)) (.blit false) (.not (.cmp .lss (.var 0) (.var 2)))))))
def wB (p f l : Int) : Bool := decide (1 ≤ p ∧ p ≤ 1073741824 ∧ -1073741824 ≤ f ∧ f ≤ 1073741824 ∧ 0 ≤ l ∧ l ≤ p)
theorem winB0 : rd0 Try.prog 22 [winP 0] (.v (.s (.a (.bool winE)))) (fun _ => false) = true := by kernel_rfl
theorem tisB : rd0 Try.prog 25 [winP 0] (.v (.s (.a (.bool winE)))) (fun _ => false) = true := by kernel_rfl
theorem win_den (p f l : Int) : (winE.den (envW [p, f, l])).2 = wB p f l := by
 show (if decide (p < 1) = true then false else if decide ((1073741824 : Int) < p) = true then false else if decide (f < -1073741824) = true then false else if decide ((1073741824 : Int) < f) = true then false else if decide (l < 0) = true then false else !decide (p < l)) = _
 unfold wB
 simp only [decide_eq_true_eq]
 by_cases a : p < 1
 ·rw [if_pos a, eq_comm, decide_eq_false_iff_not]; omega
 ·rw [if_neg a]
  by_cases b : (1073741824 : Int) < p
  ·rw [if_pos b, eq_comm, decide_eq_false_iff_not]; omega
  ·rw [if_neg b]
   by_cases c : f < -1073741824
   ·rw [if_pos c, eq_comm, decide_eq_false_iff_not]; omega
   ·rw [if_neg c]
    by_cases d : (1073741824 : Int) < f
    ·rw [if_pos d, eq_comm, decide_eq_false_iff_not]; omega
    ·rw [if_neg d]
     by_cases e : l < 0
     ·rw [if_pos e, eq_comm, decide_eq_false_iff_not]; omega
     ·rw [if_neg e]
      by_cases g : p < l
      ·rw [decide_eq_true g, eq_comm, Bool.not_true, decide_eq_false_iff_not]; omega
      ·rw [decide_eq_false g, eq_comm, Bool.not_false, decide_eq_true_eq]; omega
def wvI (p f l : Int) : Value := .agg #[.int .i64 p, .int .i64 f, .int .i64 l]
theorem isWindow_any (p f l : Int) (w : World) : Calls Try.prog 22 #[wvI p f l] w fun e w' => e = .returned (.bool (wB p f l)) ∧ Below w.heap.size w w' := by
 have run := rd0_ok hmixM winB0 (envW [p, f, l]) w (fun ob h => by cases h)
 refine Calls.mono run fun e w' ⟨q1, q2⟩ => ⟨q1.trans ?_, q2⟩
 simp only [LV.den, V1.den, SV.den, AV.den]
 rw [win_den]
theorem window_any (p f l : Int) (w : World) : Calls Try.prog 25 #[wvI p f l] w fun e w' => e = .returned (.bool (wB p f l)) ∧ Below w.heap.size w w' := by
 have run := rd0_ok hmixM tisB (envW [p, f, l]) w (fun ob h => by cases h)
 refine Calls.mono run fun e w' ⟨q1, q2⟩ => ⟨q1.trans ?_, q2⟩
 simp only [LV.den, V1.den, SV.den, AV.den]
 rw [win_den]
def timeE : E := .ite (.cmp .lss (.var 0) (.lit (-1152921504606846976))) (.blit false) (.not (.cmp .lss (.lit 1152921504606846976) (.var 0)))
theorem instB : rd0 Try.prog 23 [intP 0] (.v (.s (.a (.bool timeE)))) (fun _ => false) = true := by kernel_rfl
theorem timeB : rd0 Try.prog 26 [intP 0] (.v (.s (.a (.bool timeE)))) (fun _ => false) = true := by kernel_rfl
def tB (t : Int) : Bool := decide (-1152921504606846976 ≤ t ∧ t ≤ 1152921504606846976)
theorem time_den (t : Int) : (timeE.den (envW [t])).2 = tB t := by
 show (if decide (t < -1152921504606846976) = true then false else !decide ((1152921504606846976 : Int) < t)) = _
 unfold tB
 simp only [decide_eq_true_eq]
 by_cases a : t < -1152921504606846976
 ·rw [if_pos a, eq_comm, decide_eq_false_iff_not]; omega
 ·rw [if_neg a]
  by_cases g : (1152921504606846976 : Int) < t
  ·rw [decide_eq_true g, eq_comm, Bool.not_true, decide_eq_false_iff_not]; omega
  ·rw [decide_eq_false g, eq_comm, Bool.not_false, decide_eq_true_eq]; omega
theorem isInstant_any (t : Int) (w : World) : Calls Try.prog 23 #[.int .i64 t] w fun e w' => e = .returned (.bool (tB t)) ∧ Below w.heap.size w w' := by
 have run := rd0_ok hmixM instB (envW [t]) w (fun ob h => by cases h)
 refine Calls.mono run fun e w' ⟨q1, q2⟩ => ⟨q1.trans ?_, q2⟩
 simp only [LV.den, V1.den, SV.den, AV.den]
 rw [time_den]
theorem time_any (t : Int) (w : World) : Calls Try.prog 26 #[.int .i64 t] w fun e w' => e = .returned (.bool (tB t)) ∧ Below w.heap.size w w' := by
 have run := rd0_ok hmixM timeB (envW [t]) w (fun ob h => by cases h)
 refine Calls.mono run fun e w' ⟨q1, q2⟩ => ⟨q1.trans ?_, q2⟩
 simp only [LV.den, V1.den, SV.den, AV.den]
 rw [time_den]
end SX
end
section
set_option maxRecDepth 1000000
open Go.RowKit
namespace SX
end SX
open SX
end
section
set_option maxRecDepth 1000000
open Go.RowKit
open SX
end
section
set_option maxRecDepth 1000000
open Go.RowKit
open SX
end
section
set_option maxRecDepth 1000000
open Go.RowKit
open SX
end
section
set_option maxRecDepth 1000000
open Go.RowKit
open SX
end
section
set_option maxRecDepth 1000000
open Go.RowKit
namespace SX
def atE : E := restE (.ar .sub .i64 (restE (.var 3) (.var 0)) (restE (.var 1) (.var 0))) (.var 0)
def chgE : E := .ite (.cmp .eql (.var 2) (.lit 0)) (.lit 2305843009213693952) (.ite (.cmp .eql (.var 2) (.var 0)) (.lit 2305843009213693952) (.ite (.cmp .lss atE (.var 2)) (.ar .sub .i64 (.var 2) atE) (.ar .sub .i64 (.var 0) atE)))
theorem chgB : rd0 Try.prog 28 [winP 0, intP 3] (.v (.s (.a (.int .i64 chgE)))) qC = true := by kernel_rfl
theorem at_den {p l : Nat} {f : Int} (hw : Win p l f) (t : Int) : (atE.den (envW [p, f, l, t])).1 = (t - f) % p := by
 have h0 := hw.p0
 have h1 := hw.p1
 have a0 : (0 : Int) < ((E.var 0).den (envW [p, f, l, t])).1 := by simp only [E.den, envW, List.getD_cons_zero]; omega
 have a1 : ((E.var 0).den (envW [p, f, l, t])).1 ≤ 4611686018427387904 := by simp only [E.den, envW, List.getD_cons_zero]; omega
 have b1 := Int.emod_nonneg t (show (p : Int) ≠ 0 by omega)
 have b2 := Int.emod_lt_of_pos t (show (0 : Int) < p by omega)
 have b3 := Int.emod_nonneg f (show (p : Int) ≠ 0 by omega)
 have b4 := Int.emod_lt_of_pos f (show (0 : Int) < p by omega)
 unfold atE
 rw [restE_den a0 a1]
 show IntKind.i64.wrap (((restE (.var 3) (.var 0)).den (envW [p, f, l, t])).1 - ((restE (.var 1) (.var 0)).den (envW [p, f, l, t])).1) % (p : Int) = _
 rw [restE_den a0 a1, restE_den a0 a1]
 show IntKind.i64.wrap (t % p - f % p) % (p : Int) = _
 rw [wrapI (by omega), ← Int.sub_emod]
def chgI (p l : Nat) (f t : Int) : Int := if l = 0 then 2305843009213693952 else if l = p then 2305843009213693952 else if (t - f) % p < l then l - (t - f) % p else p - (t - f) % p
theorem change_any {p l : Nat} {f : Int} (hw : Win p l f) (t : Int) (w : World) :
  Calls Try.prog 28 #[wv p l f, .int .i64 t] w fun e w' => e = .returned (.int .i64 (chgI p l f t)) ∧ Below w.heap.size w w' := by
 have run := rd0_ok hmixM chgB (envW [p, f, l, t]) w (fun ob h => by
  cases ob with
  | req pc c =>
   obtain rfl := eq_of_beq h
   intro _
   have := hw.p0
   simp only [E.den, CO.den, envW, List.getD_cons_zero]
   simp; omega
  | _ => cases h)
 refine Calls.mono run fun e w' ⟨q1, q2⟩ => ⟨q1.trans ?_, q2⟩
 have h0 := hw.p0
 have h1 := hw.p1
 have h4 := hw.l1
 have b1 := Int.emod_nonneg (t - f) (show (p : Int) ≠ 0 by omega)
 have b2 := Int.emod_lt_of_pos (t - f) (show (0 : Int) < p by omega)
 simp only [LV.den, V1.den, SV.den, AV.den]
 have e : (chgE.den (envW [p, f, l, t])).1 = chgI p l f t := by
  show (if ((l : Int) == 0) = true then (2305843009213693952 : Int) else if ((l : Int) == p) = true then 2305843009213693952 else if decide ((atE.den (envW [p, f, l, t])).1 < (l : Int)) = true then IntKind.i64.wrap ((l : Int) - (atE.den (envW [p, f, l, t])).1) else IntKind.i64.wrap ((p : Int) - (atE.den (envW [p, f, l, t])).1)) = _
  rw [at_den hw]
  unfold chgI
  rw [wrapI (x := (l : Int) - (t - f) % p) (by omega), wrapI (x := (p : Int) - (t - f) % p) (by omega)]
  simp only [beq_iff_eq, decide_eq_true_eq, Int.natCast_eq_zero, Int.natCast_inj]
 rw [e]
end SX
open SX
theorem contains_bad (p f l : Int) (h : wB p f l = false) (t : Int) (w : World) : Calls Try.prog 9 #[wvI p f l, .int .i64 t] w fun e w' => e = .returned (.bool false) ∧ Below w.heap.size w w' := by
 have W1 := hide (isWindow_any p f l)
 rw [h] at W1
 simp only [wvI] at *
 clear h
 go_enter Try.func9, Try.ntmps9
 go_wp2_with fail
 refine QT.quiet_b (by kernel_rfl) (by kernel_rfl) ?_
 repeat (first
  | go_big_quiet_skip
  | (go_big_quiet_want; go_big_quiet_op; first
   | go_big_quiet_on
   | (apply Exists.intro
      refine ⟨fun _ => ?_, ?_⟩
      ·first
       | rfl
       | (intro hC; obtain ⟨hcq, hfq⟩ := bcellB hC; go_simp; done)
       | (intro hC; obtain ⟨hcq, hfq⟩ := bcellB hC; go_simp; rfl)
       | (intro hC; have hcq := bcellG hC; go_simp; done)
       | (intro hC; have hcq := bcellG hC; go_simp; rfl)
       | (intro hC; go_at_call 22; (first | (with_reducible refine (W1.out _).mono ?_)); (intro e w2 hw; exact ⟨hw.1, qtrans (by simp) hC hw.2⟩))
      go_big_quiet_on)))
 refine wpQuiet_nil ?_
 intro w9 hC9
 obtain ⟨hc9, hf9⟩ := bcellB hC9
 have hz9 := hC9.size
 go_wp2
 go_ret
 exact ⟨rfl, blw_⟩
theorem tcontains_bad (p f l : Int) (h : wB p f l = false) (t : Int) (w : World) : Calls Try.prog 10 #[wvI p f l, .int .i64 t] w fun e w' => e = .returned (.bool false) ∧ Below w.heap.size w w' := by
 have W1 := hide (window_any p f l)
 rw [h] at W1
 simp only [wvI] at *
 clear h
 go_enter Try.func10, Try.ntmps10
 go_wp2_with fail
 refine (W1.out _).mono ?_
 rintro e w1 ⟨rfl, hb1⟩
 obtain ⟨hc1, hf1⟩ := bcell hb1
 have hz1 := hb1.size
 try simp only [World.size_alloc, World.size_setCell] at hz1
 try refine zw1 w w1 (by omega) fun _ _ => ?_
 go_wp2
 go_ret
 exact ⟨rfl, blw_⟩
theorem tcontains_any {p l : Nat} {f : Int} (hw : Win p l f) (t : Int) (w : World) : Calls Try.prog 10 #[wv p l f, .int .i64 t] w fun e w' => e = .returned (.bool (Meet.hs p l f t)) ∧ Below w.heap.size w w' := by
 have W1 := hide (window_any p f l)
 have v1 : wB p f l = true := decide_eq_true (by have := hw.p0; have := hw.p1; have := hw.f0; have := hw.f1; have := hw.l1; omega)
 rw [v1] at W1
 have H := hide (has_any hw t)
 generalize Meet.hs p l f t = x at *
 simp only [wv, wvI] at *
 clear hw v1
 go_enter Try.func10, Try.ntmps10
 go_wp2_with fail
 refine (W1.out _).mono ?_
 rintro e w1 ⟨rfl, hb1⟩
 obtain ⟨hc1, hf1⟩ := bcell hb1
 have hz1 := hb1.size
 try simp only [World.size_alloc, World.size_setCell] at hz1
 try refine zw1 w w1 (by omega) fun _ _ => ?_
 go_wp2_with fail
 refine (H.out _).mono ?_
 rintro e w2 ⟨rfl, hb2⟩
 obtain ⟨hc2, hf2⟩ := bcell hb2
 have hz2 := hb2.size
 try simp only [World.size_alloc, World.size_setCell] at hz2
 try refine zw1 w w2 (by omega) fun _ _ => ?_
 try have : w1.heap.size < w2.heap.size := by omega
 try have : w1.heap.size ≤ w2.heap.size := by omega
 go_wp2
 go_ret
 exact ⟨rfl, blw_⟩
theorem slots_bad (p f l : Int) (a b : Int) (h : (wB p f l && tB a && tB b && decide (a ≤ b)) = false) (w : World) : Calls Try.prog 7 #[wvI p f l, .int .i64 a, .int .i64 b] w fun e w' => e = .returned (.tuple #[.slice none 0 0, .int .i64 2]) ∧ Below w.heap.size w w' := by
 have W1 := hide (isWindow_any p f l)
 have W2 := hide (isInstant_any a)
 have W3 := hide (isInstant_any b)
 generalize wB p f l = x at *
 generalize tB a = y at *
 generalize tB b = z at *
 simp only [wvI] at *
 cases x
 ·clear h
  go_enter Try.func7, Try.ntmps7
  go_wp2_with fail
  refine (W1.out _).mono ?_
  rintro e w1 ⟨rfl, hb1⟩
  obtain ⟨hc1, hf1⟩ := bcell hb1
  have hz1 := hb1.size
  try simp only [World.size_alloc, World.size_setCell] at hz1
  try refine zw1 w w1 (by omega) fun _ _ => ?_
  go_wp2
  go_ret2
  exact ⟨rfl, blw_⟩
 ·cases y
  ·clear h
   go_enter Try.func7, Try.ntmps7
   go_wp2_with fail
   refine (W1.out _).mono ?_
   rintro e w1 ⟨rfl, hb1⟩
   obtain ⟨hc1, hf1⟩ := bcell hb1
   have hz1 := hb1.size
   try simp only [World.size_alloc, World.size_setCell] at hz1
   try refine zw1 w w1 (by omega) fun _ _ => ?_
   go_wp2_with fail
   refine (W2.out _).mono ?_
   rintro e w2 ⟨rfl, hb2⟩
   obtain ⟨hc2, hf2⟩ := bcell hb2
   have hz2 := hb2.size
   try simp only [World.size_alloc, World.size_setCell] at hz2
   try refine zw1 w w2 (by omega) fun _ _ => ?_
   try have : w1.heap.size < w2.heap.size := by omega
   try have : w1.heap.size ≤ w2.heap.size := by omega
   go_wp2
   go_ret2
   exact ⟨rfl, blw_⟩
  ·cases z
   ·clear h
    go_enter Try.func7, Try.ntmps7
    go_wp2_with fail
    refine (W1.out _).mono ?_
    rintro e w1 ⟨rfl, hb1⟩
    obtain ⟨hc1, hf1⟩ := bcell hb1
    have hz1 := hb1.size
    try simp only [World.size_alloc, World.size_setCell] at hz1
    try refine zw1 w w1 (by omega) fun _ _ => ?_
    go_wp2_with fail
    refine (W2.out _).mono ?_
    rintro e w2 ⟨rfl, hb2⟩
    obtain ⟨hc2, hf2⟩ := bcell hb2
    have hz2 := hb2.size
    try simp only [World.size_alloc, World.size_setCell] at hz2
    try refine zw1 w w2 (by omega) fun _ _ => ?_
    try have : w1.heap.size < w2.heap.size := by omega
    try have : w1.heap.size ≤ w2.heap.size := by omega
    go_wp2_with fail
    refine (W3.out _).mono ?_
    rintro e w3 ⟨rfl, hb3⟩
    obtain ⟨hc3, hf3⟩ := bcell hb3
    have hz3 := hb3.size
    try simp only [World.size_alloc, World.size_setCell] at hz3
    try refine zw1 w w3 (by omega) fun _ _ => ?_
    try have : w1.heap.size < w3.heap.size := by omega
    try have : w1.heap.size ≤ w3.heap.size := by omega
    try have : w2.heap.size < w3.heap.size := by omega
    try have : w2.heap.size ≤ w3.heap.size := by omega
    go_wp2
    go_ret2
    exact ⟨rfl, blw_⟩
   ·have h' : b < a := by simpa using h
    clear h
    go_enter Try.func7, Try.ntmps7
    go_wp2_with fail
    refine (W1.out _).mono ?_
    rintro e w1 ⟨rfl, hb1⟩
    obtain ⟨hc1, hf1⟩ := bcell hb1
    have hz1 := hb1.size
    try simp only [World.size_alloc, World.size_setCell] at hz1
    try refine zw1 w w1 (by omega) fun _ _ => ?_
    go_wp2_with fail
    refine (W2.out _).mono ?_
    rintro e w2 ⟨rfl, hb2⟩
    obtain ⟨hc2, hf2⟩ := bcell hb2
    have hz2 := hb2.size
    try simp only [World.size_alloc, World.size_setCell] at hz2
    try refine zw1 w w2 (by omega) fun _ _ => ?_
    try have : w1.heap.size < w2.heap.size := by omega
    try have : w1.heap.size ≤ w2.heap.size := by omega
    go_wp2_with fail
    refine (W3.out _).mono ?_
    rintro e w3 ⟨rfl, hb3⟩
    obtain ⟨hc3, hf3⟩ := bcell hb3
    have hz3 := hb3.size
    try simp only [World.size_alloc, World.size_setCell] at hz3
    try refine zw1 w w3 (by omega) fun _ _ => ?_
    try have : w1.heap.size < w3.heap.size := by omega
    try have : w1.heap.size ≤ w3.heap.size := by omega
    try have : w2.heap.size < w3.heap.size := by omega
    try have : w2.heap.size ≤ w3.heap.size := by omega
    go_wp2
    go_ret2
    exact ⟨rfl, blw_⟩
theorem tslots_bad (p f l : Int) (a b : Int) (h : (wB p f l && tB a && tB b && decide (a ≤ b)) = false) (w : World) : Calls Try.prog 8 #[wvI p f l, .int .i64 a, .int .i64 b] w fun e w' => e = .returned (.tuple #[.slice none 0 0, .int .i64 2]) ∧ Below w.heap.size w w' := by
 have W1 := hide (window_any p f l)
 have W2 := hide (time_any a)
 have W3 := hide (time_any b)
 generalize wB p f l = x at *
 generalize tB a = y at *
 generalize tB b = z at *
 simp only [wvI] at *
 cases y
 ·cases x
  all_goals
   clear h
   go_enter Try.func8, Try.ntmps8
   go_wp2_with fail
   refine (W1.out _).mono ?_
   rintro e w1 ⟨rfl, hb1⟩
   obtain ⟨hc1, hf1⟩ := bcell hb1
   have hz1 := hb1.size
   try simp only [World.size_alloc, World.size_setCell] at hz1
   try refine zw1 w w1 (by omega) fun _ _ => ?_
   go_wp2_with fail
   refine (W2.out _).mono ?_
   rintro e w2 ⟨rfl, hb2⟩
   obtain ⟨hc2, hf2⟩ := bcell hb2
   have hz2 := hb2.size
   try simp only [World.size_alloc, World.size_setCell] at hz2
   try refine zw1 w w2 (by omega) fun _ _ => ?_
   try have : w1.heap.size < w2.heap.size := by omega
   try have : w1.heap.size ≤ w2.heap.size := by omega
   go_wp2
   go_ret2
   exact ⟨rfl, blw_⟩
 ·cases z
  ·cases x
   all_goals
    clear h
    go_enter Try.func8, Try.ntmps8
    go_wp2_with fail
    refine (W1.out _).mono ?_
    rintro e w1 ⟨rfl, hb1⟩
    obtain ⟨hc1, hf1⟩ := bcell hb1
    have hz1 := hb1.size
    try simp only [World.size_alloc, World.size_setCell] at hz1
    try refine zw1 w w1 (by omega) fun _ _ => ?_
    go_wp2_with fail
    refine (W2.out _).mono ?_
    rintro e w2 ⟨rfl, hb2⟩
    obtain ⟨hc2, hf2⟩ := bcell hb2
    have hz2 := hb2.size
    try simp only [World.size_alloc, World.size_setCell] at hz2
    try refine zw1 w w2 (by omega) fun _ _ => ?_
    try have : w1.heap.size < w2.heap.size := by omega
    try have : w1.heap.size ≤ w2.heap.size := by omega
    go_wp2_with fail
    refine (W3.out _).mono ?_
    rintro e w3 ⟨rfl, hb3⟩
    obtain ⟨hc3, hf3⟩ := bcell hb3
    have hz3 := hb3.size
    try simp only [World.size_alloc, World.size_setCell] at hz3
    try refine zw1 w w3 (by omega) fun _ _ => ?_
    try have : w1.heap.size < w3.heap.size := by omega
    try have : w1.heap.size ≤ w3.heap.size := by omega
    try have : w2.heap.size < w3.heap.size := by omega
    try have : w2.heap.size ≤ w3.heap.size := by omega
    go_wp2
    go_ret2
    exact ⟨rfl, blw_⟩
  ·by_cases hab : b < a
   ·have hab2 : decide (a ≤ b) = false := decide_eq_false (by omega)
    cases x
    all_goals
     clear h
     go_enter Try.func8, Try.ntmps8
     go_wp2_with fail
     refine (W1.out _).mono ?_
     rintro e w1 ⟨rfl, hb1⟩
     obtain ⟨hc1, hf1⟩ := bcell hb1
     have hz1 := hb1.size
     try simp only [World.size_alloc, World.size_setCell] at hz1
     try refine zw1 w w1 (by omega) fun _ _ => ?_
     go_wp2_with fail
     refine (W2.out _).mono ?_
     rintro e w2 ⟨rfl, hb2⟩
     obtain ⟨hc2, hf2⟩ := bcell hb2
     have hz2 := hb2.size
     try simp only [World.size_alloc, World.size_setCell] at hz2
     try refine zw1 w w2 (by omega) fun _ _ => ?_
     try have : w1.heap.size < w2.heap.size := by omega
     try have : w1.heap.size ≤ w2.heap.size := by omega
     go_wp2_with fail
     refine (W3.out _).mono ?_
     rintro e w3 ⟨rfl, hb3⟩
     obtain ⟨hc3, hf3⟩ := bcell hb3
     have hz3 := hb3.size
     try simp only [World.size_alloc, World.size_setCell] at hz3
     try refine zw1 w w3 (by omega) fun _ _ => ?_
     try have : w1.heap.size < w3.heap.size := by omega
     try have : w1.heap.size ≤ w3.heap.size := by omega
     try have : w2.heap.size < w3.heap.size := by omega
     try have : w2.heap.size ≤ w3.heap.size := by omega
     go_wp2
     go_ret2
     exact ⟨rfl, blw_⟩
   ·have hx : x = false := by cases x <;> simp_all
    subst hx
    clear h
    go_enter Try.func8, Try.ntmps8
    go_wp2_with fail
    refine (W1.out _).mono ?_
    rintro e w1 ⟨rfl, hb1⟩
    obtain ⟨hc1, hf1⟩ := bcell hb1
    have hz1 := hb1.size
    try simp only [World.size_alloc, World.size_setCell] at hz1
    try refine zw1 w w1 (by omega) fun _ _ => ?_
    go_wp2_with fail
    refine (W2.out _).mono ?_
    rintro e w2 ⟨rfl, hb2⟩
    obtain ⟨hc2, hf2⟩ := bcell hb2
    have hz2 := hb2.size
    try simp only [World.size_alloc, World.size_setCell] at hz2
    try refine zw1 w w2 (by omega) fun _ _ => ?_
    try have : w1.heap.size < w2.heap.size := by omega
    try have : w1.heap.size ≤ w2.heap.size := by omega
    go_wp2_with fail
    refine (W3.out _).mono ?_
    rintro e w3 ⟨rfl, hb3⟩
    obtain ⟨hc3, hf3⟩ := bcell hb3
    have hz3 := hb3.size
    try simp only [World.size_alloc, World.size_setCell] at hz3
    try refine zw1 w w3 (by omega) fun _ _ => ?_
    try have : w1.heap.size < w3.heap.size := by omega
    try have : w1.heap.size ≤ w3.heap.size := by omega
    try have : w2.heap.size < w3.heap.size := by omega
    try have : w2.heap.size ≤ w3.heap.size := by omega
    go_wp2
    go_ret2
    exact ⟨rfl, blw_⟩
end
end Go.Proofs.Ytfgfnjckklldbaa
