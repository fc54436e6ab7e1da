/- Packed: SxG. -/
import Derived.Laws.Externs
import Derived.Test.YtfgfnjckklldbaaP7
set_option linter.unusedVariables false
set_option linter.unusedSimpArgs false
namespace Go.Proofs.Ytfgfnjckklldbaa
section
namespace SX
open Go.RowKit
variable {P : Program} {ε : Env} {ρ : Nat → Nat}
def SubOk (P : Program) (ε : Env) (w0 : World) (sub : Sub) : Prop :=
 ∀ sp f args mem pc nv id r, 0 < sp → sub sp f args mem pc nv id = some r → (∀ b, NW id sp b → mem b = none) → (∀ ob ∈ r.obs, ob.ok P ε w0) → (pc.den ε).2 = true → (∀ x ∈ args, x ≠ .bad) →
  (∀ u ∈ r.upd, NW id sp u.1 ∨ (u.1 ∈ r.fp ∧ (mem u.1).isSome = true)) ∧
  ∀ (w : World) (ρ : Nat → Nat), Below w0.heap.size w0 w → (∀ b ∈ r.fp, ∀ cs, mem b = some cs → Blk ε ρ w0.heap.size w b cs) →
   (∀ b ∈ r.fp, ∀ b' ∈ r.fp, (mem b).isSome = true → (mem b').isSome = true → ρ b = ρ b' → b = b') →
   Calls P f (args.map (LV.den ε ρ)).toArray w (fun e w' => ∃ v, e = .returned v ∧ Out1 ε ρ w0.heap.size id sp w r.val r.upd v w')
section
variable {sub : Sub} {sp id : Nat} {pc : E} {look : Nat → LV} {mem : Nat → Option Cells} {nv base : Nat} {dec : List (E × Bool)} {o : Oper} {a : Act} {w w0 : World} {r : Op1}
theorem pureOp_spec {x : LV} (h : pureOp nv x = some r) : x ≠ .bad ∧ r.val = x ∧ r.upd = [] ∧ r.obs = [] := by
 unfold pureOp at h
 split at h
 ·cases h
 ·rename_i hb; cases h; exact ⟨fun e => hb e, rfl, rfl, rfl⟩
theorem val_out {v : Value} (h : (execOp a.eval o).run P w = .ok (.value v) w) (hu : r.upd = []) (hv : v = r.val.den ε ρ) : OpOk P o a w (Out1 ε ρ base id sp w r.val r.upd) := by
 rw [hu]; exact OpOk.value h (Out1.pure hv)
theorem decided_spec (hdec : ∀ p ∈ dec, (p.1.den ε).2 = p.2) {e : E} {b : Bool} (h : decided dec e = some b) : (e.den ε).2 = b := by
 unfold decided at h
 split at h
 ·cases h; rfl
 ·have key : ∀ (e : E) (l : List (E × Bool)), (∀ p ∈ l, (p.1.den ε).2 = p.2) → l.lookup e = some b → (e.den ε).2 = b := by
   intro e l
   induction l with
   | nil => intro _ h; cases h
   | cons p l ih =>
    intro hl h
    obtain ⟨k, c⟩ := p
    simp only [List.lookup] at h
    split at h
    ·rename_i he
     cases h
     rw [eq_of_beq he]
     exact hl _ (List.mem_cons_self)
    ·exact ih (fun p hp => hl p (List.mem_cons_of_mem _ hp)) h
  exact key _ dec hdec h
theorem operand_slots (hl : Slots ε ρ look o a) {x : Operand} (hx : x ∈ o.op.operands) : ∀ t, x = .tmp t → RV ε ρ (look t) (a.tmps.getD t undef) := fun t ht => hl t (ht ▸ hx)
theorem foldMM_spec {mk : E → E → E} {m2 : Value → Value → Sem Value} {f : Int → Int → Int} (hmk : ∀ x y, ((mk x y).den ε).1 = f (x.den ε).1 (y.den ε).1)
  (hm : ∀ k k' x y (w : World), (m2 (.int k x) (.int k' y)).run P w = .ok (.int k (f x y)) w) :
  ∀ (l : List LV) (x : LV), foldMM mk x l ≠ .bad → (List.foldlM m2 (x.den ε ρ) (l.map (LV.den ε ρ))).run P w = .ok ((foldMM mk x l).den ε ρ) w
 | [], x, h => by simp [foldMM]
 | y :: rest, x, h => by
  unfold foldMM at h ⊢
  split at h
  ·rename_i k a k' b
   split at h
   ·rename_i hk
    simp only [hk, if_true]
    rw [List.map_cons, List.foldlM_cons]
    simp only [Sem.run_bind]
    have e1 : (m2 ((LV.v (.s (.a (.int k a)))).den ε ρ) ((LV.v (.s (.a (.int k' b)))).den ε ρ)).run P w = .ok (.int k (f (a.den ε).1 (b.den ε).1)) w := hm _ _ _ _ _
    rw [e1]
    have := foldMM_spec hmk hm rest _ h
    simpa [Result.andThen, LV.den, V1.den, SV.den, AV.den, hmk] using this
   ·exact absurd rfl h
  ·exact absurd rfl h
theorem foldMM_bad {mk : E → E → E} : ∀ (l : List LV) (x : LV), foldMM mk x l ≠ .bad → x ≠ .bad ∧ ∀ y ∈ l, y ≠ .bad
 | [], x, h => ⟨h, by simp⟩
 | y :: rest, x, h => by
  unfold foldMM at h
  split at h
  ·rename_i k a k' b
   split at h
   ·obtain ⟨_, h2⟩ := foldMM_bad rest _ h
    refine ⟨by simp, fun z hz => ?_⟩
    rcases List.mem_cons.1 hz with rfl | hz
    ·simp
    ·exact h2 z hz
   ·exact absurd rfl h
  ·exact absurd rfl h
theorem map_opnd : ∀ (l : List Operand), (∀ x ∈ l, ∀ t, x = .tmp t → RV ε ρ (look t) (a.tmps.getD t undef)) → (∀ y ∈ l.map (opnd look), y ≠ .bad) → l.map a.eval = (l.map (opnd look)).map (LV.den ε ρ)
 | [], _, _ => rfl
 | x :: l, h1, h2 => by
  simp only [List.map_cons]
  rw [map_opnd l (fun y hy => h1 y (by simp [hy])) (fun y hy => h2 y (by simp at hy ⊢; exact .inr hy)), opnd_den (h1 x (by simp)) (h2 _ (by simp))]
theorem avs_spec : ∀ {l : List LV} {c : List AV}, avs l = some c → l = c.map fun x => .v (.s (.a x))
 | [], c, h => by simp [avs] at h; subst h; rfl
 | .v (.s (.a x)) :: rest, c, h => by
  simp only [avs, Option.map_eq_some_iff] at h
  obtain ⟨c', h', rfl⟩ := h
  rw [avs_spec h']; rfl
 | .v (.s (.fn _ _ _)) :: _, _, h => by simp [avs] at h
 | .v (.s .nilf) :: _, _, h => by simp [avs] at h
 | .v (.agg _) :: _, _, h => by simp [avs] at h
 | .tup _ :: _, _, h => by simp [avs] at h
 | .bad :: _, _, h => by simp [avs] at h
theorem find_add64 {fn : Func} (h : fn.name = "math/bits.Add64") : Extern.find fn = some add64Entry := by
 unfold Extern.find
 rw [h]
 rfl
theorem ext_out {fn : Func} {args : List LV} {f : FuncId} (hfn : P.funcs[f]? = some fn) (hb : fn.body.isNone = true) (h : evExt nv fn args = some r) (he : (∀ x ∈ args, x ≠ .bad) → (execOp a.eval o).run P w = (callFunc f (args.map (LV.den ε ρ)).toArray).run P w) :
  r.upd = [] ∧ OpOk P o a w (Out1 ε ρ base id sp w r.val r.upd) := by
 unfold evExt at h
 split at h
 ·rename_i x y c
  split at h
  ·rename_i hc
   simp only [Bool.and_eq_true, decide_eq_true_eq, beq_iff_eq, Option.isNone_iff_eq_none] at hc
   obtain ⟨⟨⟨⟨⟨h1, h2⟩, h3⟩, h4⟩, h5⟩, h6⟩ := hc
   cases h
   refine ⟨rfl, val_out ?_ rfl rfl⟩
   rw [he (by simp), run_callFunc_extern hfn (by rw [h1]; decide) hb h2 (find_add64 h1)]
   have := run_add64 (P := P) x y c h3 h4 h5 h6 w
   show ((add64Entry #[.int .u64 x, .int .u64 y, .int .u64 c]).run P w).andThen _ = _
   rw [this]
   rfl
  ·cases h
 ·cases h
theorem call_out {f : FuncId} {args : List LV} (hsp : 0 < sp) (hsub : SubOk P ε w0 sub) (h : evCallTo P sub sp id pc mem nv f args = some r) (hid : ∀ b, NW id sp b → mem b = none)
  (hob : ∀ ob ∈ r.obs, ob.ok P ε w0) (hpc : (pc.den ε).2 = true) (hw : Below w0.heap.size w0 w)
  (hm : ∀ b ∈ r.fp, ∀ cs, mem b = some cs → Blk ε ρ w0.heap.size w b cs) (hi : ∀ b ∈ r.fp, ∀ b' ∈ r.fp, (mem b).isSome = true → (mem b').isSome = true → ρ b = ρ b' → b = b')
  (he : (∀ x ∈ args, x ≠ .bad) → (execOp a.eval o).run P w = (callFunc f (args.map (LV.den ε ρ)).toArray).run P w) :
  (∀ u ∈ r.upd, NW id sp u.1 ∨ (u.1 ∈ r.fp ∧ (mem u.1).isSome = true)) ∧ OpOk P o a w (Out1 ε ρ w0.heap.size id sp w r.val r.upd) := by
 unfold evCallTo at h
 split at h
 ·rename_i fn hfn
  split at h
  ·rename_i hb
   obtain ⟨h1, h2⟩ := ext_out (base := w0.heap.size) (id := id) (sp := sp) hfn hb h he
   exact ⟨by rw [h1]; simp, h2⟩
  split at h
  ·cases h
  ·rename_i hn
   rw [fLVs_eq] at h
   simp only [Bool.or_eq_true, not_or, Bool.not_eq_true, Bool.not_eq_false'] at hn
   obtain ⟨⟨hn0, hn1⟩, hn2⟩ := hn
   have hn : fn.body.isNone = false ∧ (fn.name == "runtime.NumGoroutine") = false := ⟨hn1, hn2⟩
   have hargs : ∀ x ∈ args, x ≠ .bad := fun x hx e => by
    have := List.all_eq_true.1 hn0 x hx
    subst e; cases this
   obtain ⟨h1, h2⟩ := hsub _ _ _ _ _ _ _ _ hsp h hid hob hpc hargs
   refine ⟨h1, OpOk.enter ?_ (h2 w ρ hw hm hi)⟩
   rw [he hargs]
   have n1 : ¬ fn.name = "runtime.NumGoroutine" := by simpa using hn.2
   have n2 : ¬ fn.body = none := by intro e; simp [e] at hn
   simp [callFunc, hfn, n1, n2, Result.andThen]
 ·cases h
end
end SX
end
end Go.Proofs.Ytfgfnjckklldbaa
