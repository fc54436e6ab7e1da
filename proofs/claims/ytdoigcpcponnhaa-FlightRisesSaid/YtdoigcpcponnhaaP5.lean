/- Packed: SxY SxI SxC SxJ SxQ SxL. -/
import Derived.Test.YtdoigcpcponnhaaP4
set_option linter.unusedVariables false
set_option linter.unusedSimpArgs false
section
namespace Go.Proofs.Ytdoigcpcponnhaa
namespace SX
open Go.RowKit
variable {P : Program}
theorem reads4 (hmix : P.follows .mixedOrders = true) {K : Cfg} {n sp : Nat} (hsp : 0 < sp) {f : FuncId} {args : List LV} {nv nid : Nat} {v : LV} {s : St} {nv' : Nat} {obs : List Ob}
  (h : evFn P K n sp f args [] (.blit true) nv nid = some (v, s, nv', obs)) (ha : noIds args = true) (hv : v.ids.isEmpty = true) (ε : Env) (w : World) (hobs : ∀ ob ∈ obs, ob.ok P ε w) :
  Calls P f (args.map (LV.den ε fun _ => 0)).toArray w (fun e w' => e = .returned (v.den ε fun _ => 0) ∧ Below w.heap.size w w') := by
 have := (sound (ε := ε) hmix K w n).2.2.1 _ _ _ _ _ _ _ _ _ _ _ hsp h hobs rfl (by simp) (fun x hx e => by
  have := List.all_eq_true.1 ha x hx
  subst e; simp at this) w (fun _ => 0) (Below.refl _ _) (by simp) (by simp)
 refine this.mono fun e w' ⟨ρ', h1, h2, h3, _, _, h4⟩ => ⟨?_, ⟨h4.os, h4.tape, h4.output, h4.size, fun k hk => h4.block k hk (by simp)⟩⟩
 rw [h1]
 congr 1
 exact LV.den_congr fun b hb => by rw [List.isEmpty_iff.1 hv] at hb; cases hb
theorem reads_ob (hmix : P.follows .mixedOrders = true) {K : Cfg} {n sp : Nat} (hsp : 0 < sp) {f : FuncId} {args : List LV} {mem : List (Nat × Cells)} {nv nid : Nat} {v : LV} {s : St} {nv' : Nat} {obs : List Ob}
  (h : evFn P K n sp f args mem (.blit true) nv nid = some (v, s, nv', obs)) (ha : args.all notBad = true) (hm : mem.all (fun u => u.1 < nid) = true) (hv : v.ids.all (· < nid) = true)
  {upd : List (Nat × Cells)} (hu : s.wr.all (fun b => !(mem.lookup b).isSome || (upd.map (·.1)).contains b) = true) (hu2 : upd.all (fun u => u.1 < nid && (Cells.ids u.2).all (· < nid) && s.at u.1 == some u.2) = true)
  (ε : Env) (w0 : World) (hobs : ∀ ob ∈ obs, ob.ok P ε w0) : (Ob.call (.blit true) f args mem v upd).ok P ε w0 := by
 intro _ w ρ hw hblk hinj
 have hm' : ∀ b, (mem.lookup b).isSome = true → b < nid := fun b hb => by
  obtain ⟨c, hc⟩ := Option.isSome_iff_exists.1 hb
  have := List.all_eq_true.1 hm _ (lookup_mem hc)
  simpa using this
 refine ((sound (ε := ε) hmix K w0 n).2.2.1 _ _ _ _ _ _ _ _ _ _ _ hsp h hobs rfl hm' (fun x hx e => by
  have := List.all_eq_true.1 ha x hx
  subst e; cases this) w ρ hw hblk hinj).mono fun e w' ⟨ρ', h1, h2, h3, _, _, h4⟩ => ⟨?_, fun u hu' => ?_, h4.mono ?_⟩
 ·rw [h1]
  congr 1
  exact LV.den_congr fun b hb => h2 b (by simpa using List.all_eq_true.1 hv b hb)
 ·have := List.all_eq_true.1 hu2 u hu'
  simp only [Bool.and_eq_true, decide_eq_true_eq, beq_iff_eq, List.all_eq_true] at this
  exact (h3 _ _ this.2).congr (h2 _ this.1.1) fun k hk => h2 k (this.1.2 k hk)
 ·rintro x hx ⟨b, hb, hb', rfl⟩
  have := List.all_eq_true.1 hu b hb
  simp only [hb', Bool.not_true, Bool.false_or, List.contains_iff_mem, List.mem_map] at this
  obtain ⟨u, hu', rfl⟩ := this
  exact ⟨u, hu', rfl⟩
def SV.ints (ε : Env) : SV → List Int
 | .a (.int _ e) => [(e.den ε).1]
 | .a (.bool e) => [if (e.den ε).2 then 1 else 0]
 | .a (.fsl i) => [(i : Int)]
 | .a (.str i) => [(i : Int)]
 | _ => []
def cellsInts (ε : Env) (l : Cells) : List Int := l.flatMap fun | some s => s.ints ε | none => []
def argInts (ε : Env) (mem : List (Nat × Cells)) : LV → List Int
 | .v (.s (.a (.sl b off _ _))) => cellsInts ε (((mem.lookup b).getD []).drop off)
 | .v x => x.cells.flatMap (SV.ints ε)
 | _ => []
structure Sig where
 sym : FuncId → Option (Nat × Nat)
 val : Nat → List Int → Nat → Int
def callArgs (z : Nat) (args : List LV) (mem : List (Nat × Cells)) : List LV := if z == 3 then match args with
 | .v (.s (.a (.ptr b 0))) :: rest => match mem.lookup b with
  | some [some (.a (.int k e))] => .v (.s (.a (.int k e))) :: rest
  | _ => args
 | _ => args
 else args
def Env.setI (ε : Env) (v : Nat) (n : Int) : Env := { ε with i := fun j => if j = v then n else ε.i j }
def Env.setB (ε : Env) (v : Nat) (b : Bool) : Env := { ε with b := fun j => if j = v then b else ε.b j }
def Env.setC (ε : Env) (base : Nat) (g : Nat → Int) : Env :=
 { ε with i := fun j => if j / 32 = base then g (j % 32) else ε.i j, b := fun j => if j / 32 = base then decide (g (j % 32) ≠ 0) else ε.b j }
def callNo (S : Sig) (f : FuncId) (args : List LV) (mem : List (Nat × Cells)) : Option (Nat × Nat × List LV) := match S.sym f with
 | some (s, z) => some (callBase s (callArgs z args mem) mem / 32, s, callArgs z args mem)
 | none => none
def Env.step (S : Sig) (ε : Env) : Ob → Env
 | .eq v e => ε.setI v (e.den ε).1
 | .eqb v e => ε.setB v (e.den ε).2
 | .call _ f args mem _ _ => match callNo S f args mem with
  | some (base, s, l) => ε.setC base (S.val s (l.flatMap (argInts ε mem)))
  | none => ε
 | .loop s ins _ _ _ _ _ => ε.setC (callBase s ins [] / 32) (S.val s (ins.flatMap (argInts ε [])))
 | .req _ _ => ε
 | .lst _ _ _ _ => ε
def Env.steps (S : Sig) (ε : Env) (l : List Ob) : Env := l.foldl (Env.step S) ε
structure Kn where
 i : List Nat
 b : List Nat
 c : List Nat
def Kn.hasI (k : Kn) (v : Nat) : Bool := v < top || (if v < 2 * top then k.i.contains v else k.c.contains (v / 32))
def Kn.hasB (k : Kn) (v : Nat) : Bool := v < top || (if v < 2 * top then k.b.contains v else k.c.contains (v / 32))
def Kn.okE (k : Kn) : E → Bool
 | .lit _ => true
 | .var i => k.hasI i
 | .slen _ => true
 | .el _ _ _ x => k.okE x
 | .ar _ _ x y => k.okE x && k.okE y
 | .cv _ x => k.okE x
 | .mx x y => k.okE x && k.okE y
 | .mn x y => k.okE x && k.okE y
 | .ite c x y => k.okE c && k.okE x && k.okE y
 | .blit _ => true
 | .bvar i => k.hasB i
 | .cmp _ x y => k.okE x && k.okE y
 | .not x => k.okE x
 | .same x y => k.okE x && k.okE y
def Kn.okSV (k : Kn) : SV → Bool
 | .a (.int _ e) => k.okE e
 | .a (.bool e) => k.okE e
 | _ => true
def Kn.okLV (k : Kn) : LV → Bool
 | .v x => x.cells.all k.okSV
 | _ => false
def Kn.okC (k : Kn) (l : Cells) : Bool := l.all fun | some s => k.okSV s | none => true
def Kn.okOb (S : Sig) (k : Kn) : Ob → Bool
 | .eq v e => top ≤ v && v < 2 * top && !k.i.contains v && k.okE e
 | .eqb v e => top ≤ v && v < 2 * top && !k.b.contains v && k.okE e
 | .call _ f args mem _ _ => match callNo S f args mem with
  | some (base, s, l) => 2 * top ≤ base * 32 && !k.c.contains base && l.all k.okLV && mem.all fun u => k.okC u.2
  | none => true
 | .loop s ins _ _ _ _ _ => 2 * top ≤ callBase s ins [] / 32 * 32 && !k.c.contains (callBase s ins [] / 32) && ins.all k.okLV
 | .req _ _ => true
 | .lst _ _ _ _ => true
def Kn.add (S : Sig) (k : Kn) : Ob → Kn
 | .eq v _ => { k with i := v :: k.i }
 | .eqb v _ => { k with b := v :: k.b }
 | .call _ f args mem _ _ => match callNo S f args mem with
  | some (base, _, _) => { k with c := base :: k.c }
  | none => k
 | .loop s ins _ _ _ _ _ => { k with c := callBase s ins [] / 32 :: k.c }
 | .req _ _ => k
 | .lst _ _ _ _ => k
def okObs (S : Sig) : Kn → List Ob → Bool
 | _, [] => true
 | k, ob :: rest => k.okOb S ob && okObs S (k.add S ob) rest
def Ob.sat (S : Sig) (ε : Env) : Ob → Prop
 | .eq v e => (e.den ε).1 = ε.i v
 | .eqb v e => (e.den ε).2 = ε.b v
 | .call _ f args mem _ _ => ∀ base s l, callNo S f args mem = some (base, s, l) → ∀ j, j < 32 → ε.i (base * 32 + j) = S.val s (l.flatMap (argInts ε mem)) j ∧ ε.b (base * 32 + j) = decide (S.val s (l.flatMap (argInts ε mem)) j ≠ 0)
 | .loop s ins _ _ _ _ _ => ∀ j, j < 32 → ε.i (callBase s ins [] / 32 * 32 + j) = S.val s (ins.flatMap (argInts ε [])) j ∧ ε.b (callBase s ins [] / 32 * 32 + j) = decide (S.val s (ins.flatMap (argInts ε [])) j ≠ 0)
 | .req _ _ => True
 | .lst _ _ _ _ => True
structure Agree (k : Kn) (ε ε' : Env) : Prop where
 i : ∀ v, k.hasI v = true → ε'.i v = ε.i v
 b : ∀ v, k.hasB v = true → ε'.b v = ε.b v
 sa : ε'.sa = ε.sa
 sn : ε'.sn = ε.sn
 sc : ε'.sc = ε.sc
 st : ε'.st = ε.st
 el : ε'.el = ε.el
theorem Agree.refl (k : Kn) (ε : Env) : Agree k ε ε := ⟨fun _ _ => rfl, fun _ _ => rfl, rfl, rfl, rfl, rfl, rfl⟩
theorem Agree.trans {k : Kn} {ε ε' ε'' : Env} (h : Agree k ε ε') (g : Agree k ε' ε'') : Agree k ε ε'' :=
 ⟨fun v hv => (g.i v hv).trans (h.i v hv), fun v hv => (g.b v hv).trans (h.b v hv), g.sa.trans h.sa, g.sn.trans h.sn, g.sc.trans h.sc, g.st.trans h.st, g.el.trans h.el⟩
theorem Agree.den {k : Kn} {ε ε' : Env} (h : Agree k ε ε') : ∀ {e : E}, k.okE e = true → e.den ε' = e.den ε := by
 intro e
 induction e with
 | lit n => intro _; rfl
 | var i => intro hk; simp only [E.den, h.i i hk]
 | slen i => intro _; simp only [E.den, h.sn]
 | el i m o x hx => intro hk; simp only [E.den, h.el, hx hk]
 | ar op q x y hx hy => intro hk; simp only [Kn.okE, Bool.and_eq_true] at hk; simp only [E.den, hx hk.1, hy hk.2]
 | cv q x hx => intro hk; simp only [E.den, hx hk]
 | mx x y hx hy => intro hk; simp only [Kn.okE, Bool.and_eq_true] at hk; simp only [E.den, hx hk.1, hy hk.2]
 | mn x y hx hy => intro hk; simp only [Kn.okE, Bool.and_eq_true] at hk; simp only [E.den, hx hk.1, hy hk.2]
 | ite c x y hc hx hy => intro hk; simp only [Kn.okE, Bool.and_eq_true] at hk; simp only [E.den, hc hk.1.1, hx hk.1.2, hy hk.2]
 | blit b => intro _; rfl
 | bvar i => intro hk; simp only [E.den, h.b i hk]
 | cmp op x y hx hy => intro hk; simp only [Kn.okE, Bool.and_eq_true] at hk; simp only [E.den, hx hk.1, hy hk.2]
 | not x hx => intro hk; simp only [E.den, hx hk]
 | same x y hx hy => intro hk; simp only [Kn.okE, Bool.and_eq_true] at hk; simp only [E.den, hx hk.1, hy hk.2]
theorem Agree.ints {k : Kn} {ε ε' : Env} (h : Agree k ε ε') {s : SV} (hs : k.okSV s = true) : s.ints ε' = s.ints ε := by
 cases s with
 | a x => cases x <;> first | rfl | (simp only [SV.ints, h.den hs])
 | fn _ _ _ => rfl
 | nilf => rfl
theorem Agree.cells {k : Kn} {ε ε' : Env} (h : Agree k ε ε') : ∀ {l : Cells}, k.okC l = true → cellsInts ε' l = cellsInts ε l
 | [], _ => rfl
 | some s :: l, hl => by
  simp only [Kn.okC, List.all_cons, Bool.and_eq_true] at hl
  have := h.cells (l := l) hl.2
  unfold cellsInts at this ⊢
  simp only [List.flatMap_cons, h.ints hl.1, this]
 | none :: l, hl => by
  simp only [Kn.okC, List.all_cons, Bool.and_eq_true] at hl
  have := h.cells (l := l) hl.2
  unfold cellsInts at this ⊢
  simp only [List.flatMap_cons, this]
theorem okC_drop {k : Kn} {l : Cells} (h : k.okC l = true) (n : Nat) : k.okC (l.drop n) = true := by
 unfold Kn.okC at h ⊢
 rw [List.all_eq_true] at h ⊢
 exact fun x hx => h x (List.mem_of_mem_drop hx)
theorem Agree.arg {k : Kn} {ε ε' : Env} (h : Agree k ε ε') {mem : List (Nat × Cells)} (hm : mem.all (fun u => k.okC u.2) = true) {x : LV} (hx : k.okLV x = true) : argInts ε' mem x = argInts ε mem x := by
 have hl : ∀ l : List SV, l.all k.okSV = true → l.flatMap (SV.ints ε') = l.flatMap (SV.ints ε) := by
  intro l
  induction l with
  | nil => intro _; rfl
  | cons y l ih =>
   intro hy
   simp only [List.all_cons, Bool.and_eq_true] at hy
   simp only [List.flatMap_cons, h.ints hy.1, ih hy.2]
 unfold argInts
 split
 ·rename_i b off _ _
  apply h.cells
  apply okC_drop
  cases hb : mem.lookup b with
  | none => rfl
  | some c => exact List.all_eq_true.1 hm _ (lookup_mem hb)
 ·rename_i v _
  exact hl _ hx
 ·rfl
theorem Agree.args {k : Kn} {ε ε' : Env} (h : Agree k ε ε') {mem : List (Nat × Cells)} (hm : mem.all (fun u => k.okC u.2) = true) : ∀ {l : List LV}, l.all k.okLV = true → l.flatMap (argInts ε' mem) = l.flatMap (argInts ε mem)
 | [], _ => rfl
 | x :: l, hl => by
  simp only [List.all_cons, Bool.and_eq_true] at hl
  simp only [List.flatMap_cons, h.arg hm hl.1, h.args hm hl.2]
def Kn.le (k k' : Kn) : Prop := (∀ v, k.hasI v = true → k'.hasI v = true) ∧ (∀ v, k.hasB v = true → k'.hasB v = true)
theorem contains_cons {a b : Nat} {l : List Nat} (h : l.contains a = true) : (b :: l).contains a = true := by
 simp only [List.contains_cons, Bool.or_eq_true]; exact .inr h
theorem Kn.le_add (S : Sig) (k : Kn) (ob : Ob) : k.le (k.add S ob) := by
 have key : ∀ k' : Kn, (∀ v, k.i.contains v = true → k'.i.contains v = true) → (∀ v, k.b.contains v = true → k'.b.contains v = true) → (∀ v, k.c.contains v = true → k'.c.contains v = true) → k.le k' := fun k' h1 h2 h3 => by
  refine ⟨fun v hv => ?_, fun v hv => ?_⟩
  ·unfold Kn.hasI at hv ⊢
   simp only [Bool.or_eq_true] at hv ⊢
   refine hv.imp id fun hv => ?_
   split at hv <;> rename_i hh
   ·rw [if_pos hh]; exact h1 v hv
   ·rw [if_neg hh]; exact h3 _ hv
  ·unfold Kn.hasB at hv ⊢
   simp only [Bool.or_eq_true] at hv ⊢
   refine hv.imp id fun hv => ?_
   split at hv <;> rename_i hh
   ·rw [if_pos hh]; exact h2 v hv
   ·rw [if_neg hh]; exact h3 _ hv
 cases ob with
 | eq v e => exact key _ (fun _ h => contains_cons h) (fun _ h => h) (fun _ h => h)
 | eqb v e => exact key _ (fun _ h => h) (fun _ h => contains_cons h) (fun _ h => h)
 | req _ _ => exact key _ (fun _ h => h) (fun _ h => h) (fun _ h => h)
 | lst _ _ _ _ => exact key _ (fun _ h => h) (fun _ h => h) (fun _ h => h)
 | loop s ins _ _ _ _ _ => exact key _ (fun _ h => h) (fun _ h => h) (fun _ h => contains_cons h)
 | call pc f args mem res upd =>
  simp only [Kn.add]
  split
  ·exact key _ (fun _ h => h) (fun _ h => h) (fun _ h => contains_cons h)
  ·exact key _ (fun _ h => h) (fun _ h => h) (fun _ h => h)
theorem Agree.mono {k k' : Kn} (h : k.le k') {ε ε' : Env} (g : Agree k' ε ε') : Agree k ε ε' := ⟨fun v hv => g.i v (h.1 v hv), fun v hv => g.b v (h.2 v hv), g.sa, g.sn, g.sc, g.st, g.el⟩
theorem setC_agree {k : Kn} {base : Nat} (h1 : 2 * top ≤ base * 32) (h2 : k.c.contains base = false) (ε : Env) (g : Nat → Int) : Agree k ε (ε.setC base g) := by
 have big : ∀ j, j / 32 = base → 2 * top ≤ j := fun j hj => by have := Nat.div_mul_le_self j 32; rw [hj] at this; omega
 refine ⟨fun j hj => ?_, fun j hj => ?_, rfl, rfl, rfl, rfl, rfl⟩
 ·simp only [Env.setC]
  rw [if_neg]
  intro hb
  have := big j hb
  unfold Kn.hasI at hj
  rw [if_neg (by omega), hb, h2] at hj
  simp only [Bool.or_false, decide_eq_true_eq] at hj
  omega
 ·simp only [Env.setC]
  rw [if_neg]
  intro hb
  have := big j hb
  unfold Kn.hasB at hj
  rw [if_neg (by omega), hb, h2] at hj
  simp only [Bool.or_false, decide_eq_true_eq] at hj
  omega
theorem step_agree {S : Sig} {k : Kn} {ob : Ob} (h : k.okOb S ob = true) (ε : Env) : Agree k ε (ε.step S ob) := by
 cases ob with
 | eq v e =>
  simp only [Kn.okOb, Bool.and_eq_true, decide_eq_true_eq, Bool.not_eq_true'] at h
  refine ⟨fun j hj => ?_, fun _ _ => rfl, rfl, rfl, rfl, rfl, rfl⟩
  simp only [Env.step, Env.setI]
  rw [if_neg]
  rintro rfl
  unfold Kn.hasI at hj
  rw [if_pos h.1.1.2, h.1.2] at hj
  simp only [Bool.or_false, decide_eq_true_eq] at hj
  omega
 | eqb v e =>
  simp only [Kn.okOb, Bool.and_eq_true, decide_eq_true_eq, Bool.not_eq_true'] at h
  refine ⟨fun _ _ => rfl, fun j hj => ?_, rfl, rfl, rfl, rfl, rfl⟩
  simp only [Env.step, Env.setB]
  rw [if_neg]
  rintro rfl
  unfold Kn.hasB at hj
  rw [if_pos h.1.1.2, h.1.2] at hj
  simp only [Bool.or_false, decide_eq_true_eq] at hj
  omega
 | req _ _ => exact Agree.refl _ _
 | lst _ _ _ _ => exact Agree.refl _ _
 | loop s ins _ _ _ _ _ =>
  simp only [Kn.okOb, Bool.and_eq_true, decide_eq_true_eq, Bool.not_eq_true'] at h
  exact setC_agree h.1.1 h.1.2 _ _
 | call pc f args mem res upd =>
  simp only [Kn.okOb] at h
  simp only [Env.step]
  split
  ·rename_i base s l hc
   rw [hc] at h
   simp only [Bool.and_eq_true, decide_eq_true_eq, Bool.not_eq_true'] at h
   obtain ⟨⟨⟨h1, h2⟩, h3⟩, h4⟩ := h
   exact setC_agree h1 h2 _ _
  ·exact Agree.refl _ _
theorem steps_agree {S : Sig} : ∀ {l : List Ob} {k : Kn}, okObs S k l = true → ∀ ε : Env, Agree k ε (ε.steps S l)
 | [], k, _, ε => Agree.refl _ _
 | ob :: l, k, h, ε => by
  simp only [okObs, Bool.and_eq_true] at h
  exact (step_agree h.1 ε).trans ((steps_agree h.2 _).mono (Kn.le_add S k ob))
theorem steps_sat {S : Sig} : ∀ {l : List Ob} {k : Kn}, okObs S k l = true → ∀ (ε : Env), ∀ ob ∈ l, ob.sat S (ε.steps S l)
 | [], _, _, _, ob, h => by cases h
 | ob0 :: l, k, h, ε, ob, hob => by
  simp only [okObs, Bool.and_eq_true] at h
  rcases List.mem_cons.1 hob with rfl | hob
  ·have a1 := step_agree h.1 ε
   have a2 := steps_agree h.2 (ε.step S ob)
   show ob.sat S ((ε.step S ob).steps S l)
   generalize (ε.step S ob).steps S l = ε' at a2
   have a3 := a1.trans (a2.mono (Kn.le_add S k ob))
   cases ob with
   | eq v e =>
    simp only [Kn.okOb, Bool.and_eq_true, decide_eq_true_eq, Bool.not_eq_true'] at h
    have e1 := a2.i v (by unfold Kn.hasI; simp only [Kn.add]; rw [if_pos h.1.1.1.2]; simp)
    simp only [Ob.sat, e1, a3.den h.1.2]
    simp [Env.step, Env.setI]
   | eqb v e =>
    simp only [Kn.okOb, Bool.and_eq_true, decide_eq_true_eq, Bool.not_eq_true'] at h
    have e1 := a2.b v (by unfold Kn.hasB; simp only [Kn.add]; rw [if_pos h.1.1.1.2]; simp)
    simp only [Ob.sat, e1, a3.den h.1.2]
    simp [Env.step, Env.setB]
   | req _ _ => trivial
   | lst _ _ _ _ => trivial
   | loop s ins wy pc st nid tr =>
    intro j hj
    simp only [Kn.okOb, Bool.and_eq_true, decide_eq_true_eq, Bool.not_eq_true'] at h
    obtain ⟨⟨⟨h1, h2⟩, h3⟩, h5⟩ := h
    generalize hbase : callBase s ins [] / 32 = base at h1 h2
    have hd : (base * 32 + j) / 32 = base := by omega
    have hm : (base * 32 + j) % 32 = j := by omega
    have hk : (k.add S (.loop s ins wy pc st nid tr)).c.contains base = true := by simp [Kn.add, hbase]
    have e1 := a2.i (base * 32 + j) (by unfold Kn.hasI; rw [if_neg (by omega), hd, hk]; simp)
    have e2 := a2.b (base * 32 + j) (by unfold Kn.hasB; rw [if_neg (by omega), hd, hk]; simp)
    rw [e1, e2, a3.args (mem := []) rfl h3]
    simp [Env.step, hbase, Env.setC, hd, hm]
   | call pc f args mem res upd =>
    intro base s l' hc j hj
    simp only [Kn.okOb, hc, Bool.and_eq_true, decide_eq_true_eq, Bool.not_eq_true'] at h
    obtain ⟨⟨⟨⟨h1, h2⟩, h3⟩, h4⟩, h5⟩ := h
    have hd : (base * 32 + j) / 32 = base := by omega
    have hm : (base * 32 + j) % 32 = j := by omega
    have hk : (k.add S (.call pc f args mem res upd)).c.contains base = true := by simp [Kn.add, hc]
    have e1 := a2.i (base * 32 + j) (by unfold Kn.hasI; rw [if_neg (by omega), hd, hk]; simp)
    have e2 := a2.b (base * 32 + j) (by unfold Kn.hasB; rw [if_neg (by omega), hd, hk]; simp)
    rw [e1, e2, a3.args h4 h3]
    simp [Env.step, hc, Env.setC, hd, hm]
  ·exact steps_sat h.2 _ ob hob
def Ob.key (S : Sig) : Ob → Nat
 | .eq v _ => 3 * v
 | .eqb v _ => 3 * v + 1
 | .call _ f args mem _ _ => match callNo S f args mem with
  | some (base, _, _) => 3 * base + 2
  | none => 2
 | .loop s ins _ _ _ _ _ => 3 * (callBase s ins [] / 32) + 2
 | .req _ _ => 2
 | .lst _ _ _ _ => 2
def Ob.isQ : Ob → Bool
 | .req _ _ => true
 | .lst _ _ _ _ => true
 | _ => false
def Ob.isM : Ob → Bool
 | .loop _ _ _ _ _ _ _ => true
 | ob => ob.isQ
theorem isQ_sat {S : Sig} {ε : Env} {ob : Ob} (h : ob.isQ = true) : ob.sat S ε := by cases ob <;> first | trivial | cases h
def flatArg (mem : List (Nat × Cells)) : LV → Cells
 | .v (.s (.a (.sl b off _ _))) => ((mem.lookup b).getD []).drop off
 | .v x => x.cells.map some
 | _ => []
theorem argInts_flat (ε : Env) (mem : List (Nat × Cells)) (x : LV) : argInts ε mem x = cellsInts ε (flatArg mem x) := by
 have h : ∀ l : List SV, l.flatMap (SV.ints ε) = cellsInts ε (l.map some) := by
  intro l
  induction l with
  | nil => rfl
  | cons y l ih => simp only [List.flatMap_cons, List.map_cons, ih]; rfl
 unfold argInts flatArg
 split
 ·rfl
 ·exact h _
 ·rfl
def twin (S : Sig) : Ob → Ob → Bool
 | .call _ f args mem _ _, .call _ f' args' mem' _ _ => match callNo S f args mem, callNo S f' args' mem' with
  | some (b, s, l), some (b', s', l') => b == b' && s == s' && l.map (flatArg mem) == l'.map (flatArg mem')
  | _, _ => false
 | .loop s ins _ _ _ _ _, .loop s' ins' _ _ _ _ _ => callBase s ins [] == callBase s' ins' [] && s == s' && ins.map (flatArg []) == ins'.map (flatArg [])
 | _, _ => false
theorem twin_sat {S : Sig} {ε : Env} {x y : Ob} (h : twin S x y = true) (hs : y.sat S ε) : x.sat S ε := by
 unfold twin at h
 split at h
 ·rename_i f args mem _ _ _ f' args' mem' _ _
  split at h
  ·rename_i b s l b' s' l' h1 h2
   simp only [Bool.and_eq_true, beq_iff_eq] at h
   obtain ⟨⟨rfl, rfl⟩, h3⟩ := h
   intro base s0 l0 hc j hj
   rw [h1] at hc
   cases hc
   have e : l.flatMap (argInts ε mem) = l'.flatMap (argInts ε mem') := by
    have h4 := congrArg (fun x => List.flatMap (cellsInts ε) x) h3
    simp only [List.flatMap_map] at h4
    rw [show argInts ε mem = fun x => cellsInts ε (flatArg mem x) from funext fun x => argInts_flat ε mem x, show argInts ε mem' = fun x => cellsInts ε (flatArg mem' x) from funext fun x => argInts_flat ε mem' x]
    exact h4
   rw [e]
   exact hs _ _ _ h2 j hj
  ·cases h
 ·rename_i s ins _ _ _ _ _ s' ins' _ _ _ _ _
  simp only [Bool.and_eq_true, beq_iff_eq] at h
  obtain ⟨⟨h1, rfl⟩, h3⟩ := h
  intro j hj
  have e : ins.flatMap (argInts ε []) = ins'.flatMap (argInts ε []) := by
   have h4 := congrArg (fun x => List.flatMap (cellsInts ε) x) h3
   simp only [List.flatMap_map] at h4
   rw [show argInts ε [] = fun x => cellsInts ε (flatArg [] x) from funext fun x => argInts_flat ε [] x]
   exact h4
  rw [e, h1]
  exact hs j hj
 ·cases h
def nub (S : Sig) : List Ob → List (Nat × Ob) → Option (List (Nat × Ob))
 | [], acc => some acc
 | ob :: rest, acc => if ob.isQ then nub S rest acc else match acc.lookup (ob.key S) with
  | some ob' => if ob == ob' || twin S ob ob' then nub S rest acc else none
  | none => nub S rest ((ob.key S, ob) :: acc)
theorem nub_acc {S : Sig} : ∀ {l : List Ob} {acc r : List (Nat × Ob)}, nub S l acc = some r → (∀ x ∈ acc, x ∈ r) ∧ ∀ ob ∈ l, ob.isQ = true ∨ ∃ ob' ∈ r.map (·.2), ob = ob' ∨ twin S ob ob' = true
 | [], acc, r, h => by cases h; exact ⟨fun _ h => h, fun _ h => by cases h⟩
 | ob :: l, acc, r, h => by
  simp only [nub] at h
  split at h
  ·rename_i hq
   obtain ⟨h1, h2⟩ := nub_acc h
   refine ⟨h1, fun x hx => ?_⟩
   rcases List.mem_cons.1 hx with rfl | hx
   ·exact .inl hq
   ·exact h2 x hx
  split at h
  ·rename_i ob' hl
   split at h
   ·rename_i he
    obtain ⟨h1, h2⟩ := nub_acc h
    refine ⟨h1, fun x hx => ?_⟩
    rcases List.mem_cons.1 hx with rfl | hx
    ·refine .inr ⟨ob', List.mem_map.2 ⟨_, h1 _ (lookup_mem hl), rfl⟩, ?_⟩
     simp only [Bool.or_eq_true, beq_iff_eq] at he
     exact he
    ·exact h2 x hx
   ·cases h
  ·obtain ⟨h1, h2⟩ := nub_acc h
   refine ⟨fun x hx => h1 x (List.mem_cons_of_mem _ hx), fun x hx => ?_⟩
   rcases List.mem_cons.1 hx with rfl | hx
   ·exact .inr ⟨_, List.mem_map.2 ⟨_, h1 _ List.mem_cons_self, rfl⟩, .inl rfl⟩
   ·exact h2 x hx
def rngE : E → Bool
 | .lit n => -9223372036854775808 ≤ n && n ≤ 9223372036854775807
 | .var _ => true
 | .ar .add .i64 _ _ => true
 | .ar .sub .i64 _ _ => true
 | .ar .mul .i64 _ _ => true
 | .ar .quo .i64 _ _ => true
 | .cv .i64 _ => true
 | .mx x y => rngE x && rngE y
 | .mn x y => rngE x && rngE y
 | .ite _ x y => rngE x && rngE y
 | .el _ _ _ _ => true
 | _ => false
def R64 (n : Int) : Prop := -9223372036854775808 ≤ n ∧ n ≤ 9223372036854775807
theorem wrap_R64 (n : Int) : R64 (IntKind.i64.wrap n) := by
 unfold R64
 rw [IntKind.wrap_i64]
 omega
theorem rngE_spec {ε : Env} (hε : ∀ i, R64 (ε.i i)) : ∀ {e : E}, rngE e = true → R64 (e.den ε).1 := by
 intro e
 induction e with
 | lit n => intro h; simpa [rngE, R64, E.den] using h
 | var i => intro _; exact hε i
 | slen i => intro h; cases h
 | el i m o x hx => intro _; unfold R64; simp only [E.den, clmp]; split <;> omega
 | ar op q x y hx hy => intro h; cases op <;> cases q <;> first | (cases h; done) | exact wrap_R64 _
 | cv q x hx => intro h; cases q <;> first | (cases h; done) | exact wrap_R64 _
 | mx x y hx hy => intro h; simp only [rngE, Bool.and_eq_true] at h; have := hx h.1; have := hy h.2; simp only [E.den]; split <;> assumption
 | mn x y hx hy => intro h; simp only [rngE, Bool.and_eq_true] at h; have := hx h.1; have := hy h.2; simp only [E.den]; split <;> assumption
 | ite c x y hc hx hy => intro h; simp only [rngE, Bool.and_eq_true] at h; have := hx h.1; have := hy h.2; simp only [E.den]; split <;> assumption
 | blit b => intro h; cases h
 | bvar i => intro h; cases h
 | cmp op x y hx hy => intro h; cases h
 | not x hx => intro h; cases h
 | same x y hx hy => intro h; cases h
def rngSV : SV → Bool
 | .a (.int _ e) => rngE e
 | _ => true
def rngOb : Ob → Bool
 | .eq _ e => rngE e
 | .eqb _ _ => true
 | .call _ _ args mem _ _ => args.all (fun x => match x with | .v v => v.cells.all rngSV | _ => false) && mem.all fun u => u.2.all fun c => match c with | some s => rngSV s | none => true
 | .loop _ ins _ _ _ _ _ => ins.all (fun x => match x with | .v v => v.cells.all rngSV | _ => false)
 | .req _ _ => true
 | .lst _ _ _ _ => true
theorem steps_R64 {S : Sig} (hS : ∀ s l k, R64 (S.val s l k)) : ∀ {l : List Ob} {ε : Env}, l.all rngOb = true → (∀ i, R64 (ε.i i)) → ∀ i, R64 ((ε.steps S l).i i)
 | [], ε, _, h => h
 | ob :: l, ε, hr, h => by
  simp only [List.all_cons, Bool.and_eq_true] at hr
  refine steps_R64 hS (l := l) (ε := ε.step S ob) hr.2 fun i => ?_
  cases ob with
  | eq v e =>
   simp only [Env.step, Env.setI]
   split
   ·exact rngE_spec h hr.1
   ·exact h i
  | eqb v e => exact h i
  | req _ _ => exact h i
  | lst _ _ _ _ => exact h i
  | loop s ins _ _ _ _ _ =>
   simp only [Env.step, Env.setC]
   split
   ·exact hS _ _ _
   ·exact h i
  | call pc f args mem res upd =>
   simp only [Env.step]
   split
   ·simp only [Env.setC]
    split
    ·exact hS _ _ _
    ·exact h i
   ·exact h i
def goodL (P : Program) (S : Sig) (shp : FuncId → List LV → List (Nat × Cells) → Bool) (obs : List Ob) : Bool := match nub S obs [] with
 | some r => okObs S ⟨[], [], []⟩ (r.reverse.map (·.2)) && obs.all rngOb && obs.all fun ob => match ob with
  | .call pc f args mem res upd => pc == .blit true && shp f args mem && stdRes P S.sym f args mem == some (res, upd)
  | _ => true
 | none => false
def goodB (P : Program) (S : Sig) (shp : FuncId → List LV → List (Nat × Cells) → Bool) (obs : List Ob) : Bool := goodL P S shp obs && obs.all fun ob => !ob.isM
def Env.solve (S : Sig) (obs : List Ob) (ε0 : Env) : Env := match nub S obs [] with
 | some r => ε0.steps S (r.reverse.map (·.2))
 | none => ε0
theorem good_okL {S : Sig} {shp : FuncId → List LV → List (Nat × Cells) → Bool} {obs : List Ob} (h : goodL P S shp obs = true) (hS : ∀ s l k, R64 (S.val s l k)) (ε0 : Env) (h0 : ∀ i, R64 (ε0.i i)) :
  (∀ v, v < top → (ε0.solve S obs).i v = ε0.i v) ∧ (ε0.solve S obs).sa = ε0.sa ∧ (ε0.solve S obs).sn = ε0.sn ∧ (ε0.solve S obs).sc = ε0.sc ∧ (ε0.solve S obs).el = ε0.el ∧ (∀ i, R64 ((ε0.solve S obs).i i)) ∧
   ∀ w0 : World, (∀ f args mem res upd, shp f args mem = true → stdRes P S.sym f args mem = some (res, upd) → rngOb (.call (.blit true) f args mem res upd) = true → Ob.sat S (ε0.solve S obs) (.call (.blit true) f args mem res upd) → Ob.ok P (ε0.solve S obs) w0 (.call (.blit true) f args mem res upd)) →
    (∀ ob ∈ obs, ob.isM = true → ob.sat S (ε0.solve S obs) → ob.ok P (ε0.solve S obs) w0) → ∀ ob ∈ obs, ob.ok P (ε0.solve S obs) w0 := by
 unfold goodL at h
 unfold Env.solve
 split at h
 ·rename_i r hr
  simp only [Bool.and_eq_true] at h
  obtain ⟨⟨h1, h2⟩, h3⟩ := h
  obtain ⟨_, hn⟩ := nub_acc hr
  have ha := steps_agree h1 ε0
  have hs := steps_sat h1 ε0
  have hrl : (r.reverse.map (·.2)).all rngOb = true := by
   -- each of them is one of the obligations
   have key : ∀ (l : List Ob) (acc r : List (Nat × Ob)), nub S l acc = some r → ∀ x ∈ r, x ∈ acc ∨ x.2 ∈ l := by
    intro l
    induction l with
    | nil => intro acc r h x hx; cases h; exact .inl hx
    | cons ob l ih =>
     intro acc r h x hx
     simp only [nub] at h
     split at h
     ·rcases ih _ _ h x hx with h' | h'
      ·exact .inl h'
      ·exact .inr (List.mem_cons_of_mem _ h')
     split at h
     ·split at h
      ·rcases ih _ _ h x hx with h' | h'
       ·exact .inl h'
       ·exact .inr (List.mem_cons_of_mem _ h')
      ·cases h
     ·rcases ih _ _ h x hx with h' | h'
      ·rcases List.mem_cons.1 h' with rfl | h'
       ·exact .inr List.mem_cons_self
       ·exact .inl h'
      ·exact .inr (List.mem_cons_of_mem _ h')
   rw [List.all_eq_true]
   intro ob hob
   obtain ⟨x, hx, rfl⟩ := List.mem_map.1 hob
   rcases key obs [] r hr x (List.mem_reverse.1 hx) with h' | h'
   ·cases h'
   ·exact List.all_eq_true.1 h2 _ h'
  have hR := steps_R64 hS hrl h0
  refine ⟨fun v hv => ha.i v (by unfold Kn.hasI; simp [hv]), ha.sa, ha.sn, ha.sc, ha.el, hR, fun w0 hcon hmem ob hob => ?_⟩
  have sat : ob.sat S (ε0.steps S (r.reverse.map (·.2))) := by
   rcases hn ob hob with hq | ⟨ob', hob', he⟩
   ·exact isQ_sat hq
   have := hs ob' (by rw [List.map_reverse]; exact List.mem_reverse.2 hob')
   rcases he with rfl | he
   ·exact this
   ·exact twin_sat he this
  cases ob with
  | eq v e => exact sat
  | eqb v e => exact sat
  | req _ _ => exact hmem _ hob rfl sat
  | lst _ _ _ _ => exact hmem _ hob rfl sat
  | loop _ _ _ _ _ _ _ => exact hmem _ hob rfl sat
  | call pc f args mem res upd =>
   have := List.all_eq_true.1 h3 _ hob
   simp only [Bool.and_eq_true, beq_iff_eq] at this
   obtain ⟨⟨rfl, g1⟩, g2⟩ := this
   exact hcon f args mem res upd g1 g2 (List.all_eq_true.1 h2 _ hob) sat
 ·cases h
theorem good_ok {S : Sig} {shp : FuncId → List LV → List (Nat × Cells) → Bool} {obs : List Ob} (h : goodB P S shp obs = true) (hS : ∀ s l k, R64 (S.val s l k)) (ε0 : Env) (h0 : ∀ i, R64 (ε0.i i)) :
  (∀ v, v < top → (ε0.solve S obs).i v = ε0.i v) ∧ (ε0.solve S obs).sa = ε0.sa ∧ (ε0.solve S obs).sn = ε0.sn ∧ (ε0.solve S obs).sc = ε0.sc ∧ (∀ i, R64 ((ε0.solve S obs).i i)) ∧
   ∀ w0 : World, (∀ f args mem res upd, shp f args mem = true → stdRes P S.sym f args mem = some (res, upd) → rngOb (.call (.blit true) f args mem res upd) = true → Ob.sat S (ε0.solve S obs) (.call (.blit true) f args mem res upd) → Ob.ok P (ε0.solve S obs) w0 (.call (.blit true) f args mem res upd)) →
    ∀ ob ∈ obs, ob.ok P (ε0.solve S obs) w0 := by
 unfold goodB at h
 simp only [Bool.and_eq_true] at h
 obtain ⟨g1, g2, g3, g4, g5, g6, g7⟩ := good_okL h.1 hS ε0 h0
 refine ⟨g1, g2, g3, g4, g6, fun w0 hc => g7 w0 hc fun ob hob hm _ => ?_⟩
 have := List.all_eq_true.1 h.2 ob hob
 rw [hm] at this
 cases this
end SX
end Go.Proofs.Ytdoigcpcponnhaa
end
section
namespace Go.Proofs.Ytdoigcpcponnhaa
namespace SX
open Go.RowKit
variable {P : Program}
def matchSV (p a : SV) (k : Nat) : Bool := match p, a with
 | .a (.int q (.var i)), .a (.int q' _) => i == k && q == q'
 | .a (.fsl i), .a (.fsl j) => i == j
 | _, _ => false
def matchSVs : List SV → List SV → Nat → Bool
 | [], [], _ => true
 | p :: ps, a :: as, k => matchSV p a k && matchSVs ps as (k + 1)
 | _, _, _ => false
def matchLV (p a : LV) (k : Nat) : Bool := match p, a with
 | .v (.agg l), .v (.agg m) => matchSVs l m k
 | .v (.s x), .v (.s y) => matchSV x y k
 | _, _ => false
def sizeLV : LV → Nat
 | .v x => x.cells.length
 | _ => 0
def matchLVs : List LV → List LV → Nat → Bool
 | [], [], _ => true
 | p :: ps, a :: as, k => matchLV p a k && matchLVs ps as (k + sizeLV p)
 | _, _, _ => false
def envL (T : Env) (l : List Int) : Env := { i := fun v => l.getD v 0, b := fun _ => false, sa := T.sa, sn := T.sn, sc := T.sc, st := T.st, el := T.el }
theorem matchSV_ints {p a : SV} {k : Nat} (h : matchSV p a k = true) (ε : Env) : ∃ x, a.ints ε = [x] := by
 unfold matchSV at h
 split at h
 ·exact ⟨_, rfl⟩
 ·exact ⟨_, rfl⟩
 ·cases h
theorem matchSV_den {p a : SV} {k : Nat} (h : matchSV p a k = true) {ε ε' : Env} {ρ ρ' : Nat → Nat} (hs : ε'.sa = ε.sa ∧ ε'.sn = ε.sn ∧ ε'.sc = ε.sc) (hk : ∀ x, a.ints ε = [x] → ε'.i k = x) : p.den ε' ρ' = a.den ε ρ := by
 unfold matchSV at h
 split at h
 ·rename_i q i q' e
  simp only [Bool.and_eq_true, beq_iff_eq] at h
  obtain ⟨rfl, rfl⟩ := h
  simp only [SV.den, AV.den, E.den, hk _ rfl]
 ·simp only [beq_iff_eq] at h
  subst h
  simp only [SV.den, AV.den, hs]
 ·cases h
theorem matchSVs_den {ε ε' : Env} {ρ ρ' : Nat → Nat} (hs : ε'.sa = ε.sa ∧ ε'.sn = ε.sn ∧ ε'.sc = ε.sc) : ∀ {ps as : List SV} {k : Nat} {L : List Int}, matchSVs ps as k = true → (∀ j x, (as.flatMap (SV.ints ε))[j]? = some x → ε'.i (k + j) = x) →
  ps.map (SV.den ε' ρ') = as.map (SV.den ε ρ) ∧ (as.flatMap (SV.ints ε)).length = ps.length
 | [], [], _, _, _, _ => ⟨rfl, rfl⟩
 | p :: ps, a :: as, k, L, h, hk => by
  simp only [matchSVs, Bool.and_eq_true] at h
  obtain ⟨x, hx⟩ := matchSV_ints h.1 ε
  have e1 : p.den ε' ρ' = a.den ε ρ := matchSV_den h.1 hs fun y hy => by
   rw [hx] at hy; cases hy
   have := hk 0 x (by simp [hx])
   simpa using this
  obtain ⟨e2, e3⟩ := matchSVs_den (ρ := ρ) (ρ' := ρ') hs (L := L) h.2 fun j y hj => by
   have := hk (j + 1) y (by simp only [List.flatMap_cons, hx, List.singleton_append, List.getElem?_cons_succ]; exact hj)
   rw [← this]; congr 1; omega
  exact ⟨by simp only [List.map_cons, e1, e2], by simp only [List.flatMap_cons, hx, List.singleton_append, List.length_cons, e3]⟩
 | [], _ :: _, _, _, h, _ => by simp [matchSVs] at h
 | _ :: _, [], _, _, h, _ => by simp [matchSVs] at h
theorem matchLV_den {ε ε' : Env} {ρ ρ' : Nat → Nat} (hs : ε'.sa = ε.sa ∧ ε'.sn = ε.sn ∧ ε'.sc = ε.sc) {p a : LV} {k : Nat} {mem : List (Nat × Cells)} (h : matchLV p a k = true) (hk : ∀ j x, (argInts ε mem a)[j]? = some x → ε'.i (k + j) = x) :
  p.den ε' ρ' = a.den ε ρ ∧ (argInts ε mem a).length = sizeLV p := by
 unfold matchLV at h
 split at h
 ·rename_i l m
  have hk' : ∀ j x, (m.flatMap (SV.ints ε))[j]? = some x → ε'.i (k + j) = x := hk
  obtain ⟨e1, e2⟩ := matchSVs_den (ρ := ρ) (ρ' := ρ') hs (L := []) h hk'
  refine ⟨?_, e2⟩
  simp only [LV.den, V1.den, e1]
 ·rename_i x y
  obtain ⟨n, hn⟩ := matchSV_ints h ε
  have hy : argInts ε mem (.v (.s y)) = y.ints ε := by
   unfold matchSV at h
   split at h
   ·rfl
   ·rfl
   ·cases h
  rw [hy] at hk ⊢
  refine ⟨?_, by rw [hn]; rfl⟩
  simp only [LV.den, V1.den]
  exact matchSV_den h hs fun z hz => by
   have := hk 0 z (by rw [hz]; rfl)
   simpa using this
 ·cases h
theorem matchLVs_den {ε ε' : Env} {ρ ρ' : Nat → Nat} (hs : ε'.sa = ε.sa ∧ ε'.sn = ε.sn ∧ ε'.sc = ε.sc) {mem : List (Nat × Cells)} : ∀ {ps as : List LV} {k : Nat}, matchLVs ps as k = true → (∀ j x, (as.flatMap (argInts ε mem))[j]? = some x → ε'.i (k + j) = x) →
  ps.map (LV.den ε' ρ') = as.map (LV.den ε ρ)
 | [], [], _, _, _ => rfl
 | p :: ps, a :: as, k, h, hk => by
  simp only [matchLVs, Bool.and_eq_true] at h
  have hk1 : ∀ j x, (argInts ε mem a)[j]? = some x → ε'.i (k + j) = x := fun j x hj => hk j x (by
   rw [List.flatMap_cons, List.getElem?_append_left (List.getElem?_eq_some_iff.1 hj).1]; exact hj)
  obtain ⟨e1, e2⟩ := matchLV_den (ρ := ρ) (ρ' := ρ') hs h.1 hk1
  simp only [List.map_cons, e1]
  rw [matchLVs_den (ρ := ρ) (ρ' := ρ') hs (mem := mem) h.2 fun j x hj => by
   have := hk (sizeLV p + j) x (by
    rw [List.flatMap_cons, List.getElem?_append_right (by omega), e2, show sizeLV p + j - sizeLV p = j by omega]; exact hj)
   rw [← this]; congr 1; omega]
 | [], _ :: _, _, h, _ => by simp [matchLVs] at h
 | _ :: _, [], _, h, _ => by simp [matchLVs] at h
def sizeLVs : List LV → Nat
 | [] => 0
 | p :: ps => sizeLV p + sizeLVs ps
theorem matchSVs_len (ε : Env) : ∀ {ps as : List SV} {k : Nat}, matchSVs ps as k = true → (as.flatMap (SV.ints ε)).length = ps.length
 | [], [], _, _ => rfl
 | p :: ps, a :: as, k, h => by
  simp only [matchSVs, Bool.and_eq_true] at h
  obtain ⟨x, hx⟩ := matchSV_ints h.1 ε
  simp only [List.flatMap_cons, hx, List.singleton_append, List.length_cons, matchSVs_len ε h.2]
 | [], _ :: _, _, h => by simp [matchSVs] at h
 | _ :: _, [], _, h => by simp [matchSVs] at h
theorem matchLV_len (ε : Env) {mem : List (Nat × Cells)} {p a : LV} {k : Nat} (h : matchLV p a k = true) : (argInts ε mem a).length = sizeLV p ∧ argInts ε mem a = argInts ε [] a := by
 unfold matchLV at h
 split at h
 ·rename_i l m
  exact ⟨matchSVs_len ε h, rfl⟩
 ·rename_i x y
  obtain ⟨n, hn⟩ := matchSV_ints h ε
  have hy : ∀ mem, argInts ε mem (.v (.s y)) = y.ints ε := fun mem => by
   unfold matchSV at h
   split at h
   ·rfl
   ·rfl
   ·cases h
  rw [hy, hy]
  exact ⟨by rw [hn]; rfl, rfl⟩
 ·cases h
theorem matchLVs_len (ε : Env) {mem : List (Nat × Cells)} : ∀ {ps as : List LV} {k : Nat}, matchLVs ps as k = true → (as.flatMap (argInts ε mem)).length = sizeLVs ps ∧ as.flatMap (argInts ε mem) = as.flatMap (argInts ε [])
 | [], [], _, _ => ⟨rfl, rfl⟩
 | p :: ps, a :: as, k, h => by
  simp only [matchLVs, Bool.and_eq_true] at h
  obtain ⟨e1, e2⟩ := matchLV_len ε (mem := mem) h.1
  obtain ⟨e3, e4⟩ := matchLVs_len ε (mem := mem) h.2
  exact ⟨by simp only [List.flatMap_cons, List.length_append, e1, e3, sizeLVs], by simp only [List.flatMap_cons, e2, e4]⟩
 | [], _ :: _, _, h => by simp [matchLVs] at h
 | _ :: _, [], _, h => by simp [matchLVs] at h
def Con (P : Program) (S : Sig) (shp : FuncId → List LV → List (Nat × Cells) → Bool) (T : Env) (w0 : World) : Prop :=
 ∀ (ε : Env), ε.sa = T.sa → ε.sn = T.sn → ε.sc = T.sc → (∀ i, R64 (ε.i i)) → ∀ w, Below w0.heap.size w0 w → ∀ f args mem res upd, shp f args mem = true → stdRes P S.sym f args mem = some (res, upd) →
  rngOb (.call (.blit true) f args mem res upd) = true → Ob.sat S ε (.call (.blit true) f args mem res upd) → Ob.ok P ε w (.call (.blit true) f args mem res upd)
theorem R64_0 : R64 0 := by unfold R64; omega
theorem envL_R64 {T : Env} {l : List Int} (h : ∀ x ∈ l, R64 x) (i : Nat) : R64 ((envL T l).i i) := by
 show R64 (l.getD i 0)
 rw [List.getD_eq_getElem?_getD]
 cases hi : l[i]? with
 | none => exact R64_0
 | some x => exact h x (List.mem_of_getElem? hi)
theorem law_true (hmix : P.follows .mixedOrders = true) {S : Sig} {shp : FuncId → List LV → List (Nat × Cells) → Bool} {K : Cfg} {n sp : Nat} (hsp : 0 < sp) {f : FuncId} {args : List LV} {nv nid : Nat}
  (h : (match evFn P K n sp f args [] (.blit true) nv nid with | some (v, _, _, obs) => v == .v (.s (.a (.bool (.blit true)))) && goodB P S shp obs | none => false) = true) (ha : noIds args = true)
  (hS : ∀ s l k, R64 (S.val s l k)) {T : Env} {w : World} (hc : Con P S shp T w) (ε0 : Env) (h0 : ∀ i, R64 (ε0.i i)) (hT : ε0.sa = T.sa ∧ ε0.sn = T.sn ∧ ε0.sc = T.sc) (hv : ∀ x ∈ args, ∀ ε : Env, (∀ v, v < top → ε.i v = ε0.i v) → ε.sa = ε0.sa → ε.sn = ε0.sn → ε.sc = ε0.sc → x.den ε (fun _ => 0) = x.den ε0 (fun _ => 0)) :
  Calls P f (args.map (LV.den ε0 fun _ => 0)).toArray w (fun e w' => e = .returned (.bool true) ∧ Below w.heap.size w w') := by
 split at h
 ·rename_i v s nv' obs he
  simp only [Bool.and_eq_true, beq_iff_eq] at h
  obtain ⟨rfl, hg⟩ := h
  obtain ⟨g1, g2, g3, g4, g5, g6⟩ := good_ok hg hS ε0 h0
  have := reads4 hmix hsp he ha rfl (ε0.solve S obs) w (g6 w (hc _ (g2.trans hT.1) (g3.trans hT.2.1) (g4.trans hT.2.2) g5 w (Below.refl _ _)))
  rw [List.map_congr_left fun x hx => hv x hx _ g1 g2 g3 g4] at this
  exact this
 ·cases h
def rd (P : Program) (K : Cfg) (n sp : Nat) (f : FuncId) (pat : List LV) (mem : List (Nat × Cells)) : LV × St × List Ob := match evFn P K n sp f pat mem (.blit true) 0 1 with
 | some (v, s, _, obs) => (v, s, obs)
 | none => (.bad, ⟨[], [], []⟩, [])
theorem rd_some {K : Cfg} {n sp : Nat} {f : FuncId} {pat : List LV} {mem : List (Nat × Cells)} (h : (rd P K n sp f pat mem).1 ≠ .bad) : ∃ nv', evFn P K n sp f pat mem (.blit true) 0 1 = some ((rd P K n sp f pat mem).1, (rd P K n sp f pat mem).2.1, nv', (rd P K n sp f pat mem).2.2) := by
 unfold rd at h ⊢
 split
 ·rename_i v s nv obs he
  exact ⟨nv, he⟩
 ·rename_i he
  rw [he] at h
  exact absurd rfl h
def intE : LV → E
 | .v (.s (.a (.int .i64 e))) => e
 | _ => .lit 0
def isIntLV : LV → Bool
 | .v (.s (.a (.int .i64 _))) => true
 | _ => false
def clampI (n : Int) : Int := if -9223372036854775808 ≤ n ∧ n ≤ 9223372036854775807 then n else 0
theorem clampI_R64 (n : Int) : R64 (clampI n) := by unfold clampI R64; split <;> omega
theorem clampI_eq {n : Int} (h : R64 n) : clampI n = n := if_pos h
def pairI (P : Program) (S : Sig) (shp : FuncId → List LV → List (Nat × Cells) → Bool) (K : Cfg) (n sp : Nat) (f g : FuncId) (pat : List LV) : Bool :=
 goodB P S shp ((rd P K n sp f pat []).2.2 ++ (rd P K n sp g pat []).2.2) && isIntLV (rd P K n sp f pat []).1 && isIntLV (rd P K n sp g pat []).1 && noIds pat &&
  (mkEq 200 (intE (rd P K n sp f pat []).1) (intE (rd P K n sp g pat []).1) == .blit true) && rngE (intE (rd P K n sp f pat []).1)
theorem base32 (s : Nat) (args : List LV) (mem : List (Nat × Cells)) : callBase s args mem / 32 * 32 = callBase s args mem := by
 unfold callBase; omega
theorem pairI_con {S0 S : Sig} {shp0 : FuncId → List LV → List (Nat × Cells) → Bool} {K : Cfg} {n sp : Nat} (hmix : P.follows .mixedOrders = true) (hsp : 0 < sp) {f g : FuncId} {pat : List LV} (h : pairI P S0 shp0 K n sp f g pat = true) (hsz : sizeLVs pat < top)
  (hS0 : ∀ s l k, R64 (S0.val s l k)) {T : Env} {w0 : World} (hc : Con P S0 shp0 T w0) {s : Nat} (hval : ∀ L, S.val s L 0 = clampI ((intE (rd P K n sp f pat []).1).den ((envL T (L.map clampI)).solve S0 ((rd P K n sp f pat []).2.2 ++ (rd P K n sp g pat []).2.2))).1)
  {q : FuncId} (hq : q = f ∨ q = g) (hs : S.sym q = some (s, 0)) {fn : Func} (hfn : P.funcs[q]? = some fn) (hres : ∀ base, ∃ m, nameRes P fn base = some (.v (.s (.a (.int .i64 (.var base)))), m))
  (ε : Env) (ht : ε.sa = T.sa ∧ ε.sn = T.sn ∧ ε.sc = T.sc) {w : World} (hw : Below w0.heap.size w0 w) {args : List LV} {mem : List (Nat × Cells)} {res : LV} {upd : List (Nat × Cells)} (hm : matchLVs pat args 0 = true) (hR : ∀ x ∈ args.flatMap (argInts ε []), R64 x)
  (hstd : stdRes P S.sym q args mem = some (res, upd)) (hsat : Ob.sat S ε (.call (.blit true) q args mem res upd)) : Ob.ok P ε w (.call (.blit true) q args mem res upd) := by
 unfold pairI at h
 simp only [Bool.and_eq_true, beq_iff_eq] at h
 obtain ⟨⟨⟨⟨⟨g1, g2⟩, g3⟩, g4⟩, g5⟩, g6⟩ := h
 have hres' : res = .v (.s (.a (.int .i64 (.var (callBase s args mem))))) ∧ upd = [] := by
  unfold stdRes at hstd
  rw [hs, hfn] at hstd
  obtain ⟨m, hm⟩ := hres (callBase s args mem)
  simp [stdVal, hm] at hstd
  exact ⟨hstd.1.symm, hstd.2⟩
 obtain ⟨rfl, rfl⟩ := hres'
 obtain ⟨l1, l2⟩ := matchLVs_len ε (mem := mem) hm
 obtain ⟨L, hL⟩ : ∃ L, args.flatMap (argInts ε mem) = L := ⟨_, rfl⟩
 rw [hL] at l1 l2
 have hclamp : L.map clampI = L := by
  conv => rhs; rw [← List.map_id L]
  exact List.map_congr_left fun x hx => clampI_eq (hR x (l2 ▸ hx))
 have hcn : callNo S q args mem = some (callBase s args mem / 32, s, args) := by
  unfold callNo
  rw [hs]
  rfl
 have hv := (hsat _ _ _ hcn 0 (by omega)).1
 rw [base32, Nat.add_zero, hL, hval, hclamp] at hv
 have hE : ∀ i, R64 ((envL T L).i i) := envL_R64 fun x hx => hR x (l2 ▸ hx)
 obtain ⟨e1, e2, e3, e4, e5, e6⟩ := good_ok g1 hS0 (envL T L) hE
 generalize (envL T L).solve S0 ((rd P K n sp f pat []).2.2 ++ (rd P K n sp g pat []).2.2) = εs at hv e1 e2 e3 e4 e5 e6
 have hob := fun w hw => e6 w (hc εs e2 e3 e4 e5 w hw)
 have hden : ∀ ρ : Nat → Nat, pat.map (LV.den εs fun _ => 0) = args.map (LV.den ε ρ) := fun ρ =>
  matchLVs_den ⟨e2.trans ht.1.symm, e3.trans ht.2.1.symm, e4.trans ht.2.2.symm⟩ (mem := mem) hm fun j x hj => by
   rw [hL] at hj
   have hlt := (List.getElem?_eq_some_iff.1 hj).1
   rw [Nat.zero_add, e1 j (by omega)]
   show L.getD j 0 = x
   rw [List.getD_eq_getElem?_getD, hj]; rfl
 have eqE : ((intE (rd P K n sp g pat []).1).den εs).1 = ((intE (rd P K n sp f pat []).1).den εs).1 := by
  have := congrArg (fun x => (E.den εs x).2) g5
  simp only [mkEq_den, E.den, beq_iff_eq] at this
  exact this.symm
 have hrng : R64 ((intE (rd P K n sp f pat []).1).den εs).1 := rngE_spec e5 g6
 rw [clampI_eq hrng] at hv
 intro _ w2 ρ hw2 _ _
 have int_of : ∀ {v : LV}, isIntLV v = true → v ≠ .bad ∧ v.ids = [] ∧ ∀ ε ρ, v.den ε ρ = .int .i64 ((intE v).den ε).1 := by
  intro v hv
  unfold isIntLV at hv
  split at hv
  ·exact ⟨by simp, rfl, fun _ _ => rfl⟩
  ·cases hv
 have fin : ∀ {e : Ending} {w' : World} {x : Int}, x = ε.i (callBase s args mem) → e = .returned (.int .i64 x) ∧ Below w2.heap.size w2 w' → e = .returned ((LV.v (.s (.a (.int .i64 (.var (callBase s args mem)))))).den ε ρ) ∧ (∀ u ∈ ([] : List (Nat × Cells)), Blk ε ρ w.heap.size w' u.1 u.2) ∧ Ext w2 w' (fun x => ∃ u ∈ ([] : List (Nat × Cells)), ρ u.1 = x) := by
  intro e w' x hx ⟨h1, h2⟩
  subst hx
  exact ⟨h1, by simp, Ext.of_below h2 _⟩
 have hb2 : Below w0.heap.size w0 w2 := hw.trans (hw2.mono hw.size)
 rcases hq with rfl | rfl
 ·obtain ⟨i1, i2, i3⟩ := int_of g2
  obtain ⟨nv', hev⟩ := rd_some i1
  have := reads4 hmix hsp hev g4 (by rw [i2]; rfl) εs w2 (fun ob hb => hob w2 hb2 ob (List.mem_append_left _ hb))
  rw [hden ρ, i3] at this
  exact this.mono fun e w' h => fin hv.symm h
 ·obtain ⟨i1, i2, i3⟩ := int_of g3
  obtain ⟨nv', hev⟩ := rd_some i1
  have := reads4 hmix hsp hev g4 (by rw [i2]; rfl) εs w2 (fun ob hb => hob w2 hb2 ob (List.mem_append_right _ hb))
  rw [hden ρ, i3, eqE] at this
  exact this.mono fun e w' h => fin hv.symm h
def spE0 : LV → E
 | .v (.agg [.a (.int .i64 a), .a (.int .i64 _)]) => a
 | _ => .lit 0
def spE1 : LV → E
 | .v (.agg [.a (.int .i64 _), .a (.int .i64 b)]) => b
 | _ => .lit 0
def isSp : LV → Bool
 | .v (.agg [.a (.int .i64 _), .a (.int .i64 _)]) => true
 | _ => false
def cellE (s : St) : E := match s.at 0 with
 | some [some (.a (.int .i64 e))] => e
 | _ => .lit 0
def isCell (s : St) : Bool := match s.at 0 with
 | some [some (.a (.int .i64 _))] => true
 | _ => false
def memP : List (Nat × Cells) := [(0, [some (.a (.int .i64 (.var 0)))])]
def ptrP (rest : List LV) : List LV := .v (.s (.a (.ptr 0 0))) :: rest
def wrOk (s : St) : Bool := s.wr.all fun b => !(memP.lookup b).isSome || [0].contains b
def zeroB (e x : E) : Bool := mkIte (mkEq 200 e (.lit 0)) x (.lit 0) == x
def pairM (P : Program) (S : Sig) (shp : FuncId → List LV → List (Nat × Cells) → Bool) (K : Cfg) (n sp : Nat) (f g : FuncId) (rest : List LV) : Bool :=
 goodB P S shp ((rd P K n sp f (ptrP rest) memP).2.2 ++ (rd P K n sp g (ptrP rest) memP).2.2) &&
  isSp (rd P K n sp f (ptrP rest) memP).1 && isSp (rd P K n sp g (ptrP rest) memP).1 && isCell (rd P K n sp f (ptrP rest) memP).2.1 && isCell (rd P K n sp g (ptrP rest) memP).2.1 &&
  wrOk (rd P K n sp f (ptrP rest) memP).2.1 && wrOk (rd P K n sp g (ptrP rest) memP).2.1 && noIds rest &&
  (mkEq 200 (spE0 (rd P K n sp f (ptrP rest) memP).1) (spE0 (rd P K n sp g (ptrP rest) memP).1) == .blit true) &&
  (mkEq 200 (spE1 (rd P K n sp f (ptrP rest) memP).1) (spE1 (rd P K n sp g (ptrP rest) memP).1) == .blit true) &&
  (mkEq 200 (cellE (rd P K n sp f (ptrP rest) memP).2.1) (cellE (rd P K n sp g (ptrP rest) memP).2.1) == .blit true) &&
  rngE (spE0 (rd P K n sp f (ptrP rest) memP).1) && rngE (spE1 (rd P K n sp f (ptrP rest) memP).1) && rngE (cellE (rd P K n sp f (ptrP rest) memP).2.1) &&
  zeroB (cellE (rd P K n sp f (ptrP rest) memP).2.1) (spE0 (rd P K n sp f (ptrP rest) memP).1) && zeroB (cellE (rd P K n sp f (ptrP rest) memP).2.1) (spE1 (rd P K n sp f (ptrP rest) memP).1)
def shpM (rest : List LV) (args : List LV) (mem : List (Nat × Cells)) : Bool := match args, mem with
 | .v (.s (.a (.ptr b 0))) :: as, [(b', [some (.a (.int .i64 e))])] => b == b' && matchLVs rest as 1 && rngE e
 | _, _ => false
theorem zeroB_den {e x : E} (h : zeroB e x = true) (ε : Env) : (x.den ε).1 = if (e.den ε).1 = 0 then (x.den ε).1 else 0 := by
 have := congrArg (fun y => (E.den ε y).1) (eq_of_beq h)
 simp only [mkIte_den, mkEq_den, E.den, beq_iff_eq] at this
 exact this.symm
theorem eqB_den {x y : E} (h : mkEq 200 x y = .blit true) (ε : Env) : (y.den ε).1 = (x.den ε).1 := by
 have := congrArg (fun z => (E.den ε z).2) h
 simp only [mkEq_den, E.den, beq_iff_eq] at this
 exact this.symm
theorem isSp_den {v : LV} (h : isSp v = true) : v ≠ .bad ∧ v.ids = [] ∧ ∀ ε ρ, v.den ε ρ = .agg #[.int .i64 ((spE0 v).den ε).1, .int .i64 ((spE1 v).den ε).1] := by
 unfold isSp at h
 split at h
 ·exact ⟨by simp, rfl, fun _ _ => rfl⟩
 ·cases h
theorem isCell_at {s : St} (h : isCell s = true) : s.at 0 = some [some (.a (.int .i64 (cellE s)))] := by
 unfold isCell at h
 split at h
 ·rename_i e he; unfold cellE; rw [he]
 ·cases h
theorem pairM_con {S0 S : Sig} {shp0 : FuncId → List LV → List (Nat × Cells) → Bool} {K : Cfg} {n sp : Nat} (hmix : P.follows .mixedOrders = true) (hsp : 0 < sp) {f g : FuncId} {rest : List LV} (h : pairM P S0 shp0 K n sp f g rest = true) (hsz : sizeLVs rest + 1 < top)
  (hS0 : ∀ s l k, R64 (S0.val s l k)) {T : Env} {w0 : World} (hc : Con P S0 shp0 T w0) {s : Nat}
  (hval0 : ∀ L, S.val s L 0 = clampI ((spE0 (rd P K n sp f (ptrP rest) memP).1).den ((envL T (L.map clampI)).solve S0 ((rd P K n sp f (ptrP rest) memP).2.2 ++ (rd P K n sp g (ptrP rest) memP).2.2))).1)
  (hval1 : ∀ L, S.val s L 1 = clampI ((spE1 (rd P K n sp f (ptrP rest) memP).1).den ((envL T (L.map clampI)).solve S0 ((rd P K n sp f (ptrP rest) memP).2.2 ++ (rd P K n sp g (ptrP rest) memP).2.2))).1)
  (hval2 : ∀ L, S.val s L 31 = clampI ((cellE (rd P K n sp f (ptrP rest) memP).2.1).den ((envL T (L.map clampI)).solve S0 ((rd P K n sp f (ptrP rest) memP).2.2 ++ (rd P K n sp g (ptrP rest) memP).2.2))).1)
  {q : FuncId} (hq : q = f ∨ q = g) (hs : S.sym q = some (s, 3)) {fn : Func} (hfn : P.funcs[q]? = some fn) (hres : ∀ base, ∃ m, nameRes P fn base = some (.v (.agg [.a (.int .i64 (.var base)), .a (.int .i64 (.var (base + 1)))]), m))
  (ε : Env) (ht : ε.sa = T.sa ∧ ε.sn = T.sn ∧ ε.sc = T.sc) (hε : ∀ i, R64 (ε.i i)) {w : World} (hw : Below w0.heap.size w0 w) {args : List LV} {mem : List (Nat × Cells)} {res : LV} {upd : List (Nat × Cells)} (hm : shpM rest args mem = true) (hR : ∀ x ∈ args.flatMap (argInts ε []), R64 x)
  (hstd : stdRes P S.sym q args mem = some (res, upd)) (hsat : Ob.sat S ε (.call (.blit true) q args mem res upd)) : Ob.ok P ε w (.call (.blit true) q args mem res upd) := by
 unfold pairM at h
 simp only [Bool.and_eq_true, beq_iff_eq] at h
 obtain ⟨⟨⟨⟨⟨⟨⟨⟨⟨⟨⟨⟨⟨⟨⟨g1, g2⟩, g3⟩, g4⟩, g5⟩, g6⟩, g7⟩, g8⟩, g9⟩, g10⟩, g11⟩, g12⟩, g13⟩, g14⟩, g15⟩, g16⟩ := h
 unfold shpM at hm
 split at hm
 case h_2 => cases hm
 rename_i b as b' e
 simp only [Bool.and_eq_true, beq_iff_eq] at hm
 obtain ⟨⟨rfl, hm⟩, hre⟩ := hm
 have hca : callArgs 3 (.v (.s (.a (.ptr b 0))) :: as) [(b, [some (.a (.int .i64 e))])] = .v (.s (.a (.int .i64 e))) :: as := by
  simp [callArgs, List.lookup]
 obtain ⟨base, hbase⟩ : ∃ base, callBase s (.v (.s (.a (.int .i64 e))) :: as) [(b, [some (.a (.int .i64 e))])] = base := ⟨_, rfl⟩
 have hb32 : base / 32 * 32 = base := by rw [← hbase]; exact base32 _ _ _
 have hres' : res = .v (zeroLess1 (.var (base + 31)) (.agg [.a (.int .i64 (.var base)), .a (.int .i64 (.var (base + 1)))])) ∧ upd = [(b, [some (.a (.int .i64 (.var (base + 31))))])] := by
  unfold stdRes at hstd
  rw [hs, hfn] at hstd
  obtain ⟨m, hmm⟩ := hres base
  have hlk : List.lookup b [(b, [some (SV.a (.int .i64 e))])] = some [some (SV.a (.int .i64 e))] := by simp [List.lookup]
  simp only [hlk, hbase, hmm, beq_self_eq_true, if_true, show ((3 : Nat) == 4) = false from rfl, Bool.false_eq_true, if_false, Option.some.injEq, Prod.mk.injEq] at hstd
  exact ⟨hstd.1.symm, hstd.2.symm⟩
 obtain ⟨rfl, rfl⟩ := hres'
 obtain ⟨l1, l2⟩ := matchLVs_len ε (mem := [(b, [some (.a (.int .i64 e))])]) hm
 obtain ⟨L, hL⟩ : ∃ L, as.flatMap (argInts ε [(b, [some (.a (.int .i64 e))])]) = L := ⟨_, rfl⟩
 rw [hL] at l1 l2
 have hRL : ∀ x ∈ (e.den ε).1 :: L, R64 x := fun x hx => by
  rcases List.mem_cons.1 hx with rfl | hx
  ·exact rngE_spec hε hre
  ·refine hR x ?_
   rw [List.flatMap_cons]
   exact List.mem_append_right _ (l2 ▸ hx)
 have hclamp : ((e.den ε).1 :: L).map clampI = (e.den ε).1 :: L := by
  conv => rhs; rw [← List.map_id ((e.den ε).1 :: L)]
  exact List.map_congr_left fun x hx => clampI_eq (hRL x hx)
 have hcn : callNo S q (.v (.s (.a (.ptr b 0))) :: as) [(b, [some (.a (.int .i64 e))])] = some (base / 32, s, .v (.s (.a (.int .i64 e))) :: as) := by
  unfold callNo
  rw [hs]
  dsimp only
  rw [hca, hbase]
 have hsat' := hsat _ _ _ hcn
 have hLL : (LV.v (.s (.a (.int .i64 e))) :: as).flatMap (argInts ε [(b, [some (.a (.int .i64 e))])]) = (e.den ε).1 :: L := by
  rw [List.flatMap_cons, hL]; rfl
 rw [hLL] at hsat'
 have hv0 := (hsat' 0 (by omega)).1
 have hv1 := (hsat' 1 (by omega)).1
 have hv2 := (hsat' 31 (by omega)).1
 rw [hb32, Nat.add_zero, hval0, hclamp] at hv0
 rw [hb32, hval1, hclamp] at hv1
 rw [hb32, hval2, hclamp] at hv2
 obtain ⟨e1, e2, e3, e4, e5, e6⟩ := good_ok g1 hS0 (envL T ((e.den ε).1 :: L)) (envL_R64 hRL)
 generalize (envL T ((e.den ε).1 :: L)).solve S0 ((rd P K n sp f (ptrP rest) memP).2.2 ++ (rd P K n sp g (ptrP rest) memP).2.2) = εs at hv0 hv1 hv2 e1 e2 e3 e4 e5 e6
 have hob := e6 w (hc εs e2 e3 e4 e5 w hw)
 have hi0 : εs.i 0 = (e.den ε).1 := e1 0 (by unfold top; omega)
 have hden : ∀ ρ ρ' : Nat → Nat, rest.map (LV.den εs ρ') = as.map (LV.den ε ρ) := fun ρ ρ' =>
  matchLVs_den ⟨e2.trans ht.1.symm, e3.trans ht.2.1.symm, e4.trans ht.2.2.symm⟩ (mem := [(b, [some (.a (.int .i64 e))])]) hm fun j x hj => by
   rw [hL] at hj
   have hlt := (List.getElem?_eq_some_iff.1 hj).1
   rw [e1 (1 + j) (by omega)]
   show ((e.den ε).1 :: L).getD (1 + j) 0 = x
   rw [Nat.add_comm, List.getD_cons_succ, List.getD_eq_getElem?_getD, hj]; rfl
 rw [clampI_eq (rngE_spec e5 g12)] at hv0
 rw [clampI_eq (rngE_spec e5 g13)] at hv1
 rw [clampI_eq (rngE_spec e5 g14)] at hv2
 have hz0 := zeroB_den g15 εs
 have hz1 := zeroB_den g16 εs
 -- a reading of one of them
 have one : ∀ (q : FuncId) (r : LV × St × List Ob), rd P K n sp q (ptrP rest) memP = r → isSp r.1 = true → isCell r.2.1 = true → wrOk r.2.1 = true → (∀ ob ∈ r.2.2, ob.ok P εs w) →
   ((spE0 r.1).den εs).1 = ((spE0 (rd P K n sp f (ptrP rest) memP).1).den εs).1 → ((spE1 r.1).den εs).1 = ((spE1 (rd P K n sp f (ptrP rest) memP).1).den εs).1 → ((cellE r.2.1).den εs).1 = ((cellE (rd P K n sp f (ptrP rest) memP).2.1).den εs).1 →
   Ob.ok P ε w (.call (.blit true) q (.v (.s (.a (.ptr b 0))) :: as) [(b, [some (.a (.int .i64 e))])] (.v (zeroLess1 (.var (base + 31)) (.agg [.a (.int .i64 (.var base)), .a (.int .i64 (.var (base + 1)))]))) [(b, [some (.a (.int .i64 (.var (base + 31))))])]) := by
  intro q r hr h1 h2 h3 hobs k0 k1 k2
  subst hr
  obtain ⟨i1, i2, i3⟩ := isSp_den h1
  obtain ⟨nv', hev⟩ := rd_some i1
  have c := reads_ob hmix hsp hev (upd := [(0, [some (.a (.int .i64 (cellE (rd P K n sp q (ptrP rest) memP).2.1)))])]) (by
    unfold ptrP
    simp only [List.all_cons, notBad, Bool.true_and]
    rw [List.all_eq_true]
    intro x hx
    have := List.all_eq_true.1 g8 x hx
    cases x with
    | bad => simp at this
    | v _ => rfl
    | tup _ => rfl) (by simp [memP]) (by rw [i2]; rfl) (h3) (by
    simp only [List.all_cons, List.all_nil, Bool.and_true, isCell_at h2, beq_self_eq_true]
    simp [Cells.ids, SV.ids, AV.ids]) εs w hobs
  intro _ w2 ρ hw2 hblk hinj
  have hB := hblk b [some (.a (.int .i64 e))] (by simp [List.lookup])
  have hBs : ∀ (b' : Nat) cs, memP.lookup b' = some cs → Blk εs (fun _ => ρ b) w.heap.size w2 b' cs := fun b' cs hb => by
   unfold memP at hb
   simp only [List.lookup] at hb
   split at hb
   ·cases hb
    obtain ⟨q1, q2, q3⟩ := hB
    refine ⟨q1, q2, fun j c hj => ?_⟩
    cases j with
    | zero =>
     simp only [List.getElem?_cons_zero, Option.some.injEq] at hj
     subst hj
     obtain ⟨v, w1, w2, w3⟩ := q3 0 _ rfl
     refine ⟨v, w1, w2, fun s hs => ?_⟩
     cases hs
     rw [w3 _ rfl]
     simp only [SV.den, AV.den, E.den, hi0]
    | succ j => simp at hj
   ·cases hb
  have hcall := c rfl w2 (fun _ => ρ b) hw2 hBs (fun b1 b2 h1 h2 _ => by
   have z : ∀ b, (memP.lookup b).isSome = true → b = 0 := fun b hb => by
    unfold memP at hb
    simp only [List.lookup] at hb
    split at hb
    ·rename_i hh; simpa using hh
    ·cases hb
   rw [z b1 h1, z b2 h2])
  have hargs : (ptrP rest).map (LV.den εs fun _ => ρ b) = (LV.v (.s (.a (.ptr b 0))) :: as).map (LV.den ε ρ) := by
   unfold ptrP
   simp only [List.map_cons, hden ρ]
   rfl
  rw [hargs] at hcall
  refine hcall.mono fun e' w' ⟨f1, f2, f3⟩ => ⟨?_, ?_, ?_⟩
  ·rw [f1, i3, k0, k1]
   congr 1
   show _ = Value.agg #[.int .i64 ((mkIte (mkEq 200 (.var (base + 31)) (.lit 0)) (.var base) (.lit 0)).den ε).1, .int .i64 ((mkIte (mkEq 200 (.var (base + 31)) (.lit 0)) (.var (base + 1)) (.lit 0)).den ε).1]
   simp only [mkIte_den, mkEq_den, E.den, hv0, hv1, hv2, beq_iff_eq]
   rw [← hz0, ← hz1]
  ·simp only [List.mem_singleton, forall_eq]
   have := f2 _ (List.mem_singleton.2 rfl)
   obtain ⟨q1, q2, q3⟩ := this
   refine ⟨q1, q2, fun j c hj => ?_⟩
   cases j with
   | zero =>
    simp only [List.getElem?_cons_zero, Option.some.injEq] at hj
    subst hj
    obtain ⟨v, w1, w2, w3⟩ := q3 0 _ rfl
    refine ⟨v, w1, w2, fun s hs => ?_⟩
    cases hs
    rw [w3 _ rfl]
    simp only [SV.den, AV.den, E.den, hv2, k2]
   | succ j => simp at hj
  ·refine f3.mono ?_
   rintro x hx ⟨u, hu, hx⟩
   exact ⟨_, List.mem_singleton.2 rfl, hx⟩
 rcases hq with rfl | rfl
 ·exact one q _ rfl g2 g4 g6 (fun ob hb => hob ob (List.mem_append_left _ hb)) rfl rfl rfl
 ·exact one q _ rfl g3 g5 g7 (fun ob hb => hob ob (List.mem_append_right _ hb)) (eqB_den g9 εs) (eqB_den g10 εs) (eqB_den g11 εs)
end SX
end Go.Proofs.Ytdoigcpcponnhaa
end
section
namespace Go.Proofs.Ytdoigcpcponnhaa
namespace SX
open Go.RowKit
variable {P : Program}
def fsl0 : SV → Bool
 | .a (.fsl i) => i == 0
 | _ => true
theorem matchSV_R64 {ε : Env} (hε : ∀ i, R64 (ε.i i)) {p a : SV} {k : Nat} (h : matchSV p a k = true) (hr : rngSV a = true) (hp : fsl0 p = true) : ∀ x ∈ a.ints ε, R64 x := by
 unfold matchSV at h
 split at h
 ·intro x hx
  simp only [SV.ints, List.mem_singleton] at hx
  subst hx
  exact rngE_spec hε hr
 ·simp only [beq_iff_eq] at h
  subst h
  intro x hx
  simp only [fsl0, beq_iff_eq] at hp
  subst hp
  simp only [SV.ints, List.mem_singleton] at hx
  subst hx
  exact R64_0
 ·cases h
theorem matchSVs_R64 {ε : Env} (hε : ∀ i, R64 (ε.i i)) : ∀ {ps as : List SV} {k : Nat}, matchSVs ps as k = true → as.all rngSV = true → ps.all fsl0 = true → ∀ x ∈ as.flatMap (SV.ints ε), R64 x
 | [], [], _, _, _, _, x, hx => by simp at hx
 | p :: ps, a :: as, k, h, hr, hp, x, hx => by
  simp only [matchSVs, Bool.and_eq_true] at h
  simp only [List.all_cons, Bool.and_eq_true] at hr hp
  rw [List.flatMap_cons] at hx
  rcases List.mem_append.1 hx with hx | hx
  ·exact matchSV_R64 hε h.1 hr.1 hp.1 x hx
  ·exact matchSVs_R64 hε h.2 hr.2 hp.2 x hx
 | [], _ :: _, _, h, _, _, _, _ => by simp [matchSVs] at h
 | _ :: _, [], _, h, _, _, _, _ => by simp [matchSVs] at h
def fsl0LV : LV → Bool
 | .v x => x.cells.all fsl0
 | _ => false
def rngLV : LV → Bool := fun x => match x with | .v v => v.cells.all rngSV | _ => false
theorem matchLVs_R64 {ε : Env} (hε : ∀ i, R64 (ε.i i)) : ∀ {ps as : List LV} {k : Nat}, matchLVs ps as k = true → as.all rngLV = true → ps.all fsl0LV = true → ∀ x ∈ as.flatMap (argInts ε []), R64 x
 | [], [], _, _, _, _, x, hx => by simp at hx
 | p :: ps, a :: as, k, h, hr, hp, x, hx => by
  simp only [matchLVs, Bool.and_eq_true] at h
  simp only [List.all_cons, Bool.and_eq_true] at hr hp
  rw [List.flatMap_cons] at hx
  rcases List.mem_append.1 hx with hx1 | hx1
  ·have h1 := h.1
   unfold matchLV at h1
   split at h1
   ·exact matchSVs_R64 hε h1 hr.1 hp.1 x hx1
   ·rename_i y z
    have hz : argInts ε [] (.v (.s z)) = z.ints ε := by
     unfold matchSV at h1
     split at h1
     ·rfl
     ·rfl
     ·cases h1
    rw [hz] at hx1
    have hr1 : rngSV z = true := by have := hr.1; simpa [rngLV, V1.cells] using this
    have hp1 : fsl0 y = true := by have := hp.1; simpa [fsl0LV, V1.cells] using this
    exact matchSV_R64 hε h1 hr1 hp1 x hx1
   ·cases h1
  ·exact matchLVs_R64 hε h.2 hr.2 hp.2 x hx1
 | [], _ :: _, _, h, _, _, _, _ => by simp [matchLVs] at h
 | _ :: _, [], _, h, _, _, _, _ => by simp [matchLVs] at h
theorem rngOb_args {pc : E} {f : FuncId} {args : List LV} {mem : List (Nat × Cells)} {res : LV} {upd : List (Nat × Cells)} (h : rngOb (.call pc f args mem res upd) = true) : args.all rngLV = true := by
 simp only [rngOb, Bool.and_eq_true] at h
 exact h.1
theorem base_common {S : Sig} {pat : List LV} {q s z : Nat} (hz3 : (z == 3) = false) (hs : S.sym q = some (s, z)) {T ε : Env} (ht : ε.sa = T.sa ∧ ε.sn = T.sn ∧ ε.sc = T.sc) {args : List LV} {mem : List (Nat × Cells)} {pc : E} {res : LV} {upd : List (Nat × Cells)} (hm : matchLVs pat args 0 = true)
  (hsat : Ob.sat S ε (.call pc q args mem res upd)) :
  ∃ L, args.flatMap (argInts ε []) = L ∧ L.length = sizeLVs pat ∧ (∀ j, j < 32 → ε.i (callBase s args mem + j) = S.val s L j ∧ ε.b (callBase s args mem + j) = decide (S.val s L j ≠ 0)) ∧ ∀ ρ : Nat → Nat, pat.map (LV.den (envL T L) fun _ => 0) = args.map (LV.den ε ρ) := by
 obtain ⟨l1, l2⟩ := matchLVs_len ε (mem := mem) hm
 refine ⟨_, rfl, by rw [← l2]; exact l1, fun j hj => ?_, fun ρ => ?_⟩
 ·have hcn : callNo S q args mem = some (callBase s args mem / 32, s, args) := by
   unfold callNo
   rw [hs]
   simp only [callArgs, hz3, Bool.false_eq_true, if_false]
  have := hsat _ _ _ hcn j hj
  rw [base32, l2] at this
  exact this
 ·exact matchLVs_den (ε' := envL T (args.flatMap (argInts ε []))) ⟨ht.1.symm, ht.2.1.symm, ht.2.2.symm⟩ (mem := []) hm fun j x hj => by
   show (args.flatMap (argInts ε [])).getD (0 + j) 0 = x
   rw [Nat.zero_add, List.getD_eq_getElem?_getD, hj]; rfl
theorem base_sp {S : Sig} {pat : List LV} {q s : Nat} (hs : S.sym q = some (s, 1)) {fn : Func} (hfn : P.funcs[q]? = some fn)
  (hres : ∀ base, ∃ m, nameRes P fn base = some (.tup [.agg [.a (.int .i64 (.var base)), .a (.int .i64 (.var (base + 1)))], .s (.a (.int .i64 (.var (base + 2))))], m)) {T : Env} {w0 : World}
  (hz : ∀ L, S.val s L 2 ≠ 0 → S.val s L 0 = 0 ∧ S.val s L 1 = 0) (hp : pat.all fsl0LV = true)
  (hC : ∀ L : List Int, (∀ x ∈ L, R64 x) → L.length = sizeLVs pat → ∀ w, Below w0.heap.size w0 w → Calls P q ((pat.map (LV.den (envL T L) fun _ => 0)).toArray) w (fun e w' => e = .returned (.tuple #[.agg #[.int .i64 (S.val s L 0), .int .i64 (S.val s L 1)], .int .i64 (S.val s L 2)]) ∧ Below w.heap.size w w'))
  {ε : Env} (ht : ε.sa = T.sa ∧ ε.sn = T.sn ∧ ε.sc = T.sc) (hε : ∀ i, R64 (ε.i i)) {w : World} (hw : Below w0.heap.size w0 w) {args : List LV} {mem : List (Nat × Cells)} {res : LV} {upd : List (Nat × Cells)} (hm : matchLVs pat args 0 = true) (hr : rngOb (.call (.blit true) q args mem res upd) = true)
  (hstd : stdRes P S.sym q args mem = some (res, upd)) (hsat : Ob.sat S ε (.call (.blit true) q args mem res upd)) : Ob.ok P ε w (.call (.blit true) q args mem res upd) := by
 obtain ⟨L, hL, l1, hv, hden⟩ := base_common rfl hs ht hm hsat
 have hR : ∀ x ∈ L, R64 x := by rw [← hL]; exact matchLVs_R64 hε hm (rngOb_args hr) hp
 obtain ⟨base, hbase⟩ : ∃ base, callBase s args mem = base := ⟨_, rfl⟩
 rw [hbase] at hv
 have hres' : res = .tup [zeroLess1 (.var (base + 2)) (.agg [.a (.int .i64 (.var base)), .a (.int .i64 (.var (base + 1)))]), .s (.a (.int .i64 (.var (base + 2))))] ∧ upd = [] := by
  unfold stdRes at hstd
  rw [hs, hfn] at hstd
  obtain ⟨m, hm⟩ := hres base
  simp [stdVal, hbase, hm, zeroLess1, zeroLess, mkIte] at hstd
  simp [zeroLess1, zeroLess, hstd]
 obtain ⟨rfl, rfl⟩ := hres'
 intro _ w2 ρ hw2 _ _
 have := hC L hR l1 w2 (hw.trans (hw2.mono hw.size))
 rw [hden ρ] at this
 have v0 := (hv 0 (by omega)).1
 have v1 := (hv 1 (by omega)).1
 have v2 := (hv 2 (by omega)).1
 rw [Nat.add_zero] at v0
 refine this.mono fun e w' ⟨h1, h2⟩ => ⟨?_, by simp, Ext.of_below h2 _⟩
 rw [h1]
 congr 1
 show _ = Value.tuple #[.agg #[.int .i64 ((mkIte (mkEq 200 (.var (base + 2)) (.lit 0)) (.var base) (.lit 0)).den ε).1, .int .i64 ((mkIte (mkEq 200 (.var (base + 2)) (.lit 0)) (.var (base + 1)) (.lit 0)).den ε).1], .int .i64 (ε.i (base + 2))]
 simp only [mkIte_den, mkEq_den, E.den, v0, v1, v2, beq_iff_eq]
 by_cases h : S.val s L 2 = 0
 ·simp only [h, if_true]
 ·obtain ⟨k0, k1⟩ := hz L h
  simp only [h, if_false, k0, k1]
theorem base_i {S : Sig} {pat : List LV} {q s : Nat} (hs : S.sym q = some (s, 0)) {fn : Func} (hfn : P.funcs[q]? = some fn)
  (hres : ∀ base, ∃ m, nameRes P fn base = some (.v (.s (.a (.int .i64 (.var base)))), m)) {T : Env} {w0 : World} (hp : pat.all fsl0LV = true)
  (hC : ∀ L : List Int, (∀ x ∈ L, R64 x) → L.length = sizeLVs pat → ∀ w, Below w0.heap.size w0 w → Calls P q ((pat.map (LV.den (envL T L) fun _ => 0)).toArray) w (fun e w' => e = .returned (.int .i64 (S.val s L 0)) ∧ Below w.heap.size w w'))
  {ε : Env} (ht : ε.sa = T.sa ∧ ε.sn = T.sn ∧ ε.sc = T.sc) (hε : ∀ i, R64 (ε.i i)) {w : World} (hw : Below w0.heap.size w0 w) {args : List LV} {mem : List (Nat × Cells)} {res : LV} {upd : List (Nat × Cells)} (hm : matchLVs pat args 0 = true) (hr : rngOb (.call (.blit true) q args mem res upd) = true)
  (hstd : stdRes P S.sym q args mem = some (res, upd)) (hsat : Ob.sat S ε (.call (.blit true) q args mem res upd)) : Ob.ok P ε w (.call (.blit true) q args mem res upd) := by
 obtain ⟨L, hL, l1, hv, hden⟩ := base_common rfl hs ht hm hsat
 have hR : ∀ x ∈ L, R64 x := by rw [← hL]; exact matchLVs_R64 hε hm (rngOb_args hr) hp
 obtain ⟨base, hbase⟩ : ∃ base, callBase s args mem = base := ⟨_, rfl⟩
 rw [hbase] at hv
 have hres' : res = .v (.s (.a (.int .i64 (.var base)))) ∧ upd = [] := by
  unfold stdRes at hstd
  rw [hs, hfn] at hstd
  obtain ⟨m, hm⟩ := hres base
  simp [stdVal, hbase, hm] at hstd
  exact ⟨hstd.1.symm, hstd.2⟩
 obtain ⟨rfl, rfl⟩ := hres'
 intro _ w2 ρ hw2 _ _
 have := hC L hR l1 w2 (hw.trans (hw2.mono hw.size))
 rw [hden ρ] at this
 have v0 := (hv 0 (by omega)).1
 rw [Nat.add_zero] at v0
 refine this.mono fun e w' ⟨h1, h2⟩ => ⟨?_, by simp, Ext.of_below h2 _⟩
 rw [h1, ← v0]; rfl
theorem base_b {S : Sig} {pat : List LV} {q s : Nat} (hs : S.sym q = some (s, 0)) {fn : Func} (hfn : P.funcs[q]? = some fn)
  (hres : ∀ base, ∃ m, nameRes P fn base = some (.v (.s (.a (.bool (.bvar base)))), m)) {T : Env} {w0 : World} (hp : pat.all fsl0LV = true)
  (hC : ∀ L : List Int, (∀ x ∈ L, R64 x) → L.length = sizeLVs pat → ∀ w, Below w0.heap.size w0 w → Calls P q ((pat.map (LV.den (envL T L) fun _ => 0)).toArray) w (fun e w' => e = .returned (.bool (decide (S.val s L 0 ≠ 0))) ∧ Below w.heap.size w w'))
  {ε : Env} (ht : ε.sa = T.sa ∧ ε.sn = T.sn ∧ ε.sc = T.sc) (hε : ∀ i, R64 (ε.i i)) {w : World} (hw : Below w0.heap.size w0 w) {args : List LV} {mem : List (Nat × Cells)} {res : LV} {upd : List (Nat × Cells)} (hm : matchLVs pat args 0 = true) (hr : rngOb (.call (.blit true) q args mem res upd) = true)
  (hstd : stdRes P S.sym q args mem = some (res, upd)) (hsat : Ob.sat S ε (.call (.blit true) q args mem res upd)) : Ob.ok P ε w (.call (.blit true) q args mem res upd) := by
 obtain ⟨L, hL, l1, hv, hden⟩ := base_common rfl hs ht hm hsat
 have hR : ∀ x ∈ L, R64 x := by rw [← hL]; exact matchLVs_R64 hε hm (rngOb_args hr) hp
 obtain ⟨base, hbase⟩ : ∃ base, callBase s args mem = base := ⟨_, rfl⟩
 rw [hbase] at hv
 have hres' : res = .v (.s (.a (.bool (.bvar base)))) ∧ upd = [] := by
  unfold stdRes at hstd
  rw [hs, hfn] at hstd
  obtain ⟨m, hm⟩ := hres base
  simp [stdVal, hbase, hm] at hstd
  exact ⟨hstd.1.symm, hstd.2⟩
 obtain ⟨rfl, rfl⟩ := hres'
 intro _ w2 ρ hw2 _ _
 have := hC L hR l1 w2 (hw.trans (hw2.mono hw.size))
 rw [hden ρ] at this
 have v0 := (hv 0 (by omega)).2
 rw [Nat.add_zero] at v0
 refine this.mono fun e w' ⟨h1, h2⟩ => ⟨?_, by simp, Ext.of_below h2 _⟩
 rw [h1, ← v0]; rfl
end SX
end Go.Proofs.Ytdoigcpcponnhaa
end
section
namespace Go.Proofs.Ytdoigcpcponnhaa
namespace SX
open Go.RowKit
variable {P : Program}
theorem good_satL {S : Sig} {shp : FuncId → List LV → List (Nat × Cells) → Bool} {obs : List Ob} (h : goodL P S shp obs = true) (ε0 : Env) : ∀ ob ∈ obs, ob.sat S (ε0.solve S obs) := by
 unfold goodL at h
 unfold Env.solve
 split at h
 ·rename_i r hr
  simp only [Bool.and_eq_true] at h
  obtain ⟨⟨h1, h2⟩, h3⟩ := h
  obtain ⟨_, hn⟩ := nub_acc hr
  have hs := steps_sat h1 ε0
  intro ob hob
  rcases hn ob hob with hq | ⟨ob', hob', he⟩
  ·exact isQ_sat hq
  have := hs ob' (by rw [List.map_reverse]; exact List.mem_reverse.2 hob')
  rcases he with rfl | he
  ·exact this
  ·exact twin_sat he this
 ·cases h
theorem good_sat {S : Sig} {shp : FuncId → List LV → List (Nat × Cells) → Bool} {obs : List Ob} (h : goodB P S shp obs = true) (ε0 : Env) : ∀ ob ∈ obs, ob.sat S (ε0.solve S obs) := by
 unfold goodB at h
 simp only [Bool.and_eq_true] at h
 exact good_satL h.1 ε0
def isCall (S : Sig) (s : Nat) (args : List LV) (base : Nat) : Ob → Bool
 | .call _ f a m _ _ => callNo S f a m == some (base / 32, s, args) && base / 32 * 32 == base
 | _ => false
theorem sat_call {S : Sig} {ε : Env} {obs : List Ob} (h : ∀ ob ∈ obs, ob.sat S ε) {s base : Nat} {args : List LV} (hc : obs.any (isCall S s args base) = true) : ∃ mem, ∀ j, j < 32 → ε.i (base + j) = S.val s (args.flatMap (argInts ε mem)) j := by
 obtain ⟨ob, hob, hi⟩ := List.any_eq_true.1 hc
 unfold isCall at hi
 split at hi
 ·rename_i f a m _ _
  simp only [Bool.and_eq_true, beq_iff_eq] at hi
  refine ⟨m, fun j hj => ?_⟩
  have := (h _ hob _ _ _ hi.1 j hj).1
  rwa [hi.2] at this
 ·cases hi
def isEq (v : Nat) (e : E) : Ob → Bool
 | .eq v' e' => v' == v && e' == e
 | _ => false
theorem sat_eq {S : Sig} {ε : Env} {obs : List Ob} (h : ∀ ob ∈ obs, ob.sat S ε) {v : Nat} {e : E} (hc : obs.any (isEq v e) = true) : ε.i v = (e.den ε).1 := by
 obtain ⟨ob, hob, hi⟩ := List.any_eq_true.1 hc
 unfold isEq at hi
 split at hi
 ·simp only [Bool.and_eq_true, beq_iff_eq] at hi
  obtain ⟨rfl, rfl⟩ := hi
  exact (h _ hob).symm
 ·cases hi
def readB (P : Program) (S : Sig) (shp : FuncId → List LV → List (Nat × Cells) → Bool) (K : Cfg) (n sp : Nat) (f : FuncId) (pat : List LV) (mem : List (Nat × Cells)) : Bool :=
 goodB P S shp (rd P K n sp f pat mem).2.2 && !((rd P K n sp f pat mem).1 == .bad) && pat.all notBad && mem.all (fun u => decide (u.1 < 1)) && (rd P K n sp f pat mem).1.ids.all (fun b => decide (b < 1)) &&
  (rd P K n sp f pat mem).2.1.wr.all (fun b => !(mem.lookup b).isSome || (([] : List (Nat × Cells)).map (·.1)).contains b)
theorem read_ob (hmix : P.follows .mixedOrders = true) {S : Sig} {shp : FuncId → List LV → List (Nat × Cells) → Bool} {K : Cfg} {n sp : Nat} (hsp : 0 < sp) {f : FuncId} {pat : List LV} {mem : List (Nat × Cells)} (h : readB P S shp K n sp f pat mem = true)
  (hS : ∀ s l k, R64 (S.val s l k)) (T : Env) {w : World} {L : List Int} (hL : ∀ x ∈ L, R64 x)
  (hc : ∀ ε : Env, (∀ v, v < top → ε.i v = L.getD v 0) → ε.sa = T.sa → ε.sn = T.sn → ε.sc = T.sc → (∀ i, R64 (ε.i i)) → ∀ f args mem res upd, shp f args mem = true → stdRes P S.sym f args mem = some (res, upd) → rngOb (.call (.blit true) f args mem res upd) = true → Ob.sat S ε (.call (.blit true) f args mem res upd) → Ob.ok P ε w (.call (.blit true) f args mem res upd)) :
  ∃ ε : Env, (∀ v, v < top → ε.i v = L.getD v 0) ∧ ε.sa = T.sa ∧ ε.sn = T.sn ∧ ε.sc = T.sc ∧ (∀ i, R64 (ε.i i)) ∧ (∀ ob ∈ (rd P K n sp f pat mem).2.2, ob.sat S ε) ∧ (Ob.call (.blit true) f pat mem (rd P K n sp f pat mem).1 []).ok P ε w := by
 unfold readB at h
 simp only [Bool.and_eq_true, Bool.not_eq_true'] at h
 obtain ⟨⟨⟨⟨⟨g1, g2⟩, g3⟩, g4⟩, g5⟩, g6⟩ := h
 obtain ⟨e1, e2, e3, e4, e5, e6⟩ := good_ok g1 hS (envL T L) (envL_R64 hL)
 have hst := good_sat g1 (envL T L)
 obtain ⟨nv', hev⟩ := rd_some (fun e => by rw [e] at g2; simp at g2)
 refine ⟨_, e1, e2, e3, e4, e5, hst, ?_⟩
 exact reads_ob hmix hsp hev g3 g4 g5 (upd := []) g6 rfl _ w (e6 w (hc _ e1 e2 e3 e4 e5))
def pairI2 (P : Program) (S : Sig) (shp : FuncId → List LV → List (Nat × Cells) → Bool) (K : Cfg) (n sp : Nat) (f g : FuncId) (pat : List LV) : Bool :=
 goodB P S shp ((rd P K n sp f pat []).2.2 ++ (rd P K n sp g pat []).2.2) && isIntLV (rd P K n sp f pat []).1 && isIntLV (rd P K n sp g pat []).1 && noIds pat && rngE (intE (rd P K n sp f pat []).1)
theorem pairI2_con {S0 S : Sig} {shp0 : FuncId → List LV → List (Nat × Cells) → Bool} {K : Cfg} {n sp : Nat} (hmix : P.follows .mixedOrders = true) (hsp : 0 < sp) {f g : FuncId} {pat : List LV} (h : pairI2 P S0 shp0 K n sp f g pat = true)
  (heq : ∀ ε : Env, (∀ i, R64 (ε.i i)) → (∀ ob ∈ (rd P K n sp f pat []).2.2 ++ (rd P K n sp g pat []).2.2, ob.sat S0 ε) → ((intE (rd P K n sp g pat []).1).den ε).1 = ((intE (rd P K n sp f pat []).1).den ε).1) (hsz : sizeLVs pat < top)
  (hS0 : ∀ s l k, R64 (S0.val s l k)) {T : Env} {w0 : World} (hc : Con P S0 shp0 T w0) {s : Nat} (hval : ∀ L, S.val s L 0 = clampI ((intE (rd P K n sp f pat []).1).den ((envL T (L.map clampI)).solve S0 ((rd P K n sp f pat []).2.2 ++ (rd P K n sp g pat []).2.2))).1)
  {q : FuncId} (hq : q = f ∨ q = g) (hs : S.sym q = some (s, 0)) {fn : Func} (hfn : P.funcs[q]? = some fn) (hres : ∀ base, ∃ m, nameRes P fn base = some (.v (.s (.a (.int .i64 (.var base)))), m))
  (ε : Env) (ht : ε.sa = T.sa ∧ ε.sn = T.sn ∧ ε.sc = T.sc) {w : World} (hw : Below w0.heap.size w0 w) {args : List LV} {mem : List (Nat × Cells)} {res : LV} {upd : List (Nat × Cells)} (hm : matchLVs pat args 0 = true) (hR : ∀ x ∈ args.flatMap (argInts ε []), R64 x)
  (hstd : stdRes P S.sym q args mem = some (res, upd)) (hsat : Ob.sat S ε (.call (.blit true) q args mem res upd)) : Ob.ok P ε w (.call (.blit true) q args mem res upd) := by
 unfold pairI2 at h
 simp only [Bool.and_eq_true, beq_iff_eq] at h
 obtain ⟨⟨⟨⟨g1, g2⟩, g3⟩, g4⟩, g6⟩ := h
 have hres' : res = .v (.s (.a (.int .i64 (.var (callBase s args mem))))) ∧ upd = [] := by
  unfold stdRes at hstd
  rw [hs, hfn] at hstd
  obtain ⟨m, hm⟩ := hres (callBase s args mem)
  simp [stdVal, hm] at hstd
  exact ⟨hstd.1.symm, hstd.2⟩
 obtain ⟨rfl, rfl⟩ := hres'
 obtain ⟨l1, l2⟩ := matchLVs_len ε (mem := mem) hm
 obtain ⟨L, hL⟩ : ∃ L, args.flatMap (argInts ε mem) = L := ⟨_, rfl⟩
 rw [hL] at l1 l2
 have hclamp : L.map clampI = L := by
  conv => rhs; rw [← List.map_id L]
  exact List.map_congr_left fun x hx => clampI_eq (hR x (l2 ▸ hx))
 have hcn : callNo S q args mem = some (callBase s args mem / 32, s, args) := by
  unfold callNo
  rw [hs]
  rfl
 have hv := (hsat _ _ _ hcn 0 (by omega)).1
 rw [base32, Nat.add_zero, hL, hval, hclamp] at hv
 have hE : ∀ i, R64 ((envL T L).i i) := envL_R64 fun x hx => hR x (l2 ▸ hx)
 obtain ⟨e1, e2, e3, e4, e5, e6⟩ := good_ok g1 hS0 (envL T L) hE
 have hst := good_sat g1 (envL T L)
 generalize (envL T L).solve S0 ((rd P K n sp f pat []).2.2 ++ (rd P K n sp g pat []).2.2) = εs at hst hv e1 e2 e3 e4 e5 e6
 have hob := fun w hw => e6 w (hc εs e2 e3 e4 e5 w hw)
 have hden : ∀ ρ : Nat → Nat, pat.map (LV.den εs fun _ => 0) = args.map (LV.den ε ρ) := fun ρ =>
  matchLVs_den ⟨e2.trans ht.1.symm, e3.trans ht.2.1.symm, e4.trans ht.2.2.symm⟩ (mem := mem) hm fun j x hj => by
   rw [hL] at hj
   have hlt := (List.getElem?_eq_some_iff.1 hj).1
   rw [Nat.zero_add, e1 j (by omega)]
   show L.getD j 0 = x
   rw [List.getD_eq_getElem?_getD, hj]; rfl
 have eqE : ((intE (rd P K n sp g pat []).1).den εs).1 = ((intE (rd P K n sp f pat []).1).den εs).1 := heq εs e5 hst
 have hrng : R64 ((intE (rd P K n sp f pat []).1).den εs).1 := rngE_spec e5 g6
 rw [clampI_eq hrng] at hv
 intro _ w2 ρ hw2 _ _
 have int_of : ∀ {v : LV}, isIntLV v = true → v ≠ .bad ∧ v.ids = [] ∧ ∀ ε ρ, v.den ε ρ = .int .i64 ((intE v).den ε).1 := by
  intro v hv
  unfold isIntLV at hv
  split at hv
  ·exact ⟨by simp, rfl, fun _ _ => rfl⟩
  ·cases hv
 have fin : ∀ {e : Ending} {w' : World} {x : Int}, x = ε.i (callBase s args mem) → e = .returned (.int .i64 x) ∧ Below w2.heap.size w2 w' → e = .returned ((LV.v (.s (.a (.int .i64 (.var (callBase s args mem)))))).den ε ρ) ∧ (∀ u ∈ ([] : List (Nat × Cells)), Blk ε ρ w.heap.size w' u.1 u.2) ∧ Ext w2 w' (fun x => ∃ u ∈ ([] : List (Nat × Cells)), ρ u.1 = x) := by
  intro e w' x hx ⟨h1, h2⟩
  subst hx
  exact ⟨h1, by simp, Ext.of_below h2 _⟩
 have hb2 : Below w0.heap.size w0 w2 := hw.trans (hw2.mono hw.size)
 rcases hq with rfl | rfl
 ·obtain ⟨i1, i2, i3⟩ := int_of g2
  obtain ⟨nv', hev⟩ := rd_some i1
  have := reads4 hmix hsp hev g4 (by rw [i2]; rfl) εs w2 (fun ob hb => hob w2 hb2 ob (List.mem_append_left _ hb))
  rw [hden ρ, i3] at this
  exact this.mono fun e w' h => fin hv.symm h
 ·obtain ⟨i1, i2, i3⟩ := int_of g3
  obtain ⟨nv', hev⟩ := rd_some i1
  have := reads4 hmix hsp hev g4 (by rw [i2]; rfl) εs w2 (fun ob hb => hob w2 hb2 ob (List.mem_append_right _ hb))
  rw [hden ρ, i3, eqE] at this
  exact this.mono fun e w' h => fin hv.symm h
end SX
end Go.Proofs.Ytdoigcpcponnhaa
end
section
namespace Go.Proofs.Ytdoigcpcponnhaa
namespace SX
open Go.RowKit
variable {P : Program}
def tE (k : Nat) : LV → E
 | .tup [.agg [.a (.int .i64 a), .a (.int .i64 b)], .s (.a (.int .i64 e))] => match k with
  | 0 => a
  | 1 => b
  | _ => e
 | _ => .lit 0
def isSpE : LV → Bool
 | .tup [.agg [.a (.int .i64 _), .a (.int .i64 _)], .s (.a (.int .i64 _))] => true
 | _ => false
def pairS (P : Program) (S : Sig) (shp : FuncId → List LV → List (Nat × Cells) → Bool) (K : Cfg) (n sp : Nat) (f g : FuncId) (pat : List LV) : Bool :=
 goodB P S shp ((rd P K n sp f pat []).2.2 ++ (rd P K n sp g pat []).2.2) && isSpE (rd P K n sp f pat []).1 && isSpE (rd P K n sp g pat []).1 && noIds pat &&
  (mkEq 200 (tE 0 (rd P K n sp f pat []).1) (tE 0 (rd P K n sp g pat []).1) == .blit true) && (mkEq 200 (tE 1 (rd P K n sp f pat []).1) (tE 1 (rd P K n sp g pat []).1) == .blit true) && (mkEq 200 (tE 2 (rd P K n sp f pat []).1) (tE 2 (rd P K n sp g pat []).1) == .blit true) &&
  rngE (tE 0 (rd P K n sp f pat []).1) && rngE (tE 1 (rd P K n sp f pat []).1) && rngE (tE 2 (rd P K n sp f pat []).1) &&
  zeroB (tE 2 (rd P K n sp f pat []).1) (tE 0 (rd P K n sp f pat []).1) && zeroB (tE 2 (rd P K n sp f pat []).1) (tE 1 (rd P K n sp f pat []).1)
theorem pairS_con {S0 S : Sig} {shp0 : FuncId → List LV → List (Nat × Cells) → Bool} {K : Cfg} {n sp : Nat} (hmix : P.follows .mixedOrders = true) (hsp : 0 < sp) {f g : FuncId} {pat : List LV} (h : pairS P S0 shp0 K n sp f g pat = true) (hsz : sizeLVs pat < top)
  (hS0 : ∀ s l k, R64 (S0.val s l k)) {T : Env} {w0 : World} (hc : Con P S0 shp0 T w0) {s : Nat}
  (hval : ∀ L k, k < 3 → S.val s L k = clampI ((tE k (rd P K n sp f pat []).1).den ((envL T (L.map clampI)).solve S0 ((rd P K n sp f pat []).2.2 ++ (rd P K n sp g pat []).2.2))).1)
  {q : FuncId} (hq : q = f ∨ q = g) (hs : S.sym q = some (s, 1)) {fn : Func} (hfn : P.funcs[q]? = some fn)
  (hres : ∀ base, ∃ m, nameRes P fn base = some (.tup [.agg [.a (.int .i64 (.var base)), .a (.int .i64 (.var (base + 1)))], .s (.a (.int .i64 (.var (base + 2))))], m))
  (ε : Env) (ht : ε.sa = T.sa ∧ ε.sn = T.sn ∧ ε.sc = T.sc) {w : World} (hw : Below w0.heap.size w0 w) {args : List LV} {mem : List (Nat × Cells)} {res : LV} {upd : List (Nat × Cells)} (hm : matchLVs pat args 0 = true) (hR : ∀ x ∈ args.flatMap (argInts ε []), R64 x)
  (hstd : stdRes P S.sym q args mem = some (res, upd)) (hsat : Ob.sat S ε (.call (.blit true) q args mem res upd)) : Ob.ok P ε w (.call (.blit true) q args mem res upd) := by
 unfold pairS at h
 simp only [Bool.and_eq_true, beq_iff_eq] at h
 obtain ⟨⟨⟨⟨⟨⟨⟨⟨⟨⟨⟨g1, g2⟩, g3⟩, g4⟩, g5⟩, g6⟩, g7⟩, g8⟩, g9⟩, g10⟩, g11⟩, g12⟩ := h
 obtain ⟨base, hbase⟩ : ∃ base, callBase s args mem = base := ⟨_, rfl⟩
 have hres' : res = .tup [zeroLess1 (.var (base + 2)) (.agg [.a (.int .i64 (.var base)), .a (.int .i64 (.var (base + 1)))]), .s (.a (.int .i64 (.var (base + 2))))] ∧ upd = [] := by
  unfold stdRes at hstd
  rw [hs, hfn] at hstd
  obtain ⟨m, hm⟩ := hres base
  simp [stdVal, hbase, hm, zeroLess1, zeroLess, mkIte] at hstd
  simp [zeroLess1, zeroLess, hstd]
 obtain ⟨rfl, rfl⟩ := hres'
 obtain ⟨l1, l2⟩ := matchLVs_len ε (mem := mem) hm
 obtain ⟨L, hL⟩ : ∃ L, args.flatMap (argInts ε mem) = L := ⟨_, rfl⟩
 rw [hL] at l1 l2
 have hclamp : L.map clampI = L := by
  conv => rhs; rw [← List.map_id L]
  exact List.map_congr_left fun x hx => clampI_eq (hR x (l2 ▸ hx))
 have hcn : callNo S q args mem = some (base / 32, s, args) := by
  unfold callNo
  rw [hs, ← hbase]
  rfl
 have hb32 : base / 32 * 32 = base := by rw [← hbase]; exact base32 _ _ _
 have hv : ∀ k, k < 3 → ε.i (base + k) = clampI ((tE k (rd P K n sp f pat []).1).den ((envL T L).solve S0 ((rd P K n sp f pat []).2.2 ++ (rd P K n sp g pat []).2.2))).1 := fun k hk => by
  have := (hsat _ _ _ hcn k (by omega)).1
  rw [hb32, hL, hval L k hk, hclamp] at this
  exact this
 have hE : ∀ i, R64 ((envL T L).i i) := envL_R64 fun x hx => hR x (l2 ▸ hx)
 obtain ⟨e1, e2, e3, e4, e5, e6⟩ := good_ok g1 hS0 (envL T L) hE
 generalize (envL T L).solve S0 ((rd P K n sp f pat []).2.2 ++ (rd P K n sp g pat []).2.2) = εs at hv e1 e2 e3 e4 e5 e6
 have hob := fun w hw => e6 w (hc εs e2 e3 e4 e5 w hw)
 have hden : ∀ ρ : Nat → Nat, pat.map (LV.den εs fun _ => 0) = args.map (LV.den ε ρ) := fun ρ =>
  matchLVs_den ⟨e2.trans ht.1.symm, e3.trans ht.2.1.symm, e4.trans ht.2.2.symm⟩ (mem := mem) hm fun j x hj => by
   rw [hL] at hj
   have hlt := (List.getElem?_eq_some_iff.1 hj).1
   rw [Nat.zero_add, e1 j (by omega)]
   show L.getD j 0 = x
   rw [List.getD_eq_getElem?_getD, hj]; rfl
 have eqE : ∀ {k : Nat}, mkEq 200 (tE k (rd P K n sp f pat []).1) (tE k (rd P K n sp g pat []).1) = .blit true → ((tE k (rd P K n sp g pat []).1).den εs).1 = ((tE k (rd P K n sp f pat []).1).den εs).1 := fun g => by
  have := congrArg (fun x => (E.den εs x).2) g
  simp only [mkEq_den, E.den, beq_iff_eq] at this
  exact this.symm
 have v0 := hv 0 (by omega)
 have v1 := hv 1 (by omega)
 have v2 := hv 2 (by omega)
 rw [clampI_eq (rngE_spec e5 g8), Nat.add_zero] at v0
 rw [clampI_eq (rngE_spec e5 g9)] at v1
 rw [clampI_eq (rngE_spec e5 g10)] at v2
 have z0 := zeroB_den g11 εs
 have z1 := zeroB_den g12 εs
 intro _ w2 ρ hw2 _ _
 have sp_of : ∀ {v : LV}, isSpE v = true → v ≠ .bad ∧ v.ids = [] ∧ ∀ ε ρ, v.den ε ρ = .tuple #[.agg #[.int .i64 ((tE 0 v).den ε).1, .int .i64 ((tE 1 v).den ε).1], .int .i64 ((tE 2 v).den ε).1] := by
  intro v hv
  unfold isSpE at hv
  split at hv
  ·exact ⟨by simp, rfl, fun _ _ => rfl⟩
  ·cases hv
 have fin : ∀ {e : Ending} {w' : World}, e = .returned (.tuple #[.agg #[.int .i64 ((tE 0 (rd P K n sp f pat []).1).den εs).1, .int .i64 ((tE 1 (rd P K n sp f pat []).1).den εs).1], .int .i64 ((tE 2 (rd P K n sp f pat []).1).den εs).1]) ∧ Below w2.heap.size w2 w' →
   e = .returned ((LV.tup [zeroLess1 (.var (base + 2)) (.agg [.a (.int .i64 (.var base)), .a (.int .i64 (.var (base + 1)))]), .s (.a (.int .i64 (.var (base + 2))))]).den ε ρ) ∧ (∀ u ∈ ([] : List (Nat × Cells)), Blk ε ρ w.heap.size w' u.1 u.2) ∧ Ext w2 w' (fun x => ∃ u ∈ ([] : List (Nat × Cells)), ρ u.1 = x) := by
  intro e w' ⟨h1, h2⟩
  refine ⟨?_, by simp, Ext.of_below h2 _⟩
  rw [h1]
  refine congrArg Ending.returned ?_
  show _ = Value.tuple #[.agg #[.int .i64 ((mkIte (mkEq 200 (.var (base + 2)) (.lit 0)) (.var base) (.lit 0)).den ε).1, .int .i64 ((mkIte (mkEq 200 (.var (base + 2)) (.lit 0)) (.var (base + 1)) (.lit 0)).den ε).1], .int .i64 (ε.i (base + 2))]
  simp only [mkIte_den, mkEq_den, E.den, v0, v1, v2, beq_iff_eq]
  rw [← z0, ← z1]
 have hb2 : Below w0.heap.size w0 w2 := hw.trans (hw2.mono hw.size)
 rcases hq with rfl | rfl
 ·obtain ⟨i1, i2, i3⟩ := sp_of g2
  obtain ⟨nv', hev⟩ := rd_some i1
  have := reads4 hmix hsp hev g4 (by rw [i2]; rfl) εs w2 (fun ob hb => hob w2 hb2 ob (List.mem_append_left _ hb))
  rw [hden ρ, i3] at this
  exact this.mono fun e w' h => fin h
 ·obtain ⟨i1, i2, i3⟩ := sp_of g3
  obtain ⟨nv', hev⟩ := rd_some i1
  have := reads4 hmix hsp hev g4 (by rw [i2]; rfl) εs w2 (fun ob hb => hob w2 hb2 ob (List.mem_append_right _ hb))
  rw [hden ρ, i3, eqE g5, eqE g6, eqE g7] at this
  exact this.mono fun e w' h => fin h
end SX
end Go.Proofs.Ytdoigcpcponnhaa
end
section
namespace Go.Proofs.Ytdoigcpcponnhaa
namespace SX
open Go.RowKit
variable {P : Program}
structure Weak2 (ε : Env) (s : St) (ε' : Env) (t : St) : Prop where
 len : t.tmps.length = s.tmps.length
 slots : ∀ i ρ v, RV ε ρ (s.look i) v → RV ε' ρ (t.look i) v
 blocks : ∀ b cs, t.at b = some cs → ∃ cs', s.at b = some cs' ∧ ∀ (j : Nat) x, cs[j]? = some x → ∃ y, cs'[j]? = some y ∧ ∀ sv, x = some sv → ∃ sv', y = some sv' ∧ ∀ ρ, sv'.den ε ρ = sv.den ε' ρ
theorem Weak2.some {ε ε' : Env} {s t : St} (h : Weak2 ε s ε' t) {b : Nat} (hb : (t.at b).isSome = true) : (s.at b).isSome = true := by
 obtain ⟨cs, hcs⟩ := Option.isSome_iff_exists.1 hb
 obtain ⟨cs', h', _⟩ := h.blocks b cs hcs
 rw [h']; rfl
theorem Rep.weak2 {ε ε' : Env} {w0 : World} {d : List Deferred} {s t : St} {ρ : Nat → Nat} {a : Act} {w : World} (h : Weak2 ε s ε' t) (hr : Rep ε w0 d s ρ a w) : Rep ε' w0 d t ρ a w := by
 refine ⟨hr.size.trans h.len.symm, hr.defers, fun i => h.slots i ρ _ (hr.slots i), fun b cs hcs => ?_, fun b b' h1 h2 => hr.inj b b' (h.some h1) (h.some h2), hr.world⟩
 obtain ⟨cs', h1, h2⟩ := h.blocks b cs hcs
 obtain ⟨b1, b2, b3⟩ := hr.blocks b cs' h1
 refine ⟨b1, b2, fun j c hj => ?_⟩
 obtain ⟨y, hy, hk⟩ := h2 j c hj
 obtain ⟨v, e1, e2, e3⟩ := b3 j y hy
 refine ⟨v, e1, e2, fun sv hs => ?_⟩
 obtain ⟨sv', hs', hd⟩ := hk sv hs
 rw [e3 sv' hs', hd]
theorem Aft.weak2 {ε ε' : Env} {st s t : St} {ρ ρ' : Nat → Nat} {w w' : World} {nid : Nat} (h : Aft st ρ w nid s ρ' w') (hw : Weak2 ε s ε' t) (h1 : ∀ b ∈ s.wr, (st.at b).isSome = true → b ∈ t.wr) (h2 : ∀ b ∈ st.wr, b ∈ t.wr) : Aft st ρ w nid t ρ' w' :=
 ⟨h.agree, h.ext.mono fun x _ ⟨b, hb, h', h''⟩ => ⟨b, h1 b hb h', h', h''⟩, h2, fun b hb => h.fresh b (hw.some hb)⟩
theorem loop_rule {w0 : World} {c : Code} {pcH : E} {H : St} {nid : Nat} {r : Res} {σT : Type} (E' : σT → Env) (Inv : σT → Prop) (μ : σT → Nat)
  (hbody : ∀ σ, Inv σ → CodeOk P (E' σ) w0 c pcH H nid r) (hobs : ∀ σ, Inv σ → ∀ ob ∈ r.obs, ob.ok P (E' σ) w0) (hpc : ∀ σ, Inv σ → (pcH.den (E' σ)).2 = true) (hd : Dom H nid)
  {ε : Env} {tr : Tr}
  (hstep : ∀ σ, Inv σ → ((r.tr.sel (E' σ)).1 = .normal ∧ ∃ σ', Inv σ' ∧ μ σ' < μ σ ∧ Weak2 (E' σ) (r.tr.sel (E' σ)).2 (E' σ') H ∧ ∀ b ∈ (r.tr.sel (E' σ)).2.wr, (H.at b).isSome = true → b ∈ H.wr) ∨
   ((r.tr.sel (E' σ)).1 ≠ .normal ∧ (r.tr.sel (E' σ)).1 = (tr.sel ε).1 ∧ Weak2 (E' σ) (r.tr.sel (E' σ)).2 ε (tr.sel ε).2 ∧ (∀ b ∈ (r.tr.sel (E' σ)).2.wr, (H.at b).isSome = true → b ∈ (tr.sel ε).2.wr) ∧ ∀ b ∈ H.wr, b ∈ (tr.sel ε).2.wr)) :
  ∀ (n : Nat) (σ : σT), μ σ < n → Inv σ → ∀ (d : List Deferred) (ρ : Nat → Nat) (a : Act) (w : World), Rep (E' σ) w0 d H ρ a w → ∀ Q : Exit → Act → World → Prop,
   (∀ ρ' a' w', Rep ε w0 d (tr.sel ε).2 ρ' a' w' → Aft H ρ w nid (tr.sel ε).2 ρ' w' → Q (tr.sel ε).1.to a' w') → LoopWp P c Q a w
 | 0, σ, h, _, _, _, _, _, _, _, _ => absurd h (Nat.not_lt_zero _)
 | n + 1, σ, hμ, hI, d, ρ, a, w, hr, Q, hQ => by
  obtain ⟨b1, b2⟩ := hbody σ hI
  obtain ⟨b2, b3⟩ := b2 (hobs σ hI)
  refine loop_round (b3 (hpc σ hI) hd d ρ a w hr _ fun ρ1 a1 w1 hr1 ha1 => ?_)
  rcases hstep σ hI with ⟨hk, σ', hI', hlt, hw, hw1⟩ | ⟨hk, he, hw, hw1, hw2⟩
  ·rw [hk]
   have ha1' : Aft H ρ w nid H ρ1 w1 := ha1.weak2 hw hw1 fun _ h => h
   exact loop_rule E' Inv μ hbody hobs hpc hd hstep n σ' (by omega) hI' d ρ1 a1 w1 (hr1.weak2 hw) Q fun ρ2 a2 w2 hr2 ha2 => hQ ρ2 a2 w2 hr2 (ha1'.trans hd hd (Nat.le_refl _) ha2)
  ·have := hQ ρ1 a1 w1 (hr1.weak2 hw) (ha1.weak2 hw hw1 hw2)
   rw [← he] at this
   cases hkk : (r.tr.sel (E' σ)).1 with
   | normal => exact absurd hkk hk
   | exit i => rw [hkk] at this; exact this
   | ret => rw [hkk] at this; exact this
def Env.vec (ε : Env) (l : List Int) (b : List Bool) : Env := { ε with i := fun v => l.getD v 0, b := fun v => b.getD v false }
def dI (ε : Env) (l : List E) : List Int := l.map fun e => (e.den ε).1
def dB (ε : Env) (l : List E) : List Bool := l.map fun e => (e.den ε).2
def Same (ε ε' : Env) (n m : Nat) (es bs : List E) : Prop := (∀ (j : Nat) e, es[j]? = some e → ε'.i (n + j) = (e.den ε).1) ∧ (∀ (j : Nat) e, bs[j]? = some e → ε'.b (m + j) = (e.den ε).2) ∧ ε'.sa = ε.sa ∧ ε'.sn = ε.sn ∧ ε'.sc = ε.sc ∧ ε'.st = ε.st
theorem Same.left {ε ε' : Env} {n m : Nat} {es fs bs cs : List E} (h : Same ε ε' n m (es ++ fs) (bs ++ cs)) : Same ε ε' n m es bs :=
 ⟨fun j e hj => h.1 j e (by rw [List.getElem?_append_left (List.getElem?_eq_some_iff.1 hj).1]; exact hj), fun j e hj => h.2.1 j e (by rw [List.getElem?_append_left (List.getElem?_eq_some_iff.1 hj).1]; exact hj), h.2.2⟩
theorem Same.right {ε ε' : Env} {n m : Nat} {es fs bs cs : List E} (h : Same ε ε' n m (es ++ fs) (bs ++ cs)) : Same ε ε' (n + es.length) (m + bs.length) fs cs :=
 ⟨fun j e hj => by rw [Nat.add_assoc]; exact h.1 _ e (by rw [List.getElem?_append_right (by omega)]; simpa using hj), fun j e hj => by rw [Nat.add_assoc]; exact h.2.1 _ e (by rw [List.getElem?_append_right (by omega)]; simpa using hj), h.2.2⟩
section
variable {ε ε' : Env} {ρ : Nat → Nat}
theorem plain_den {x : AV} (h : plainAV x = true) (h1 : ε'.sa = ε.sa) (h2 : ε'.sn = ε.sn) (h3 : ε'.sc = ε.sc) (h4 : ε'.st = ε.st) : x.den ε' ρ = x.den ε ρ := by
 cases x <;> first | (cases h; done) | rfl | simp only [AV.den, h1, h2, h3, h4]
theorem gSV_den {x : SV} {n m : Nat} (ho : okSV x = true) (h : Same ε ε' n m (gSV n m x).2.1 (gSV n m x).2.2) : (gSV n m x).1.den ε' ρ = x.den ε ρ := by
 obtain ⟨hi, hb, h1, h2, h3, h4⟩ := h
 cases x with
 | a x =>
  cases x with
  | int k e =>
   cases e with
   | slen i => simp only [gSV, SV.den, AV.den, E.den, h2]
   | _ => have := hi 0 _ rfl; simp only [gSV, SV.den, AV.den]; rw [← this]; rfl
  | bool e => have := hb 0 e rfl; simp only [gSV, SV.den, AV.den, E.den]; rw [← this]; rfl
  | fptr i z o e => have := hi 0 e rfl; simp only [gSV, SV.den, AV.den, E.den, h1]; rw [← this]; rfl
  | ptr b o => rfl
  | nilp => rfl
  | sl b o l c => rfl
  | nils => rfl
  | fsl i => simp only [gSV, SV.den, AV.den, h1, h2, h3]
  | str i => simp only [gSV, SV.den, AV.den, h4]
 | fn f fi cap =>
  simp only [okSV, Bool.and_eq_true, List.all_eq_true] at ho
  simp only [gSV, SV.den]
  rw [List.map_congr_left fun x hx => plain_den (ho.1 x hx) h1 h2 h3 h4, List.map_congr_left fun x hx => plain_den (ho.2 x hx) h1 h2 h3 h4]
 | nilf => rfl
theorem gSVs_den : ∀ {l : List SV} {n m : Nat}, l.all okSV = true → Same ε ε' n m (gSVs n m l).2.1 (gSVs n m l).2.2 → (gSVs n m l).1.map (SV.den ε' ρ) = l.map (SV.den ε ρ)
 | [], _, _, _, _ => rfl
 | x :: xs, n, m, ho, h => by
  simp only [List.all_cons, Bool.and_eq_true] at ho
  simp only [gSVs, List.map_cons] at h ⊢
  rw [gSV_den ho.1 h.left, gSVs_den ho.2 h.right]
theorem gV1_den {x : V1} {n m : Nat} (ho : okV1 x = true) (h : Same ε ε' n m (gV1 n m x).2.1 (gV1 n m x).2.2) : (gV1 n m x).1.den ε' ρ = x.den ε ρ := by
 cases x with
 | s x => exact gSV_den ho h
 | agg l => simp only [gV1, V1.den]; rw [gSVs_den ho h]
theorem gV1s_den : ∀ {l : List V1} {n m : Nat}, l.all okV1 = true → Same ε ε' n m (gV1s n m l).2.1 (gV1s n m l).2.2 → (gV1s n m l).1.map (V1.den ε' ρ) = l.map (V1.den ε ρ)
 | [], _, _, _, _ => rfl
 | x :: xs, n, m, ho, h => by
  simp only [List.all_cons, Bool.and_eq_true] at ho
  simp only [gV1s, List.map_cons] at h ⊢
  rw [gV1_den ho.1 h.left, gV1s_den ho.2 h.right]
theorem gLV_den {x : LV} {n m : Nat} (ho : okLV x = true) (h : Same ε ε' n m (gLV n m x).2.1 (gLV n m x).2.2) : (gLV n m x).1.den ε' ρ = x.den ε ρ := by
 cases x with
 | v x => exact gV1_den ho h
 | tup l => simp only [gLV, LV.den]; rw [gV1s_den ho h]
 | bad => rfl
theorem gLV_bad {x : LV} {n m : Nat} : (gLV n m x).1 = .bad ↔ x = .bad := by cases x <;> simp [gLV]
theorem gLVs_len : ∀ (l : List LV) (n m : Nat), (gLVs n m l).1.length = l.length
 | [], _, _ => rfl
 | x :: xs, n, m => by simp only [gLVs, List.length_cons, gLVs_len xs]
theorem gLVs_get : ∀ {l : List LV} {n m : Nat}, l.all okLV = true → Same ε ε' n m (gLVs n m l).2.1 (gLVs n m l).2.2 → ∀ (i : Nat) (ρ : Nat → Nat) v, RV ε ρ (l.getD i .bad) v ↔ RV ε' ρ ((gLVs n m l).1.getD i .bad) v
 | [], _, _, _, _, i, ρ, v => by simp [gLVs, RV]
 | x :: xs, n, m, ho, h, 0, ρ, v => by
  simp only [List.all_cons, Bool.and_eq_true] at ho
  simp only [gLVs] at h ⊢
  simp only [List.getD_cons_zero, RV, gLV_den ho.1 h.left, gLV_bad]
 | x :: xs, n, m, ho, h, i + 1, ρ, v => by
  simp only [List.all_cons, Bool.and_eq_true] at ho
  simp only [gLVs] at h ⊢
  simp only [List.getD_cons_succ]
  exact gLVs_get ho.2 h.right i ρ v
theorem gC_get : ∀ {l : Cells} {n m : Nat}, okC l = true → Same ε ε' n m (gC n m l).2.1 (gC n m l).2.2 → ∀ j : Nat, (l[j]? = none ∧ (gC n m l).1[j]? = none) ∨ (l[j]? = some none ∧ (gC n m l).1[j]? = some none) ∨ ∃ s s', l[j]? = some (some s) ∧ (gC n m l).1[j]? = some (some s') ∧ ∀ ρ, s.den ε ρ = s'.den ε' ρ
 | [], _, _, _, _, j => .inl ⟨rfl, rfl⟩
 | none :: xs, n, m, ho, h, 0 => .inr (.inl ⟨rfl, rfl⟩)
 | none :: xs, n, m, ho, h, j + 1 => by
  simp only [okC, List.all_cons, Bool.and_eq_true] at ho
  exact gC_get (l := xs) ho.2 h j
 | some x :: xs, n, m, ho, h, 0 => by
  simp only [okC, List.all_cons, Bool.and_eq_true] at ho
  simp only [gC] at h
  exact .inr (.inr ⟨x, _, rfl, rfl, fun ρ => (gSV_den ho.1 h.left).symm⟩)
 | some x :: xs, n, m, ho, h, j + 1 => by
  simp only [okC, List.all_cons, Bool.and_eq_true] at ho
  simp only [gC] at h
  exact gC_get (l := xs) ho.2 h.right j
theorem gM_get : ∀ {l : List (Nat × Cells)} {n m : Nat}, (l.all fun u => okC u.2) = true → Same ε ε' n m (gM n m l).2.1 (gM n m l).2.2 → ∀ b : Nat, (l.lookup b = none ∧ (gM n m l).1.lookup b = none) ∨ ∃ cs cs', l.lookup b = some cs ∧ (gM n m l).1.lookup b = some cs' ∧
  ∀ j : Nat, (cs[j]? = none ∧ cs'[j]? = none) ∨ (cs[j]? = some none ∧ cs'[j]? = some none) ∨ ∃ s s', cs[j]? = some (some s) ∧ cs'[j]? = some (some s') ∧ ∀ ρ, s.den ε ρ = s'.den ε' ρ
 | [], _, _, _, _, b => .inl ⟨rfl, rfl⟩
 | (k, c) :: xs, n, m, ho, h, b => by
  simp only [List.all_cons, Bool.and_eq_true] at ho
  simp only [gM] at h ⊢
  simp only [List.lookup]
  cases hk : b == k
  ·exact gM_get ho.2 h.right b
  ·exact .inr ⟨_, _, rfl, rfl, gC_get ho.1 h.left⟩
end
theorem strike_len (kill : List Nat) : ∀ (l : List LV) (n : Nat), (strike kill n l).length = l.length
 | [], _ => rfl
 | x :: xs, n => by simp only [strike, List.length_cons, strike_len kill xs]
theorem strike_get (kill : List Nat) {ε : Env} {ρ : Nat → Nat} {v : Value} : ∀ (l : List LV) (n i : Nat), RV ε ρ (l.getD i .bad) v → RV ε ρ ((strike kill n l).getD i .bad) v
 | [], _, _, h => h
 | x :: xs, n, 0, h => by
  simp only [strike, List.getD_cons_zero] at h ⊢
  split
  ·exact .inl rfl
  ·exact h
 | x :: xs, n, i + 1, h => by
  simp only [strike, List.getD_cons_succ] at h ⊢
  exact strike_get kill xs (n + 1) i h
theorem vec_same {ε εv : Env} {es bs : List E} (h1 : εv.sa = ε.sa) (h2 : εv.sn = ε.sn) (h3 : εv.sc = ε.sc) (h4 : εv.st = ε.st) : Same ε (εv.vec (dI ε es) (dB ε bs)) 0 0 es bs := by
 refine ⟨fun j e hj => ?_, fun j e hj => ?_, h1, h2, h3, h4⟩
 ·simp [Env.vec, dI, List.getD_eq_getElem?_getD, hj]
 ·simp [Env.vec, dB, List.getD_eq_getElem?_getD, hj]
theorem weak2_of {ε ε' : Env} {s t : St} {kill keep : List Nat} (h1 : ε'.sa = ε.sa) (h2 : ε'.sn = ε.sn) (h3 : ε'.sc = ε.sc) (h4 : ε'.st = ε.st) (hs : okS (cutS kill keep s) = true) (ht : okS t = true)
  (hg : (gS (cutS kill keep s)).1 = (gS t).1) (hi : dI ε (gS (cutS kill keep s)).2.1 = dI ε' (gS t).2.1) (hb : dB ε (gS (cutS kill keep s)).2.2 = dB ε' (gS t).2.2) : Weak2 ε s ε' t := by
 obtain ⟨s', hs'⟩ : ∃ s', cutS kill keep s = s' := ⟨_, rfl⟩
 have a := vec_same (ε := ε) (εv := ε) (es := (gS s').2.1) (bs := (gS s').2.2) rfl rfl rfl rfl
 have b := vec_same (ε := ε') (εv := ε) (es := (gS t).2.1) (bs := (gS t).2.2) h1.symm h2.symm h3.symm h4.symm
 rw [hs'] at hs hg hi hb
 rw [← hi, ← hb] at b
 simp only [okS, Bool.and_eq_true] at hs ht
 generalize ε.vec (dI ε (gS s').2.1) (dB ε (gS s').2.2) = εv at a b
 have hg1 : (gLVs 0 0 s'.tmps).1 = (gLVs 0 0 t.tmps).1 := congrArg St.tmps hg
 have hg2 : (gM (gLVs 0 0 s'.tmps).2.1.length (gLVs 0 0 s'.tmps).2.2.length s'.mem).1 = (gM (gLVs 0 0 t.tmps).2.1.length (gLVs 0 0 t.tmps).2.2.length t.mem).1 := congrArg St.mem hg
 have al := gLVs_get hs.1 a.left
 have bl := gLVs_get ht.1 b.left
 have am := gM_get hs.2 (by have := a.right; simp only [Nat.zero_add] at this; exact this)
 have bm := gM_get ht.2 (by have := b.right; simp only [Nat.zero_add] at this; exact this)
 have ht' : s'.tmps = strike kill 0 s.tmps := by rw [← hs']; rfl
 have hm' : s'.mem = pickM keep s.mem := by rw [← hs']; rfl
 refine ⟨?_, fun i ρ v hv => ?_, fun k cs hk => ?_⟩
 ·have := congrArg List.length hg1
  rw [gLVs_len, gLVs_len, ht', strike_len] at this
  exact this.symm
 ·have q := (al i ρ v).1 (by rw [ht']; exact strike_get kill _ 0 i hv)
  rw [hg1] at q
  exact (bl i ρ v).2 q
 ·rcases bm k with ⟨e1, _⟩ | ⟨c1, c2, e1, e2, e3⟩
  ·unfold St.at at hk; rw [e1] at hk; cases hk
  ·unfold St.at at hk
   rw [e1] at hk
   cases hk
   rcases am k with ⟨_, f2⟩ | ⟨d1, d2, f1, f2, f3⟩
   ·rw [hg2, e2] at f2; cases f2
   ·rw [hg2, e2] at f2
    cases f2
    rw [hm'] at f1
    obtain ⟨_, f1⟩ := lookup_fM (m := fun b => s.mem.lookup b) f1
    refine ⟨d1, f1, fun j x hj => ?_⟩
    rcases e3 j with ⟨g1, _⟩ | ⟨g1, g2⟩ | ⟨p, q, g1, g2, g3⟩
    ·rw [g1] at hj; cases hj
    ·rw [g1] at hj
     cases hj
     rcases f3 j with ⟨_, g4⟩ | ⟨g3, _⟩ | ⟨_, _, _, g4, _⟩
     ·rw [g2] at g4; cases g4
     ·exact ⟨_, g3, fun _ h => by cases h⟩
     ·rw [g2] at g4; cases g4
    ·rw [g1] at hj
     cases hj
     rcases f3 j with ⟨_, g4⟩ | ⟨_, g4⟩ | ⟨p', q', g4, g5, g6⟩
     ·rw [g2] at g4; cases g4
     ·rw [g2] at g4; cases g4
     ·rw [g2] at g5
      cases g5
      refine ⟨_, g4, fun sv h => ?_⟩
      cases h
      exact ⟨_, rfl, fun ρ => (g6 ρ).trans (g3 ρ).symm⟩
end SX
end Go.Proofs.Ytdoigcpcponnhaa
end
