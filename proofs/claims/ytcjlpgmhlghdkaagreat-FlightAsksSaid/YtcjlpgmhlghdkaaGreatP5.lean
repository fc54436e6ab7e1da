/- Packed: SxY SxI SxC SxJ SxQ SxL SxK SxZ SxN. -/
import Derived.Test.YtcjlpgmhlghdkaaGreatP4
set_option linter.unusedVariables false
set_option linter.unusedSimpArgs false
namespace Go.Proofs.YtcjlpgmhlghdkaaGreat
section
namespace SX
open Go.RowKit
variable {P : Program}
theorem reads4 (hmix : P.follows .mixedOrders = true) {K : Cfg} {n sp : Nat} (hsp : 0 < sp) {f : FuncId} {args : List LV} {nv nid : Nat} {v : LV} {s : St} {nv' : Nat} {obs : List Ob}
  (h : evFn P K n sp f args [] (.blit true) nv nid = some (v, s, nv', obs)) (ha : noIds args = true) (hv : v.ids.isEmpty = true) (ε : Env) (w : World) (hobs : ∀ ob ∈ obs, ob.ok P ε w) :
  Calls P f (args.map (LV.den ε fun _ => 0)).toArray w (fun e w' => e = .returned (v.den ε fun _ => 0) ∧ Below w.heap.size w w') := by
 have := (sound (ε := ε) hmix K w n).2.2.1 _ _ _ _ _ _ _ _ _ _ _ hsp h hobs rfl (by simp) (fun x hx e => by
  have := List.all_eq_true.1 ha x hx
  subst e; simp at this) w (fun _ => 0) (Below.refl _ _) (by simp) (by simp)
 refine this.mono fun e w' ⟨ρ', h1, h2, h3, _, _, h4⟩ => ⟨?_, ⟨h4.os, h4.tape, h4.output, h4.size, fun k hk => h4.block k hk (by simp)⟩⟩
 rw [h1]
 congr 1
 exact LV.den_congr fun b hb => by rw [List.isEmpty_iff.1 hv] at hb; cases hb
theorem reads_ob (hmix : P.follows .mixedOrders = true) {K : Cfg} {n sp : Nat} (hsp : 0 < sp) {f : FuncId} {args : List LV} {mem : List (Nat × Cells)} {nv nid : Nat} {v : LV} {s : St} {nv' : Nat} {obs : List Ob}
  (h : evFn P K n sp f args mem (.blit true) nv nid = some (v, s, nv', obs)) (ha : args.all notBad = true) (hm : mem.all (fun u => u.1 < nid) = true) (hv : v.ids.all (· < nid) = true)
  {upd : List (Nat × Cells)} (hu : s.wr.all (fun b => !(mem.lookup b).isSome || (upd.map (·.1)).contains b) = true) (hu2 : upd.all (fun u => u.1 < nid && (Cells.ids u.2).all (· < nid) && s.at u.1 == some u.2) = true)
  (ε : Env) (w0 : World) (hobs : ∀ ob ∈ obs, ob.ok P ε w0) : (Ob.call (.blit true) f args mem v upd).ok P ε w0 := by
 intro _ w ρ hw hblk hinj
 have hm' : ∀ b, (mem.lookup b).isSome = true → b < nid := fun b hb => by
  obtain ⟨c, hc⟩ := Option.isSome_iff_exists.1 hb
  have := List.all_eq_true.1 hm _ (lookup_mem hc)
  simpa using this
 refine ((sound (ε := ε) hmix K w0 n).2.2.1 _ _ _ _ _ _ _ _ _ _ _ hsp h hobs rfl hm' (fun x hx e => by
  have := List.all_eq_true.1 ha x hx
  subst e; cases this) w ρ hw hblk hinj).mono fun e w' ⟨ρ', h1, h2, h3, _, _, h4⟩ => ⟨?_, fun u hu' => ?_, h4.mono ?_⟩
 ·rw [h1]
  congr 1
  exact LV.den_congr fun b hb => h2 b (by simpa using List.all_eq_true.1 hv b hb)
 ·have := List.all_eq_true.1 hu2 u hu'
  simp only [Bool.and_eq_true, decide_eq_true_eq, beq_iff_eq, List.all_eq_true] at this
  exact (h3 _ _ this.2).congr (h2 _ this.1.1) fun k hk => h2 k (this.1.2 k hk)
 ·rintro x hx ⟨b, hb, hb', rfl⟩
  have := List.all_eq_true.1 hu b hb
  simp only [hb', Bool.not_true, Bool.false_or, List.contains_iff_mem, List.mem_map] at this
  obtain ⟨u, hu', rfl⟩ := this
  exact ⟨u, hu', rfl⟩
def SV.ints (ε : Env) : SV → List Int
 | .a (.int _ e) => [(e.den ε).1]
 | .a (.bool e) => [if (e.den ε).2 then 1 else 0]
 | .a (.fsl i) => [(i : Int)]
 | .a (.str i) => [(i : Int)]
 | _ => []
def cellsInts (ε : Env) (l : Cells) : List Int := l.flatMap fun | some s => s.ints ε | none => []
def argInts (ε : Env) (mem : List (Nat × Cells)) : LV → List Int
 | .v (.s (.a (.sl b off _ _))) => cellsInts ε (((mem.lookup b).getD []).drop off)
 | .v x => x.cells.flatMap (SV.ints ε)
 | _ => []
structure Sig where
 sym : FuncId → Option (Nat × Nat)
 val : Nat → List Int → Nat → Int
def callArgs (z : Nat) (args : List LV) (mem : List (Nat × Cells)) : List LV := if z == 3 then match args with
 | .v (.s (.a (.ptr b 0))) :: rest => match mem.lookup b with
  | some [some (.a (.int k e))] => .v (.s (.a (.int k e))) :: rest
  | _ => args
 | _ => args
 else args
def Env.setI (ε : Env) (v : Nat) (n : Int) : Env := { ε with i := fun j => if j = v then n else ε.i j }
def Env.setB (ε : Env) (v : Nat) (b : Bool) : Env := { ε with b := fun j => if j = v then b else ε.b j }
def Env.setC (ε : Env) (base : Nat) (g : Nat → Int) : Env :=
 { ε with i := fun j => if j / 32 = base then g (j % 32) else ε.i j, b := fun j => if j / 32 = base then decide (g (j % 32) ≠ 0) else ε.b j }
def callNo (S : Sig) (f : FuncId) (args : List LV) (mem : List (Nat × Cells)) : Option (Nat × Nat × List LV) := match S.sym f with
 | some (s, z) => some (callBase s (callArgs z args mem) mem / 32, s, callArgs z args mem)
 | none => none
def Env.step (S : Sig) (ε : Env) : Ob → Env
 | .eq v e => ε.setI v (e.den ε).1
 | .eqb v e => ε.setB v (e.den ε).2
 | .call _ f args mem _ _ => match callNo S f args mem with
  | some (base, s, l) => ε.setC base (S.val s (l.flatMap (argInts ε mem)))
  | none => ε
 | .loop s ins _ _ _ _ _ => ε.setC (callBase s ins [] / 32) (S.val s (ins.flatMap (argInts ε [])))
 | .req _ _ => ε
 | .lst _ _ _ _ => ε
def Env.steps (S : Sig) (ε : Env) (l : List Ob) : Env := l.foldl (Env.step S) ε
structure Kn where
 i : List Nat
 b : List Nat
 c : List Nat
def Kn.hasI (k : Kn) (v : Nat) : Bool := v < top || (if v < 2 * top then k.i.contains v else k.c.contains (v / 32))
def Kn.hasB (k : Kn) (v : Nat) : Bool := v < top || (if v < 2 * top then k.b.contains v else k.c.contains (v / 32))
def Kn.okE (k : Kn) : E → Bool
 | .lit _ => true
 | .var i => k.hasI i
 | .slen _ => true
 | .el _ _ _ x => k.okE x
 | .ar _ _ x y => k.okE x && k.okE y
 | .cv _ x => k.okE x
 | .mx x y => k.okE x && k.okE y
 | .mn x y => k.okE x && k.okE y
 | .ite c x y => k.okE c && k.okE x && k.okE y
 | .blit _ => true
 | .bvar i => k.hasB i
 | .cmp _ x y => k.okE x && k.okE y
 | .not x => k.okE x
 | .same x y => k.okE x && k.okE y
def Kn.okSV (k : Kn) : SV → Bool
 | .a (.int _ e) => k.okE e
 | .a (.bool e) => k.okE e
 | _ => true
def Kn.okLV (k : Kn) : LV → Bool
 | .v x => x.cells.all k.okSV
 | _ => false
def Kn.okC (k : Kn) (l : Cells) : Bool := l.all fun | some s => k.okSV s | none => true
def Kn.okOb (S : Sig) (k : Kn) : Ob → Bool
 | .eq v e => top ≤ v && v < 2 * top && !k.i.contains v && k.okE e
 | .eqb v e => top ≤ v && v < 2 * top && !k.b.contains v && k.okE e
 | .call _ f args mem _ _ => match callNo S f args mem with
  | some (base, s, l) => 2 * top ≤ base * 32 && !k.c.contains base && l.all k.okLV && mem.all fun u => k.okC u.2
  | none => true
 | .loop s ins _ _ _ _ _ => 2 * top ≤ callBase s ins [] / 32 * 32 && !k.c.contains (callBase s ins [] / 32) && ins.all k.okLV
 | .req _ _ => true
 | .lst _ _ _ _ => true
def Kn.add (S : Sig) (k : Kn) : Ob → Kn
 | .eq v _ => { k with i := v :: k.i }
 | .eqb v _ => { k with b := v :: k.b }
 | .call _ f args mem _ _ => match callNo S f args mem with
  | some (base, _, _) => { k with c := base :: k.c }
  | none => k
 | .loop s ins _ _ _ _ _ => { k with c := callBase s ins [] / 32 :: k.c }
 | .req _ _ => k
 | .lst _ _ _ _ => k
def okObs (S : Sig) : Kn → List Ob → Bool
 | _, [] => true
 | k, ob :: rest => k.okOb S ob && okObs S (k.add S ob) rest
def Ob.sat (S : Sig) (ε : Env) : Ob → Prop
 | .eq v e => (e.den ε).1 = ε.i v
 | .eqb v e => (e.den ε).2 = ε.b v
 | .call _ f args mem _ _ => ∀ base s l, callNo S f args mem = some (base, s, l) → ∀ j, j < 32 → ε.i (base * 32 + j) = S.val s (l.flatMap (argInts ε mem)) j ∧ ε.b (base * 32 + j) = decide (S.val s (l.flatMap (argInts ε mem)) j ≠ 0)
 | .loop s ins _ _ _ _ _ => ∀ j, j < 32 → ε.i (callBase s ins [] / 32 * 32 + j) = S.val s (ins.flatMap (argInts ε [])) j ∧ ε.b (callBase s ins [] / 32 * 32 + j) = decide (S.val s (ins.flatMap (argInts ε [])) j ≠ 0)
 | .req _ _ => True
 | .lst _ _ _ _ => True
structure Agree (k : Kn) (ε ε' : Env) : Prop where
 i : ∀ v, k.hasI v = true → ε'.i v = ε.i v
 b : ∀ v, k.hasB v = true → ε'.b v = ε.b v
 sa : ε'.sa = ε.sa
 sn : ε'.sn = ε.sn
 sc : ε'.sc = ε.sc
 st : ε'.st = ε.st
 el : ε'.el = ε.el
theorem Agree.refl (k : Kn) (ε : Env) : Agree k ε ε := ⟨fun _ _ => rfl, fun _ _ => rfl, rfl, rfl, rfl, rfl, rfl⟩
theorem Agree.trans {k : Kn} {ε ε' ε'' : Env} (h : Agree k ε ε') (g : Agree k ε' ε'') : Agree k ε ε'' :=
 ⟨fun v hv => (g.i v hv).trans (h.i v hv), fun v hv => (g.b v hv).trans (h.b v hv), g.sa.trans h.sa, g.sn.trans h.sn, g.sc.trans h.sc, g.st.trans h.st, g.el.trans h.el⟩
theorem Agree.den {k : Kn} {ε ε' : Env} (h : Agree k ε ε') : ∀ {e : E}, k.okE e = true → e.den ε' = e.den ε := by
 intro e
 induction e with
 | lit n => intro _; rfl
 | var i => intro hk; simp only [E.den, h.i i hk]
 | slen i => intro _; simp only [E.den, h.sn]
 | el i m o x hx => intro hk; simp only [E.den, h.el, hx hk]
 | ar op q x y hx hy => intro hk; simp only [Kn.okE, Bool.and_eq_true] at hk; simp only [E.den, hx hk.1, hy hk.2]
 | cv q x hx => intro hk; simp only [E.den, hx hk]
 | mx x y hx hy => intro hk; simp only [Kn.okE, Bool.and_eq_true] at hk; simp only [E.den, hx hk.1, hy hk.2]
 | mn x y hx hy => intro hk; simp only [Kn.okE, Bool.and_eq_true] at hk; simp only [E.den, hx hk.1, hy hk.2]
 | ite c x y hc hx hy => intro hk; simp only [Kn.okE, Bool.and_eq_true] at hk; simp only [E.den, hc hk.1.1, hx hk.1.2, hy hk.2]
 | blit b => intro _; rfl
 | bvar i => intro hk; simp only [E.den, h.b i hk]
 | cmp op x y hx hy => intro hk; simp only [Kn.okE, Bool.and_eq_true] at hk; simp only [E.den, hx hk.1, hy hk.2]
 | not x hx => intro hk; simp only [E.den, hx hk]
 | same x y hx hy => intro hk; simp only [Kn.okE, Bool.and_eq_true] at hk; simp only [E.den, hx hk.1, hy hk.2]
theorem Agree.ints {k : Kn} {ε ε' : Env} (h : Agree k ε ε') {s : SV} (hs : k.okSV s = true) : s.ints ε' = s.ints ε := by
 cases s with
 | a x => cases x <;> first | rfl | (simp only [SV.ints, h.den hs])
 | fn _ _ _ => rfl
 | nilf => rfl
theorem Agree.cells {k : Kn} {ε ε' : Env} (h : Agree k ε ε') : ∀ {l : Cells}, k.okC l = true → cellsInts ε' l = cellsInts ε l
 | [], _ => rfl
 | some s :: l, hl => by
  simp only [Kn.okC, List.all_cons, Bool.and_eq_true] at hl
  have := h.cells (l := l) hl.2
  unfold cellsInts at this ⊢
  simp only [List.flatMap_cons, h.ints hl.1, this]
 | none :: l, hl => by
  simp only [Kn.okC, List.all_cons, Bool.and_eq_true] at hl
  have := h.cells (l := l) hl.2
  unfold cellsInts at this ⊢
  simp only [List.flatMap_cons, this]
theorem okC_drop {k : Kn} {l : Cells} (h : k.okC l = true) (n : Nat) : k.okC (l.drop n) = true := by
 unfold Kn.okC at h ⊢
 rw [List.all_eq_true] at h ⊢
 exact fun x hx => h x (List.mem_of_mem_drop hx)
theorem Agree.arg {k : Kn} {ε ε' : Env} (h : Agree k ε ε') {mem : List (Nat × Cells)} (hm : mem.all (fun u => k.okC u.2) = true) {x : LV} (hx : k.okLV x = true) : argInts ε' mem x = argInts ε mem x := by
 have hl : ∀ l : List SV, l.all k.okSV = true → l.flatMap (SV.ints ε') = l.flatMap (SV.ints ε) := by
  intro l
  induction l with
  | nil => intro _; rfl
  | cons y l ih =>
   intro hy
   simp only [List.all_cons, Bool.and_eq_true] at hy
   simp only [List.flatMap_cons, h.ints hy.1, ih hy.2]
 unfold argInts
 split
 ·rename_i b off _ _
  apply h.cells
  apply okC_drop
  cases hb : mem.lookup b with
  | none => rfl
  | some c => exact List.all_eq_true.1 hm _ (lookup_mem hb)
 ·rename_i v _
  exact hl _ hx
 ·rfl
theorem Agree.args {k : Kn} {ε ε' : Env} (h : Agree k ε ε') {mem : List (Nat × Cells)} (hm : mem.all (fun u => k.okC u.2) = true) : ∀ {l : List LV}, l.all k.okLV = true → l.flatMap (argInts ε' mem) = l.flatMap (argInts ε mem)
 | [], _ => rfl
 | x :: l, hl => by
  simp only [List.all_cons, Bool.and_eq_true] at hl
  simp only [List.flatMap_cons, h.arg hm hl.1, h.args hm hl.2]
def Kn.le (k k' : Kn) : Prop := (∀ v, k.hasI v = true → k'.hasI v = true) ∧ (∀ v, k.hasB v = true → k'.hasB v = true)
theorem contains_cons {a b : Nat} {l : List Nat} (h : l.contains a = true) : (b :: l).contains a = true := by
 simp only [List.contains_cons, Bool.or_eq_true]; exact .inr h
theorem Kn.le_add (S : Sig) (k : Kn) (ob : Ob) : k.le (k.add S ob) := by
 have key : ∀ k' : Kn, (∀ v, k.i.contains v = true → k'.i.contains v = true) → (∀ v, k.b.contains v = true → k'.b.contains v = true) → (∀ v, k.c.contains v = true → k'.c.contains v = true) → k.le k' := fun k' h1 h2 h3 => by
  refine ⟨fun v hv => ?_, fun v hv => ?_⟩
  ·unfold Kn.hasI at hv ⊢
   simp only [Bool.or_eq_true] at hv ⊢
   refine hv.imp id fun hv => ?_
   split at hv <;> rename_i hh
   ·rw [if_pos hh]; exact h1 v hv
   ·rw [if_neg hh]; exact h3 _ hv
  ·unfold Kn.hasB at hv ⊢
   simp only [Bool.or_eq_true] at hv ⊢
   refine hv.imp id fun hv => ?_
   split at hv <;> rename_i hh
   ·rw [if_pos hh]; exact h2 v hv
   ·rw [if_neg hh]; exact h3 _ hv
 cases ob with
 | eq v e => exact key _ (fun _ h => contains_cons h) (fun _ h => h) (fun _ h => h)
 | eqb v e => exact key _ (fun _ h => h) (fun _ h => contains_cons h) (fun _ h => h)
 | req _ _ => exact key _ (fun _ h => h) (fun _ h => h) (fun _ h => h)
 | lst _ _ _ _ => exact key _ (fun _ h => h) (fun _ h => h) (fun _ h => h)
 | loop s ins _ _ _ _ _ => exact key _ (fun _ h => h) (fun _ h => h) (fun _ h => contains_cons h)
 | call pc f args mem res upd =>
  simp only [Kn.add]
  split
  ·exact key _ (fun _ h => h) (fun _ h => h) (fun _ h => contains_cons h)
  ·exact key _ (fun _ h => h) (fun _ h => h) (fun _ h => h)
theorem Agree.mono {k k' : Kn} (h : k.le k') {ε ε' : Env} (g : Agree k' ε ε') : Agree k ε ε' := ⟨fun v hv => g.i v (h.1 v hv), fun v hv => g.b v (h.2 v hv), g.sa, g.sn, g.sc, g.st, g.el⟩
theorem setC_agree {k : Kn} {base : Nat} (h1 : 2 * top ≤ base * 32) (h2 : k.c.contains base = false) (ε : Env) (g : Nat → Int) : Agree k ε (ε.setC base g) := by
 have big : ∀ j, j / 32 = base → 2 * top ≤ j := fun j hj => by have := Nat.div_mul_le_self j 32; rw [hj] at this; omega
 refine ⟨fun j hj => ?_, fun j hj => ?_, rfl, rfl, rfl, rfl, rfl⟩
 ·simp only [Env.setC]
  rw [if_neg]
  intro hb
  have := big j hb
  unfold Kn.hasI at hj
  rw [if_neg (by omega), hb, h2] at hj
  simp only [Bool.or_false, decide_eq_true_eq] at hj
  omega
 ·simp only [Env.setC]
  rw [if_neg]
  intro hb
  have := big j hb
  unfold Kn.hasB at hj
  rw [if_neg (by omega), hb, h2] at hj
  simp only [Bool.or_false, decide_eq_true_eq] at hj
  omega
theorem step_agree {S : Sig} {k : Kn} {ob : Ob} (h : k.okOb S ob = true) (ε : Env) : Agree k ε (ε.step S ob) := by
 cases ob with
 | eq v e =>
  simp only [Kn.okOb, Bool.and_eq_true, decide_eq_true_eq, Bool.not_eq_true'] at h
  refine ⟨fun j hj => ?_, fun _ _ => rfl, rfl, rfl, rfl, rfl, rfl⟩
  simp only [Env.step, Env.setI]
  rw [if_neg]
  rintro rfl
  unfold Kn.hasI at hj
  rw [if_pos h.1.1.2, h.1.2] at hj
  simp only [Bool.or_false, decide_eq_true_eq] at hj
  omega
 | eqb v e =>
  simp only [Kn.okOb, Bool.and_eq_true, decide_eq_true_eq, Bool.not_eq_true'] at h
  refine ⟨fun _ _ => rfl, fun j hj => ?_, rfl, rfl, rfl, rfl, rfl⟩
  simp only [Env.step, Env.setB]
  rw [if_neg]
  rintro rfl
  unfold Kn.hasB at hj
  rw [if_pos h.1.1.2, h.1.2] at hj
  simp only [Bool.or_false, decide_eq_true_eq] at hj
  omega
 | req _ _ => exact Agree.refl _ _
 | lst _ _ _ _ => exact Agree.refl _ _
 | loop s ins _ _ _ _ _ =>
  simp only [Kn.okOb, Bool.and_eq_true, decide_eq_true_eq, Bool.not_eq_true'] at h
  exact setC_agree h.1.1 h.1.2 _ _
 | call pc f args mem res upd =>
  simp only [Kn.okOb] at h
  simp only [Env.step]
  split
  ·rename_i base s l hc
   rw [hc] at h
   simp only [Bool.and_eq_true, decide_eq_true_eq, Bool.not_eq_true'] at h
   obtain ⟨⟨⟨h1, h2⟩, h3⟩, h4⟩ := h
   exact setC_agree h1 h2 _ _
  ·exact Agree.refl _ _
theorem steps_agree {S : Sig} : ∀ {l : List Ob} {k : Kn}, okObs S k l = true → ∀ ε : Env, Agree k ε (ε.steps S l)
 | [], k, _, ε => Agree.refl _ _
 | ob :: l, k, h, ε => by
  simp only [okObs, Bool.and_eq_true] at h
  exact (step_agree h.1 ε).trans ((steps_agree h.2 _).mono (Kn.le_add S k ob))
theorem steps_sat {S : Sig} : ∀ {l : List Ob} {k : Kn}, okObs S k l = true → ∀ (ε : Env), ∀ ob ∈ l, ob.sat S (ε.steps S l)
 | [], _, _, _, ob, h => by cases h
 | ob0 :: l, k, h, ε, ob, hob => by
  simp only [okObs, Bool.and_eq_true] at h
  rcases List.mem_cons.1 hob with rfl | hob
  ·have a1 := step_agree h.1 ε
   have a2 := steps_agree h.2 (ε.step S ob)
   show ob.sat S ((ε.step S ob).steps S l)
   generalize (ε.step S ob).steps S l = ε' at a2
   have a3 := a1.trans (a2.mono (Kn.le_add S k ob))
   cases ob with
   | eq v e =>
    simp only [Kn.okOb, Bool.and_eq_true, decide_eq_true_eq, Bool.not_eq_true'] at h
    have e1 := a2.i v (by unfold Kn.hasI; simp only [Kn.add]; rw [if_pos h.1.1.1.2]; simp)
    simp only [Ob.sat, e1, a3.den h.1.2]
    simp [Env.step, Env.setI]
   | eqb v e =>
    simp only [Kn.okOb, Bool.and_eq_true, decide_eq_true_eq, Bool.not_eq_true'] at h
    have e1 := a2.b v (by unfold Kn.hasB; simp only [Kn.add]; rw [if_pos h.1.1.1.2]; simp)
    simp only [Ob.sat, e1, a3.den h.1.2]
    simp [Env.step, Env.setB]
   | req _ _ => trivial
   | lst _ _ _ _ => trivial
   | loop s ins wy pc st nid tr =>
    intro j hj
    simp only [Kn.okOb, Bool.and_eq_true, decide_eq_true_eq, Bool.not_eq_true'] at h
    obtain ⟨⟨⟨h1, h2⟩, h3⟩, h5⟩ := h
    generalize hbase : callBase s ins [] / 32 = base at h1 h2
    have hd : (base * 32 + j) / 32 = base := by omega
    have hm : (base * 32 + j) % 32 = j := by omega
    have hk : (k.add S (.loop s ins wy pc st nid tr)).c.contains base = true := by simp [Kn.add, hbase]
    have e1 := a2.i (base * 32 + j) (by unfold Kn.hasI; rw [if_neg (by omega), hd, hk]; simp)
    have e2 := a2.b (base * 32 + j) (by unfold Kn.hasB; rw [if_neg (by omega), hd, hk]; simp)
    rw [e1, e2, a3.args (mem := []) rfl h3]
    simp [Env.step, hbase, Env.setC, hd, hm]
   | call pc f args mem res upd =>
    intro base s l' hc j hj
    simp only [Kn.okOb, hc, Bool.and_eq_true, decide_eq_true_eq, Bool.not_eq_true'] at h
    obtain ⟨⟨⟨⟨h1, h2⟩, h3⟩, h4⟩, h5⟩ := h
    have hd : (base * 32 + j) / 32 = base := by omega
    have hm : (base * 32 + j) % 32 = j := by omega
    have hk : (k.add S (.call pc f args mem res upd)).c.contains base = true := by simp [Kn.add, hc]
    have e1 := a2.i (base * 32 + j) (by unfold Kn.hasI; rw [if_neg (by omega), hd, hk]; simp)
    have e2 := a2.b (base * 32 + j) (by unfold Kn.hasB; rw [if_neg (by omega), hd, hk]; simp)
    rw [e1, e2, a3.args h4 h3]
    simp [Env.step, hc, Env.setC, hd, hm]
  ·exact steps_sat h.2 _ ob hob
def Ob.key (S : Sig) : Ob → Nat
 | .eq v _ => 3 * v
 | .eqb v _ => 3 * v + 1
 | .call _ f args mem _ _ => match callNo S f args mem with
  | some (base, _, _) => 3 * base + 2
  | none => 2
 | .loop s ins _ _ _ _ _ => 3 * (callBase s ins [] / 32) + 2
 | .req _ _ => 2
 | .lst _ _ _ _ => 2
def Ob.isQ : Ob → Bool
 | .req _ _ => true
 | .lst _ _ _ _ => true
 | _ => false
def Ob.isM : Ob → Bool
 | .loop _ _ _ _ _ _ _ => true
 | ob => ob.isQ
theorem isQ_sat {S : Sig} {ε : Env} {ob : Ob} (h : ob.isQ = true) : ob.sat S ε := by cases ob <;> first | trivial | cases h
def flatArg (mem : List (Nat × Cells)) : LV → Cells
 | .v (.s (.a (.sl b off _ _))) => ((mem.lookup b).getD []).drop off
 | .v x => x.cells.map some
 | _ => []
theorem argInts_flat (ε : Env) (mem : List (Nat × Cells)) (x : LV) : argInts ε mem x = cellsInts ε (flatArg mem x) := by
 have h : ∀ l : List SV, l.flatMap (SV.ints ε) = cellsInts ε (l.map some) := by
  intro l
  induction l with
  | nil => rfl
  | cons y l ih => simp only [List.flatMap_cons, List.map_cons, ih]; rfl
 unfold argInts flatArg
 split
 ·rfl
 ·exact h _
 ·rfl
def twin (S : Sig) : Ob → Ob → Bool
 | .call _ f args mem _ _, .call _ f' args' mem' _ _ => match callNo S f args mem, callNo S f' args' mem' with
  | some (b, s, l), some (b', s', l') => b == b' && s == s' && l.map (flatArg mem) == l'.map (flatArg mem')
  | _, _ => false
 | .loop s ins _ _ _ _ _, .loop s' ins' _ _ _ _ _ => callBase s ins [] == callBase s' ins' [] && s == s' && ins.map (flatArg []) == ins'.map (flatArg [])
 | _, _ => false
theorem twin_sat {S : Sig} {ε : Env} {x y : Ob} (h : twin S x y = true) (hs : y.sat S ε) : x.sat S ε := by
 unfold twin at h
 split at h
 ·rename_i f args mem _ _ _ f' args' mem' _ _
  split at h
  ·rename_i b s l b' s' l' h1 h2
   simp only [Bool.and_eq_true, beq_iff_eq] at h
   obtain ⟨⟨rfl, rfl⟩, h3⟩ := h
   intro base s0 l0 hc j hj
   rw [h1] at hc
   cases hc
   have e : l.flatMap (argInts ε mem) = l'.flatMap (argInts ε mem') := by
    have h4 := congrArg (fun x => List.flatMap (cellsInts ε) x) h3
    simp only [List.flatMap_map] at h4
    rw [show argInts ε mem = fun x => cellsInts ε (flatArg mem x) from funext fun x => argInts_flat ε mem x, show argInts ε mem' = fun x => cellsInts ε (flatArg mem' x) from funext fun x => argInts_flat ε mem' x]
    exact h4
   rw [e]
   exact hs _ _ _ h2 j hj
  ·cases h
 ·rename_i s ins _ _ _ _ _ s' ins' _ _ _ _ _
  simp only [Bool.and_eq_true, beq_iff_eq] at h
  obtain ⟨⟨h1, rfl⟩, h3⟩ := h
  intro j hj
  have e : ins.flatMap (argInts ε []) = ins'.flatMap (argInts ε []) := by
   have h4 := congrArg (fun x => List.flatMap (cellsInts ε) x) h3
   simp only [List.flatMap_map] at h4
   rw [show argInts ε [] = fun x => cellsInts ε (flatArg [] x) from funext fun x => argInts_flat ε [] x]
   exact h4
  rw [e, h1]
  exact hs j hj
 ·cases h
def nub (S : Sig) : List Ob → List (Nat × Ob) → Option (List (Nat × Ob))
 | [], acc => some acc
 | ob :: rest, acc => if ob.isQ then nub S rest acc else match acc.lookup (ob.key S) with
  | some ob' => if ob == ob' || twin S ob ob' then nub S rest acc else none
  | none => nub S rest ((ob.key S, ob) :: acc)
theorem nub_acc {S : Sig} : ∀ {l : List Ob} {acc r : List (Nat × Ob)}, nub S l acc = some r → (∀ x ∈ acc, x ∈ r) ∧ ∀ ob ∈ l, ob.isQ = true ∨ ∃ ob' ∈ r.map (·.2), ob = ob' ∨ twin S ob ob' = true
 | [], acc, r, h => by cases h; exact ⟨fun _ h => h, fun _ h => by cases h⟩
 | ob :: l, acc, r, h => by
  simp only [nub] at h
  split at h
  ·rename_i hq
   obtain ⟨h1, h2⟩ := nub_acc h
   refine ⟨h1, fun x hx => ?_⟩
   rcases List.mem_cons.1 hx with rfl | hx
   ·exact .inl hq
   ·exact h2 x hx
  split at h
  ·rename_i ob' hl
   split at h
   ·rename_i he
    obtain ⟨h1, h2⟩ := nub_acc h
    refine ⟨h1, fun x hx => ?_⟩
    rcases List.mem_cons.1 hx with rfl | hx
    ·refine .inr ⟨ob', List.mem_map.2 ⟨_, h1 _ (lookup_mem hl), rfl⟩, ?_⟩
     simp only [Bool.or_eq_true, beq_iff_eq] at he
     exact he
    ·exact h2 x hx
   ·cases h
  ·obtain ⟨h1, h2⟩ := nub_acc h
   refine ⟨fun x hx => h1 x (List.mem_cons_of_mem _ hx), fun x hx => ?_⟩
   rcases List.mem_cons.1 hx with rfl | hx
   ·exact .inr ⟨_, List.mem_map.2 ⟨_, h1 _ List.mem_cons_self, rfl⟩, .inl rfl⟩
   ·exact h2 x hx
def rngE : E → Bool
 | .lit n => -9223372036854775808 ≤ n && n ≤ 9223372036854775807
 | .var _ => true
 | .ar .add .i64 _ _ => true
 | .ar .sub .i64 _ _ => true
 | .ar .mul .i64 _ _ => true
 | .ar .quo .i64 _ _ => true
 | .cv .i64 _ => true
 | .mx x y => rngE x && rngE y
 | .mn x y => rngE x && rngE y
 | .ite _ x y => rngE x && rngE y
 | .el _ _ _ _ => true
 | _ => false
def R64 (n : Int) : Prop := -9223372036854775808 ≤ n ∧ n ≤ 9223372036854775807
theorem wrap_R64 (n : Int) : R64 (IntKind.i64.wrap n) := by
 unfold R64
 rw [IntKind.wrap_i64]
 omega
theorem rngE_spec {ε : Env} (hε : ∀ i, R64 (ε.i i)) : ∀ {e : E}, rngE e = true → R64 (e.den ε).1 := by
 intro e
 induction e with
 | lit n => intro h; simpa [rngE, R64, E.den] using h
 | var i => intro _; exact hε i
 | slen i => intro h; cases h
 | el i m o x hx => intro _; unfold R64; simp only [E.den, clmp]; split <;> omega
 | ar op q x y hx hy => intro h; cases op <;> cases q <;> first | (cases h; done) | exact wrap_R64 _
 | cv q x hx => intro h; cases q <;> first | (cases h; done) | exact wrap_R64 _
 | mx x y hx hy => intro h; simp only [rngE, Bool.and_eq_true] at h; have := hx h.1; have := hy h.2; simp only [E.den]; split <;> assumption
 | mn x y hx hy => intro h; simp only [rngE, Bool.and_eq_true] at h; have := hx h.1; have := hy h.2; simp only [E.den]; split <;> assumption
 | ite c x y hc hx hy => intro h; simp only [rngE, Bool.and_eq_true] at h; have := hx h.1; have := hy h.2; simp only [E.den]; split <;> assumption
 | blit b => intro h; cases h
 | bvar i => intro h; cases h
 | cmp op x y hx hy => intro h; cases h
 | not x hx => intro h; cases h
 | same x y hx hy => intro h; cases h
def rngSV : SV → Bool
 | .a (.int _ e) => rngE e
 | _ => true
def rngOb : Ob → Bool
 | .eq _ e => rngE e
 | .eqb _ _ => true
 | .call _ _ args mem _ _ => args.all (fun x => match x with | .v v => v.cells.all rngSV | _ => false) && mem.all fun u => u.2.all fun c => match c with | some s => rngSV s | none => true
 | .loop _ ins _ _ _ _ _ => ins.all (fun x => match x with | .v v => v.cells.all rngSV | _ => false)
 | .req _ _ => true
 | .lst _ _ _ _ => true
theorem steps_R64 {S : Sig} (hS : ∀ s l k, R64 (S.val s l k)) : ∀ {l : List Ob} {ε : Env}, l.all rngOb = true → (∀ i, R64 (ε.i i)) → ∀ i, R64 ((ε.steps S l).i i)
 | [], ε, _, h => h
 | ob :: l, ε, hr, h => by
  simp only [List.all_cons, Bool.and_eq_true] at hr
  refine steps_R64 hS (l := l) (ε := ε.step S ob) hr.2 fun i => ?_
  cases ob with
  | eq v e =>
   simp only [Env.step, Env.setI]
   split
   ·exact rngE_spec h hr.1
   ·exact h i
  | eqb v e => exact h i
  | req _ _ => exact h i
  | lst _ _ _ _ => exact h i
  | loop s ins _ _ _ _ _ =>
   simp only [Env.step, Env.setC]
   split
   ·exact hS _ _ _
   ·exact h i
  | call pc f args mem res upd =>
   simp only [Env.step]
   split
   ·simp only [Env.setC]
    split
    ·exact hS _ _ _
    ·exact h i
   ·exact h i
def goodL (P : Program) (S : Sig) (shp : FuncId → List LV → List (Nat × Cells) → Bool) (obs : List Ob) : Bool := match nub S obs [] with
 | some r => okObs S ⟨[], [], []⟩ (r.reverse.map (·.2)) && obs.all rngOb && obs.all fun ob => match ob with
  | .call pc f args mem res upd => pc == .blit true && shp f args mem && stdRes P S.sym f args mem == some (res, upd)
  | _ => true
 | none => false
def goodB (P : Program) (S : Sig) (shp : FuncId → List LV → List (Nat × Cells) → Bool) (obs : List Ob) : Bool := goodL P S shp obs && obs.all fun ob => !ob.isM
def Env.solve (S : Sig) (obs : List Ob) (ε0 : Env) : Env := match nub S obs [] with
 | some r => ε0.steps S (r.reverse.map (·.2))
 | none => ε0
theorem good_okL {S : Sig} {shp : FuncId → List LV → List (Nat × Cells) → Bool} {obs : List Ob} (h : goodL P S shp obs = true) (hS : ∀ s l k, R64 (S.val s l k)) (ε0 : Env) (h0 : ∀ i, R64 (ε0.i i)) :
  (∀ v, v < top → (ε0.solve S obs).i v = ε0.i v) ∧ (ε0.solve S obs).sa = ε0.sa ∧ (ε0.solve S obs).sn = ε0.sn ∧ (ε0.solve S obs).sc = ε0.sc ∧ (ε0.solve S obs).el = ε0.el ∧ (∀ i, R64 ((ε0.solve S obs).i i)) ∧
   ∀ w0 : World, (∀ f args mem res upd, shp f args mem = true → stdRes P S.sym f args mem = some (res, upd) → rngOb (.call (.blit true) f args mem res upd) = true → Ob.sat S (ε0.solve S obs) (.call (.blit true) f args mem res upd) → Ob.ok P (ε0.solve S obs) w0 (.call (.blit true) f args mem res upd)) →
    (∀ ob ∈ obs, ob.isM = true → ob.sat S (ε0.solve S obs) → ob.ok P (ε0.solve S obs) w0) → ∀ ob ∈ obs, ob.ok P (ε0.solve S obs) w0 := by
 unfold goodL at h
 unfold Env.solve
 split at h
 ·rename_i r hr
  simp only [Bool.and_eq_true] at h
  obtain ⟨⟨h1, h2⟩, h3⟩ := h
  obtain ⟨_, hn⟩ := nub_acc hr
  have ha := steps_agree h1 ε0
  have hs := steps_sat h1 ε0
  have hrl : (r.reverse.map (·.2)).all rngOb = true := by
   -- each of them is one of the obligations
   have key : ∀ (l : List Ob) (acc r : List (Nat × Ob)), nub S l acc = some r → ∀ x ∈ r, x ∈ acc ∨ x.2 ∈ l := by
    intro l
    induction l with
    | nil => intro acc r h x hx; cases h; exact .inl hx
    | cons ob l ih =>
     intro acc r h x hx
     simp only [nub] at h
     split at h
     ·rcases ih _ _ h x hx with h' | h'
      ·exact .inl h'
      ·exact .inr (List.mem_cons_of_mem _ h')
     split at h
     ·split at h
      ·rcases ih _ _ h x hx with h' | h'
       ·exact .inl h'
       ·exact .inr (List.mem_cons_of_mem _ h')
      ·cases h
     ·rcases ih _ _ h x hx with h' | h'
      ·rcases List.mem_cons.1 h' with rfl | h'
       ·exact .inr List.mem_cons_self
       ·exact .inl h'
      ·exact .inr (List.mem_cons_of_mem _ h')
   rw [List.all_eq_true]
   intro ob hob
   obtain ⟨x, hx, rfl⟩ := List.mem_map.1 hob
   rcases key obs [] r hr x (List.mem_reverse.1 hx) with h' | h'
   ·cases h'
   ·exact List.all_eq_true.1 h2 _ h'
  have hR := steps_R64 hS hrl h0
  refine ⟨fun v hv => ha.i v (by unfold Kn.hasI; simp [hv]), ha.sa, ha.sn, ha.sc, ha.el, hR, fun w0 hcon hmem ob hob => ?_⟩
  have sat : ob.sat S (ε0.steps S (r.reverse.map (·.2))) := by
   rcases hn ob hob with hq | ⟨ob', hob', he⟩
   ·exact isQ_sat hq
   have := hs ob' (by rw [List.map_reverse]; exact List.mem_reverse.2 hob')
   rcases he with rfl | he
   ·exact this
   ·exact twin_sat he this
  cases ob with
  | eq v e => exact sat
  | eqb v e => exact sat
  | req _ _ => exact hmem _ hob rfl sat
  | lst _ _ _ _ => exact hmem _ hob rfl sat
  | loop _ _ _ _ _ _ _ => exact hmem _ hob rfl sat
  | call pc f args mem res upd =>
   have := List.all_eq_true.1 h3 _ hob
   simp only [Bool.and_eq_true, beq_iff_eq] at this
   obtain ⟨⟨rfl, g1⟩, g2⟩ := this
   exact hcon f args mem res upd g1 g2 (List.all_eq_true.1 h2 _ hob) sat
 ·cases h
theorem good_ok {S : Sig} {shp : FuncId → List LV → List (Nat × Cells) → Bool} {obs : List Ob} (h : goodB P S shp obs = true) (hS : ∀ s l k, R64 (S.val s l k)) (ε0 : Env) (h0 : ∀ i, R64 (ε0.i i)) :
  (∀ v, v < top → (ε0.solve S obs).i v = ε0.i v) ∧ (ε0.solve S obs).sa = ε0.sa ∧ (ε0.solve S obs).sn = ε0.sn ∧ (ε0.solve S obs).sc = ε0.sc ∧ (∀ i, R64 ((ε0.solve S obs).i i)) ∧
   ∀ w0 : World, (∀ f args mem res upd, shp f args mem = true → stdRes P S.sym f args mem = some (res, upd) → rngOb (.call (.blit true) f args mem res upd) = true → Ob.sat S (ε0.solve S obs) (.call (.blit true) f args mem res upd) → Ob.ok P (ε0.solve S obs) w0 (.call (.blit true) f args mem res upd)) →
    ∀ ob ∈ obs, ob.ok P (ε0.solve S obs) w0 := by
 unfold goodB at h
 simp only [Bool.and_eq_true] at h
 obtain ⟨g1, g2, g3, g4, g5, g6, g7⟩ := good_okL h.1 hS ε0 h0
 refine ⟨g1, g2, g3, g4, g6, fun w0 hc => g7 w0 hc fun ob hob hm _ => ?_⟩
 have := List.all_eq_true.1 h.2 ob hob
 rw [hm] at this
 cases this
end SX
end
section
namespace SX
open Go.RowKit
variable {P : Program}
def matchSV (p a : SV) (k : Nat) : Bool := match p, a with
 | .a (.int q (.var i)), .a (.int q' _) => i == k && q == q'
 | .a (.fsl i), .a (.fsl j) => i == j
 | _, _ => false
def matchSVs : List SV → List SV → Nat → Bool
 | [], [], _ => true
 | p :: ps, a :: as, k => matchSV p a k && matchSVs ps as (k + 1)
 | _, _, _ => false
def matchLV (p a : LV) (k : Nat) : Bool := match p, a with
 | .v (.agg l), .v (.agg m) => matchSVs l m k
 | .v (.s x), .v (.s y) => matchSV x y k
 | _, _ => false
def sizeLV : LV → Nat
 | .v x => x.cells.length
 | _ => 0
def matchLVs : List LV → List LV → Nat → Bool
 | [], [], _ => true
 | p :: ps, a :: as, k => matchLV p a k && matchLVs ps as (k + sizeLV p)
 | _, _, _ => false
def envL (T : Env) (l : List Int) : Env := { i := fun v => l.getD v 0, b := fun _ => false, sa := T.sa, sn := T.sn, sc := T.sc, st := T.st, el := T.el }
theorem matchSV_ints {p a : SV} {k : Nat} (h : matchSV p a k = true) (ε : Env) : ∃ x, a.ints ε = [x] := by
 unfold matchSV at h
 split at h
 ·exact ⟨_, rfl⟩
 ·exact ⟨_, rfl⟩
 ·cases h
theorem matchSV_den {p a : SV} {k : Nat} (h : matchSV p a k = true) {ε ε' : Env} {ρ ρ' : Nat → Nat} (hs : ε'.sa = ε.sa ∧ ε'.sn = ε.sn ∧ ε'.sc = ε.sc) (hk : ∀ x, a.ints ε = [x] → ε'.i k = x) : p.den ε' ρ' = a.den ε ρ := by
 unfold matchSV at h
 split at h
 ·rename_i q i q' e
  simp only [Bool.and_eq_true, beq_iff_eq] at h
  obtain ⟨rfl, rfl⟩ := h
  simp only [SV.den, AV.den, E.den, hk _ rfl]
 ·simp only [beq_iff_eq] at h
  subst h
  simp only [SV.den, AV.den, hs]
 ·cases h
theorem matchSVs_den {ε ε' : Env} {ρ ρ' : Nat → Nat} (hs : ε'.sa = ε.sa ∧ ε'.sn = ε.sn ∧ ε'.sc = ε.sc) : ∀ {ps as : List SV} {k : Nat} {L : List Int}, matchSVs ps as k = true → (∀ j x, (as.flatMap (SV.ints ε))[j]? = some x → ε'.i (k + j) = x) →
  ps.map (SV.den ε' ρ') = as.map (SV.den ε ρ) ∧ (as.flatMap (SV.ints ε)).length = ps.length
 | [], [], _, _, _, _ => ⟨rfl, rfl⟩
 | p :: ps, a :: as, k, L, h, hk => by
  simp only [matchSVs, Bool.and_eq_true] at h
  obtain ⟨x, hx⟩ := matchSV_ints h.1 ε
  have e1 : p.den ε' ρ' = a.den ε ρ := matchSV_den h.1 hs fun y hy => by
   rw [hx] at hy; cases hy
   have := hk 0 x (by simp [hx])
   simpa using this
  obtain ⟨e2, e3⟩ := matchSVs_den (ρ := ρ) (ρ' := ρ') hs (L := L) h.2 fun j y hj => by
   have := hk (j + 1) y (by simp only [List.flatMap_cons, hx, List.singleton_append, List.getElem?_cons_succ]; exact hj)
   rw [← this]; congr 1; omega
  exact ⟨by simp only [List.map_cons, e1, e2], by simp only [List.flatMap_cons, hx, List.singleton_append, List.length_cons, e3]⟩
 | [], _ :: _, _, _, h, _ => by simp [matchSVs] at h
 | _ :: _, [], _, _, h, _ => by simp [matchSVs] at h
theorem matchLV_den {ε ε' : Env} {ρ ρ' : Nat → Nat} (hs : ε'.sa = ε.sa ∧ ε'.sn = ε.sn ∧ ε'.sc = ε.sc) {p a : LV} {k : Nat} {mem : List (Nat × Cells)} (h : matchLV p a k = true) (hk : ∀ j x, (argInts ε mem a)[j]? = some x → ε'.i (k + j) = x) :
  p.den ε' ρ' = a.den ε ρ ∧ (argInts ε mem a).length = sizeLV p := by
 unfold matchLV at h
 split at h
 ·rename_i l m
  have hk' : ∀ j x, (m.flatMap (SV.ints ε))[j]? = some x → ε'.i (k + j) = x := hk
  obtain ⟨e1, e2⟩ := matchSVs_den (ρ := ρ) (ρ' := ρ') hs (L := []) h hk'
  refine ⟨?_, e2⟩
  simp only [LV.den, V1.den, e1]
 ·rename_i x y
  obtain ⟨n, hn⟩ := matchSV_ints h ε
  have hy : argInts ε mem (.v (.s y)) = y.ints ε := by
   unfold matchSV at h
   split at h
   ·rfl
   ·rfl
   ·cases h
  rw [hy] at hk ⊢
  refine ⟨?_, by rw [hn]; rfl⟩
  simp only [LV.den, V1.den]
  exact matchSV_den h hs fun z hz => by
   have := hk 0 z (by rw [hz]; rfl)
   simpa using this
 ·cases h
theorem matchLVs_den {ε ε' : Env} {ρ ρ' : Nat → Nat} (hs : ε'.sa = ε.sa ∧ ε'.sn = ε.sn ∧ ε'.sc = ε.sc) {mem : List (Nat × Cells)} : ∀ {ps as : List LV} {k : Nat}, matchLVs ps as k = true → (∀ j x, (as.flatMap (argInts ε mem))[j]? = some x → ε'.i (k + j) = x) →
  ps.map (LV.den ε' ρ') = as.map (LV.den ε ρ)
 | [], [], _, _, _ => rfl
 | p :: ps, a :: as, k, h, hk => by
  simp only [matchLVs, Bool.and_eq_true] at h
  have hk1 : ∀ j x, (argInts ε mem a)[j]? = some x → ε'.i (k + j) = x := fun j x hj => hk j x (by
   rw [List.flatMap_cons, List.getElem?_append_left (List.getElem?_eq_some_iff.1 hj).1]; exact hj)
  obtain ⟨e1, e2⟩ := matchLV_den (ρ := ρ) (ρ' := ρ') hs h.1 hk1
  simp only [List.map_cons, e1]
  rw [matchLVs_den (ρ := ρ) (ρ' := ρ') hs (mem := mem) h.2 fun j x hj => by
   have := hk (sizeLV p + j) x (by
    rw [List.flatMap_cons, List.getElem?_append_right (by omega), e2, show sizeLV p + j - sizeLV p = j by omega]; exact hj)
   rw [← this]; congr 1; omega]
 | [], _ :: _, _, h, _ => by simp [matchLVs] at h
 | _ :: _, [], _, h, _ => by simp [matchLVs] at h
def sizeLVs : List LV → Nat
 | [] => 0
 | p :: ps => sizeLV p + sizeLVs ps
theorem matchSVs_len (ε : Env) : ∀ {ps as : List SV} {k : Nat}, matchSVs ps as k = true → (as.flatMap (SV.ints ε)).length = ps.length
 | [], [], _, _ => rfl
 | p :: ps, a :: as, k, h => by
  simp only [matchSVs, Bool.and_eq_true] at h
  obtain ⟨x, hx⟩ := matchSV_ints h.1 ε
  simp only [List.flatMap_cons, hx, List.singleton_append, List.length_cons, matchSVs_len ε h.2]
 | [], _ :: _, _, h => by simp [matchSVs] at h
 | _ :: _, [], _, h => by simp [matchSVs] at h
theorem matchLV_len (ε : Env) {mem : List (Nat × Cells)} {p a : LV} {k : Nat} (h : matchLV p a k = true) : (argInts ε mem a).length = sizeLV p ∧ argInts ε mem a = argInts ε [] a := by
 unfold matchLV at h
 split at h
 ·rename_i l m
  exact ⟨matchSVs_len ε h, rfl⟩
 ·rename_i x y
  obtain ⟨n, hn⟩ := matchSV_ints h ε
  have hy : ∀ mem, argInts ε mem (.v (.s y)) = y.ints ε := fun mem => by
   unfold matchSV at h
   split at h
   ·rfl
   ·rfl
   ·cases h
  rw [hy, hy]
  exact ⟨by rw [hn]; rfl, rfl⟩
 ·cases h
theorem matchLVs_len (ε : Env) {mem : List (Nat × Cells)} : ∀ {ps as : List LV} {k : Nat}, matchLVs ps as k = true → (as.flatMap (argInts ε mem)).length = sizeLVs ps ∧ as.flatMap (argInts ε mem) = as.flatMap (argInts ε [])
 | [], [], _, _ => ⟨rfl, rfl⟩
 | p :: ps, a :: as, k, h => by
  simp only [matchLVs, Bool.and_eq_true] at h
  obtain ⟨e1, e2⟩ := matchLV_len ε (mem := mem) h.1
  obtain ⟨e3, e4⟩ := matchLVs_len ε (mem := mem) h.2
  exact ⟨by simp only [List.flatMap_cons, List.length_append, e1, e3, sizeLVs], by simp only [List.flatMap_cons, e2, e4]⟩
 | [], _ :: _, _, h => by simp [matchLVs] at h
 | _ :: _, [], _, h => by simp [matchLVs] at h
def Con (P : Program) (S : Sig) (shp : FuncId → List LV → List (Nat × Cells) → Bool) (T : Env) (w0 : World) : Prop :=
 ∀ (ε : Env), ε.sa = T.sa → ε.sn = T.sn → ε.sc = T.sc → (∀ i, R64 (ε.i i)) → ∀ w, Below w0.heap.size w0 w → ∀ f args mem res upd, shp f args mem = true → stdRes P S.sym f args mem = some (res, upd) →
  rngOb (.call (.blit true) f args mem res upd) = true → Ob.sat S ε (.call (.blit true) f args mem res upd) → Ob.ok P ε w (.call (.blit true) f args mem res upd)
theorem R64_0 : R64 0 := by unfold R64; omega
theorem envL_R64 {T : Env} {l : List Int} (h : ∀ x ∈ l, R64 x) (i : Nat) : R64 ((envL T l).i i) := by
 show R64 (l.getD i 0)
 rw [List.getD_eq_getElem?_getD]
 cases hi : l[i]? with
 | none => exact R64_0
 | some x => exact h x (List.mem_of_getElem? hi)
theorem law_true (hmix : P.follows .mixedOrders = true) {S : Sig} {shp : FuncId → List LV → List (Nat × Cells) → Bool} {K : Cfg} {n sp : Nat} (hsp : 0 < sp) {f : FuncId} {args : List LV} {nv nid : Nat}
  (h : (match evFn P K n sp f args [] (.blit true) nv nid with | some (v, _, _, obs) => v == .v (.s (.a (.bool (.blit true)))) && goodB P S shp obs | none => false) = true) (ha : noIds args = true)
  (hS : ∀ s l k, R64 (S.val s l k)) {T : Env} {w : World} (hc : Con P S shp T w) (ε0 : Env) (h0 : ∀ i, R64 (ε0.i i)) (hT : ε0.sa = T.sa ∧ ε0.sn = T.sn ∧ ε0.sc = T.sc) (hv : ∀ x ∈ args, ∀ ε : Env, (∀ v, v < top → ε.i v = ε0.i v) → ε.sa = ε0.sa → ε.sn = ε0.sn → ε.sc = ε0.sc → x.den ε (fun _ => 0) = x.den ε0 (fun _ => 0)) :
  Calls P f (args.map (LV.den ε0 fun _ => 0)).toArray w (fun e w' => e = .returned (.bool true) ∧ Below w.heap.size w w') := by
 split at h
 ·rename_i v s nv' obs he
  simp only [Bool.and_eq_true, beq_iff_eq] at h
  obtain ⟨rfl, hg⟩ := h
  obtain ⟨g1, g2, g3, g4, g5, g6⟩ := good_ok hg hS ε0 h0
  have := reads4 hmix hsp he ha rfl (ε0.solve S obs) w (g6 w (hc _ (g2.trans hT.1) (g3.trans hT.2.1) (g4.trans hT.2.2) g5 w (Below.refl _ _)))
  rw [List.map_congr_left fun x hx => hv x hx _ g1 g2 g3 g4] at this
  exact this
 ·cases h
def rd (P : Program) (K : Cfg) (n sp : Nat) (f : FuncId) (pat : List LV) (mem : List (Nat × Cells)) : LV × St × List Ob := match evFn P K n sp f pat mem (.blit true) 0 1 with
 | some (v, s, _, obs) => (v, s, obs)
 | none => (.bad, ⟨[], [], []⟩, [])
theorem rd_some {K : Cfg} {n sp : Nat} {f : FuncId} {pat : List LV} {mem : List (Nat × Cells)} (h : (rd P K n sp f pat mem).1 ≠ .bad) : ∃ nv', evFn P K n sp f pat mem (.blit true) 0 1 = some ((rd P K n sp f pat mem).1, (rd P K n sp f pat mem).2.1, nv', (rd P K n sp f pat mem).2.2) := by
 unfold rd at h ⊢
 split
 ·rename_i v s nv obs he
  exact ⟨nv, he⟩
 ·rename_i he
  rw [he] at h
  exact absurd rfl h
def intE : LV → E
 | .v (.s (.a (.int .i64 e))) => e
 | _ => .lit 0
def isIntLV : LV → Bool
 | .v (.s (.a (.int .i64 _))) => true
 | _ => false
def clampI (n : Int) : Int := if -9223372036854775808 ≤ n ∧ n ≤ 9223372036854775807 then n else 0
theorem clampI_R64 (n : Int) : R64 (clampI n) := by unfold clampI R64; split <;> omega
theorem clampI_eq {n : Int} (h : R64 n) : clampI n = n := if_pos h
def pairI (P : Program) (S : Sig) (shp : FuncId → List LV → List (Nat × Cells) → Bool) (K : Cfg) (n sp : Nat) (f g : FuncId) (pat : List LV) : Bool :=
 goodB P S shp ((rd P K n sp f pat []).2.2 ++ (rd P K n sp g pat []).2.2) && isIntLV (rd P K n sp f pat []).1 && isIntLV (rd P K n sp g pat []).1 && noIds pat &&
  (mkEq 200 (intE (rd P K n sp f pat []).1) (intE (rd P K n sp g pat []).1) == .blit true) && rngE (intE (rd P K n sp f pat []).1)
theorem base32 (s : Nat) (args : List LV) (mem : List (Nat × Cells)) : callBase s args mem / 32 * 32 = callBase s args mem := by
 unfold callBase; omega
theorem pairI_con {S0 S : Sig} {shp0 : FuncId → List LV → List (Nat × Cells) → Bool} {K : Cfg} {n sp : Nat} (hmix : P.follows .mixedOrders = true) (hsp : 0 < sp) {f g : FuncId} {pat : List LV} (h : pairI P S0 shp0 K n sp f g pat = true) (hsz : sizeLVs pat < top)
  (hS0 : ∀ s l k, R64 (S0.val s l k)) {T : Env} {w0 : World} (hc : Con P S0 shp0 T w0) {s : Nat} (hval : ∀ L, S.val s L 0 = clampI ((intE (rd P K n sp f pat []).1).den ((envL T (L.map clampI)).solve S0 ((rd P K n sp f pat []).2.2 ++ (rd P K n sp g pat []).2.2))).1)
  {q : FuncId} (hq : q = f ∨ q = g) (hs : S.sym q = some (s, 0)) {fn : Func} (hfn : P.funcs[q]? = some fn) (hres : ∀ base, ∃ m, nameRes P fn base = some (.v (.s (.a (.int .i64 (.var base)))), m))
  (ε : Env) (ht : ε.sa = T.sa ∧ ε.sn = T.sn ∧ ε.sc = T.sc) {w : World} (hw : Below w0.heap.size w0 w) {args : List LV} {mem : List (Nat × Cells)} {res : LV} {upd : List (Nat × Cells)} (hm : matchLVs pat args 0 = true) (hR : ∀ x ∈ args.flatMap (argInts ε []), R64 x)
  (hstd : stdRes P S.sym q args mem = some (res, upd)) (hsat : Ob.sat S ε (.call (.blit true) q args mem res upd)) : Ob.ok P ε w (.call (.blit true) q args mem res upd) := by
 unfold pairI at h
 simp only [Bool.and_eq_true, beq_iff_eq] at h
 obtain ⟨⟨⟨⟨⟨g1, g2⟩, g3⟩, g4⟩, g5⟩, g6⟩ := h
 have hres' : res = .v (.s (.a (.int .i64 (.var (callBase s args mem))))) ∧ upd = [] := by
  unfold stdRes at hstd
  rw [hs, hfn] at hstd
  obtain ⟨m, hm⟩ := hres (callBase s args mem)
  simp [stdVal, hm] at hstd
  exact ⟨hstd.1.symm, hstd.2⟩
 obtain ⟨rfl, rfl⟩ := hres'
 obtain ⟨l1, l2⟩ := matchLVs_len ε (mem := mem) hm
 obtain ⟨L, hL⟩ : ∃ L, args.flatMap (argInts ε mem) = L := ⟨_, rfl⟩
 rw [hL] at l1 l2
 have hclamp : L.map clampI = L := by
  conv => rhs; rw [← List.map_id L]
  exact List.map_congr_left fun x hx => clampI_eq (hR x (l2 ▸ hx))
 have hcn : callNo S q args mem = some (callBase s args mem / 32, s, args) := by
  unfold callNo
  rw [hs]
  rfl
 have hv := (hsat _ _ _ hcn 0 (by omega)).1
 rw [base32, Nat.add_zero, hL, hval, hclamp] at hv
 have hE : ∀ i, R64 ((envL T L).i i) := envL_R64 fun x hx => hR x (l2 ▸ hx)
 obtain ⟨e1, e2, e3, e4, e5, e6⟩ := good_ok g1 hS0 (envL T L) hE
 generalize (envL T L).solve S0 ((rd P K n sp f pat []).2.2 ++ (rd P K n sp g pat []).2.2) = εs at hv e1 e2 e3 e4 e5 e6
 have hob := fun w hw => e6 w (hc εs e2 e3 e4 e5 w hw)
 have hden : ∀ ρ : Nat → Nat, pat.map (LV.den εs fun _ => 0) = args.map (LV.den ε ρ) := fun ρ =>
  matchLVs_den ⟨e2.trans ht.1.symm, e3.trans ht.2.1.symm, e4.trans ht.2.2.symm⟩ (mem := mem) hm fun j x hj => by
   rw [hL] at hj
   have hlt := (List.getElem?_eq_some_iff.1 hj).1
   rw [Nat.zero_add, e1 j (by omega)]
   show L.getD j 0 = x
   rw [List.getD_eq_getElem?_getD, hj]; rfl
 have eqE : ((intE (rd P K n sp g pat []).1).den εs).1 = ((intE (rd P K n sp f pat []).1).den εs).1 := by
  have := congrArg (fun x => (E.den εs x).2) g5
  simp only [mkEq_den, E.den, beq_iff_eq] at this
  exact this.symm
 have hrng : R64 ((intE (rd P K n sp f pat []).1).den εs).1 := rngE_spec e5 g6
 rw [clampI_eq hrng] at hv
 intro _ w2 ρ hw2 _ _
 have int_of : ∀ {v : LV}, isIntLV v = true → v ≠ .bad ∧ v.ids = [] ∧ ∀ ε ρ, v.den ε ρ = .int .i64 ((intE v).den ε).1 := by
  intro v hv
  unfold isIntLV at hv
  split at hv
  ·exact ⟨by simp, rfl, fun _ _ => rfl⟩
  ·cases hv
 have fin : ∀ {e : Ending} {w' : World} {x : Int}, x = ε.i (callBase s args mem) → e = .returned (.int .i64 x) ∧ Below w2.heap.size w2 w' → e = .returned ((LV.v (.s (.a (.int .i64 (.var (callBase s args mem)))))).den ε ρ) ∧ (∀ u ∈ ([] : List (Nat × Cells)), Blk ε ρ w.heap.size w' u.1 u.2) ∧ Ext w2 w' (fun x => ∃ u ∈ ([] : List (Nat × Cells)), ρ u.1 = x) := by
  intro e w' x hx ⟨h1, h2⟩
  subst hx
  exact ⟨h1, by simp, Ext.of_below h2 _⟩
 have hb2 : Below w0.heap.size w0 w2 := hw.trans (hw2.mono hw.size)
 rcases hq with rfl | rfl
 ·obtain ⟨i1, i2, i3⟩ := int_of g2
  obtain ⟨nv', hev⟩ := rd_some i1
  have := reads4 hmix hsp hev g4 (by rw [i2]; rfl) εs w2 (fun ob hb => hob w2 hb2 ob (List.mem_append_left _ hb))
  rw [hden ρ, i3] at this
  exact this.mono fun e w' h => fin hv.symm h
 ·obtain ⟨i1, i2, i3⟩ := int_of g3
  obtain ⟨nv', hev⟩ := rd_some i1
  have := reads4 hmix hsp hev g4 (by rw [i2]; rfl) εs w2 (fun ob hb => hob w2 hb2 ob (List.mem_append_right _ hb))
  rw [hden ρ, i3, eqE] at this
  exact this.mono fun e w' h => fin hv.symm h
def spE0 : LV → E
 | .v (.agg [.a (.int .i64 a), .a (.int .i64 _)]) => a
 | _ => .lit 0
def spE1 : LV → E
 | .v (.agg [.a (.int .i64 _), .a (.int .i64 b)]) => b
 | _ => .lit 0
def isSp : LV → Bool
 | .v (.agg [.a (.int .i64 _), .a (.int .i64 _)]) => true
 | _ => false
def cellE (s : St) : E := match s.at 0 with
 | some [some (.a (.int .i64 e))] => e
 | _ => .lit 0
def isCell (s : St) : Bool := match s.at 0 with
 | some [some (.a (.int .i64 _))] => true
 | _ => false
def memP : List (Nat × Cells) := [(0, [some (.a (.int .i64 (.var 0)))])]
def ptrP (rest : List LV) : List LV := .v (.s (.a (.ptr 0 0))) :: rest
def wrOk (s : St) : Bool := s.wr.all fun b => !(memP.lookup b).isSome || [0].contains b
def zeroB (e x : E) : Bool := mkIte (mkEq 200 e (.lit 0)) x (.lit 0) == x
def pairM (P : Program) (S : Sig) (shp : FuncId → List LV → List (Nat × Cells) → Bool) (K : Cfg) (n sp : Nat) (f g : FuncId) (rest : List LV) : Bool :=
 goodB P S shp ((rd P K n sp f (ptrP rest) memP).2.2 ++ (rd P K n sp g (ptrP rest) memP).2.2) &&
  isSp (rd P K n sp f (ptrP rest) memP).1 && isSp (rd P K n sp g (ptrP rest) memP).1 && isCell (rd P K n sp f (ptrP rest) memP).2.1 && isCell (rd P K n sp g (ptrP rest) memP).2.1 &&
  wrOk (rd P K n sp f (ptrP rest) memP).2.1 && wrOk (rd P K n sp g (ptrP rest) memP).2.1 && noIds rest &&
  (mkEq 200 (spE0 (rd P K n sp f (ptrP rest) memP).1) (spE0 (rd P K n sp g (ptrP rest) memP).1) == .blit true) &&
  (mkEq 200 (spE1 (rd P K n sp f (ptrP rest) memP).1) (spE1 (rd P K n sp g (ptrP rest) memP).1) == .blit true) &&
  (mkEq 200 (cellE (rd P K n sp f (ptrP rest) memP).2.1) (cellE (rd P K n sp g (ptrP rest) memP).2.1) == .blit true) &&
  rngE (spE0 (rd P K n sp f (ptrP rest) memP).1) && rngE (spE1 (rd P K n sp f (ptrP rest) memP).1) && rngE (cellE (rd P K n sp f (ptrP rest) memP).2.1) &&
  zeroB (cellE (rd P K n sp f (ptrP rest) memP).2.1) (spE0 (rd P K n sp f (ptrP rest) memP).1) && zeroB (cellE (rd P K n sp f (ptrP rest) memP).2.1) (spE1 (rd P K n sp f (ptrP rest) memP).1)
def shpM (rest : List LV) (args : List LV) (mem : List (Nat × Cells)) : Bool := match args, mem with
 | .v (.s (.a (.ptr b 0))) :: as, [(b', [some (.a (.int .i64 e))])] => b == b' && matchLVs rest as 1 && rngE e
 | _, _ => false
theorem zeroB_den {e x : E} (h : zeroB e x = true) (ε : Env) : (x.den ε).1 = if (e.den ε).1 = 0 then (x.den ε).1 else 0 := by
 have := congrArg (fun y => (E.den ε y).1) (eq_of_beq h)
 simp only [mkIte_den, mkEq_den, E.den, beq_iff_eq] at this
 exact this.symm
theorem eqB_den {x y : E} (h : mkEq 200 x y = .blit true) (ε : Env) : (y.den ε).1 = (x.den ε).1 := by
 have := congrArg (fun z => (E.den ε z).2) h
 simp only [mkEq_den, E.den, beq_iff_eq] at this
 exact this.symm
theorem isSp_den {v : LV} (h : isSp v = true) : v ≠ .bad ∧ v.ids = [] ∧ ∀ ε ρ, v.den ε ρ = .agg #[.int .i64 ((spE0 v).den ε).1, .int .i64 ((spE1 v).den ε).1] := by
 unfold isSp at h
 split at h
 ·exact ⟨by simp, rfl, fun _ _ => rfl⟩
 ·cases h
theorem isCell_at {s : St} (h : isCell s = true) : s.at 0 = some [some (.a (.int .i64 (cellE s)))] := by
 unfold isCell at h
 split at h
 ·rename_i e he; unfold cellE; rw [he]
 ·cases h
theorem pairM_con {S0 S : Sig} {shp0 : FuncId → List LV → List (Nat × Cells) → Bool} {K : Cfg} {n sp : Nat} (hmix : P.follows .mixedOrders = true) (hsp : 0 < sp) {f g : FuncId} {rest : List LV} (h : pairM P S0 shp0 K n sp f g rest = true) (hsz : sizeLVs rest + 1 < top)
  (hS0 : ∀ s l k, R64 (S0.val s l k)) {T : Env} {w0 : World} (hc : Con P S0 shp0 T w0) {s : Nat}
  (hval0 : ∀ L, S.val s L 0 = clampI ((spE0 (rd P K n sp f (ptrP rest) memP).1).den ((envL T (L.map clampI)).solve S0 ((rd P K n sp f (ptrP rest) memP).2.2 ++ (rd P K n sp g (ptrP rest) memP).2.2))).1)
  (hval1 : ∀ L, S.val s L 1 = clampI ((spE1 (rd P K n sp f (ptrP rest) memP).1).den ((envL T (L.map clampI)).solve S0 ((rd P K n sp f (ptrP rest) memP).2.2 ++ (rd P K n sp g (ptrP rest) memP).2.2))).1)
  (hval2 : ∀ L, S.val s L 31 = clampI ((cellE (rd P K n sp f (ptrP rest) memP).2.1).den ((envL T (L.map clampI)).solve S0 ((rd P K n sp f (ptrP rest) memP).2.2 ++ (rd P K n sp g (ptrP rest) memP).2.2))).1)
  {q : FuncId} (hq : q = f ∨ q = g) (hs : S.sym q = some (s, 3)) {fn : Func} (hfn : P.funcs[q]? = some fn) (hres : ∀ base, ∃ m, nameRes P fn base = some (.v (.agg [.a (.int .i64 (.var base)), .a (.int .i64 (.var (base + 1)))]), m))
  (ε : Env) (ht : ε.sa = T.sa ∧ ε.sn = T.sn ∧ ε.sc = T.sc) (hε : ∀ i, R64 (ε.i i)) {w : World} (hw : Below w0.heap.size w0 w) {args : List LV} {mem : List (Nat × Cells)} {res : LV} {upd : List (Nat × Cells)} (hm : shpM rest args mem = true) (hR : ∀ x ∈ args.flatMap (argInts ε []), R64 x)
  (hstd : stdRes P S.sym q args mem = some (res, upd)) (hsat : Ob.sat S ε (.call (.blit true) q args mem res upd)) : Ob.ok P ε w (.call (.blit true) q args mem res upd) := by
 unfold pairM at h
 simp only [Bool.and_eq_true, beq_iff_eq] at h
 obtain ⟨⟨⟨⟨⟨⟨⟨⟨⟨⟨⟨⟨⟨⟨⟨g1, g2⟩, g3⟩, g4⟩, g5⟩, g6⟩, g7⟩, g8⟩, g9⟩, g10⟩, g11⟩, g12⟩, g13⟩, g14⟩, g15⟩, g16⟩ := h
 unfold shpM at hm
 split at hm
 case h_2 => cases hm
 rename_i b as b' e
 simp only [Bool.and_eq_true, beq_iff_eq] at hm
 obtain ⟨⟨rfl, hm⟩, hre⟩ := hm
 have hca : callArgs 3 (.v (.s (.a (.ptr b 0))) :: as) [(b, [some (.a (.int .i64 e))])] = .v (.s (.a (.int .i64 e))) :: as := by
  simp [callArgs, List.lookup]
 obtain ⟨base, hbase⟩ : ∃ base, callBase s (.v (.s (.a (.int .i64 e))) :: as) [(b, [some (.a (.int .i64 e))])] = base := ⟨_, rfl⟩
 have hb32 : base / 32 * 32 = base := by rw [← hbase]; exact base32 _ _ _
 have hres' : res = .v (zeroLess1 (.var (base + 31)) (.agg [.a (.int .i64 (.var base)), .a (.int .i64 (.var (base + 1)))])) ∧ upd = [(b, [some (.a (.int .i64 (.var (base + 31))))])] := by
  unfold stdRes at hstd
  rw [hs, hfn] at hstd
  obtain ⟨m, hmm⟩ := hres base
  have hlk : List.lookup b [(b, [some (SV.a (.int .i64 e))])] = some [some (SV.a (.int .i64 e))] := by simp [List.lookup]
  simp only [hlk, hbase, hmm, beq_self_eq_true, if_true, show ((3 : Nat) == 4) = false from rfl, Bool.false_eq_true, if_false, Option.some.injEq, Prod.mk.injEq] at hstd
  exact ⟨hstd.1.symm, hstd.2.symm⟩
 obtain ⟨rfl, rfl⟩ := hres'
 obtain ⟨l1, l2⟩ := matchLVs_len ε (mem := [(b, [some (.a (.int .i64 e))])]) hm
 obtain ⟨L, hL⟩ : ∃ L, as.flatMap (argInts ε [(b, [some (.a (.int .i64 e))])]) = L := ⟨_, rfl⟩
 rw [hL] at l1 l2
 have hRL : ∀ x ∈ (e.den ε).1 :: L, R64 x := fun x hx => by
  rcases List.mem_cons.1 hx with rfl | hx
  ·exact rngE_spec hε hre
  ·refine hR x ?_
   rw [List.flatMap_cons]
   exact List.mem_append_right _ (l2 ▸ hx)
 have hclamp : ((e.den ε).1 :: L).map clampI = (e.den ε).1 :: L := by
  conv => rhs; rw [← List.map_id ((e.den ε).1 :: L)]
  exact List.map_congr_left fun x hx => clampI_eq (hRL x hx)
 have hcn : callNo S q (.v (.s (.a (.ptr b 0))) :: as) [(b, [some (.a (.int .i64 e))])] = some (base / 32, s, .v (.s (.a (.int .i64 e))) :: as) := by
  unfold callNo
  rw [hs]
  dsimp only
  rw [hca, hbase]
 have hsat' := hsat _ _ _ hcn
 have hLL : (LV.v (.s (.a (.int .i64 e))) :: as).flatMap (argInts ε [(b, [some (.a (.int .i64 e))])]) = (e.den ε).1 :: L := by
  rw [List.flatMap_cons, hL]; rfl
 rw [hLL] at hsat'
 have hv0 := (hsat' 0 (by omega)).1
 have hv1 := (hsat' 1 (by omega)).1
 have hv2 := (hsat' 31 (by omega)).1
 rw [hb32, Nat.add_zero, hval0, hclamp] at hv0
 rw [hb32, hval1, hclamp] at hv1
 rw [hb32, hval2, hclamp] at hv2
 obtain ⟨e1, e2, e3, e4, e5, e6⟩ := good_ok g1 hS0 (envL T ((e.den ε).1 :: L)) (envL_R64 hRL)
 generalize (envL T ((e.den ε).1 :: L)).solve S0 ((rd P K n sp f (ptrP rest) memP).2.2 ++ (rd P K n sp g (ptrP rest) memP).2.2) = εs at hv0 hv1 hv2 e1 e2 e3 e4 e5 e6
 have hob := e6 w (hc εs e2 e3 e4 e5 w hw)
 have hi0 : εs.i 0 = (e.den ε).1 := e1 0 (by unfold top; omega)
 have hden : ∀ ρ ρ' : Nat → Nat, rest.map (LV.den εs ρ') = as.map (LV.den ε ρ) := fun ρ ρ' =>
  matchLVs_den ⟨e2.trans ht.1.symm, e3.trans ht.2.1.symm, e4.trans ht.2.2.symm⟩ (mem := [(b, [some (.a (.int .i64 e))])]) hm fun j x hj => by
   rw [hL] at hj
   have hlt := (List.getElem?_eq_some_iff.1 hj).1
   rw [e1 (1 + j) (by omega)]
   show ((e.den ε).1 :: L).getD (1 + j) 0 = x
   rw [Nat.add_comm, List.getD_cons_succ, List.getD_eq_getElem?_getD, hj]; rfl
 rw [clampI_eq (rngE_spec e5 g12)] at hv0
 rw [clampI_eq (rngE_spec e5 g13)] at hv1
 rw [clampI_eq (rngE_spec e5 g14)] at hv2
 have hz0 := zeroB_den g15 εs
 have hz1 := zeroB_den g16 εs
 -- a reading of one of them
 have one : ∀ (q : FuncId) (r : LV × St × List Ob), rd P K n sp q (ptrP rest) memP = r → isSp r.1 = true → isCell r.2.1 = true → wrOk r.2.1 = true → (∀ ob ∈ r.2.2, ob.ok P εs w) →
   ((spE0 r.1).den εs).1 = ((spE0 (rd P K n sp f (ptrP rest) memP).1).den εs).1 → ((spE1 r.1).den εs).1 = ((spE1 (rd P K n sp f (ptrP rest) memP).1).den εs).1 → ((cellE r.2.1).den εs).1 = ((cellE (rd P K n sp f (ptrP rest) memP).2.1).den εs).1 →
   Ob.ok P ε w (.call (.blit true) q (.v (.s (.a (.ptr b 0))) :: as) [(b, [some (.a (.int .i64 e))])] (.v (zeroLess1 (.var (base + 31)) (.agg [.a (.int .i64 (.var base)), .a (.int .i64 (.var (base + 1)))]))) [(b, [some (.a (.int .i64 (.var (base + 31))))])]) := by
  intro q r hr h1 h2 h3 hobs k0 k1 k2
  subst hr
  obtain ⟨i1, i2, i3⟩ := isSp_den h1
  obtain ⟨nv', hev⟩ := rd_some i1
  have c := reads_ob hmix hsp hev (upd := [(0, [some (.a (.int .i64 (cellE (rd P K n sp q (ptrP rest) memP).2.1)))])]) (by
    unfold ptrP
    simp only [List.all_cons, notBad, Bool.true_and]
    rw [List.all_eq_true]
    intro x hx
    have := List.all_eq_true.1 g8 x hx
    cases x with
    | bad => simp at this
    | v _ => rfl
    | tup _ => rfl) (by simp [memP]) (by rw [i2]; rfl) (h3) (by
    simp only [List.all_cons, List.all_nil, Bool.and_true, isCell_at h2, beq_self_eq_true]
    simp [Cells.ids, SV.ids, AV.ids]) εs w hobs
  intro _ w2 ρ hw2 hblk hinj
  have hB := hblk b [some (.a (.int .i64 e))] (by simp [List.lookup])
  have hBs : ∀ (b' : Nat) cs, memP.lookup b' = some cs → Blk εs (fun _ => ρ b) w.heap.size w2 b' cs := fun b' cs hb => by
   unfold memP at hb
   simp only [List.lookup] at hb
   split at hb
   ·cases hb
    obtain ⟨q1, q2, q3⟩ := hB
    refine ⟨q1, q2, fun j c hj => ?_⟩
    cases j with
    | zero =>
     simp only [List.getElem?_cons_zero, Option.some.injEq] at hj
     subst hj
     obtain ⟨v, w1, w2, w3⟩ := q3 0 _ rfl
     refine ⟨v, w1, w2, fun s hs => ?_⟩
     cases hs
     rw [w3 _ rfl]
     simp only [SV.den, AV.den, E.den, hi0]
    | succ j => simp at hj
   ·cases hb
  have hcall := c rfl w2 (fun _ => ρ b) hw2 hBs (fun b1 b2 h1 h2 _ => by
   have z : ∀ b, (memP.lookup b).isSome = true → b = 0 := fun b hb => by
    unfold memP at hb
    simp only [List.lookup] at hb
    split at hb
    ·rename_i hh; simpa using hh
    ·cases hb
   rw [z b1 h1, z b2 h2])
  have hargs : (ptrP rest).map (LV.den εs fun _ => ρ b) = (LV.v (.s (.a (.ptr b 0))) :: as).map (LV.den ε ρ) := by
   unfold ptrP
   simp only [List.map_cons, hden ρ]
   rfl
  rw [hargs] at hcall
  refine hcall.mono fun e' w' ⟨f1, f2, f3⟩ => ⟨?_, ?_, ?_⟩
  ·rw [f1, i3, k0, k1]
   congr 1
   show _ = Value.agg #[.int .i64 ((mkIte (mkEq 200 (.var (base + 31)) (.lit 0)) (.var base) (.lit 0)).den ε).1, .int .i64 ((mkIte (mkEq 200 (.var (base + 31)) (.lit 0)) (.var (base + 1)) (.lit 0)).den ε).1]
   simp only [mkIte_den, mkEq_den, E.den, hv0, hv1, hv2, beq_iff_eq]
   rw [← hz0, ← hz1]
  ·simp only [List.mem_singleton, forall_eq]
   have := f2 _ (List.mem_singleton.2 rfl)
   obtain ⟨q1, q2, q3⟩ := this
   refine ⟨q1, q2, fun j c hj => ?_⟩
   cases j with
   | zero =>
    simp only [List.getElem?_cons_zero, Option.some.injEq] at hj
    subst hj
    obtain ⟨v, w1, w2, w3⟩ := q3 0 _ rfl
    refine ⟨v, w1, w2, fun s hs => ?_⟩
    cases hs
    rw [w3 _ rfl]
    simp only [SV.den, AV.den, E.den, hv2, k2]
   | succ j => simp at hj
  ·refine f3.mono ?_
   rintro x hx ⟨u, hu, hx⟩
   exact ⟨_, List.mem_singleton.2 rfl, hx⟩
 rcases hq with rfl | rfl
 ·exact one q _ rfl g2 g4 g6 (fun ob hb => hob ob (List.mem_append_left _ hb)) rfl rfl rfl
 ·exact one q _ rfl g3 g5 g7 (fun ob hb => hob ob (List.mem_append_right _ hb)) (eqB_den g9 εs) (eqB_den g10 εs) (eqB_den g11 εs)
end SX
end
section
namespace SX
open Go.RowKit
variable {P : Program}
def fsl0 : SV → Bool
 | .a (.fsl i) => i == 0
 | _ => true
theorem matchSV_R64 {ε : Env} (hε : ∀ i, R64 (ε.i i)) {p a : SV} {k : Nat} (h : matchSV p a k = true) (hr : rngSV a = true) (hp : fsl0 p = true) : ∀ x ∈ a.ints ε, R64 x := by
 unfold matchSV at h
 split at h
 ·intro x hx
  simp only [SV.ints, List.mem_singleton] at hx
  subst hx
  exact rngE_spec hε hr
 ·simp only [beq_iff_eq] at h
  subst h
  intro x hx
  simp only [fsl0, beq_iff_eq] at hp
  subst hp
  simp only [SV.ints, List.mem_singleton] at hx
  subst hx
  exact R64_0
 ·cases h
theorem matchSVs_R64 {ε : Env} (hε : ∀ i, R64 (ε.i i)) : ∀ {ps as : List SV} {k : Nat}, matchSVs ps as k = true → as.all rngSV = true → ps.all fsl0 = true → ∀ x ∈ as.flatMap (SV.ints ε), R64 x
 | [], [], _, _, _, _, x, hx => by simp at hx
 | p :: ps, a :: as, k, h, hr, hp, x, hx => by
  simp only [matchSVs, Bool.and_eq_true] at h
  simp only [List.all_cons, Bool.and_eq_true] at hr hp
  rw [List.flatMap_cons] at hx
  rcases List.mem_append.1 hx with hx | hx
  ·exact matchSV_R64 hε h.1 hr.1 hp.1 x hx
  ·exact matchSVs_R64 hε h.2 hr.2 hp.2 x hx
 | [], _ :: _, _, h, _, _, _, _ => by simp [matchSVs] at h
 | _ :: _, [], _, h, _, _, _, _ => by simp [matchSVs] at h
def fsl0LV : LV → Bool
 | .v x => x.cells.all fsl0
 | _ => false
def rngLV : LV → Bool := fun x => match x with | .v v => v.cells.all rngSV | _ => false
theorem matchLVs_R64 {ε : Env} (hε : ∀ i, R64 (ε.i i)) : ∀ {ps as : List LV} {k : Nat}, matchLVs ps as k = true → as.all rngLV = true → ps.all fsl0LV = true → ∀ x ∈ as.flatMap (argInts ε []), R64 x
 | [], [], _, _, _, _, x, hx => by simp at hx
 | p :: ps, a :: as, k, h, hr, hp, x, hx => by
  simp only [matchLVs, Bool.and_eq_true] at h
  simp only [List.all_cons, Bool.and_eq_true] at hr hp
  rw [List.flatMap_cons] at hx
  rcases List.mem_append.1 hx with hx1 | hx1
  ·have h1 := h.1
   unfold matchLV at h1
   split at h1
   ·exact matchSVs_R64 hε h1 hr.1 hp.1 x hx1
   ·rename_i y z
    have hz : argInts ε [] (.v (.s z)) = z.ints ε := by
     unfold matchSV at h1
     split at h1
     ·rfl
     ·rfl
     ·cases h1
    rw [hz] at hx1
    have hr1 : rngSV z = true := by have := hr.1; simpa [rngLV, V1.cells] using this
    have hp1 : fsl0 y = true := by have := hp.1; simpa [fsl0LV, V1.cells] using this
    exact matchSV_R64 hε h1 hr1 hp1 x hx1
   ·cases h1
  ·exact matchLVs_R64 hε h.2 hr.2 hp.2 x hx1
 | [], _ :: _, _, h, _, _, _, _ => by simp [matchLVs] at h
 | _ :: _, [], _, h, _, _, _, _ => by simp [matchLVs] at h
theorem rngOb_args {pc : E} {f : FuncId} {args : List LV} {mem : List (Nat × Cells)} {res : LV} {upd : List (Nat × Cells)} (h : rngOb (.call pc f args mem res upd) = true) : args.all rngLV = true := by
 simp only [rngOb, Bool.and_eq_true] at h
 exact h.1
theorem base_common {S : Sig} {pat : List LV} {q s z : Nat} (hz3 : (z == 3) = false) (hs : S.sym q = some (s, z)) {T ε : Env} (ht : ε.sa = T.sa ∧ ε.sn = T.sn ∧ ε.sc = T.sc) {args : List LV} {mem : List (Nat × Cells)} {pc : E} {res : LV} {upd : List (Nat × Cells)} (hm : matchLVs pat args 0 = true)
  (hsat : Ob.sat S ε (.call pc q args mem res upd)) :
  ∃ L, args.flatMap (argInts ε []) = L ∧ L.length = sizeLVs pat ∧ (∀ j, j < 32 → ε.i (callBase s args mem + j) = S.val s L j ∧ ε.b (callBase s args mem + j) = decide (S.val s L j ≠ 0)) ∧ ∀ ρ : Nat → Nat, pat.map (LV.den (envL T L) fun _ => 0) = args.map (LV.den ε ρ) := by
 obtain ⟨l1, l2⟩ := matchLVs_len ε (mem := mem) hm
 refine ⟨_, rfl, by rw [← l2]; exact l1, fun j hj => ?_, fun ρ => ?_⟩
 ·have hcn : callNo S q args mem = some (callBase s args mem / 32, s, args) := by
   unfold callNo
   rw [hs]
   simp only [callArgs, hz3, Bool.false_eq_true, if_false]
  have := hsat _ _ _ hcn j hj
  rw [base32, l2] at this
  exact this
 ·exact matchLVs_den (ε' := envL T (args.flatMap (argInts ε []))) ⟨ht.1.symm, ht.2.1.symm, ht.2.2.symm⟩ (mem := []) hm fun j x hj => by
   show (args.flatMap (argInts ε [])).getD (0 + j) 0 = x
   rw [Nat.zero_add, List.getD_eq_getElem?_getD, hj]; rfl
theorem base_sp {S : Sig} {pat : List LV} {q s : Nat} (hs : S.sym q = some (s, 1)) {fn : Func} (hfn : P.funcs[q]? = some fn)
  (hres : ∀ base, ∃ m, nameRes P fn base = some (.tup [.agg [.a (.int .i64 (.var base)), .a (.int .i64 (.var (base + 1)))], .s (.a (.int .i64 (.var (base + 2))))], m)) {T : Env} {w0 : World}
  (hz : ∀ L, S.val s L 2 ≠ 0 → S.val s L 0 = 0 ∧ S.val s L 1 = 0) (hp : pat.all fsl0LV = true)
  (hC : ∀ L : List Int, (∀ x ∈ L, R64 x) → L.length = sizeLVs pat → ∀ w, Below w0.heap.size w0 w → Calls P q ((pat.map (LV.den (envL T L) fun _ => 0)).toArray) w (fun e w' => e = .returned (.tuple #[.agg #[.int .i64 (S.val s L 0), .int .i64 (S.val s L 1)], .int .i64 (S.val s L 2)]) ∧ Below w.heap.size w w'))
  {ε : Env} (ht : ε.sa = T.sa ∧ ε.sn = T.sn ∧ ε.sc = T.sc) (hε : ∀ i, R64 (ε.i i)) {w : World} (hw : Below w0.heap.size w0 w) {args : List LV} {mem : List (Nat × Cells)} {res : LV} {upd : List (Nat × Cells)} (hm : matchLVs pat args 0 = true) (hr : rngOb (.call (.blit true) q args mem res upd) = true)
  (hstd : stdRes P S.sym q args mem = some (res, upd)) (hsat : Ob.sat S ε (.call (.blit true) q args mem res upd)) : Ob.ok P ε w (.call (.blit true) q args mem res upd) := by
 obtain ⟨L, hL, l1, hv, hden⟩ := base_common rfl hs ht hm hsat
 have hR : ∀ x ∈ L, R64 x := by rw [← hL]; exact matchLVs_R64 hε hm (rngOb_args hr) hp
 obtain ⟨base, hbase⟩ : ∃ base, callBase s args mem = base := ⟨_, rfl⟩
 rw [hbase] at hv
 have hres' : res = .tup [zeroLess1 (.var (base + 2)) (.agg [.a (.int .i64 (.var base)), .a (.int .i64 (.var (base + 1)))]), .s (.a (.int .i64 (.var (base + 2))))] ∧ upd = [] := by
  unfold stdRes at hstd
  rw [hs, hfn] at hstd
  obtain ⟨m, hm⟩ := hres base
  simp [stdVal, hbase, hm, zeroLess1, zeroLess, mkIte] at hstd
  simp [zeroLess1, zeroLess, hstd]
 obtain ⟨rfl, rfl⟩ := hres'
 intro _ w2 ρ hw2 _ _
 have := hC L hR l1 w2 (hw.trans (hw2.mono hw.size))
 rw [hden ρ] at this
 have v0 := (hv 0 (by omega)).1
 have v1 := (hv 1 (by omega)).1
 have v2 := (hv 2 (by omega)).1
 rw [Nat.add_zero] at v0
 refine this.mono fun e w' ⟨h1, h2⟩ => ⟨?_, by simp, Ext.of_below h2 _⟩
 rw [h1]
 congr 1
 show _ = Value.tuple #[.agg #[.int .i64 ((mkIte (mkEq 200 (.var (base + 2)) (.lit 0)) (.var base) (.lit 0)).den ε).1, .int .i64 ((mkIte (mkEq 200 (.var (base + 2)) (.lit 0)) (.var (base + 1)) (.lit 0)).den ε).1], .int .i64 (ε.i (base + 2))]
 simp only [mkIte_den, mkEq_den, E.den, v0, v1, v2, beq_iff_eq]
 by_cases h : S.val s L 2 = 0
 ·simp only [h, if_true]
 ·obtain ⟨k0, k1⟩ := hz L h
  simp only [h, if_false, k0, k1]
theorem base_i {S : Sig} {pat : List LV} {q s : Nat} (hs : S.sym q = some (s, 0)) {fn : Func} (hfn : P.funcs[q]? = some fn)
  (hres : ∀ base, ∃ m, nameRes P fn base = some (.v (.s (.a (.int .i64 (.var base)))), m)) {T : Env} {w0 : World} (hp : pat.all fsl0LV = true)
  (hC : ∀ L : List Int, (∀ x ∈ L, R64 x) → L.length = sizeLVs pat → ∀ w, Below w0.heap.size w0 w → Calls P q ((pat.map (LV.den (envL T L) fun _ => 0)).toArray) w (fun e w' => e = .returned (.int .i64 (S.val s L 0)) ∧ Below w.heap.size w w'))
  {ε : Env} (ht : ε.sa = T.sa ∧ ε.sn = T.sn ∧ ε.sc = T.sc) (hε : ∀ i, R64 (ε.i i)) {w : World} (hw : Below w0.heap.size w0 w) {args : List LV} {mem : List (Nat × Cells)} {res : LV} {upd : List (Nat × Cells)} (hm : matchLVs pat args 0 = true) (hr : rngOb (.call (.blit true) q args mem res upd) = true)
  (hstd : stdRes P S.sym q args mem = some (res, upd)) (hsat : Ob.sat S ε (.call (.blit true) q args mem res upd)) : Ob.ok P ε w (.call (.blit true) q args mem res upd) := by
 obtain ⟨L, hL, l1, hv, hden⟩ := base_common rfl hs ht hm hsat
 have hR : ∀ x ∈ L, R64 x := by rw [← hL]; exact matchLVs_R64 hε hm (rngOb_args hr) hp
 obtain ⟨base, hbase⟩ : ∃ base, callBase s args mem = base := ⟨_, rfl⟩
 rw [hbase] at hv
 have hres' : res = .v (.s (.a (.int .i64 (.var base)))) ∧ upd = [] := by
  unfold stdRes at hstd
  rw [hs, hfn] at hstd
  obtain ⟨m, hm⟩ := hres base
  simp [stdVal, hbase, hm] at hstd
  exact ⟨hstd.1.symm, hstd.2⟩
 obtain ⟨rfl, rfl⟩ := hres'
 intro _ w2 ρ hw2 _ _
 have := hC L hR l1 w2 (hw.trans (hw2.mono hw.size))
 rw [hden ρ] at this
 have v0 := (hv 0 (by omega)).1
 rw [Nat.add_zero] at v0
 refine this.mono fun e w' ⟨h1, h2⟩ => ⟨?_, by simp, Ext.of_below h2 _⟩
 rw [h1, ← v0]; rfl
theorem base_b {S : Sig} {pat : List LV} {q s : Nat} (hs : S.sym q = some (s, 0)) {fn : Func} (hfn : P.funcs[q]? = some fn)
  (hres : ∀ base, ∃ m, nameRes P fn base = some (.v (.s (.a (.bool (.bvar base)))), m)) {T : Env} {w0 : World} (hp : pat.all fsl0LV = true)
  (hC : ∀ L : List Int, (∀ x ∈ L, R64 x) → L.length = sizeLVs pat → ∀ w, Below w0.heap.size w0 w → Calls P q ((pat.map (LV.den (envL T L) fun _ => 0)).toArray) w (fun e w' => e = .returned (.bool (decide (S.val s L 0 ≠ 0))) ∧ Below w.heap.size w w'))
  {ε : Env} (ht : ε.sa = T.sa ∧ ε.sn = T.sn ∧ ε.sc = T.sc) (hε : ∀ i, R64 (ε.i i)) {w : World} (hw : Below w0.heap.size w0 w) {args : List LV} {mem : List (Nat × Cells)} {res : LV} {upd : List (Nat × Cells)} (hm : matchLVs pat args 0 = true) (hr : rngOb (.call (.blit true) q args mem res upd) = true)
  (hstd : stdRes P S.sym q args mem = some (res, upd)) (hsat : Ob.sat S ε (.call (.blit true) q args mem res upd)) : Ob.ok P ε w (.call (.blit true) q args mem res upd) := by
 obtain ⟨L, hL, l1, hv, hden⟩ := base_common rfl hs ht hm hsat
 have hR : ∀ x ∈ L, R64 x := by rw [← hL]; exact matchLVs_R64 hε hm (rngOb_args hr) hp
 obtain ⟨base, hbase⟩ : ∃ base, callBase s args mem = base := ⟨_, rfl⟩
 rw [hbase] at hv
 have hres' : res = .v (.s (.a (.bool (.bvar base)))) ∧ upd = [] := by
  unfold stdRes at hstd
  rw [hs, hfn] at hstd
  obtain ⟨m, hm⟩ := hres base
  simp [stdVal, hbase, hm] at hstd
  exact ⟨hstd.1.symm, hstd.2⟩
 obtain ⟨rfl, rfl⟩ := hres'
 intro _ w2 ρ hw2 _ _
 have := hC L hR l1 w2 (hw.trans (hw2.mono hw.size))
 rw [hden ρ] at this
 have v0 := (hv 0 (by omega)).2
 rw [Nat.add_zero] at v0
 refine this.mono fun e w' ⟨h1, h2⟩ => ⟨?_, by simp, Ext.of_below h2 _⟩
 rw [h1, ← v0]; rfl
end SX
end
section
namespace SX
open Go.RowKit
variable {P : Program}
theorem good_satL {S : Sig} {shp : FuncId → List LV → List (Nat × Cells) → Bool} {obs : List Ob} (h : goodL P S shp obs = true) (ε0 : Env) : ∀ ob ∈ obs, ob.sat S (ε0.solve S obs) := by
 unfold goodL at h
 unfold Env.solve
 split at h
 ·rename_i r hr
  simp only [Bool.and_eq_true] at h
  obtain ⟨⟨h1, h2⟩, h3⟩ := h
  obtain ⟨_, hn⟩ := nub_acc hr
  have hs := steps_sat h1 ε0
  intro ob hob
  rcases hn ob hob with hq | ⟨ob', hob', he⟩
  ·exact isQ_sat hq
  have := hs ob' (by rw [List.map_reverse]; exact List.mem_reverse.2 hob')
  rcases he with rfl | he
  ·exact this
  ·exact twin_sat he this
 ·cases h
theorem good_sat {S : Sig} {shp : FuncId → List LV → List (Nat × Cells) → Bool} {obs : List Ob} (h : goodB P S shp obs = true) (ε0 : Env) : ∀ ob ∈ obs, ob.sat S (ε0.solve S obs) := by
 unfold goodB at h
 simp only [Bool.and_eq_true] at h
 exact good_satL h.1 ε0
def isCall (S : Sig) (s : Nat) (args : List LV) (base : Nat) : Ob → Bool
 | .call _ f a m _ _ => callNo S f a m == some (base / 32, s, args) && base / 32 * 32 == base
 | _ => false
theorem sat_call {S : Sig} {ε : Env} {obs : List Ob} (h : ∀ ob ∈ obs, ob.sat S ε) {s base : Nat} {args : List LV} (hc : obs.any (isCall S s args base) = true) : ∃ mem, ∀ j, j < 32 → ε.i (base + j) = S.val s (args.flatMap (argInts ε mem)) j := by
 obtain ⟨ob, hob, hi⟩ := List.any_eq_true.1 hc
 unfold isCall at hi
 split at hi
 ·rename_i f a m _ _
  simp only [Bool.and_eq_true, beq_iff_eq] at hi
  refine ⟨m, fun j hj => ?_⟩
  have := (h _ hob _ _ _ hi.1 j hj).1
  rwa [hi.2] at this
 ·cases hi
def isEq (v : Nat) (e : E) : Ob → Bool
 | .eq v' e' => v' == v && e' == e
 | _ => false
theorem sat_eq {S : Sig} {ε : Env} {obs : List Ob} (h : ∀ ob ∈ obs, ob.sat S ε) {v : Nat} {e : E} (hc : obs.any (isEq v e) = true) : ε.i v = (e.den ε).1 := by
 obtain ⟨ob, hob, hi⟩ := List.any_eq_true.1 hc
 unfold isEq at hi
 split at hi
 ·simp only [Bool.and_eq_true, beq_iff_eq] at hi
  obtain ⟨rfl, rfl⟩ := hi
  exact (h _ hob).symm
 ·cases hi
def readB (P : Program) (S : Sig) (shp : FuncId → List LV → List (Nat × Cells) → Bool) (K : Cfg) (n sp : Nat) (f : FuncId) (pat : List LV) (mem : List (Nat × Cells)) : Bool :=
 goodB P S shp (rd P K n sp f pat mem).2.2 && !((rd P K n sp f pat mem).1 == .bad) && pat.all notBad && mem.all (fun u => decide (u.1 < 1)) && (rd P K n sp f pat mem).1.ids.all (fun b => decide (b < 1)) &&
  (rd P K n sp f pat mem).2.1.wr.all (fun b => !(mem.lookup b).isSome || (([] : List (Nat × Cells)).map (·.1)).contains b)
theorem read_ob (hmix : P.follows .mixedOrders = true) {S : Sig} {shp : FuncId → List LV → List (Nat × Cells) → Bool} {K : Cfg} {n sp : Nat} (hsp : 0 < sp) {f : FuncId} {pat : List LV} {mem : List (Nat × Cells)} (h : readB P S shp K n sp f pat mem = true)
  (hS : ∀ s l k, R64 (S.val s l k)) (T : Env) {w : World} {L : List Int} (hL : ∀ x ∈ L, R64 x)
  (hc : ∀ ε : Env, (∀ v, v < top → ε.i v = L.getD v 0) → ε.sa = T.sa → ε.sn = T.sn → ε.sc = T.sc → (∀ i, R64 (ε.i i)) → ∀ f args mem res upd, shp f args mem = true → stdRes P S.sym f args mem = some (res, upd) → rngOb (.call (.blit true) f args mem res upd) = true → Ob.sat S ε (.call (.blit true) f args mem res upd) → Ob.ok P ε w (.call (.blit true) f args mem res upd)) :
  ∃ ε : Env, (∀ v, v < top → ε.i v = L.getD v 0) ∧ ε.sa = T.sa ∧ ε.sn = T.sn ∧ ε.sc = T.sc ∧ (∀ i, R64 (ε.i i)) ∧ (∀ ob ∈ (rd P K n sp f pat mem).2.2, ob.sat S ε) ∧ (Ob.call (.blit true) f pat mem (rd P K n sp f pat mem).1 []).ok P ε w := by
 unfold readB at h
 simp only [Bool.and_eq_true, Bool.not_eq_true'] at h
 obtain ⟨⟨⟨⟨⟨g1, g2⟩, g3⟩, g4⟩, g5⟩, g6⟩ := h
 obtain ⟨e1, e2, e3, e4, e5, e6⟩ := good_ok g1 hS (envL T L) (envL_R64 hL)
 have hst := good_sat g1 (envL T L)
 obtain ⟨nv', hev⟩ := rd_some (fun e => by rw [e] at g2; simp at g2)
 refine ⟨_, e1, e2, e3, e4, e5, hst, ?_⟩
 exact reads_ob hmix hsp hev g3 g4 g5 (upd := []) g6 rfl _ w (e6 w (hc _ e1 e2 e3 e4 e5))
def pairI2 (P : Program) (S : Sig) (shp : FuncId → List LV → List (Nat × Cells) → Bool) (K : Cfg) (n sp : Nat) (f g : FuncId) (pat : List LV) : Bool :=
 goodB P S shp ((rd P K n sp f pat []).2.2 ++ (rd P K n sp g pat []).2.2) && isIntLV (rd P K n sp f pat []).1 && isIntLV (rd P K n sp g pat []).1 && noIds pat && rngE (intE (rd P K n sp f pat []).1)
theorem pairI2_con {S0 S : Sig} {shp0 : FuncId → List LV → List (Nat × Cells) → Bool} {K : Cfg} {n sp : Nat} (hmix : P.follows .mixedOrders = true) (hsp : 0 < sp) {f g : FuncId} {pat : List LV} (h : pairI2 P S0 shp0 K n sp f g pat = true)
  (heq : ∀ ε : Env, (∀ i, R64 (ε.i i)) → (∀ ob ∈ (rd P K n sp f pat []).2.2 ++ (rd P K n sp g pat []).2.2, ob.sat S0 ε) → ((intE (rd P K n sp g pat []).1).den ε).1 = ((intE (rd P K n sp f pat []).1).den ε).1) (hsz : sizeLVs pat < top)
  (hS0 : ∀ s l k, R64 (S0.val s l k)) {T : Env} {w0 : World} (hc : Con P S0 shp0 T w0) {s : Nat} (hval : ∀ L, S.val s L 0 = clampI ((intE (rd P K n sp f pat []).1).den ((envL T (L.map clampI)).solve S0 ((rd P K n sp f pat []).2.2 ++ (rd P K n sp g pat []).2.2))).1)
  {q : FuncId} (hq : q = f ∨ q = g) (hs : S.sym q = some (s, 0)) {fn : Func} (hfn : P.funcs[q]? = some fn) (hres : ∀ base, ∃ m, nameRes P fn base = some (.v (.s (.a (.int .i64 (.var base)))), m))
  (ε : Env) (ht : ε.sa = T.sa ∧ ε.sn = T.sn ∧ ε.sc = T.sc) {w : World} (hw : Below w0.heap.size w0 w) {args : List LV} {mem : List (Nat × Cells)} {res : LV} {upd : List (Nat × Cells)} (hm : matchLVs pat args 0 = true) (hR : ∀ x ∈ args.flatMap (argInts ε []), R64 x)
  (hstd : stdRes P S.sym q args mem = some (res, upd)) (hsat : Ob.sat S ε (.call (.blit true) q args mem res upd)) : Ob.ok P ε w (.call (.blit true) q args mem res upd) := by
 unfold pairI2 at h
 simp only [Bool.and_eq_true, beq_iff_eq] at h
 obtain ⟨⟨⟨⟨g1, g2⟩, g3⟩, g4⟩, g6⟩ := h
 have hres' : res = .v (.s (.a (.int .i64 (.var (callBase s args mem))))) ∧ upd = [] := by
  unfold stdRes at hstd
  rw [hs, hfn] at hstd
  obtain ⟨m, hm⟩ := hres (callBase s args mem)
  simp [stdVal, hm] at hstd
  exact ⟨hstd.1.symm, hstd.2⟩
 obtain ⟨rfl, rfl⟩ := hres'
 obtain ⟨l1, l2⟩ := matchLVs_len ε (mem := mem) hm
 obtain ⟨L, hL⟩ : ∃ L, args.flatMap (argInts ε mem) = L := ⟨_, rfl⟩
 rw [hL] at l1 l2
 have hclamp : L.map clampI = L := by
  conv => rhs; rw [← List.map_id L]
  exact List.map_congr_left fun x hx => clampI_eq (hR x (l2 ▸ hx))
 have hcn : callNo S q args mem = some (callBase s args mem / 32, s, args) := by
  unfold callNo
  rw [hs]
  rfl
 have hv := (hsat _ _ _ hcn 0 (by omega)).1
 rw [base32, Nat.add_zero, hL, hval, hclamp] at hv
 have hE : ∀ i, R64 ((envL T L).i i) := envL_R64 fun x hx => hR x (l2 ▸ hx)
 obtain ⟨e1, e2, e3, e4, e5, e6⟩ := good_ok g1 hS0 (envL T L) hE
 have hst := good_sat g1 (envL T L)
 generalize (envL T L).solve S0 ((rd P K n sp f pat []).2.2 ++ (rd P K n sp g pat []).2.2) = εs at hst hv e1 e2 e3 e4 e5 e6
 have hob := fun w hw => e6 w (hc εs e2 e3 e4 e5 w hw)
 have hden : ∀ ρ : Nat → Nat, pat.map (LV.den εs fun _ => 0) = args.map (LV.den ε ρ) := fun ρ =>
  matchLVs_den ⟨e2.trans ht.1.symm, e3.trans ht.2.1.symm, e4.trans ht.2.2.symm⟩ (mem := mem) hm fun j x hj => by
   rw [hL] at hj
   have hlt := (List.getElem?_eq_some_iff.1 hj).1
   rw [Nat.zero_add, e1 j (by omega)]
   show L.getD j 0 = x
   rw [List.getD_eq_getElem?_getD, hj]; rfl
 have eqE : ((intE (rd P K n sp g pat []).1).den εs).1 = ((intE (rd P K n sp f pat []).1).den εs).1 := heq εs e5 hst
 have hrng : R64 ((intE (rd P K n sp f pat []).1).den εs).1 := rngE_spec e5 g6
 rw [clampI_eq hrng] at hv
 intro _ w2 ρ hw2 _ _
 have int_of : ∀ {v : LV}, isIntLV v = true → v ≠ .bad ∧ v.ids = [] ∧ ∀ ε ρ, v.den ε ρ = .int .i64 ((intE v).den ε).1 := by
  intro v hv
  unfold isIntLV at hv
  split at hv
  ·exact ⟨by simp, rfl, fun _ _ => rfl⟩
  ·cases hv
 have fin : ∀ {e : Ending} {w' : World} {x : Int}, x = ε.i (callBase s args mem) → e = .returned (.int .i64 x) ∧ Below w2.heap.size w2 w' → e = .returned ((LV.v (.s (.a (.int .i64 (.var (callBase s args mem)))))).den ε ρ) ∧ (∀ u ∈ ([] : List (Nat × Cells)), Blk ε ρ w.heap.size w' u.1 u.2) ∧ Ext w2 w' (fun x => ∃ u ∈ ([] : List (Nat × Cells)), ρ u.1 = x) := by
  intro e w' x hx ⟨h1, h2⟩
  subst hx
  exact ⟨h1, by simp, Ext.of_below h2 _⟩
 have hb2 : Below w0.heap.size w0 w2 := hw.trans (hw2.mono hw.size)
 rcases hq with rfl | rfl
 ·obtain ⟨i1, i2, i3⟩ := int_of g2
  obtain ⟨nv', hev⟩ := rd_some i1
  have := reads4 hmix hsp hev g4 (by rw [i2]; rfl) εs w2 (fun ob hb => hob w2 hb2 ob (List.mem_append_left _ hb))
  rw [hden ρ, i3] at this
  exact this.mono fun e w' h => fin hv.symm h
 ·obtain ⟨i1, i2, i3⟩ := int_of g3
  obtain ⟨nv', hev⟩ := rd_some i1
  have := reads4 hmix hsp hev g4 (by rw [i2]; rfl) εs w2 (fun ob hb => hob w2 hb2 ob (List.mem_append_right _ hb))
  rw [hden ρ, i3, eqE] at this
  exact this.mono fun e w' h => fin hv.symm h
end SX
end
section
namespace SX
open Go.RowKit
variable {P : Program}
end SX
end
section
namespace SX
open Go.RowKit
variable {P : Program}
section
variable {ε ε' : Env} {ρ : Nat → Nat}
end
end SX
end
section
namespace SX
open Go.RowKit
variable {P : Program}
end SX
end
section
namespace SX
variable {P : Program}
def rd2 (P : Program) (K : Cfg) (n sp : Nat) (f : FuncId) (pat : List LV) (mem : List (Nat × Cells)) : LV × St × List Ob := match evFn P K n sp f pat mem (.blit true) 0 2 with
 | some (v, s, _, obs) => (v, s, obs)
 | none => (.bad, ⟨[], [], []⟩, [])
theorem rd2_some {K : Cfg} {n sp : Nat} {f : FuncId} {pat : List LV} {mem : List (Nat × Cells)} (h : (rd2 P K n sp f pat mem).1 ≠ .bad) : ∃ nv', evFn P K n sp f pat mem (.blit true) 0 2 = some ((rd2 P K n sp f pat mem).1, (rd2 P K n sp f pat mem).2.1, nv', (rd2 P K n sp f pat mem).2.2) := by
 unfold rd2 at h ⊢
 split
 ·rename_i v s nv obs he
  exact ⟨nv, he⟩
 ·rename_i he
  rw [he] at h
  exact absurd rfl h
def readB2 (P : Program) (S : Sig) (shp : FuncId → List LV → List (Nat × Cells) → Bool) (K : Cfg) (n sp : Nat) (f : FuncId) (pat : List LV) (mem : List (Nat × Cells)) : Bool :=
 goodB P S shp (rd2 P K n sp f pat mem).2.2 && !((rd2 P K n sp f pat mem).1 == .bad) && pat.all notBad && mem.all (fun u => decide (u.1 < 2)) && (rd2 P K n sp f pat mem).1.ids.all (fun b => decide (b < 2)) &&
  (rd2 P K n sp f pat mem).2.1.wr.all (fun b => !(mem.lookup b).isSome || (([] : List (Nat × Cells)).map (·.1)).contains b)
theorem read_ob2 (hmix : P.follows .mixedOrders = true) {S : Sig} {shp : FuncId → List LV → List (Nat × Cells) → Bool} {K : Cfg} {n sp : Nat} (hsp : 0 < sp) {f : FuncId} {pat : List LV} {mem : List (Nat × Cells)} (h : readB2 P S shp K n sp f pat mem = true)
  (hS : ∀ s l k, R64 (S.val s l k)) (T : Env) {w : World} {L : List Int} (hL : ∀ x ∈ L, R64 x)
  (hc : ∀ ε : Env, (∀ v, v < top → ε.i v = L.getD v 0) → ε.sa = T.sa → ε.sn = T.sn → ε.sc = T.sc → (∀ i, R64 (ε.i i)) → ∀ f args mem res upd, shp f args mem = true → stdRes P S.sym f args mem = some (res, upd) → rngOb (.call (.blit true) f args mem res upd) = true → Ob.sat S ε (.call (.blit true) f args mem res upd) → Ob.ok P ε w (.call (.blit true) f args mem res upd)) :
  ∃ ε : Env, (∀ v, v < top → ε.i v = L.getD v 0) ∧ ε.sa = T.sa ∧ ε.sn = T.sn ∧ ε.sc = T.sc ∧ (∀ i, R64 (ε.i i)) ∧ (∀ ob ∈ (rd2 P K n sp f pat mem).2.2, ob.sat S ε) ∧ (Ob.call (.blit true) f pat mem (rd2 P K n sp f pat mem).1 []).ok P ε w := by
 unfold readB2 at h
 simp only [Bool.and_eq_true, Bool.not_eq_true'] at h
 obtain ⟨⟨⟨⟨⟨g1, g2⟩, g3⟩, g4⟩, g5⟩, g6⟩ := h
 obtain ⟨e1, e2, e3, e4, e5, e6⟩ := good_ok g1 hS (envL T L) (envL_R64 hL)
 have hst := good_sat g1 (envL T L)
 obtain ⟨nv', hev⟩ := rd2_some (fun e => by rw [e] at g2; simp at g2)
 refine ⟨_, e1, e2, e3, e4, e5, hst, ?_⟩
 exact reads_ob hmix hsp hev g3 g4 g5 (upd := []) g6 rfl _ w (e6 w (hc _ e1 e2 e3 e4 e5))
def isCallM (S : Sig) (s : Nat) (args : List LV) (mem : List (Nat × Cells)) (base : Nat) : Ob → Bool
 | .call _ f a m _ _ => isCall S s args base (.call (.blit true) f a m .bad []) && m == mem
 | _ => false
theorem sat_callM {S : Sig} {ε : Env} {obs : List Ob} (h : ∀ ob ∈ obs, ob.sat S ε) {s base : Nat} {args : List LV} {mem : List (Nat × Cells)} (hc : obs.any (isCallM S s args mem base) = true) : ∀ j, j < 32 → ε.i (base + j) = S.val s (args.flatMap (argInts ε mem)) j := by
 obtain ⟨ob, hob, hi⟩ := List.any_eq_true.1 hc
 unfold isCallM isCall at hi
 split at hi
 ·rename_i f a m _ _
  simp only [Bool.and_eq_true, beq_iff_eq] at hi
  obtain ⟨⟨i1, i2⟩, rfl⟩ := hi
  intro j hj
  have := (h _ hob _ _ _ i1 j hj).1
  rwa [i2] at this
 ·cases hi
end SX
end
section
namespace SX
open Go.RowKit
variable {P : Program}
theorem sat_to {S' S : Sig} {f : FuncId} (hsym : S'.sym f = S.sym f) (hval : ∀ s z, S.sym f = some (s, z) → ∀ L k, S'.val s L k = S.val s L k) {ε : Env} {pc : E} {args : List LV} {mem : List (Nat × Cells)} {res : LV} {upd : List (Nat × Cells)} (h : Ob.sat S' ε (.call pc f args mem res upd)) : Ob.sat S ε (.call pc f args mem res upd) := by
 intro base s l hc j hj
 have hc' : callNo S' f args mem = some (base, s, l) := by rw [← hc]; unfold callNo; rw [hsym]
 have := h base s l hc' j hj
 have hz : ∃ z, S.sym f = some (s, z) := by
  unfold callNo at hc
  split at hc
  ·rename_i s' z hs
   simp only [Option.some.injEq, Prod.mk.injEq] at hc
   exact ⟨z, by rw [hs, hc.2.1]⟩
  ·cases hc
 obtain ⟨z, hz⟩ := hz
 rwa [hval s z hz] at this
theorem con_ext {S S' : Sig} {shp shp' : FuncId → List LV → List (Nat × Cells) → Bool} {T : Env} {w0 : World} (new : FuncId → Bool) (hsym : ∀ f, S'.sym f = S.sym f)
  (hshp : ∀ f args mem, new f = false → shp' f args mem = true → shp f args mem = true) (hval : ∀ f args mem s z, shp f args mem = true → S.sym f = some (s, z) → ∀ L k, S'.val s L k = S.val s L k) (hc : Con P S shp T w0)
  (hn : ∀ (ε : Env), ε.sa = T.sa ∧ ε.sn = T.sn ∧ ε.sc = T.sc → (∀ i, R64 (ε.i i)) → ∀ w, Below w0.heap.size w0 w → ∀ f args mem res upd, new f = true → shp' f args mem = true → stdRes P S'.sym f args mem = some (res, upd) →
   rngOb (.call (.blit true) f args mem res upd) = true → Ob.sat S' ε (.call (.blit true) f args mem res upd) → Ob.ok P ε w (.call (.blit true) f args mem res upd)) : Con P S' shp' T w0 := by
 intro ε h1 h2 h3 hε w hw f args mem res upd hsh hstd hr hsat
 cases hf : new f
 ·have ho := hshp f args mem hf hsh
  refine hc ε h1 h2 h3 hε w hw f args mem res upd ho ?_ hr (sat_to (hsym f) (fun s z hs => hval f args mem s z ho hs) hsat)
  rw [← hstd]
  unfold stdRes
  rw [hsym f]
 ·exact hn ε ⟨h1, h2, h3⟩ hε w hw f args mem res upd hf hsh hstd hr hsat
def mkShape (F : Nat → E) : List (Option Nat) → Nat → List V1
 | [], _ => []
 | none :: rest, n => .s (.a (.int .i64 (F n))) :: mkShape F rest (n + 1)
 | some m :: rest, n => .agg ((List.range m).map fun j => .a (.int .i64 (F (n + j)))) :: mkShape F rest (n + m)
def sizeSh : List (Option Nat) → Nat
 | [] => 0
 | none :: rest => sizeSh rest + 1
 | some m :: rest => sizeSh rest + m
theorem mkShape_den {ε ε' : Env} {ρ ρ' : Nat → Nat} {F G : Nat → E} : ∀ (sz : List (Option Nat)) (n : Nat), (∀ k, n ≤ k → k < n + sizeSh sz → ((F k).den ε).1 = ((G k).den ε').1) → (mkShape F sz n).map (V1.den ε ρ) = (mkShape G sz n).map (V1.den ε' ρ')
 | [], _, _ => rfl
 | none :: rest, n, h => by
  simp only [mkShape, List.map_cons, sizeSh] at h ⊢
  rw [mkShape_den (ρ := ρ) (ρ' := ρ') rest (n + 1) fun k h1 h2 => h k (by omega) (by omega)]
  simp only [V1.den, SV.den, AV.den, h n (Nat.le_refl _) (by omega)]
 | some m :: rest, n, h => by
  simp only [mkShape, List.map_cons, sizeSh] at h ⊢
  rw [mkShape_den (ρ := ρ) (ρ' := ρ') rest (n + m) fun k h1 h2 => h k (by omega) (by omega)]
  simp only [V1.den, List.map_map]
  rw [List.map_congr_left fun j hj => ?_]
  rw [List.mem_range] at hj
  simp only [Function.comp_apply, SV.den, AV.den, h (n + j) (by omega) (by omega)]
def flatLV : LV → List E
 | .tup l => l.flatMap fun v => v.cells.filterMap fun | .a (.int _ e) => some e | _ => none
 | _ => []
def resE (v : LV) (k : Nat) : E := (flatLV v).getD k (.lit 0)
def isShape (sz : List (Option Nat)) (v : LV) : Bool := v == .tup (mkShape (resE v) sz 0)
def pairG (P : Program) (S : Sig) (shp : FuncId → List LV → List (Nat × Cells) → Bool) (K : Cfg) (n sp : Nat) (f g : FuncId) (pat : List LV) (sz : List (Option Nat)) : Bool :=
 goodL P S shp ((rd P K n sp f pat []).2.2 ++ (rd P K n sp g pat []).2.2) && isShape sz (rd P K n sp f pat []).1 && isShape sz (rd P K n sp g pat []).1 && noIds pat && decide (sizeSh sz ≤ 32) &&
  (List.range (sizeSh sz)).all (fun k => rngE (resE (rd P K n sp f pat []).1 k))
theorem shape_ids {sz : List (Option Nat)} {F : Nat → E} : ∀ n, (mkShape F sz n).flatMap V1.ids = [] := by
 induction sz with
 | nil => intro n; rfl
 | cons o rest ih =>
  intro n
  cases o with
  | none => simp only [mkShape, List.flatMap_cons, ih]; rfl
  | some m =>
   simp only [mkShape, List.flatMap_cons, ih, List.append_nil, V1.ids]
   rw [List.flatMap_eq_nil_iff]
   intro x hx
   obtain ⟨j, _, rfl⟩ := List.mem_map.1 hx
   rfl
theorem pairG_con {S0 S : Sig} {shp0 : FuncId → List LV → List (Nat × Cells) → Bool} {K : Cfg} {n sp : Nat} (hmix : P.follows .mixedOrders = true) (hsp : 0 < sp) {f g : FuncId} {pat : List LV} {sz : List (Option Nat)} (h : pairG P S0 shp0 K n sp f g pat sz = true) (hsz : sizeLVs pat < top)
  (hS0 : ∀ s l k, R64 (S0.val s l k)) {T : Env} {w0 : World} (hc : Con P S0 shp0 T w0) {s : Nat}
  (hmem : ∀ (ε : Env) (w : World), Below w0.heap.size w0 w → ε.sa = T.sa → ε.sn = T.sn → ε.sc = T.sc → ε.el = T.el → (∀ i, R64 (ε.i i)) → (∀ ob ∈ (rd P K n sp f pat []).2.2 ++ (rd P K n sp g pat []).2.2, ob.sat S0 ε) → ∀ ob ∈ (rd P K n sp f pat []).2.2 ++ (rd P K n sp g pat []).2.2, ob.isM = true → ob.ok P ε w)
  (heq : ∀ ε : Env, ε.sn = T.sn → (∀ i, R64 (ε.i i)) → (∀ ob ∈ (rd P K n sp f pat []).2.2 ++ (rd P K n sp g pat []).2.2, ob.sat S0 ε) → ∀ k, k < sizeSh sz → ((resE (rd P K n sp g pat []).1 k).den ε).1 = ((resE (rd P K n sp f pat []).1 k).den ε).1)
  (hval : ∀ L k, k < sizeSh sz → S.val s L k = clampI ((resE (rd P K n sp f pat []).1 k).den ((envL T (L.map clampI)).solve S0 ((rd P K n sp f pat []).2.2 ++ (rd P K n sp g pat []).2.2))).1)
  {q : FuncId} (hq : q = f ∨ q = g) (hs : S.sym q = some (s, 0)) {fn : Func} (hfn : P.funcs[q]? = some fn)
  (hres : ∀ base, ∃ m, nameRes P fn base = some (.tup (mkShape (fun k => .var (base + k)) sz 0), m))
  (ε : Env) (ht : ε.sa = T.sa ∧ ε.sn = T.sn ∧ ε.sc = T.sc) {w : World} (hw : Below w0.heap.size w0 w) {args : List LV} {mem : List (Nat × Cells)} {res : LV} {upd : List (Nat × Cells)} (hm : matchLVs pat args 0 = true) (hR : ∀ x ∈ args.flatMap (argInts ε []), R64 x)
  (hstd : stdRes P S.sym q args mem = some (res, upd)) (hsat : Ob.sat S ε (.call (.blit true) q args mem res upd)) : Ob.ok P ε w (.call (.blit true) q args mem res upd) := by
 unfold pairG at h
 simp only [Bool.and_eq_true, decide_eq_true_eq] at h
 obtain ⟨⟨⟨⟨⟨g1, g2⟩, g3⟩, g4⟩, g5⟩, g6⟩ := h
 obtain ⟨base, hbase⟩ : ∃ base, callBase s args mem = base := ⟨_, rfl⟩
 have hres' : res = .tup (mkShape (fun k => .var (base + k)) sz 0) ∧ upd = [] := by
  unfold stdRes at hstd
  rw [hs, hfn] at hstd
  obtain ⟨m, hm⟩ := hres base
  simp [stdVal, hbase, hm] at hstd
  exact ⟨hstd.1.symm, hstd.2⟩
 obtain ⟨rfl, rfl⟩ := hres'
 obtain ⟨l1, l2⟩ := matchLVs_len ε (mem := mem) hm
 obtain ⟨L, hL⟩ : ∃ L, args.flatMap (argInts ε mem) = L := ⟨_, rfl⟩
 rw [hL] at l1 l2
 have hclamp : L.map clampI = L := by
  conv => rhs; rw [← List.map_id L]
  exact List.map_congr_left fun x hx => clampI_eq (hR x (l2 ▸ hx))
 have hcn : callNo S q args mem = some (base / 32, s, args) := by
  unfold callNo
  rw [hs, ← hbase]
  rfl
 have hb32 : base / 32 * 32 = base := by rw [← hbase]; exact base32 _ _ _
 have hE : ∀ i, R64 ((envL T L).i i) := envL_R64 fun x hx => hR x (l2 ▸ hx)
 have hv : ∀ k, k < sizeSh sz → ε.i (base + k) = clampI ((resE (rd P K n sp f pat []).1 k).den ((envL T L).solve S0 ((rd P K n sp f pat []).2.2 ++ (rd P K n sp g pat []).2.2))).1 := fun k hk => by
  have := (hsat _ _ _ hcn k (by omega)).1
  rw [hb32, hL, hval L k hk, hclamp] at this
  exact this
 obtain ⟨e1, e2, e3, e4, e4', e5, e6⟩ := good_okL g1 hS0 (envL T L) hE
 have hst := good_satL g1 (envL T L)
 generalize (envL T L).solve S0 ((rd P K n sp f pat []).2.2 ++ (rd P K n sp g pat []).2.2) = εs at hv e1 e2 e3 e4 e4' e5 e6 hst
 have hob := fun w hw => e6 w (hc εs e2 e3 e4 e5 w hw) (fun ob hb hm _ => hmem εs w hw e2 e3 e4 e4' e5 hst ob hb hm)
 have hden : ∀ ρ : Nat → Nat, pat.map (LV.den εs fun _ => 0) = args.map (LV.den ε ρ) := fun ρ =>
  matchLVs_den ⟨e2.trans ht.1.symm, e3.trans ht.2.1.symm, e4.trans ht.2.2.symm⟩ (mem := mem) hm fun j x hj => by
   rw [hL] at hj
   have hlt := (List.getElem?_eq_some_iff.1 hj).1
   rw [Nat.zero_add, e1 j (by omega)]
   show L.getD j 0 = x
   rw [List.getD_eq_getElem?_getD, hj]; rfl
 have hkey : ∀ k, k < sizeSh sz → ((resE (rd P K n sp f pat []).1 k).den εs).1 = ε.i (base + k) := fun k hk => by
  rw [hv k hk, clampI_eq]
  exact rngE_spec e5 (List.all_eq_true.1 g6 k (List.mem_range.2 hk))
 have hkey2 : ∀ k, k < sizeSh sz → ((resE (rd P K n sp g pat []).1 k).den εs).1 = ε.i (base + k) := fun k hk => by
  rw [heq εs e3 e5 hst k hk, hkey k hk]
 intro _ w2 ρ hw2 _ _
 have hb2 : Below w0.heap.size w0 w2 := hw.trans (hw2.mono hw.size)
 have go : ∀ v : LV, isShape sz v = true → (∀ k, k < sizeSh sz → ((resE v k).den εs).1 = ε.i (base + k)) → v ≠ .bad ∧ v.ids = [] ∧ v.den εs (fun _ => 0) = (LV.tup (mkShape (fun k => .var (base + k)) sz 0)).den ε ρ := fun v hv hk => by
  unfold isShape at hv
  have hv := eq_of_beq hv
  refine ⟨by rw [hv]; simp, by rw [hv]; exact shape_ids 0, ?_⟩
  rw [hv]
  simp only [LV.den]
  rw [mkShape_den (ε := εs) (ε' := ε) (ρ := fun _ => 0) (ρ' := ρ) (F := resE v) (G := fun k => .var (base + k)) sz 0 fun k _ h2 => hk k (by omega)]
 have fin : ∀ {e : Ending} {w' : World} {v : LV}, isShape sz v = true → (∀ k, k < sizeSh sz → ((resE v k).den εs).1 = ε.i (base + k)) → e = .returned (v.den εs fun _ => 0) ∧ Below w2.heap.size w2 w' →
   e = .returned ((LV.tup (mkShape (fun k => .var (base + k)) sz 0)).den ε ρ) ∧ (∀ u ∈ ([] : List (Nat × Cells)), Blk ε ρ w.heap.size w' u.1 u.2) ∧ Ext w2 w' (fun x => ∃ u ∈ ([] : List (Nat × Cells)), ρ u.1 = x) := by
  intro e w' v hv hk ⟨h1, h2⟩
  refine ⟨?_, by simp, Ext.of_below h2 _⟩
  rw [h1, (go v hv hk).2.2]
 rcases hq with rfl | rfl
 ·obtain ⟨i1, i2, i3⟩ := go _ g2 hkey
  obtain ⟨nv', hev⟩ := rd_some i1
  have := reads4 hmix hsp hev g4 (by rw [i2]; rfl) εs w2 (fun ob hb => hob w2 hb2 ob (List.mem_append_left _ hb))
  rw [hden ρ] at this
  exact this.mono fun e w' h => fin g2 hkey h
 ·obtain ⟨i1, i2, i3⟩ := go _ g3 hkey2
  obtain ⟨nv', hev⟩ := rd_some i1
  have := reads4 hmix hsp hev g4 (by rw [i2]; rfl) εs w2 (fun ob hb => hob w2 hb2 ob (List.mem_append_right _ hb))
  rw [hden ρ] at this
  exact this.mono fun e w' h => fin g3 hkey2 h
end SX
end
end Go.Proofs.YtcjlpgmhlghdkaaGreat
