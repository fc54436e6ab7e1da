/- Packed: SxE SxF. -/
import Derived.Laws.StructEq
import Derived.Test.YtfgfnjckklldbaaP6
set_option linter.unusedVariables false
set_option linter.unusedSimpArgs false
namespace Go.Proofs.Ytfgfnjckklldbaa
section
namespace SX
open Go.RowKit
variable {P : Program} {ε : Env} {ρ : Nat → Nat}
def Ob.ok (P : Program) (ε : Env) (w0 : World) : Ob → Prop
 | .req pc c => (pc.den ε).2 = true → (c.den ε).2 = true
 | .call pc f args mem res upd => (pc.den ε).2 = true → ∀ (w : World) (ρ : Nat → Nat), Below w0.heap.size w0 w → (∀ b cs, mem.lookup b = some cs → Blk ε ρ w0.heap.size w b cs) →
   (∀ b b', (mem.lookup b).isSome = true → (mem.lookup b').isSome = true → ρ b = ρ b' → b = b') →
   Calls P f (args.map (LV.den ε ρ)).toArray w (fun e w' => e = .returned (res.den ε ρ) ∧ (∀ u ∈ upd, Blk ε ρ w0.heap.size w' u.1 u.2) ∧ Ext w w' (fun x => ∃ u ∈ upd, ρ u.1 = x))
 | .eq v e => (e.den ε).1 = ε.i v
 | .eqb v e => (e.den ε).2 = ε.b v
 | .lst i m off ks => ∀ idx, idx < ε.sn i → ∃ ad, ε.sa i = some ad ∧ ad.block < w0.heap.size ∧ ∀ (j : Nat) k, ks[j]? = some k → w0.cell? (((ad.add (idx * m)).add off).add j) = some (.int k (clmp (ε.el i (idx * m + (off + j)))))
 | .loop _ _ wy pc st nid tr => ∀ c, codeAt P wy = some (.loop c) → LoopTo P ε w0 c pc st nid tr
theorem Ob.ok.nm {w0 : World} {ob : Ob} (h : ob.ok P ε w0) : ob.nm ε := by cases ob <;> first | exact h | trivial
section
variable {o : Oper} {a : Act} {w w' : World} {v : Value}
theorem ex_value {s : Sem Value} (he : execOp a.eval o = (do pure (.value (← s)))) (hs : s.run P w = .ok v w') : (execOp a.eval o).run P w = .ok (.value v) w' := by
 rw [he]; simp [hs, Result.andThen]
theorem ex_unit {s : Sem Unit} (he : execOp a.eval o = (do s; pure .skip)) (hs : s.run P w = .ok () w') : (execOp a.eval o).run P w = .ok .skip w' := by
 rw [he]; simp [hs, Result.andThen]
end
section
variable {w : World}
theorem run_eqGuard_int {op : BinOp} {t : TypeId} {x y : Operand} {k k' : IntKind} {a b : Int} : (eqGuard op t x y (.int k a) (.int k' b)).run P w = .ok () w := by
 unfold eqGuard; cases op <;> simp [Result.andThen]
theorem run_eqGuard_bool {op : BinOp} {t : TypeId} {x y : Operand} {a b : Bool} : (eqGuard op t x y (.bool a) (.bool b)).run P w = .ok () w := by
 unfold eqGuard; cases op <;> simp [Result.andThen]
theorem run_bin {op : BinOp} {t : TypeId} {x y : Operand} {u v r : Value} (h1 : (eqGuard op t x y u v).run P w = .ok () w) (h2 : (binOp op t u v).run P w = .ok r w) :
  (do eqGuard op t x y u v; binOp op t u v : Sem Value).run P w = .ok r w := by
 simp [h1, h2, Result.andThen]
theorem bin_cmp {op : BinOp} {f : CO} (h : cmpOf op = some f) {t : TypeId} {k : IntKind} {a b : Int} : (binOp op t (.int k a) (.int k b)).run P w = .ok (.bool (f.den a b)) w := by
 cases op <;> simp [cmpOf] at h <;> subst h <;> simp [binOp, Op.intCmp, CO.den]
theorem bin_ar {op : BinOp} {f : AO} (h : arithOf op = some f) (h1 : f ≠ .quo) (h2 : f ≠ .rem) (h3 : f ≠ .shl) (h4 : f ≠ .shr) {t : TypeId} {k : IntKind} {a b : Int} :
  (binOp op t (.int k a) (.int k b)).run P w = .ok (.int k (f.den k a b)) w := by
 cases op <;> simp [arithOf] at h <;> subst h <;> simp_all [binOp, Op.intArith, Op.intBits, AO.den]
theorem bin_div {op : BinOp} {f : AO} (h : arithOf op = some f) (h1 : f = .quo ∨ f = .rem) {t : TypeId} {k : IntKind} {a b : Int} (hb : b ≠ 0) :
  (binOp op t (.int k a) (.int k b)).run P w = .ok (.int k (f.den k a b)) w := by
 cases op <;> simp [arithOf] at h <;> subst h <;> simp_all [binOp, Op.intDiv, AO.den]
theorem bin_sh {op : BinOp} {f : AO} (h : arithOf op = some f) (h1 : op = .shl ∨ op = .shr) {t : TypeId} {k k' : IntKind} {a b : Int} (hb : 0 ≤ b) :
  (binOp op t (.int k a) (.int k' b)).run P w = .ok (.int k (f.den k a b)) w := by
 have : ¬ b < 0 := by omega
 cases op <;> simp [arithOf] at h <;> subst h <;> simp_all [binOp, Op.shift, AO.den] <;> (intro h9; omega)
theorem run_equal_bool {t : TypeId} (ht : P.underlying t = some .bool) {a b : Bool} : (Op.equal t (.bool a) (.bool b)).run P w = .ok (a == b) w := by
 unfold Op.equal
 show (Op.equalIn (9999 + 1) t (.bool a) (.bool b)).run P w = _
 rw [Op.equalIn]
 simp only [Sem.run_bind, run_underlying ht, Result.andThen]
 rfl
theorem bin_bool {t : TypeId} (ht : P.underlying t = some .bool) {a b : Bool} : (binOp .eql t (.bool a) (.bool b)).run P w = .ok (.bool (a == b)) w := by
 have e : binOp .eql t (.bool a) (.bool b) = (do pure (.bool (← Op.equal t (.bool a) (.bool b)))) := by unfold binOp; rfl
 rw [e]; simp only [Sem.run_bind, run_equal_bool ht, Result.andThen, Sem.run_pure]
theorem bin_nbool {t : TypeId} (ht : P.underlying t = some .bool) {a b : Bool} : (binOp .neq t (.bool a) (.bool b)).run P w = .ok (.bool (!(a == b))) w := by
 have e : binOp .neq t (.bool a) (.bool b) = (do pure (.bool (!(← Op.equal t (.bool a) (.bool b))))) := by unfold binOp; rfl
 rw [e]; simp only [Sem.run_bind, run_equal_bool ht, Result.andThen, Sem.run_pure]
end
def eqElems (d : Nat) (e : TypeId) (n : Nat) (xs ys : Array Value) : List Nat → Sem Bool
 | [] => pure true
 | i :: is => do
   let a ← part e xs (i * n)
   let b ← part e ys (i * n)
   let r ← Op.equalIn d e a b
   if (!r) = true then pure false else eqElems d e n xs ys is
theorem run_equalIn_array (w : World) (d : Nat) (t e : TypeId) (len n : Nat) (xs ys : Array Value) (ht : P.underlying t = some (.array len e)) (hn : (Go.sizeOf e).run P w = Result.ok n w) :
  (Op.equalIn (d + 1) t (.agg xs) (.agg ys)).run P w = (eqElems d e n xs ys (List.range' 0 len)).run P w := by
 have hu : (underlying t).run P w = Result.ok (.array len e) w := by simp [underlying, ht, Result.andThen]
 simp only [Op.equalIn, Sem.run_bind, hu, Result.andThen_ok, hn]
 rw [Std.Legacy.Range.forIn_eq_forIn_range']
 simp only [Std.Legacy.Range.size, Nat.sub_zero, Nat.add_sub_cancel, Nat.div_one]
 generalize List.range' 0 len = is
 clear hu ht hn
 induction is generalizing w with
 | nil => simp [eqElems]
 | cons i is ih =>
  simp only [List.forIn_cons, eqElems, Sem.run_bind, Sem.run_ite]
  generalize (part e xs (i * n)).run P w = r1
  cases r1 with
  | ok a w1 =>
   simp only [Result.andThen_ok]
   generalize (part e ys (i * n)).run P w1 = r2
   cases r2 with
   | ok b w2 =>
    simp only [Result.andThen_ok]
    generalize (Op.equalIn d e a b).run P w2 = r3
    cases r3 with
    | ok r w3 =>
     cases r
     ·simp only [Result.andThen_ok, Bool.not_false, if_true, Sem.run_pure]
     ·simp only [Result.andThen_ok, Bool.not_true, Bool.false_eq_true, if_false, Sem.run_pure]
      exact ih w3
    | halt x w3 => simp [Result.andThen]
   | halt x w2 => simp [Result.andThen]
  | halt x w1 => simp [Result.andThen]
theorem run_eqT {w : World} : ∀ (n d : Nat), n ≤ d → ∀ {t : TypeId} {x y : V1} {e : E}, eqT P n t x y = some e → (Op.equalIn d t (x.den ε ρ) (y.den ε ρ)).run P w = .ok (e.den ε).2 w
 | 0, _, _, _, _, _, _, h => by cases h
 | n + 1, d, hd, t, x, y, e, h => by
  obtain ⟨d, rfl⟩ : ∃ d', d = d' + 1 := ⟨d - 1, by omega⟩
  simp only [eqT] at h
  split at h
  ·rename_i q k a k' b hu
   split at h
   ·rename_i hk
    obtain rfl := eq_of_beq hk
    cases h
    rw [mkCmp_den]
    exact run_equalIn_int w d t k q (a.den ε).1 (b.den ε).1 hu
   ·cases h
  ·rename_i a b hu
   cases h
   rw [mkSame_den]
   exact run_equalIn_bool' w d t (a.den ε).2 (b.den ε).2 hu
  ·rename_i fs xs ys hu
   split at h
   ·cases h
   ·rename_i hp
    have hf : P.fieldsOf t = fs := by unfold Program.fieldsOf; rw [hu]
    have key : ∀ (l : List Field) (e : E), l.foldr (fun f acc => match acc with
      | none => none
      | some r => if f.name == "_" then some r else match getPart P f.type xs f.offset, getPart P f.type ys f.offset with
       | some a, some b => (eqT P n f.type a b).map fun c => mkIf c r (.blit false)
       | _, _ => none) (some (.blit true)) = some e →
      (Op.eqFields d (xs.map (SV.den ε ρ)).toArray (ys.map (SV.den ε ρ)).toArray l).run P w = .ok (e.den ε).2 w := by
     intro l
     induction l with
     | nil => intro e h; simp at h; subst h; rfl
     | cons f l ih =>
      intro e h
      rw [List.foldr_cons] at h
      split at h
      ·cases h
      ·rename_i r hr
       have ihr := ih r hr
       unfold Op.eqFields
       split at h
       ·rename_i hn
        cases h
        rw [if_neg (by simpa using hn)]
        exact ihr
       ·rename_i hn
        rw [if_pos (by simpa using hn)]
        split at h
        ·rename_i a b ha hb
         obtain ⟨c, hc, rfl⟩ := Option.map_eq_some_iff.1 h
         have hq : (Op.equalIn d f.type (a.den ε ρ) (b.den ε ρ)).run P w = .ok (c.den ε).2 w := run_eqT n d (by omega) hc
         simp only [Sem.run_bind, run_part ha, run_part hb, hq, Result.andThen, Sem.run_ite]
         rw [mkIf_den]
         cases (c.den ε).2
         ·simp [E.den]
         ·simpa using ihr
        ·cases h
    have := run_equalIn_struct w d t (xs.map (SV.den ε ρ)).toArray (ys.map (SV.den ε ρ)).toArray (by rw [hf]; exact hu) (by simpa using hp)
    rw [hf, key _ _ h] at this
    exact this
  ·rename_i len el xs ys hu
   split at h
   ·rename_i i hi
    have key : ∀ (l : List Nat) (e : E), l.foldr (fun j acc => match acc with
      | none => none
      | some r => match getPart P el xs (j * i.size), getPart P el ys (j * i.size) with
       | some a, some b => (eqT P n el a b).map fun c => mkIf c r (.blit false)
       | _, _ => none) (some (.blit true)) = some e →
      (eqElems d el i.size (xs.map (SV.den ε ρ)).toArray (ys.map (SV.den ε ρ)).toArray l).run P w = .ok (e.den ε).2 w := by
     intro l
     induction l with
     | nil => intro e h; simp at h; subst h; rfl
     | cons j l ih =>
      intro e h
      rw [List.foldr_cons] at h
      split at h
      ·cases h
      ·rename_i r hr
       have ihr := ih r hr
       unfold eqElems
       split at h
       ·rename_i a b ha hb
        obtain ⟨c, hc, rfl⟩ := Option.map_eq_some_iff.1 h
        have hq : (Op.equalIn d el (a.den ε ρ) (b.den ε ρ)).run P w = .ok (c.den ε).2 w := run_eqT n d (by omega) hc
        simp only [Sem.run_bind, run_part ha, run_part hb, hq, Result.andThen, Sem.run_ite]
        rw [mkIf_den]
        cases (c.den ε).2
        ·simp [E.den]
        ·simpa using ihr
       ·cases h
    have := run_equalIn_array w d t el len i.size (xs.map (SV.den ε ρ)).toArray (ys.map (SV.den ε ρ)).toArray hu (run_sizeOf hi)
    rw [List.range_eq_range'] at h
    rw [key _ _ h] at this
    exact this
   ·cases h
  ·cases h
theorem evBin_out {pc : E} {nv : Nat} {op : BinOp} {t : TypeId} {x y : LV} {r : Op1} {w w0 : World} {xo yo : Operand} (h : evBin P pc nv op t x y = some r)
  (hob : ∀ ob ∈ r.obs, ob.ok P ε w0) (hpc : (pc.den ε).2 = true) :
  r.upd = [] ∧ r.fp = [] ∧ (do eqGuard op t xo yo (x.den ε ρ) (y.den ε ρ); binOp op t (x.den ε ρ) (y.den ε ρ) : Sem Value).run P w = .ok (r.val.den ε ρ) w := by
 unfold evBin at h
 split at h
 ·rename_i k a k' b
  have g := @run_eqGuard_int P w op t xo yo k k' (a.den ε).1 (b.den ε).1
  split at h
  ·rename_i h1
   split at h
   ·rename_i f n hf
    split at h
    ·rename_i hn
     cases h
     refine ⟨rfl, rfl, run_bin g ?_⟩
     have := bin_sh (P := P) (w := w) hf (.inl rfl) (t := t) (k := k) (k' := k') (a := (a.den ε).1) (b := n) hn
     simpa [LV.den, V1.den, SV.den, AV.den, mkAr_den, E.den] using this
    ·cases h
   ·rename_i f b' hf _
    cases h
    have hb := hob _ (List.mem_singleton.2 rfl) hpc
    simp only [E.den, CO.den, ge_iff_le, decide_eq_true_eq] at hb
    exact ⟨rfl, rfl, run_bin g (bin_sh hf (.inl rfl) hb)⟩
   ·cases h
  ·rename_i h1
   split at h
   ·rename_i f n hf
    split at h
    ·rename_i hn
     cases h
     refine ⟨rfl, rfl, run_bin g ?_⟩
     have := bin_sh (P := P) (w := w) hf (.inr rfl) (t := t) (k := k) (k' := k') (a := (a.den ε).1) (b := n) hn
     simpa [LV.den, V1.den, SV.den, AV.den, mkAr_den, E.den] using this
    ·cases h
   ·rename_i f b' hf _
    cases h
    have hb := hob _ (List.mem_singleton.2 rfl) hpc
    simp only [E.den, CO.den, ge_iff_le, decide_eq_true_eq] at hb
    exact ⟨rfl, rfl, run_bin g (bin_sh hf (.inr rfl) hb)⟩
   ·cases h
  ·rename_i hs1 hs2
   split at h
   ·rename_i hk
    obtain rfl := eq_of_beq hk
    split at h
    ·rename_i f hf
     cases h
     refine ⟨rfl, rfl, run_bin g ?_⟩
     simpa [LV.den, V1.den, SV.den, AV.den, mkCmp_den] using bin_cmp (P := P) (w := w) hf (t := t) (k := k) (a := (a.den ε).1) (b := (b.den ε).1)
    ·split at h
     ·rename_i hf
      split at h
      ·rename_i n
       split at h
       ·cases h
       ·rename_i hn
        cases h
        refine ⟨rfl, rfl, run_bin g ?_⟩
        simpa [LV.den, V1.den, SV.den, AV.den, mkAr_den, E.den] using bin_div (P := P) (w := w) hf (.inl rfl) (t := t) (k := k) (a := (a.den ε).1) (b := n) hn
      ·cases h
       have hb := hob _ (List.mem_singleton.2 rfl) hpc
       simp only [E.den, CO.den, bne_iff_ne, ne_eq] at hb
       exact ⟨rfl, rfl, run_bin g (bin_div hf (.inl rfl) hb)⟩
     ·rename_i hf
      split at h
      ·rename_i n
       split at h
       ·cases h
       ·rename_i hn
        cases h
        refine ⟨rfl, rfl, run_bin g ?_⟩
        simpa [LV.den, V1.den, SV.den, AV.den, mkAr_den, E.den] using bin_div (P := P) (w := w) hf (.inr rfl) (t := t) (k := k) (a := (a.den ε).1) (b := n) hn
      ·cases h
       have hb := hob _ (List.mem_singleton.2 rfl) hpc
       simp only [E.den, CO.den, bne_iff_ne, ne_eq] at hb
       exact ⟨rfl, rfl, run_bin g (bin_div hf (.inr rfl) hb)⟩
     ·rename_i f h1 h2 hf
      cases h
      refine ⟨rfl, rfl, run_bin g ?_⟩
      have n3 : f ≠ .shl := fun e => hs1 (by subst e; cases op <;> simp_all [arithOf])
      have n4 : f ≠ .shr := fun e => hs2 (by subst e; cases op <;> simp_all [arithOf])
      simpa [LV.den, V1.den, SV.den, AV.den, mkAr_den] using bin_ar (P := P) (w := w) hf (fun e => h1 (by rw [e])) (fun e => h2 (by rw [e])) n3 n4 (t := t) (k := k) (a := (a.den ε).1) (b := (b.den ε).1)
     ·cases h
   ·cases h
 ·rename_i a b
  have g := @run_eqGuard_bool P w op t xo yo (a.den ε).2 (b.den ε).2
  split at h
  ·rename_i hu
   have ht : P.underlying t = some .bool := by
    unfold boolT at hu
    split at hu
    ·assumption
    ·cases hu
   split at h
   ·cases h
    refine ⟨rfl, rfl, run_bin g ?_⟩
    simpa [LV.den, V1.den, SV.den, AV.den, mkSame_den] using bin_bool (P := P) (w := w) ht (a := (a.den ε).2) (b := (b.den ε).2)
   ·cases h
    refine ⟨rfl, rfl, run_bin g ?_⟩
    simpa [LV.den, V1.den, SV.den, AV.den, mkNot_den, mkSame_den] using bin_nbool (P := P) (w := w) ht (a := (a.den ε).2) (b := (b.den ε).2)
   ·cases h
  ·cases h
 ·rename_i xs ys
  split at h
  ·cases h
  ·rename_i hg
   have g := run_eqGuard_agg (P := P) w op t xo yo (xs.map (SV.den ε ρ)).toArray (ys.map (SV.den ε ρ)).toArray (by simpa using hg)
   split at h
   ·rename_i e he
    have hq := run_eqT (ε := ε) (ρ := ρ) (w := w) 20 10000 (by omega) he
    split at h
    ·cases h
     refine ⟨rfl, rfl, run_bin g ?_⟩
     show (binOp .eql t (.agg (xs.map (SV.den ε ρ)).toArray) (.agg (ys.map (SV.den ε ρ)).toArray)).run P w = _
     rw [run_eql_struct]
     have hq' : (Op.equalIn 10000 t (.agg (xs.map (SV.den ε ρ)).toArray) (.agg (ys.map (SV.den ε ρ)).toArray)).run P w = .ok (e.den ε).2 w := hq
     rw [hq']; rfl
    ·cases h
     refine ⟨rfl, rfl, run_bin g ?_⟩
     show (binOp .neq t (.agg (xs.map (SV.den ε ρ)).toArray) (.agg (ys.map (SV.den ε ρ)).toArray)).run P w = _
     rw [run_neq_struct]
     have hq' : (Op.equalIn 10000 t (.agg (xs.map (SV.den ε ρ)).toArray) (.agg (ys.map (SV.den ε ρ)).toArray)).run P w = .ok (e.den ε).2 w := hq
     rw [hq']
     simp [Result.andThen, LV.den, V1.den, SV.den, AV.den, mkNot_den]
    ·cases h
   ·cases h
 ·cases h
theorem evBin_bad {pc : E} {nv : Nat} {op : BinOp} {t : TypeId} {x y : LV} {r : Op1} (h : evBin P pc nv op t x y = some r) : x ≠ .bad ∧ y ≠ .bad := by
 unfold evBin at h
 split at h
 ·exact ⟨by simp, by simp⟩
 ·exact ⟨by simp, by simp⟩
 ·exact ⟨by simp, by simp⟩
 ·cases h
theorem evUn_out {nv : Nat} {op : UnOp} {x : LV} {r : Op1} {w : World} (h : evUn nv op x = some r) :
  r.upd = [] ∧ r.obs = [] ∧ (Op.unary op (x.den ε ρ)).run P w = .ok (r.val.den ε ρ) w := by
 unfold evUn at h
 split at h
 ·cases h; exact ⟨rfl, rfl, by simp [Op.unary, Op.intArith, LV.den, V1.den, SV.den, AV.den, mkAr_den, E.den, AO.den]⟩
 ·cases h; exact ⟨rfl, rfl, by simp [Op.unary, Op.intBits, LV.den, V1.den, SV.den, AV.den, mkAr_den, E.den, AO.den]⟩
 ·cases h; exact ⟨rfl, rfl, by simp [Op.unary, LV.den, V1.den, SV.den, AV.den, mkNot_den]⟩
 ·cases h
end SX
end
section
namespace SX
open Go.RowKit
variable {P : Program} {ε : Env} {ρ : Nat → Nat}
theorem foldl_set (off : Nat) : ∀ (vs : List Value) (k : Nat) (cells : Array Value), off + k + vs.length ≤ cells.size →
  ((vs.zipIdx k).foldl (fun cs (x : Value × Nat) => cs.setIfInBounds (off + x.2) x.1) cells).toList = cells.toList.take (off + k) ++ vs ++ cells.toList.drop (off + k + vs.length)
 | [], k, cells, _ => by simp
 | v :: vs, k, cells, h => by
  simp only [List.length_cons] at h
  rw [List.zipIdx_cons, List.foldl_cons, foldl_set off vs (k + 1) _ (by simp; omega)]
  simp only [Array.toList_setIfInBounds]
  have e1 : (cells.toList.set (off + k) v).take (off + (k + 1)) = cells.toList.take (off + k) ++ [v] := by
   rw [show off + (k + 1) = off + k + 1 by omega, List.take_add_one, List.take_set_of_le (by omega), List.getElem?_set_self (by simp; omega)]
   rfl
  have e2 : (cells.toList.set (off + k) v).drop (off + (k + 1) + vs.length) = cells.toList.drop (off + k + (v :: vs).length) := by
   rw [List.drop_set_of_lt (by omega)]
   congr 1
   simp only [List.length_cons]; omega
  rw [e1, e2]
  simp
theorem fill_den {pl pl' : Nat → Option (Nat × Nat)} : ∀ (ps : List (Nat × V1)) (cells r : List SV), (∀ i x, pl i = some x → pl' i = some x) → fillL pl cells ps = some r →
  Instr.fill pl' (cells.map (SV.den ε ρ)).toArray (ps.map fun p => (p.1, p.2.den ε ρ)) = some (r.map (SV.den ε ρ)).toArray
 | [], cells, r, _, h => by simp [fillL] at h; subst h; rfl
 | (i, v) :: rest, cells, r, hp, h => by
  simp only [fillL] at h
  split at h
  ·cases h
  ·rename_i off size hq
   split at h
   ·cases h
   ·rename_i hn
    simp only [ne_eq, gt_iff_lt, Bool.or_eq_true, decide_eq_true_eq, not_or, Decidable.not_not, Nat.not_lt] at hn
    have hcz : (v.den ε ρ).cells.size = v.cells.length := by rw [V1.den_cells]; simp
    simp only [List.map_cons, Instr.fill, hp _ _ hq]
    rw [if_neg (by rw [hcz]; simp only [ne_eq, List.size_toArray, List.length_map, gt_iff_lt, Bool.or_eq_true, decide_eq_true_eq, not_or, Decidable.not_not, Nat.not_lt]; exact hn)]
    have key : (v.den ε ρ).cells.zipIdx.foldl (fun cs (x : Value × Nat) => cs.setIfInBounds (off + x.2) x.1) (cells.map (SV.den ε ρ)).toArray =
      ((cells.take off ++ v.cells ++ cells.drop (off + v.cells.length)).map (SV.den ε ρ)).toArray := by
     apply Array.ext'
     rw [V1.den_cells]
     have := foldl_set off (v.cells.map (SV.den ε ρ)) 0 (cells.map (SV.den ε ρ)).toArray (by simp; omega)
     simp only [Nat.add_zero, List.length_map] at this
     rw [← Array.foldl_toList, Array.toList_zipIdx]
     simpa [List.map_take, List.map_drop] using this
    have := fill_den rest _ _ hp h
    rw [← this]
    congr 1
theorem partsOf_den {look : Nat → LV} {a : Act} : ∀ {l : List (Nat × Operand)} {ps : List (Nat × V1)}, (∀ x ∈ l, ∀ t, x.2 = .tmp t → RV ε ρ (look t) (a.tmps.getD t undef)) → partsOf look l = some ps →
  l.map (fun p => (p.1, a.eval p.2)) = ps.map fun p => (p.1, p.2.den ε ρ)
 | [], ps, _, h => by simp [partsOf] at h; subst h; rfl
 | (i, x) :: rest, ps, hl, h => by
  simp only [partsOf] at h
  split at h
  ·rename_i v vs h1 h2
   cases h
   simp only [List.map_cons]
   have e : a.eval x = (LV.v v).den ε ρ := opnd_eq (fun t ht => hl (i, x) (by simp) t ht) h1 (by simp)
   rw [partsOf_den (fun y hy => hl y (by simp [hy])) h2, e]
   rfl
  ·cases h
end SX
end
end Go.Proofs.Ytfgfnjckklldbaa
