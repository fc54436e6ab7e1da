/- Packed: SxE SxF SxG SxH SxR SxS. -/
import Derived.Laws.StructEq
import Derived.Test.YtcjlpgmhlghdkaaGreatP2
set_option linter.unusedVariables false
set_option linter.unusedSimpArgs false
namespace Go.Proofs.YtcjlpgmhlghdkaaGreat
section
namespace SX
open Go.RowKit
variable {P : Program} {ε : Env} {ρ : Nat → Nat}
def Ob.ok (P : Program) (ε : Env) (w0 : World) : Ob → Prop
 | .req pc c => (pc.den ε).2 = true → (c.den ε).2 = true
 | .call pc f args mem res upd => (pc.den ε).2 = true → ∀ (w : World) (ρ : Nat → Nat), Below w0.heap.size w0 w → (∀ b cs, mem.lookup b = some cs → Blk ε ρ w0.heap.size w b cs) →
   (∀ b b', (mem.lookup b).isSome = true → (mem.lookup b').isSome = true → ρ b = ρ b' → b = b') →
   Calls P f (args.map (LV.den ε ρ)).toArray w (fun e w' => e = .returned (res.den ε ρ) ∧ (∀ u ∈ upd, Blk ε ρ w0.heap.size w' u.1 u.2) ∧ Ext w w' (fun x => ∃ u ∈ upd, ρ u.1 = x))
 | .eq v e => (e.den ε).1 = ε.i v
 | .eqb v e => (e.den ε).2 = ε.b v
 | .lst i m off ks => ∀ idx, idx < ε.sn i → ∃ ad, ε.sa i = some ad ∧ ad.block < w0.heap.size ∧ ∀ (j : Nat) k, ks[j]? = some k → w0.cell? (((ad.add (idx * m)).add off).add j) = some (.int k (clmp (ε.el i (idx * m + (off + j)))))
 | .loop _ _ wy pc st nid tr => ∀ c, codeAt P wy = some (.loop c) → LoopTo P ε w0 c pc st nid tr
theorem Ob.ok.nm {w0 : World} {ob : Ob} (h : ob.ok P ε w0) : ob.nm ε := by cases ob <;> first | exact h | trivial
section
variable {o : Oper} {a : Act} {w w' : World} {v : Value}
theorem ex_value {s : Sem Value} (he : execOp a.eval o = (do pure (.value (← s)))) (hs : s.run P w = .ok v w') : (execOp a.eval o).run P w = .ok (.value v) w' := by
 rw [he]; simp [hs, Result.andThen]
theorem ex_unit {s : Sem Unit} (he : execOp a.eval o = (do s; pure .skip)) (hs : s.run P w = .ok () w') : (execOp a.eval o).run P w = .ok .skip w' := by
 rw [he]; simp [hs, Result.andThen]
end
section
variable {w : World}
theorem run_eqGuard_int {op : BinOp} {t : TypeId} {x y : Operand} {k k' : IntKind} {a b : Int} : (eqGuard op t x y (.int k a) (.int k' b)).run P w = .ok () w := by
 unfold eqGuard; cases op <;> simp [Result.andThen]
theorem run_eqGuard_bool {op : BinOp} {t : TypeId} {x y : Operand} {a b : Bool} : (eqGuard op t x y (.bool a) (.bool b)).run P w = .ok () w := by
 unfold eqGuard; cases op <;> simp [Result.andThen]
theorem run_bin {op : BinOp} {t : TypeId} {x y : Operand} {u v r : Value} (h1 : (eqGuard op t x y u v).run P w = .ok () w) (h2 : (binOp op t u v).run P w = .ok r w) :
  (do eqGuard op t x y u v; binOp op t u v : Sem Value).run P w = .ok r w := by
 simp [h1, h2, Result.andThen]
theorem bin_cmp {op : BinOp} {f : CO} (h : cmpOf op = some f) {t : TypeId} {k : IntKind} {a b : Int} : (binOp op t (.int k a) (.int k b)).run P w = .ok (.bool (f.den a b)) w := by
 cases op <;> simp [cmpOf] at h <;> subst h <;> simp [binOp, Op.intCmp, CO.den]
theorem bin_ar {op : BinOp} {f : AO} (h : arithOf op = some f) (h1 : f ≠ .quo) (h2 : f ≠ .rem) (h3 : f ≠ .shl) (h4 : f ≠ .shr) {t : TypeId} {k : IntKind} {a b : Int} :
  (binOp op t (.int k a) (.int k b)).run P w = .ok (.int k (f.den k a b)) w := by
 cases op <;> simp [arithOf] at h <;> subst h <;> simp_all [binOp, Op.intArith, Op.intBits, AO.den]
theorem bin_div {op : BinOp} {f : AO} (h : arithOf op = some f) (h1 : f = .quo ∨ f = .rem) {t : TypeId} {k : IntKind} {a b : Int} (hb : b ≠ 0) :
  (binOp op t (.int k a) (.int k b)).run P w = .ok (.int k (f.den k a b)) w := by
 cases op <;> simp [arithOf] at h <;> subst h <;> simp_all [binOp, Op.intDiv, AO.den]
theorem bin_sh {op : BinOp} {f : AO} (h : arithOf op = some f) (h1 : op = .shl ∨ op = .shr) {t : TypeId} {k k' : IntKind} {a b : Int} (hb : 0 ≤ b) :
  (binOp op t (.int k a) (.int k' b)).run P w = .ok (.int k (f.den k a b)) w := by
 have : ¬ b < 0 := by omega
 cases op <;> simp [arithOf] at h <;> subst h <;> simp_all [binOp, Op.shift, AO.den] <;> (intro h9; omega)
theorem run_equal_bool {t : TypeId} (ht : P.underlying t = some .bool) {a b : Bool} : (Op.equal t (.bool a) (.bool b)).run P w = .ok (a == b) w := by
 unfold Op.equal
 show (Op.equalIn (9999 + 1) t (.bool a) (.bool b)).run P w = _
 rw [Op.equalIn]
 simp only [Sem.run_bind, run_underlying ht, Result.andThen]
 rfl
theorem bin_bool {t : TypeId} (ht : P.underlying t = some .bool) {a b : Bool} : (binOp .eql t (.bool a) (.bool b)).run P w = .ok (.bool (a == b)) w := by
 have e : binOp .eql t (.bool a) (.bool b) = (do pure (.bool (← Op.equal t (.bool a) (.bool b)))) := by unfold binOp; rfl
 rw [e]; simp only [Sem.run_bind, run_equal_bool ht, Result.andThen, Sem.run_pure]
theorem bin_nbool {t : TypeId} (ht : P.underlying t = some .bool) {a b : Bool} : (binOp .neq t (.bool a) (.bool b)).run P w = .ok (.bool (!(a == b))) w := by
 have e : binOp .neq t (.bool a) (.bool b) = (do pure (.bool (!(← Op.equal t (.bool a) (.bool b))))) := by unfold binOp; rfl
 rw [e]; simp only [Sem.run_bind, run_equal_bool ht, Result.andThen, Sem.run_pure]
end
def eqElems (d : Nat) (e : TypeId) (n : Nat) (xs ys : Array Value) : List Nat → Sem Bool
 | [] => pure true
 | i :: is => do
   let a ← part e xs (i * n)
   let b ← part e ys (i * n)
   let r ← Op.equalIn d e a b
   if (!r) = true then pure false else eqElems d e n xs ys is
theorem run_equalIn_array (w : World) (d : Nat) (t e : TypeId) (len n : Nat) (xs ys : Array Value) (ht : P.underlying t = some (.array len e)) (hn : (Go.sizeOf e).run P w = Result.ok n w) :
  (Op.equalIn (d + 1) t (.agg xs) (.agg ys)).run P w = (eqElems d e n xs ys (List.range' 0 len)).run P w := by
 have hu : (underlying t).run P w = Result.ok (.array len e) w := by simp [underlying, ht, Result.andThen]
 simp only [Op.equalIn, Sem.run_bind, hu, Result.andThen_ok, hn]
 rw [Std.Legacy.Range.forIn_eq_forIn_range']
 simp only [Std.Legacy.Range.size, Nat.sub_zero, Nat.add_sub_cancel, Nat.div_one]
 generalize List.range' 0 len = is
 clear hu ht hn
 induction is generalizing w with
 | nil => simp [eqElems]
 | cons i is ih =>
  simp only [List.forIn_cons, eqElems, Sem.run_bind, Sem.run_ite]
  generalize (part e xs (i * n)).run P w = r1
  cases r1 with
  | ok a w1 =>
   simp only [Result.andThen_ok]
   generalize (part e ys (i * n)).run P w1 = r2
   cases r2 with
   | ok b w2 =>
    simp only [Result.andThen_ok]
    generalize (Op.equalIn d e a b).run P w2 = r3
    cases r3 with
    | ok r w3 =>
     cases r
     ·simp only [Result.andThen_ok, Bool.not_false, if_true, Sem.run_pure]
     ·simp only [Result.andThen_ok, Bool.not_true, Bool.false_eq_true, if_false, Sem.run_pure]
      exact ih w3
    | halt x w3 => simp [Result.andThen]
   | halt x w2 => simp [Result.andThen]
  | halt x w1 => simp [Result.andThen]
theorem run_eqT {w : World} : ∀ (n d : Nat), n ≤ d → ∀ {t : TypeId} {x y : V1} {e : E}, eqT P n t x y = some e → (Op.equalIn d t (x.den ε ρ) (y.den ε ρ)).run P w = .ok (e.den ε).2 w
 | 0, _, _, _, _, _, _, h => by cases h
 | n + 1, d, hd, t, x, y, e, h => by
  obtain ⟨d, rfl⟩ : ∃ d', d = d' + 1 := ⟨d - 1, by omega⟩
  simp only [eqT] at h
  split at h
  ·rename_i q k a k' b hu
   split at h
   ·rename_i hk
    obtain rfl := eq_of_beq hk
    cases h
    rw [mkCmp_den]
    exact run_equalIn_int w d t k q (a.den ε).1 (b.den ε).1 hu
   ·cases h
  ·rename_i a b hu
   cases h
   rw [mkSame_den]
   exact run_equalIn_bool' w d t (a.den ε).2 (b.den ε).2 hu
  ·rename_i fs xs ys hu
   split at h
   ·cases h
   ·rename_i hp
    have hf : P.fieldsOf t = fs := by unfold Program.fieldsOf; rw [hu]
    have key : ∀ (l : List Field) (e : E), l.foldr (fun f acc => match acc with
      | none => none
      | some r => if f.name == "_" then some r else match getPart P f.type xs f.offset, getPart P f.type ys f.offset with
       | some a, some b => (eqT P n f.type a b).map fun c => mkIf c r (.blit false)
       | _, _ => none) (some (.blit true)) = some e →
      (Op.eqFields d (xs.map (SV.den ε ρ)).toArray (ys.map (SV.den ε ρ)).toArray l).run P w = .ok (e.den ε).2 w := by
     intro l
     induction l with
     | nil => intro e h; simp at h; subst h; rfl
     | cons f l ih =>
      intro e h
      rw [List.foldr_cons] at h
      split at h
      ·cases h
      ·rename_i r hr
       have ihr := ih r hr
       unfold Op.eqFields
       split at h
       ·rename_i hn
        cases h
        rw [if_neg (by simpa using hn)]
        exact ihr
       ·rename_i hn
        rw [if_pos (by simpa using hn)]
        split at h
        ·rename_i a b ha hb
         obtain ⟨c, hc, rfl⟩ := Option.map_eq_some_iff.1 h
         have hq : (Op.equalIn d f.type (a.den ε ρ) (b.den ε ρ)).run P w = .ok (c.den ε).2 w := run_eqT n d (by omega) hc
         simp only [Sem.run_bind, run_part ha, run_part hb, hq, Result.andThen, Sem.run_ite]
         rw [mkIf_den]
         cases (c.den ε).2
         ·simp [E.den]
         ·simpa using ihr
        ·cases h
    have := run_equalIn_struct w d t (xs.map (SV.den ε ρ)).toArray (ys.map (SV.den ε ρ)).toArray (by rw [hf]; exact hu) (by simpa using hp)
    rw [hf, key _ _ h] at this
    exact this
  ·rename_i len el xs ys hu
   split at h
   ·rename_i i hi
    have key : ∀ (l : List Nat) (e : E), l.foldr (fun j acc => match acc with
      | none => none
      | some r => match getPart P el xs (j * i.size), getPart P el ys (j * i.size) with
       | some a, some b => (eqT P n el a b).map fun c => mkIf c r (.blit false)
       | _, _ => none) (some (.blit true)) = some e →
      (eqElems d el i.size (xs.map (SV.den ε ρ)).toArray (ys.map (SV.den ε ρ)).toArray l).run P w = .ok (e.den ε).2 w := by
     intro l
     induction l with
     | nil => intro e h; simp at h; subst h; rfl
     | cons j l ih =>
      intro e h
      rw [List.foldr_cons] at h
      split at h
      ·cases h
      ·rename_i r hr
       have ihr := ih r hr
       unfold eqElems
       split at h
       ·rename_i a b ha hb
        obtain ⟨c, hc, rfl⟩ := Option.map_eq_some_iff.1 h
        have hq : (Op.equalIn d el (a.den ε ρ) (b.den ε ρ)).run P w = .ok (c.den ε).2 w := run_eqT n d (by omega) hc
        simp only [Sem.run_bind, run_part ha, run_part hb, hq, Result.andThen, Sem.run_ite]
        rw [mkIf_den]
        cases (c.den ε).2
        ·simp [E.den]
        ·simpa using ihr
       ·cases h
    have := run_equalIn_array w d t el len i.size (xs.map (SV.den ε ρ)).toArray (ys.map (SV.den ε ρ)).toArray hu (run_sizeOf hi)
    rw [List.range_eq_range'] at h
    rw [key _ _ h] at this
    exact this
   ·cases h
  ·cases h
theorem evBin_out {pc : E} {nv : Nat} {op : BinOp} {t : TypeId} {x y : LV} {r : Op1} {w w0 : World} {xo yo : Operand} (h : evBin P pc nv op t x y = some r)
  (hob : ∀ ob ∈ r.obs, ob.ok P ε w0) (hpc : (pc.den ε).2 = true) :
  r.upd = [] ∧ r.fp = [] ∧ (do eqGuard op t xo yo (x.den ε ρ) (y.den ε ρ); binOp op t (x.den ε ρ) (y.den ε ρ) : Sem Value).run P w = .ok (r.val.den ε ρ) w := by
 unfold evBin at h
 split at h
 ·rename_i k a k' b
  have g := @run_eqGuard_int P w op t xo yo k k' (a.den ε).1 (b.den ε).1
  split at h
  ·rename_i h1
   split at h
   ·rename_i f n hf
    split at h
    ·rename_i hn
     cases h
     refine ⟨rfl, rfl, run_bin g ?_⟩
     have := bin_sh (P := P) (w := w) hf (.inl rfl) (t := t) (k := k) (k' := k') (a := (a.den ε).1) (b := n) hn
     simpa [LV.den, V1.den, SV.den, AV.den, mkAr_den, E.den] using this
    ·cases h
   ·rename_i f b' hf _
    cases h
    have hb := hob _ (List.mem_singleton.2 rfl) hpc
    simp only [E.den, CO.den, ge_iff_le, decide_eq_true_eq] at hb
    exact ⟨rfl, rfl, run_bin g (bin_sh hf (.inl rfl) hb)⟩
   ·cases h
  ·rename_i h1
   split at h
   ·rename_i f n hf
    split at h
    ·rename_i hn
     cases h
     refine ⟨rfl, rfl, run_bin g ?_⟩
     have := bin_sh (P := P) (w := w) hf (.inr rfl) (t := t) (k := k) (k' := k') (a := (a.den ε).1) (b := n) hn
     simpa [LV.den, V1.den, SV.den, AV.den, mkAr_den, E.den] using this
    ·cases h
   ·rename_i f b' hf _
    cases h
    have hb := hob _ (List.mem_singleton.2 rfl) hpc
    simp only [E.den, CO.den, ge_iff_le, decide_eq_true_eq] at hb
    exact ⟨rfl, rfl, run_bin g (bin_sh hf (.inr rfl) hb)⟩
   ·cases h
  ·rename_i hs1 hs2
   split at h
   ·rename_i hk
    obtain rfl := eq_of_beq hk
    split at h
    ·rename_i f hf
     cases h
     refine ⟨rfl, rfl, run_bin g ?_⟩
     simpa [LV.den, V1.den, SV.den, AV.den, mkCmp_den] using bin_cmp (P := P) (w := w) hf (t := t) (k := k) (a := (a.den ε).1) (b := (b.den ε).1)
    ·split at h
     ·rename_i hf
      split at h
      ·rename_i n
       split at h
       ·cases h
       ·rename_i hn
        cases h
        refine ⟨rfl, rfl, run_bin g ?_⟩
        simpa [LV.den, V1.den, SV.den, AV.den, mkAr_den, E.den] using bin_div (P := P) (w := w) hf (.inl rfl) (t := t) (k := k) (a := (a.den ε).1) (b := n) hn
      ·cases h
       have hb := hob _ (List.mem_singleton.2 rfl) hpc
       simp only [E.den, CO.den, bne_iff_ne, ne_eq] at hb
       exact ⟨rfl, rfl, run_bin g (bin_div hf (.inl rfl) hb)⟩
     ·rename_i hf
      split at h
      ·rename_i n
       split at h
       ·cases h
       ·rename_i hn
        cases h
        refine ⟨rfl, rfl, run_bin g ?_⟩
        simpa [LV.den, V1.den, SV.den, AV.den, mkAr_den, E.den] using bin_div (P := P) (w := w) hf (.inr rfl) (t := t) (k := k) (a := (a.den ε).1) (b := n) hn
      ·cases h
       have hb := hob _ (List.mem_singleton.2 rfl) hpc
       simp only [E.den, CO.den, bne_iff_ne, ne_eq] at hb
       exact ⟨rfl, rfl, run_bin g (bin_div hf (.inr rfl) hb)⟩
     ·rename_i f h1 h2 hf
      cases h
      refine ⟨rfl, rfl, run_bin g ?_⟩
      have n3 : f ≠ .shl := fun e => hs1 (by subst e; cases op <;> simp_all [arithOf])
      have n4 : f ≠ .shr := fun e => hs2 (by subst e; cases op <;> simp_all [arithOf])
      simpa [LV.den, V1.den, SV.den, AV.den, mkAr_den] using bin_ar (P := P) (w := w) hf (fun e => h1 (by rw [e])) (fun e => h2 (by rw [e])) n3 n4 (t := t) (k := k) (a := (a.den ε).1) (b := (b.den ε).1)
     ·cases h
   ·cases h
 ·rename_i a b
  have g := @run_eqGuard_bool P w op t xo yo (a.den ε).2 (b.den ε).2
  split at h
  ·rename_i hu
   have ht : P.underlying t = some .bool := by
    unfold boolT at hu
    split at hu
    ·assumption
    ·cases hu
   split at h
   ·cases h
    refine ⟨rfl, rfl, run_bin g ?_⟩
    simpa [LV.den, V1.den, SV.den, AV.den, mkSame_den] using bin_bool (P := P) (w := w) ht (a := (a.den ε).2) (b := (b.den ε).2)
   ·cases h
    refine ⟨rfl, rfl, run_bin g ?_⟩
    simpa [LV.den, V1.den, SV.den, AV.den, mkNot_den, mkSame_den] using bin_nbool (P := P) (w := w) ht (a := (a.den ε).2) (b := (b.den ε).2)
   ·cases h
  ·cases h
 ·rename_i xs ys
  split at h
  ·cases h
  ·rename_i hg
   have g := run_eqGuard_agg (P := P) w op t xo yo (xs.map (SV.den ε ρ)).toArray (ys.map (SV.den ε ρ)).toArray (by simpa using hg)
   split at h
   ·rename_i e he
    have hq := run_eqT (ε := ε) (ρ := ρ) (w := w) 20 10000 (by omega) he
    split at h
    ·cases h
     refine ⟨rfl, rfl, run_bin g ?_⟩
     show (binOp .eql t (.agg (xs.map (SV.den ε ρ)).toArray) (.agg (ys.map (SV.den ε ρ)).toArray)).run P w = _
     rw [run_eql_struct]
     have hq' : (Op.equalIn 10000 t (.agg (xs.map (SV.den ε ρ)).toArray) (.agg (ys.map (SV.den ε ρ)).toArray)).run P w = .ok (e.den ε).2 w := hq
     rw [hq']; rfl
    ·cases h
     refine ⟨rfl, rfl, run_bin g ?_⟩
     show (binOp .neq t (.agg (xs.map (SV.den ε ρ)).toArray) (.agg (ys.map (SV.den ε ρ)).toArray)).run P w = _
     rw [run_neq_struct]
     have hq' : (Op.equalIn 10000 t (.agg (xs.map (SV.den ε ρ)).toArray) (.agg (ys.map (SV.den ε ρ)).toArray)).run P w = .ok (e.den ε).2 w := hq
     rw [hq']
     simp [Result.andThen, LV.den, V1.den, SV.den, AV.den, mkNot_den]
    ·cases h
   ·cases h
 ·cases h
theorem evBin_bad {pc : E} {nv : Nat} {op : BinOp} {t : TypeId} {x y : LV} {r : Op1} (h : evBin P pc nv op t x y = some r) : x ≠ .bad ∧ y ≠ .bad := by
 unfold evBin at h
 split at h
 ·exact ⟨by simp, by simp⟩
 ·exact ⟨by simp, by simp⟩
 ·exact ⟨by simp, by simp⟩
 ·cases h
theorem evUn_out {nv : Nat} {op : UnOp} {x : LV} {r : Op1} {w : World} (h : evUn nv op x = some r) :
  r.upd = [] ∧ r.obs = [] ∧ (Op.unary op (x.den ε ρ)).run P w = .ok (r.val.den ε ρ) w := by
 unfold evUn at h
 split at h
 ·cases h; exact ⟨rfl, rfl, by simp [Op.unary, Op.intArith, LV.den, V1.den, SV.den, AV.den, mkAr_den, E.den, AO.den]⟩
 ·cases h; exact ⟨rfl, rfl, by simp [Op.unary, Op.intBits, LV.den, V1.den, SV.den, AV.den, mkAr_den, E.den, AO.den]⟩
 ·cases h; exact ⟨rfl, rfl, by simp [Op.unary, LV.den, V1.den, SV.den, AV.den, mkNot_den]⟩
 ·cases h
end SX
end
section
namespace SX
open Go.RowKit
variable {P : Program} {ε : Env} {ρ : Nat → Nat}
theorem foldl_set (off : Nat) : ∀ (vs : List Value) (k : Nat) (cells : Array Value), off + k + vs.length ≤ cells.size →
  ((vs.zipIdx k).foldl (fun cs (x : Value × Nat) => cs.setIfInBounds (off + x.2) x.1) cells).toList = cells.toList.take (off + k) ++ vs ++ cells.toList.drop (off + k + vs.length)
 | [], k, cells, _ => by simp
 | v :: vs, k, cells, h => by
  simp only [List.length_cons] at h
  rw [List.zipIdx_cons, List.foldl_cons, foldl_set off vs (k + 1) _ (by simp; omega)]
  simp only [Array.toList_setIfInBounds]
  have e1 : (cells.toList.set (off + k) v).take (off + (k + 1)) = cells.toList.take (off + k) ++ [v] := by
   rw [show off + (k + 1) = off + k + 1 by omega, List.take_add_one, List.take_set_of_le (by omega), List.getElem?_set_self (by simp; omega)]
   rfl
  have e2 : (cells.toList.set (off + k) v).drop (off + (k + 1) + vs.length) = cells.toList.drop (off + k + (v :: vs).length) := by
   rw [List.drop_set_of_lt (by omega)]
   congr 1
   simp only [List.length_cons]; omega
  rw [e1, e2]
  simp
theorem fill_den {pl pl' : Nat → Option (Nat × Nat)} : ∀ (ps : List (Nat × V1)) (cells r : List SV), (∀ i x, pl i = some x → pl' i = some x) → fillL pl cells ps = some r →
  Instr.fill pl' (cells.map (SV.den ε ρ)).toArray (ps.map fun p => (p.1, p.2.den ε ρ)) = some (r.map (SV.den ε ρ)).toArray
 | [], cells, r, _, h => by simp [fillL] at h; subst h; rfl
 | (i, v) :: rest, cells, r, hp, h => by
  simp only [fillL] at h
  split at h
  ·cases h
  ·rename_i off size hq
   split at h
   ·cases h
   ·rename_i hn
    simp only [ne_eq, gt_iff_lt, Bool.or_eq_true, decide_eq_true_eq, not_or, Decidable.not_not, Nat.not_lt] at hn
    have hcz : (v.den ε ρ).cells.size = v.cells.length := by rw [V1.den_cells]; simp
    simp only [List.map_cons, Instr.fill, hp _ _ hq]
    rw [if_neg (by rw [hcz]; simp only [ne_eq, List.size_toArray, List.length_map, gt_iff_lt, Bool.or_eq_true, decide_eq_true_eq, not_or, Decidable.not_not, Nat.not_lt]; exact hn)]
    have key : (v.den ε ρ).cells.zipIdx.foldl (fun cs (x : Value × Nat) => cs.setIfInBounds (off + x.2) x.1) (cells.map (SV.den ε ρ)).toArray =
      ((cells.take off ++ v.cells ++ cells.drop (off + v.cells.length)).map (SV.den ε ρ)).toArray := by
     apply Array.ext'
     rw [V1.den_cells]
     have := foldl_set off (v.cells.map (SV.den ε ρ)) 0 (cells.map (SV.den ε ρ)).toArray (by simp; omega)
     simp only [Nat.add_zero, List.length_map] at this
     rw [← Array.foldl_toList, Array.toList_zipIdx]
     simpa [List.map_take, List.map_drop] using this
    have := fill_den rest _ _ hp h
    rw [← this]
    congr 1
theorem partsOf_den {look : Nat → LV} {a : Act} : ∀ {l : List (Nat × Operand)} {ps : List (Nat × V1)}, (∀ x ∈ l, ∀ t, x.2 = .tmp t → RV ε ρ (look t) (a.tmps.getD t undef)) → partsOf look l = some ps →
  l.map (fun p => (p.1, a.eval p.2)) = ps.map fun p => (p.1, p.2.den ε ρ)
 | [], ps, _, h => by simp [partsOf] at h; subst h; rfl
 | (i, x) :: rest, ps, hl, h => by
  simp only [partsOf] at h
  split at h
  ·rename_i v vs h1 h2
   cases h
   simp only [List.map_cons]
   have e : a.eval x = (LV.v v).den ε ρ := opnd_eq (fun t ht => hl (i, x) (by simp) t ht) h1 (by simp)
   rw [partsOf_den (fun y hy => hl y (by simp [hy])) h2, e]
   rfl
  ·cases h
end SX
end
section
namespace SX
open Go.RowKit
variable {P : Program} {ε : Env} {ρ : Nat → Nat}
def SubOk (P : Program) (ε : Env) (w0 : World) (sub : Sub) : Prop :=
 ∀ sp f args mem pc nv id r, 0 < sp → sub sp f args mem pc nv id = some r → (∀ b, NW id sp b → mem b = none) → (∀ ob ∈ r.obs, ob.ok P ε w0) → (pc.den ε).2 = true → (∀ x ∈ args, x ≠ .bad) →
  (∀ u ∈ r.upd, NW id sp u.1 ∨ (u.1 ∈ r.fp ∧ (mem u.1).isSome = true)) ∧
  ∀ (w : World) (ρ : Nat → Nat), Below w0.heap.size w0 w → (∀ b ∈ r.fp, ∀ cs, mem b = some cs → Blk ε ρ w0.heap.size w b cs) →
   (∀ b ∈ r.fp, ∀ b' ∈ r.fp, (mem b).isSome = true → (mem b').isSome = true → ρ b = ρ b' → b = b') →
   Calls P f (args.map (LV.den ε ρ)).toArray w (fun e w' => ∃ v, e = .returned v ∧ Out1 ε ρ w0.heap.size id sp w r.val r.upd v w')
section
variable {sub : Sub} {sp id : Nat} {pc : E} {look : Nat → LV} {mem : Nat → Option Cells} {nv base : Nat} {dec : List (E × Bool)} {o : Oper} {a : Act} {w w0 : World} {r : Op1}
theorem pureOp_spec {x : LV} (h : pureOp nv x = some r) : x ≠ .bad ∧ r.val = x ∧ r.upd = [] ∧ r.obs = [] := by
 unfold pureOp at h
 split at h
 ·cases h
 ·rename_i hb; cases h; exact ⟨fun e => hb e, rfl, rfl, rfl⟩
theorem val_out {v : Value} (h : (execOp a.eval o).run P w = .ok (.value v) w) (hu : r.upd = []) (hv : v = r.val.den ε ρ) : OpOk P o a w (Out1 ε ρ base id sp w r.val r.upd) := by
 rw [hu]; exact OpOk.value h (Out1.pure hv)
theorem decided_spec (hdec : ∀ p ∈ dec, (p.1.den ε).2 = p.2) {e : E} {b : Bool} (h : decided dec e = some b) : (e.den ε).2 = b := by
 unfold decided at h
 split at h
 ·cases h; rfl
 ·have key : ∀ (e : E) (l : List (E × Bool)), (∀ p ∈ l, (p.1.den ε).2 = p.2) → l.lookup e = some b → (e.den ε).2 = b := by
   intro e l
   induction l with
   | nil => intro _ h; cases h
   | cons p l ih =>
    intro hl h
    obtain ⟨k, c⟩ := p
    simp only [List.lookup] at h
    split at h
    ·rename_i he
     cases h
     rw [eq_of_beq he]
     exact hl _ (List.mem_cons_self)
    ·exact ih (fun p hp => hl p (List.mem_cons_of_mem _ hp)) h
  exact key _ dec hdec h
theorem operand_slots (hl : Slots ε ρ look o a) {x : Operand} (hx : x ∈ o.op.operands) : ∀ t, x = .tmp t → RV ε ρ (look t) (a.tmps.getD t undef) := fun t ht => hl t (ht ▸ hx)
theorem foldMM_spec {mk : E → E → E} {m2 : Value → Value → Sem Value} {f : Int → Int → Int} (hmk : ∀ x y, ((mk x y).den ε).1 = f (x.den ε).1 (y.den ε).1)
  (hm : ∀ k k' x y (w : World), (m2 (.int k x) (.int k' y)).run P w = .ok (.int k (f x y)) w) :
  ∀ (l : List LV) (x : LV), foldMM mk x l ≠ .bad → (List.foldlM m2 (x.den ε ρ) (l.map (LV.den ε ρ))).run P w = .ok ((foldMM mk x l).den ε ρ) w
 | [], x, h => by simp [foldMM]
 | y :: rest, x, h => by
  unfold foldMM at h ⊢
  split at h
  ·rename_i k a k' b
   split at h
   ·rename_i hk
    simp only [hk, if_true]
    rw [List.map_cons, List.foldlM_cons]
    simp only [Sem.run_bind]
    have e1 : (m2 ((LV.v (.s (.a (.int k a)))).den ε ρ) ((LV.v (.s (.a (.int k' b)))).den ε ρ)).run P w = .ok (.int k (f (a.den ε).1 (b.den ε).1)) w := hm _ _ _ _ _
    rw [e1]
    have := foldMM_spec hmk hm rest _ h
    simpa [Result.andThen, LV.den, V1.den, SV.den, AV.den, hmk] using this
   ·exact absurd rfl h
  ·exact absurd rfl h
theorem foldMM_bad {mk : E → E → E} : ∀ (l : List LV) (x : LV), foldMM mk x l ≠ .bad → x ≠ .bad ∧ ∀ y ∈ l, y ≠ .bad
 | [], x, h => ⟨h, by simp⟩
 | y :: rest, x, h => by
  unfold foldMM at h
  split at h
  ·rename_i k a k' b
   split at h
   ·obtain ⟨_, h2⟩ := foldMM_bad rest _ h
    refine ⟨by simp, fun z hz => ?_⟩
    rcases List.mem_cons.1 hz with rfl | hz
    ·simp
    ·exact h2 z hz
   ·exact absurd rfl h
  ·exact absurd rfl h
theorem map_opnd : ∀ (l : List Operand), (∀ x ∈ l, ∀ t, x = .tmp t → RV ε ρ (look t) (a.tmps.getD t undef)) → (∀ y ∈ l.map (opnd look), y ≠ .bad) → l.map a.eval = (l.map (opnd look)).map (LV.den ε ρ)
 | [], _, _ => rfl
 | x :: l, h1, h2 => by
  simp only [List.map_cons]
  rw [map_opnd l (fun y hy => h1 y (by simp [hy])) (fun y hy => h2 y (by simp at hy ⊢; exact .inr hy)), opnd_den (h1 x (by simp)) (h2 _ (by simp))]
theorem avs_spec : ∀ {l : List LV} {c : List AV}, avs l = some c → l = c.map fun x => .v (.s (.a x))
 | [], c, h => by simp [avs] at h; subst h; rfl
 | .v (.s (.a x)) :: rest, c, h => by
  simp only [avs, Option.map_eq_some_iff] at h
  obtain ⟨c', h', rfl⟩ := h
  rw [avs_spec h']; rfl
 | .v (.s (.fn _ _ _)) :: _, _, h => by simp [avs] at h
 | .v (.s .nilf) :: _, _, h => by simp [avs] at h
 | .v (.agg _) :: _, _, h => by simp [avs] at h
 | .tup _ :: _, _, h => by simp [avs] at h
 | .bad :: _, _, h => by simp [avs] at h
theorem call_out {f : FuncId} {args : List LV} (hsp : 0 < sp) (hsub : SubOk P ε w0 sub) (h : evCallTo P sub sp id pc mem nv f args = some r) (hid : ∀ b, NW id sp b → mem b = none)
  (hob : ∀ ob ∈ r.obs, ob.ok P ε w0) (hpc : (pc.den ε).2 = true) (hw : Below w0.heap.size w0 w)
  (hm : ∀ b ∈ r.fp, ∀ cs, mem b = some cs → Blk ε ρ w0.heap.size w b cs) (hi : ∀ b ∈ r.fp, ∀ b' ∈ r.fp, (mem b).isSome = true → (mem b').isSome = true → ρ b = ρ b' → b = b')
  (he : (∀ x ∈ args, x ≠ .bad) → (execOp a.eval o).run P w = (callFunc f (args.map (LV.den ε ρ)).toArray).run P w) :
  (∀ u ∈ r.upd, NW id sp u.1 ∨ (u.1 ∈ r.fp ∧ (mem u.1).isSome = true)) ∧ OpOk P o a w (Out1 ε ρ w0.heap.size id sp w r.val r.upd) := by
 unfold evCallTo at h
 split at h
 ·rename_i fn hfn
  split at h
  ·cases h
  ·rename_i hn
   rw [fLVs_eq] at h
   simp only [Bool.or_eq_true, not_or, Bool.not_eq_true, Bool.not_eq_false'] at hn
   obtain ⟨⟨hn0, hn1⟩, hn2⟩ := hn
   have hn : fn.body.isNone = false ∧ (fn.name == "runtime.NumGoroutine") = false := ⟨hn1, hn2⟩
   have hargs : ∀ x ∈ args, x ≠ .bad := fun x hx e => by
    have := List.all_eq_true.1 hn0 x hx
    subst e; cases this
   obtain ⟨h1, h2⟩ := hsub _ _ _ _ _ _ _ _ hsp h hid hob hpc hargs
   refine ⟨h1, OpOk.enter ?_ (h2 w ρ hw hm hi)⟩
   rw [he hargs]
   have n1 : ¬ fn.name = "runtime.NumGoroutine" := by simpa using hn.2
   have n2 : ¬ fn.body = none := by intro e; simp [e] at hn
   simp [callFunc, hfn, n1, n2, Result.andThen]
 ·cases h
end
end SX
end
section
namespace SX
open Go.RowKit
variable {P : Program} {ε : Env} {ρ : Nat → Nat}
theorem run_len_sl {w : World} {t e : TypeId} {rt : TypeId} {x : Option Addr} {n c : Nat} (ht : P.underlying t = some (.slice e)) (tys : Array TypeId) (args : Array Value) (h0 : tys[0]? = some t) (h1 : args[0]? = some (.slice x n c)) :
  (Builtin.len_ tys rt args).run P w = .ok (.int .i64 n) w := by
 unfold Builtin.len_
 simp only [h0, h1, Sem.run_bind, run_underlying ht, Result.andThen]
 rfl
theorem run_len_arr {w : World} {t e : TypeId} {rt : TypeId} {n : Nat} {v : Value} (ht : P.underlying t = some (.array n e)) (tys : Array TypeId) (args : Array Value) (h0 : tys[0]? = some t) (h1 : args[0]? = some v) :
  (Builtin.len_ tys rt args).run P w = .ok (.int .i64 n) w := by
 unfold Builtin.len_
 simp only [h0, h1, Sem.run_bind, run_underlying ht, Result.andThen]
 cases v <;> rfl
theorem run_convert {w : World} {s d : TypeId} {sd : TypeDesc} {k k' : IntKind} {n : Int} (hs : P.underlying s = some sd) (hd : P.underlying d = some (.int k)) :
  (convert s d (.int k' n)).run P w = .ok (.int k (k.wrap n)) w := by
 unfold convert
 simp only [Sem.run_bind, run_underlying hs, run_underlying hd, Result.andThen]
 cases sd <;> rfl
theorem mapM_places {fields : Array Field} {w : World} (h : fields.all (fun (f : Field) => (P.info? f.type).isSome) = true) :
  ∃ pl : Array (Nat × Nat), (fields.mapM (fun (f : Field) => (do pure (f.offset, ← sizeOf f.type) : Sem (Nat × Nat)))).run P w = .ok pl w ∧
   ∀ (i : Nat) x, ((fields[i]?).bind fun (f : Field) => (P.info? f.type).map fun n => (f.offset, n.size)) = some x → pl[i]? = some x := by
 have key : ∀ l : List Field, (∀ f ∈ l, (P.info? f.type).isSome = true) → ∃ pl : List (Nat × Nat), (l.mapM (fun (f : Field) => (do pure (f.offset, ← sizeOf f.type) : Sem (Nat × Nat)))).run P w = .ok pl w ∧
   ∀ (i : Nat) x, ((l[i]?).bind fun (f : Field) => (P.info? f.type).map fun n => (f.offset, n.size)) = some x → pl[i]? = some x := by
  intro l
  induction l with
  | nil => intro _; exact ⟨[], by simp, by simp⟩
  | cons f l ih =>
   intro hf
   obtain ⟨pl, h1, h2⟩ := ih fun g hg => hf g (by simp [hg])
   obtain ⟨n, hn⟩ := Option.isSome_iff_exists.1 (hf f (by simp))
   refine ⟨(f.offset, n.size) :: pl, ?_, ?_⟩
   ·rw [List.mapM_cons]
    simp only [Sem.run_bind, run_sizeOf hn, Result.andThen, Sem.run_pure, h1]
   ·intro i x hx
    cases i with
    | zero => simpa [hn] using hx
    | succ i => simpa using h2 i x (by simpa using hx)
 obtain ⟨pl, h1, h2⟩ := key fields.toList (fun f hf => by
  have := Array.all_eq_true.1 h
  obtain ⟨i, hi, rfl⟩ := List.getElem_of_mem hf
  exact this i (by simpa using hi))
 refine ⟨pl.toArray, ?_, by simpa using h2⟩
 rw [← Array.toList_mapM] at h1
 simp only [Sem.run_map] at h1
 generalize hr : (fields.mapM (fun (f : Field) => (do pure (f.offset, ← sizeOf f.type) : Sem (Nat × Nat)))).run P w = rr at h1 ⊢
 cases rr with
 | ok a w' => simp [Result.andThen] at h1; obtain ⟨rfl, rfl⟩ := h1; rfl
 | halt x w' => simp [Result.andThen] at h1
theorem need_spec {w0 : World} {pc c : E} (h : ∀ ob ∈ need pc c, ob.ok P ε w0) (hpc : (pc.den ε).2 = true) : (c.den ε).2 = true := by
 unfold need at h
 split at h
 ·rename_i hu
  rw [← under_den hpc c, hu]; rfl
 ·have : (Ob.req pc c).ok P ε w0 := h _ (List.mem_singleton.2 rfl)
  exact this hpc
theorem inB_spec {w0 : World} {pc : E} {i : Nat} {x : E} (h : ∀ ob ∈ inB pc i x, ob.ok P ε w0) (hpc : (pc.den ε).2 = true) : 0 ≤ (x.den ε).1 ∧ (x.den ε).1 < (ε.sn i : Int) ∧ (x.den ε).1.toNat < ε.sn i := by
 unfold inB at h
 have h1 := need_spec (fun ob hb => h ob (List.mem_append_left _ hb)) hpc
 have h2 := need_spec (fun ob hb => h ob (List.mem_append_right _ hb)) hpc
 rw [mkNot_den, mkLs_den] at h1
 rw [mkLs_den] at h2
 simp only [E.den, Bool.not_eq_eq_eq_not, Bool.not_true] at h1 h2
 have a1 := of_decide_eq_false h1
 have a2 := of_decide_eq_true h2
 refine ⟨by omega, a2, by omega⟩
theorem elems_get (i m : Nat) (x : E) : ∀ (off : Nat) (ks : List IntKind) (j : Nat), (elems i m x off ks)[j]? = (ks[j]?).map fun k => SV.a (.int k (.el i m (off + j) x))
 | _, [], j => by simp [elems]
 | off, k :: ks, 0 => by simp [elems]
 | off, k :: ks, j + 1 => by
  simp only [elems, List.getElem?_cons_succ, elems_get i m x (off + 1) ks j]
  rw [show off + 1 + j = off + (j + 1) by omega]
theorem elems_length (i m : Nat) (x : E) : ∀ (off : Nat) (ks : List IntKind), (elems i m x off ks).length = ks.length
 | _, [] => rfl
 | off, k :: ks => by simp [elems, elems_length i m x (off + 1) ks]
theorem add_add (ad : Addr) (n k : Nat) : (ad.add n).add k = ad.add (n + k) := by
 unfold Addr.add
 by_cases h : n = 0
 ·subst h; simp
 ·by_cases h' : k = 0
  ·subst h'; simp
  ·have : ¬ n + k = 0 := by omega
   simp [h, h', this, Nat.add_assoc]
theorem sub_block (ad : Addr) (n : Nat) : (ad.add n).block = ad.block := by unfold Addr.add; split <;> rfl
theorem lst_cell {w0 w : World} {i m off : Nat} {ks : List IntKind} (h : (Ob.lst i m off ks).ok P ε w0) (hw : Below w0.heap.size w0 w) {idx : Nat} (hi : idx < ε.sn i) :
  ∃ ad, ε.sa i = some ad ∧ ∀ (j : Nat) k, ks[j]? = some k → w.cell? (((ad.add (idx * m)).add off).add j) = some (.int k (clmp (ε.el i (idx * m + (off + j))))) := by
 obtain ⟨ad, h1, h2, h3⟩ := h idx hi
 refine ⟨ad, h1, fun j k hj => ?_⟩
 rw [hw.cell (by simp only [sub_block]; exact h2)]
 exact h3 j k hj
theorem loadL_out {pc : E} {nv : Nat} {t : TypeId} {i m off : Nat} {x : E} {w w0 : World} {r : Op1} (h : evLoadL P pc nv t i m off x = some r) (hob : ∀ ob ∈ r.obs, ob.ok P ε w0) (hpc : (pc.den ε).2 = true) (hw : Below w0.heap.size w0 w) :
  r.upd = [] ∧ (Instr.loadAt t ((LV.v (.s (.a (.fptr i m off x)))).den ε ρ)).run P w = .ok (r.val.den ε ρ) w := by
 unfold evLoadL at h
 split at h
 ·rename_i inf hinf
  split at h
  ·rename_i hu
   split at h
   ·rename_i cs hz
    split at h
    ·rename_i hag
     split at h
     ·rename_i ks hks
      split at h
      ·rename_i hlen
       simp only [Bool.and_eq_true, decide_eq_true_eq] at hlen
       cases h
       refine ⟨rfl, ?_⟩
       obtain ⟨b1, b2, b3⟩ := inB_spec (fun ob hb => hob ob (List.mem_cons_of_mem _ hb)) hpc
       obtain ⟨ad, h1, h2⟩ := lst_cell (hob _ (List.mem_cons_self ..)) hw b3
       have run0 : (Instr.loadAt t ((LV.v (.s (.a (.fptr i m off x)))).den ε ρ)).run P w = (loadVar t ((ad.add ((x.den ε).1.toNat * m)).add off)).run P w := by
        simp [Instr.loadAt, Instr.sureAddr, LV.den, V1.den, SV.den, AV.den, Result.andThen, h1]
       have key := run_loadCells_list (P := P) (w := w) ((ad.add ((x.den ε).1.toNat * m)).add off) ((elems i m x off ks).map (SV.den ε ρ)) (fun j v hj => by
        rw [List.getElem?_map, elems_get] at hj
        simp only [Option.map_map, Option.map_eq_some_iff, Function.comp_apply] at hj
        obtain ⟨k, hk, rfl⟩ := hj
        rw [h2 j k hk]
        rfl)
       rw [List.length_map, elems_length, hlen.1] at key
       rw [run0]
       unfold loadVar
       simp only [Sem.run_bind, run_isAgg hu, Result.andThen, hag, if_true, run_sizeOf hinf, key, Sem.run_pure]
       rfl
      ·cases h
     ·cases h
    ·cases h
   ·rename_i k n hz
    split at h
    ·cases h
    ·rename_i hag
     cases h
     refine ⟨rfl, ?_⟩
     obtain ⟨b1, b2, b3⟩ := inB_spec (fun ob hb => hob ob (List.mem_cons_of_mem _ hb)) hpc
     obtain ⟨ad, h1, h2⟩ := lst_cell (hob _ (List.mem_cons_self ..)) hw b3
     have run0 : (Instr.loadAt t ((LV.v (.s (.a (.fptr i m off x)))).den ε ρ)).run P w = (loadVar t ((ad.add ((x.den ε).1.toNat * m)).add off)).run P w := by
      simp [Instr.loadAt, Instr.sureAddr, LV.den, V1.den, SV.den, AV.den, Result.andThen, h1]
     have h3 := h2 0 k rfl
     rw [show (((ad.add ((x.den ε).1.toNat * m)).add off).add 0) = ((ad.add ((x.den ε).1.toNat * m)).add off) from rfl] at h3
     rw [run0]
     unfold loadVar
     simp only [Bool.or_eq_true, decide_eq_true_eq, not_or] at hag
     simp only [Sem.run_bind, run_isAgg hu, Result.andThen, Bool.eq_false_iff.2 hag.1, Bool.false_eq_true, if_false, run_load, h3]
     rfl
   ·cases h
  ·cases h
 ·cases h
section
variable {sub : Sub} {sp id : Nat} {pc : E} {look : Nat → LV} {mem : Nat → Option Cells} {nv : Nat} {dec : List (E × Bool)} {o : Oper} {a : Act} {w w0 : World} {r : Op1}
set_option maxHeartbeats 2000000 in
theorem evOp_sound (hsp : 0 < sp) (hsub : SubOk P ε w0 sub) (h : evOp P sub sp id pc look mem nv dec o = some r) (hid : ∀ b, NW id sp b → mem b = none)
  (hob : ∀ ob ∈ r.obs, ob.ok P ε w0) (hpc : (pc.den ε).2 = true) (hdec : ∀ p ∈ dec, (p.1.den ε).2 = p.2)
  (hl : Slots ε ρ look o a) (hw : Below w0.heap.size w0 w)
  (hm : ∀ b ∈ r.fp, ∀ cs, mem b = some cs → Blk ε ρ w0.heap.size w b cs) (hi : ∀ b ∈ r.fp, ∀ b' ∈ r.fp, (mem b).isSome = true → (mem b').isSome = true → ρ b = ρ b' → b = b') :
  (∀ u ∈ r.upd, NW id sp u.1 ∨ (u.1 ∈ r.fp ∧ (mem u.1).isSome = true)) ∧ OpOk P o a w (Out1 ε ρ w0.heap.size id sp w r.val r.upd) := by
 unfold evOp at h
 split at h
 ·-- move
  rename_i x ho
  obtain ⟨h1, h2, h3, h4⟩ := pureOp_spec h
  refine ⟨by simp [h3], val_out (by simp only [execOp, ho]; rfl) h3 ?_⟩
  rw [h2]; exact opnd_den (operand_slots hl (by simp [ho, Op.operands])) h1
 ·-- assign
  rename_i x ho
  obtain ⟨h1, h2, h3, h4⟩ := pureOp_spec h
  refine ⟨by simp [h3], val_out (by simp only [execOp, ho]; rfl) h3 ?_⟩
  rw [h2]; exact opnd_den (operand_slots hl (by simp [ho, Op.operands])) h1
 ·-- pick
  rename_i c x y ho
  split at h
  ·rename_i e hc
   have hce := opnd_eq (operand_slots hl (x := c) (by simp [ho, Op.operands])) hc (by simp)
   have hex : (execOp a.eval o).run P w = .ok (.value (if (e.den ε).2 then a.eval x else a.eval y)) w := by
    simp only [execOp, ho, hce, LV.den, V1.den, SV.den, AV.den]
    cases (e.den ε).2 <;> simp [asBool, Result.andThen]
   split at h
   ·rename_i hd
    obtain ⟨h1, h2, h3, h4⟩ := pureOp_spec h
    refine ⟨by simp [h3], val_out hex h3 ?_⟩
    rw [h2, decided_spec hdec hd, if_pos rfl]; exact opnd_den (operand_slots hl (by simp [ho, Op.operands])) h1
   ·rename_i hd
    obtain ⟨h1, h2, h3, h4⟩ := pureOp_spec h
    refine ⟨by simp [h3], val_out hex h3 ?_⟩
    rw [h2, decided_spec hdec hd, if_neg (by simp)]; exact opnd_den (operand_slots hl (by simp [ho, Op.operands])) h1
   ·obtain ⟨h1, h2, h3, h4⟩ := pureOp_spec h
    refine ⟨by simp [h3], val_out hex h3 ?_⟩
    have bad : opnd look x ≠ .bad ∧ opnd look y ≠ .bad := by
     constructor <;> intro e' <;> apply h1 <;> rw [e'] <;> unfold LV.merge <;> (try split) <;> simp_all
    have rx : RV ε ρ (opnd look x) (a.eval x) := .inr (opnd_den (operand_slots hl (by simp [ho, Op.operands])) bad.1)
    have ry : RV ε ρ (opnd look y) (a.eval y) := .inr (opnd_den (operand_slots hl (by simp [ho, Op.operands])) bad.2)
    rw [h2]
    cases hb : (e.den ε).2
    ·exact (LV.merge_f hb ry).get h1
    ·exact (LV.merge_t hb rx).get h1
  ·cases h
 ·-- alloc
  rename_i t ho
  split at h
  ·rename_i z hz
   split at h
   ·rename_i v hv
    have hzd := (ofVal_den (ε := ε) (ρ := ρ) (v := z) (by rw [hv]; simp)).1
    rw [hv] at hzd
    refine ⟨by unfold newBlock at h; split at h <;> cases h; intro u hu; rw [List.mem_singleton.1 hu]; exact .inl ⟨Nat.le_refl _, by omega⟩, OpOk.value (w' := w.alloc (.cells (v.cells.map (SV.den ε ρ)).toArray t)) (v := .pointer (some ⟨w.heap.size, 0, none⟩)) ?_ ?_⟩
    ·refine ex_value (s := Instr.alloc t true (.tuple #[])) (by simp only [execOp, ho]) ?_
     unfold Instr.alloc
     simp only [Sem.run_bind, run_zeroValue hz, Result.andThen, newVar, run_newRow, Sem.run_pure]
     rw [← hzd]
     simp only [LV.den, V1.den_cells]
    ·have hval : r.val = .v (.s (.a (.ptr id 0))) := by unfold newBlock at h; split at h <;> cases h; rfl
     rw [hval]
     exact out_new (f := fun n => .pointer (some ⟨n, 0, none⟩)) h hsp hw.size fun ρ' h' => by simp [LV.den, V1.den, SV.den, AV.den, h']
   ·cases h
  ·cases h
 ·-- box
  rename_i t x ho
  split at h
  ·rename_i v hv
   have hx := opnd_eq (operand_slots hl (x := x) (by simp [ho, Op.operands])) hv (by simp)
   refine ⟨by unfold newBlock at h; split at h <;> cases h; intro u hu; rw [List.mem_singleton.1 hu]; exact .inl ⟨Nat.le_refl _, by omega⟩, OpOk.value (w' := w.alloc (.cells (v.cells.map (SV.den ε ρ)).toArray t)) (v := .pointer (some ⟨w.heap.size, 0, none⟩)) ?_ ?_⟩
   ·refine ex_value (s := Instr.box t (a.eval x)) (by simp only [execOp, ho]) ?_
    unfold Instr.box
    simp only [Sem.run_bind, Result.andThen, newVar, run_newRow, Sem.run_pure, hx, LV.den, V1.den_cells]
   ·have hval : r.val = .v (.s (.a (.ptr id 0))) := by unfold newBlock at h; split at h <;> cases h; rfl
    rw [hval]
    exact out_new (f := fun n => .pointer (some ⟨n, 0, none⟩)) h hsp hw.size fun ρ' h' => by simp [LV.den, V1.den, SV.den, AV.den, h']
  ·cases h
 ·-- build
  rename_i t parts ho
  split at h
  ·rename_i z d ps hz hd hps
   have hparts := partsOf_den (ε := ε) (ρ := ρ) (a := a) (fun x hx t ht => hl t (by rw [ho]; simp only [Op.operands]; rw [← ht]; simpa using ⟨x.1, by simpa using hx⟩)) hps
   have hp2 : (parts.map fun (x : Nat × Operand) => (x.1, a.eval x.2)).toList = ps.map fun p => (p.1, p.2.den ε ρ) := by rw [← hparts]; simp
   split at h
   ·rename_i v hv
    have hzd := (ofVal_den (ε := ε) (ρ := ρ) (v := z) (by rw [hv]; simp)).1
    rw [hv] at hzd
    have hzc : z.cells = (v.cells.map (SV.den ε ρ)).toArray := by rw [← hzd]; exact V1.den_cells v
    split at h
    ·rename_i fields
     split at h
     ·rename_i cs hcs
      split at h
      ·rename_i hall
       cases h
       refine ⟨by simp, val_out (ex_value (s := Instr.build t (parts.map fun (x : Nat × Operand) => (x.1, a.eval x.2))) (by simp only [execOp, ho]) ?_) rfl rfl⟩
       obtain ⟨pl, h1, h2⟩ := mapM_places (P := P) (w := w) hall
       unfold Instr.build
       have hf := fill_den (ε := ε) (ρ := ρ) ps v.cells cs (pl' := (pl[·]?)) h2 hcs
       simp only [Sem.run_bind, run_zeroValue hz, run_underlying hd, Result.andThen, Sem.run_pure, h1, hp2, hzc, hf]
       rfl
      ·cases h
     ·cases h
    ·rename_i n elem
     split at h
     ·rename_i i hinf
      obtain ⟨cs, hcs, rfl⟩ := Option.map_eq_some_iff.1 h
      refine ⟨by simp, val_out (ex_value (s := Instr.build t (parts.map fun (x : Nat × Operand) => (x.1, a.eval x.2))) (by simp only [execOp, ho]) ?_) rfl rfl⟩
      unfold Instr.build
      have hf := fill_den (ε := ε) (ρ := ρ) ps v.cells cs (pl' := fun j => some (j * i.size, i.size)) (fun _ _ h => h) hcs
      simp only [Sem.run_bind, run_zeroValue hz, run_underlying hd, run_sizeOf hinf, Result.andThen, Sem.run_pure, hp2, hzc, hf]
      rfl
     ·cases h
    ·cases h
   ·cases h
  ·cases h
 ·-- buildSlice
  rename_i t len parts ho
  split at h
  ·rename_i elem ps hd hps
   have hparts := partsOf_den (ε := ε) (ρ := ρ) (a := a) (fun x hx t ht => hl t (by rw [ho]; simp only [Op.operands]; rw [← ht]; simpa using ⟨x.1, by simpa using hx⟩)) hps
   have hp2 : (parts.map fun (x : Nat × Operand) => (x.1, a.eval x.2)).toList = ps.map fun p => (p.1, p.2.den ε ρ) := by rw [← hparts]; simp
   split at h
   ·rename_i n hn
    split at h
    ·rename_i v hv
     obtain ⟨z, hz, hzv⟩ := Option.map_eq_some_iff.1 hv
     have hzb : (P.info? elem).bind (·.zero) = some z := by rw [hn]; exact hz
     have hzd := (ofVal_den (ε := ε) (ρ := ρ) (v := z) (by rw [hzv]; simp)).1
     rw [hzv] at hzd
     have hzc : z.cells = (v.cells.map (SV.den ε ρ)).toArray := by rw [← hzd]; exact V1.den_cells v
     split at h
     ·cases h
     ·rename_i hcond
      simp only [gt_iff_lt, beq_iff_eq, ne_eq, Bool.or_eq_true, decide_eq_true_eq, not_or, Decidable.not_not] at hcond
      obtain ⟨⟨c1, c2⟩, c3⟩ := hcond
      split at h
      ·rename_i cs hcs
       obtain ⟨q, hq, rfl⟩ := Option.map_eq_some_iff.1 h
       refine ⟨by unfold newBlock at hq; split at hq <;> cases hq; intro u hu; rw [List.mem_singleton.1 hu]; exact .inl ⟨Nat.le_refl _, by omega⟩, OpOk.value (w' := w.alloc (.cells (cs.map (SV.den ε ρ)).toArray elem)) (v := .slice (some ⟨w.heap.size, 0, none⟩) len len) ?_ ?_⟩
       ·refine ex_value (s := Instr.buildSlice t len (parts.map fun (x : Nat × Operand) => (x.1, a.eval x.2))) (by simp only [execOp, ho]) ?_
        unfold Instr.buildSlice
        have hf := fill_den (ε := ε) (ρ := ρ) ps _ cs (pl' := fun j => some (j * n.size, n.size)) (fun _ _ h => h) hcs
        have hz0 : ((Array.range (len * n.size)).map fun i => z.cells[i % z.cells.size]!) = (((List.replicate len v.cells).flatten).map (SV.den ε ρ)).toArray := by
         rw [hzc]
         have hns : 0 < n.size := Nat.pos_of_ne_zero fun e => c2 (by rw [e, Nat.mul_zero])
         apply Array.ext'
         apply List.ext_getElem?
         intro j
         simp only [Array.toList_map, Array.toList_range, List.getElem?_map]
         have key : ∀ (m : Nat) (j : Nat), ((List.replicate m v.cells).flatten)[j]? = if j < m * n.size then v.cells[j % n.size]? else none := by
          intro m
          induction m with
          | zero => intro j; simp
          | succ m ih =>
           intro j
           rw [List.replicate_succ, List.flatten_cons, List.getElem?_append, c3]
           split
           ·rename_i hj
            rw [if_pos (by rw [Nat.succ_mul]; omega), Nat.mod_eq_of_lt hj]
           ·rename_i hj
            rw [ih]
            have e1 : (j - n.size) % n.size = j % n.size := by
             conv => rhs; rw [show j = (j - n.size) + n.size by omega, Nat.add_mod_right]
            rw [e1, Nat.succ_mul]
            by_cases h9 : j - n.size < m * n.size
            ·rw [if_pos h9, if_pos (by omega)]
            ·rw [if_neg h9, if_neg (by omega)]
         rw [key]
         simp only [List.size_toArray, List.length_map, c3]
         by_cases hj : j < len * n.size
         ·rw [List.getElem?_range hj, if_pos hj]
          have hlt : j % n.size < v.cells.length := by rw [c3]; exact Nat.mod_lt _ hns
          simp [List.getElem?_eq_getElem hlt, getElem!_pos, hlt]
         ·rw [if_neg hj, List.getElem?_eq_none (by simpa using hj)]; rfl
        have c1' : ¬ len * n.size > 2 ^ 24 := by simpa using c1
        simp only [Sem.run_bind, run_underlying hd, run_sizeOf hn, Result.andThen, Sem.run_pure, if_neg c1', if_neg c2, run_zeroValue hzb]
        simp only [hz0, hp2, hf, Sem.run_bind, run_newRow, Result.andThen, Sem.run_pure]
       ·have := out_new (ε := ε) (ρ := ρ) (val := .v (.s (.a (.sl id 0 len len)))) (t := elem) (f := fun n => .slice (some ⟨n, 0, none⟩) len len) hq hsp hw.size (fun ρ' h' => by
         simp [LV.den, V1.den, SV.den, AV.den, h'])
        exact this
      ·cases h
    ·cases h
   ·cases h
  ·cases h
 ·-- load
  rename_i t x ho
  split at h
  ·rename_i i m off e hx
   have he := opnd_eq (operand_slots hl (x := x) (by simp [ho, Op.operands])) hx (by simp)
   obtain ⟨h1, h3⟩ := loadL_out (ρ := ρ) h hob hpc hw
   refine ⟨by simp [h1], val_out (ex_value (s := Instr.loadAt t (a.eval x)) (by simp only [execOp, ho]) ?_) h1 rfl⟩
   rw [he]; exact h3
  have hx : opnd look x ≠ .bad := by intro e; rw [e] at h; simp [evLoad] at h
  obtain ⟨h1, h2, h3⟩ := load_out h hm
  refine ⟨by simp [h1], val_out (ex_value (s := Instr.loadAt t (a.eval x)) (by simp only [execOp, ho]) ?_) h1 rfl⟩
  rw [opnd_den (operand_slots hl (x := x) (by simp [ho, Op.operands])) hx]; exact h3
 ·-- store
  rename_i t x y ho
  have hx : opnd look x ≠ .bad := by intro e; rw [e] at h; simp [evStore] at h
  have hy : opnd look y ≠ .bad := by intro e; rw [e] at h; unfold evStore at h; split at h <;> simp_all
  obtain ⟨h1, h2, w', h3, h4⟩ := store_out (ρ := ρ) (ε := ε) (base := w0.heap.size) (w := w) h hid hm
  refine ⟨fun u hu => .inr (h2 u hu), OpOk.skip (w' := w') (ex_unit (s := Instr.storeAt t (a.eval x) (a.eval y)) (by simp only [execOp, ho]) ?_) h4⟩
  rw [opnd_den (operand_slots hl (x := x) (by simp [ho, Op.operands])) hx, opnd_den (operand_slots hl (x := y) (by simp [ho, Op.operands])) hy]; exact h3
 ·-- nilCheck
  rename_i x ho
  split at h
  ·rename_i b off hx
   have he := opnd_eq (operand_slots hl (x := x) (by simp [ho, Op.operands])) hx (by simp)
   cases h
   refine ⟨by simp, val_out (v := .pointer (some ⟨ρ b, off, none⟩)) ?_ rfl rfl⟩
   simp only [execOp, ho, he, LV.den, V1.den, SV.den, AV.den]; rfl
  ·rename_i f fi cap hx
   have he := opnd_eq (operand_slots hl (x := x) (by simp [ho, Op.operands])) hx (by simp)
   cases h
   refine ⟨by simp, val_out (v := (LV.v (.s (.fn f fi cap))).den ε ρ) ?_ rfl rfl⟩
   simp only [execOp, ho, he, LV.den, V1.den, SV.den]; rfl
  ·cases h
 ·-- binOp
  rename_i op t x y yt ho
  obtain ⟨hx, hy⟩ := evBin_bad h
  obtain ⟨h1, h2, h3⟩ := evBin_out (ρ := ρ) (w := w) (xo := x) (yo := y) h hob hpc
  refine ⟨by simp [h1], val_out (ex_value (s := do eqGuard op t x y (a.eval x) (a.eval y); binOp op t (a.eval x) (a.eval y)) (by simp only [execOp, ho]) ?_) h1 rfl⟩
  rw [opnd_den (operand_slots hl (x := x) (by simp [ho, Op.operands])) hx, opnd_den (operand_slots hl (x := y) (by simp [ho, Op.operands])) hy]; exact h3
 ·-- unOp
  rename_i op t x ho
  have hx : opnd look x ≠ .bad := by intro e; rw [e] at h; simp [evUn] at h
  obtain ⟨h1, h2, h3⟩ := evUn_out (ε := ε) (ρ := ρ) (P := P) (w := w) h
  refine ⟨by simp [h1], val_out (ex_value (s := Op.unary op (a.eval x)) (by simp only [execOp, ho]) ?_) h1 rfl⟩
  rw [opnd_den (operand_slots hl (x := x) (by simp [ho, Op.operands])) hx]; exact h3
 ·-- convert
  rename_i s d x ho
  split at h
  ·rename_i sd k k' e0 hs hd hx
   have he := opnd_eq (operand_slots hl (x := x) (by simp [ho, Op.operands])) hx (by simp)
   have hrun : (convert s d (a.eval x)).run P w = .ok (.int k (k.wrap (e0.den ε).1)) w := by
    rw [he]
    simp only [LV.den, V1.den, SV.den, AV.den]
    exact run_convert hs hd
   split at h
   ·rename_i n
    cases h
    exact ⟨by simp, val_out (ex_value (s := convert s d (a.eval x)) (by simp only [execOp, ho]) hrun) rfl rfl⟩
   ·split at h
    ·cases h
     refine ⟨by simp, val_out (ex_value (s := convert s d (a.eval x)) (by simp only [execOp, ho]) hrun) rfl ?_⟩
     have hb := hob _ (List.mem_singleton.2 rfl) hpc
     simp only [E.den, CO.den, beq_iff_eq] at hb
     simp only [LV.den, V1.den, SV.den, AV.den, hb]
    ·cases h
     exact ⟨by simp, val_out (ex_value (s := convert s d (a.eval x)) (by simp only [execOp, ho]) hrun) rfl rfl⟩
  ·cases h
 ·-- makeFunc
  rename_i f first captured ho
  split at h
  ·rename_i fi cap hfi hcap
   cases h
   have hs := avs_spec hcap
   have hs2 := avs_spec hfi
   refine ⟨by simp, val_out (ex_value (s := Instr.makeFunc (.func f) (first.map a.eval) (captured.map a.eval)) (by simp only [execOp, ho]) ?_) rfl rfl⟩
   have e1 := map_opnd (ε := ε) (ρ := ρ) (a := a) (look := look) captured.toList (fun x hx t ht => hl t (by rw [ho]; simp only [Op.operands]; rw [← ht]; simp at hx ⊢; exact .inr hx)) (by rw [hs]; simp)
   have e3 := map_opnd (ε := ε) (ρ := ρ) (a := a) (look := look) first.toList (fun x hx t ht => hl t (by rw [ho]; simp only [Op.operands]; rw [← ht]; simp at hx ⊢; exact .inl hx)) (by rw [hs2]; simp)
   have e2 : captured.map a.eval = (cap.map (AV.den ε ρ)).toArray := by
    apply Array.ext'
    rw [Array.toList_map, e1, hs]
    simp [LV.den, V1.den, SV.den]
   have e4 : first.map a.eval = (fi.map (AV.den ε ρ)).toArray := by
    apply Array.ext'
    rw [Array.toList_map, e3, hs2]
    simp [LV.den, V1.den, SV.den]
   rw [e2, e4]
   simp [Instr.makeFunc, LV.den, V1.den, SV.den]
  ·cases h
 ·-- fieldAddr
  rename_i s x f ho
  split at h
  ·rename_i fields b off hd hx
   have he := opnd_eq (operand_slots hl (x := x) (by simp [ho, Op.operands])) hx (by simp)
   split at h
   ·rename_i fd hfd
    split at h
    ·rename_i n hn
     split at h
     ·cases h
     ·rename_i hns
      cases h
      refine ⟨by simp, val_out (ex_value (s := Instr.fieldAt s (a.eval x) f) (by simp only [execOp, ho]) ?_) rfl rfl⟩
      rw [he]
      unfold Instr.fieldAt fieldPlace
      simp only [Sem.run_bind, run_underlying hd, Result.andThen, hfd, LV.den, V1.den, SV.den, AV.den, Instr.sureAddr, Sem.run_pure, run_sizeOf hn, if_neg hns, add_none]
    ·cases h
   ·cases h
  ·rename_i fields li m off e hd hx
   have he := opnd_eq (operand_slots hl (x := x) (by simp [ho, Op.operands])) hx (by simp)
   split at h
   ·rename_i fd hfd
    split at h
    ·rename_i n hn
     split at h
     ·cases h
     ·rename_i hns
      cases h
      obtain ⟨b1, b2, b3⟩ := inB_spec (fun ob hb => hob ob (List.mem_cons_of_mem _ hb)) hpc
      obtain ⟨ad, h1, -⟩ := lst_cell (hob _ (List.mem_cons_self ..)) hw b3
      refine ⟨by simp, val_out (ex_value (s := Instr.fieldAt s (a.eval x) f) (by simp only [execOp, ho]) ?_) rfl rfl⟩
      rw [he]
      unfold Instr.fieldAt fieldPlace
      simp only [Sem.run_bind, run_underlying hd, Result.andThen, hfd, LV.den, V1.den, SV.den, AV.den, Instr.sureAddr, Sem.run_pure, run_sizeOf hn, if_neg hns, h1, Option.map_some, add_add, Nat.add_assoc]
    ·cases h
   ·cases h
  ·cases h
 ·-- field
  rename_i s x f ho
  split at h
  ·rename_i fields cs hd hx
   have he := opnd_eq (operand_slots hl (x := x) (by simp [ho, Op.operands])) hx (by simp)
   split at h
   ·rename_i fd hfd
    obtain ⟨v, hv, rfl⟩ := Option.map_eq_some_iff.1 h
    refine ⟨by simp, val_out (ex_value (s := Instr.field s (a.eval x) f) (by simp only [execOp, ho]) ?_) rfl rfl⟩
    rw [he]
    unfold Instr.field
    simp only [Sem.run_bind, run_underlying hd, Result.andThen, hfd, LV.den, V1.den, asAgg, Sem.run_pure]
    exact run_part hv
   ·cases h
  ·cases h
 ·-- indexAddr
  rename_i t x ix ho
  split at h
  ·rename_i len elem b off k i hd hx hix
   have he := opnd_eq (operand_slots hl (x := x) (by simp [ho, Op.operands])) hx (by simp)
   have hj := opnd_eq (operand_slots hl (x := ix) (by simp [ho, Op.operands])) hix (by simp)
   split at h
   ·rename_i n hn
    split at h
    ·rename_i hb
     cases h
     refine ⟨by simp, val_out (ex_value (s := Instr.indexAt t (a.eval x) (a.eval ix)) (by simp only [execOp, ho]) ?_) rfl rfl⟩
     rw [he, hj]
     unfold Instr.indexAt
     simp only [Sem.run_bind, run_underlying hd, Result.andThen, LV.den, V1.den, SV.den, AV.den, E.den, asIntOf, Instr.sureAddr, Sem.run_pure, run_sizeOf hn, if_pos hb, add_none]
    ·cases h
   ·cases h
  ·rename_i elem b off len cap k i hd hx hix
   have he := opnd_eq (operand_slots hl (x := x) (by simp [ho, Op.operands])) hx (by simp)
   have hj := opnd_eq (operand_slots hl (x := ix) (by simp [ho, Op.operands])) hix (by simp)
   split at h
   ·rename_i n hn
    split at h
    ·rename_i hb
     cases h
     refine ⟨by simp, val_out (ex_value (s := Instr.indexAt t (a.eval x) (a.eval ix)) (by simp only [execOp, ho]) ?_) rfl rfl⟩
     rw [he, hj]
     unfold Instr.indexAt
     simp only [Sem.run_bind, run_underlying hd, Result.andThen, LV.den, V1.den, SV.den, AV.den, E.den, asIntOf, Instr.sureAddr, Sem.run_pure, run_sizeOf hn, if_pos hb, add_none]
    ·cases h
   ·cases h
  ·rename_i len elem li m off e k i hd hx hix
   have he := opnd_eq (operand_slots hl (x := x) (by simp [ho, Op.operands])) hx (by simp)
   have hj := opnd_eq (operand_slots hl (x := ix) (by simp [ho, Op.operands])) hix (by simp)
   split at h
   ·rename_i n hn
    split at h
    ·rename_i hb
     cases h
     obtain ⟨b1, b2, b3⟩ := inB_spec (fun ob hb => hob ob (List.mem_cons_of_mem _ hb)) hpc
     obtain ⟨ad, h1, -⟩ := lst_cell (hob _ (List.mem_cons_self ..)) hw b3
     refine ⟨by simp, val_out (ex_value (s := Instr.indexAt t (a.eval x) (a.eval ix)) (by simp only [execOp, ho]) ?_) rfl rfl⟩
     rw [he, hj]
     unfold Instr.indexAt
     simp only [Sem.run_bind, run_underlying hd, Result.andThen, LV.den, V1.den, SV.den, AV.den, E.den, asIntOf, Instr.sureAddr, Sem.run_pure, run_sizeOf hn, if_pos hb, h1, Option.map_some, add_add, Nat.add_assoc]
    ·cases h
   ·cases h
  ·rename_i elem li k e hd hx hix
   have he := opnd_eq (operand_slots hl (x := x) (by simp [ho, Op.operands])) hx (by simp)
   have hj := opnd_eq (operand_slots hl (x := ix) (by simp [ho, Op.operands])) hix (by simp)
   split at h
   ·rename_i n hn
    cases h
    obtain ⟨b1, b2, b3⟩ := inB_spec (fun ob hb => hob ob (List.mem_cons_of_mem _ hb)) hpc
    obtain ⟨ad, h1, -⟩ := lst_cell (hob _ (List.mem_cons_self ..)) hw b3
    refine ⟨by simp, val_out (ex_value (s := Instr.indexAt t (a.eval x) (a.eval ix)) (by simp only [execOp, ho]) ?_) rfl rfl⟩
    rw [he, hj]
    unfold Instr.indexAt
    simp only [Sem.run_bind, run_underlying hd, Result.andThen, LV.den, V1.den, SV.den, AV.den, asIntOf, Sem.run_pure, h1, Option.map_some, run_sizeOf hn, if_pos (And.intro b1 b2)]
    rfl
   ·cases h
  ·cases h
 ·-- index
  rename_i t x ix ho
  split at h
  ·rename_i len elem cs k i hd hx hix
   have he := opnd_eq (operand_slots hl (x := x) (by simp [ho, Op.operands])) hx (by simp)
   have hj := opnd_eq (operand_slots hl (x := ix) (by simp [ho, Op.operands])) hix (by simp)
   split at h
   ·rename_i n hn
    split at h
    ·rename_i hb
     obtain ⟨v, hv, rfl⟩ := Option.map_eq_some_iff.1 h
     refine ⟨by simp, val_out (ex_value (s := Instr.index t (a.eval x) (a.eval ix)) (by simp only [execOp, ho]) ?_) rfl rfl⟩
     rw [he, hj]
     unfold Instr.index
     simp only [Sem.run_bind, run_underlying hd, Result.andThen, LV.den, V1.den, SV.den, AV.den, E.den, asIntOf, Sem.run_pure, run_sizeOf hn, if_pos hb]
     exact run_part hv
    ·cases h
   ·cases h
  ·cases h
 ·-- slice
  rename_i t x lo hiO mx ho
  have bnd : ∀ (y : Operand), y ∈ o.op.operands → ∀ (d n : Nat), boundOf look (some y) d = some n → ∀ (m : Nat) (c : BoundsCode), n ≤ m → (Instr.sliceBound (a.eval y) m c).run P w = .ok n w := by
   intro y hy d n hb m c hm
   unfold boundOf at hb
   dsimp only at hb
   split at hb
   ·rename_i k i hv
    split at hb
    ·rename_i h0
     cases hb
     have he := opnd_eq (operand_slots hl hy) hv (by simp)
     rw [he]
     have hc : 0 ≤ i ∧ i ≤ (m : Int) := ⟨h0, by omega⟩
     simp only [Instr.sliceBound, LV.den, V1.den, SV.den, AV.den, E.den, asIntOf, Sem.run_bind, Sem.run_pure, Result.andThen, if_pos hc]
    ·cases hb
   ·cases hb
  have bounds : ∀ (isS : Bool) (len cap uu ll : Nat), boundOf look hiO len = some uu → boundOf look lo 0 = some ll → mx = none → ll ≤ uu → uu ≤ cap →
    (Instr.sliceBounds isS len cap (lo.map a.eval) (hiO.map a.eval) (mx.map a.eval)).run P w = .ok (ll, uu, cap) w := by
   intro isS len cap uu ll hh hl' hmx hlh hhc
   rw [hmx]
   unfold Instr.sliceBounds
   have H : ∀ c, (match hiO.map a.eval with | some v => Instr.sliceBound v cap c | none => pure len : Sem Nat).run P w = .ok uu w := fun c => by
    cases hiv : hiO with
    | none => rw [hiv] at hh; simp [boundOf] at hh; subst hh; rfl
    | some z => rw [hiv] at hh; exact bnd z (by simp [ho, Op.operands, hiv]) len uu hh cap c hhc
   have L : ∀ c, (match lo.map a.eval with | some v => Instr.sliceBound v uu c | none => pure 0 : Sem Nat).run P w = .ok ll w := fun c => by
    cases lov : lo with
    | none => rw [lov] at hl'; simp [boundOf] at hl'; subst hl'; rfl
    | some z => rw [lov] at hl'; exact bnd z (by simp [ho, Op.operands, lov]) 0 ll hl' uu c hlh
   have H1 := H (if isS then .sliceAcap else .sliceAlen)
   have L1 := L .sliceB
   cases hiv : hiO with
   | none =>
    rw [hiv] at H1
    cases lov : lo with
    | none => rw [lov] at L1; simp [Result.andThen] at H1 L1 ⊢; exact ⟨L1, H1⟩
    | some y => rw [lov] at L1; simp [Result.andThen] at H1 L1 ⊢; subst H1; simp [L1]
   | some z =>
    rw [hiv] at H1
    cases lov : lo with
    | none => rw [lov] at L1; simp [Result.andThen] at H1 L1 ⊢; simp [H1, L1]
    | some y => rw [lov] at L1; simp [Result.andThen] at H1 L1 ⊢; simp [H1, L1]
  split at h
  ·cases h
  ·rename_i hmx
   have hmx' : mx = none := by simpa using hmx
   split at h
   ·rename_i n elem b off hd hx
    have he := opnd_eq (operand_slots hl (x := x) (by simp [ho, Op.operands])) hx (by simp)
    split at h
    ·rename_i e h1 l1 hi1 hh hl1
     split at h
     ·rename_i hc
      cases h
      refine ⟨by simp, val_out (ex_value (s := Instr.sliceAt t (a.eval x) (lo.map a.eval) (hiO.map a.eval) (mx.map a.eval)) (by simp only [execOp, ho]) ?_) rfl rfl⟩
      rw [he]
      unfold Instr.sliceAt
      simp only [Sem.run_bind, run_underlying hd, Result.andThen, LV.den, V1.den, SV.den, AV.den, Instr.sureAddr, Sem.run_pure, bounds false n n h1 l1 hh hl1 hmx' hc.1 hc.2, run_sizeOf hi1, add_none]
      split <;> rfl
     ·cases h
    ·cases h
   ·rename_i elem b off len cap hd hx
    have he := opnd_eq (operand_slots hl (x := x) (by simp [ho, Op.operands])) hx (by simp)
    split at h
    ·rename_i e h1 l1 hi1 hh hl1
     split at h
     ·rename_i hc
      cases h
      refine ⟨by simp, val_out (ex_value (s := Instr.sliceAt t (a.eval x) (lo.map a.eval) (hiO.map a.eval) (mx.map a.eval)) (by simp only [execOp, ho]) ?_) rfl rfl⟩
      rw [he]
      unfold Instr.sliceAt Instr.slice
      have hb := bounds true len cap h1 l1 hh hl1 hmx' hc.1 hc.2
      simp only [Sem.run_bind, run_underlying hd, Result.andThen, LV.den, V1.den, SV.den, AV.den, Sem.run_pure, hb, run_sizeOf hi1, Option.map_some, add_none]
      split <;> rfl
     ·cases h
    ·cases h
   ·cases h
 ·-- extract
  rename_i x i ho
  split at h
  ·rename_i vs hx
   have he := opnd_eq (operand_slots hl (x := x) (by simp [ho, Op.operands])) hx (by simp)
   obtain ⟨v, hv, rfl⟩ := Option.map_eq_some_iff.1 h
   refine ⟨by simp, val_out (ex_value (s := Instr.extract (a.eval x) i) (by simp only [execOp, ho]) ?_) rfl rfl⟩
   rw [he]
   simp [Instr.extract, LV.den, hv]
  ·cases h
 ·-- call
  rename_i c ho
  have hops : ∀ x ∈ c.args.toList, ∀ t, x = .tmp t → RV ε ρ (look t) (a.tmps.getD t undef) := fun x hx t ht =>
   hl t (by rw [ho]; simp only [Op.operands, Call.operands]; rw [← ht]; exact Array.mem_append_right _ (by simpa using hx))
  split at h
  ·-- len
   rename_i hc
   have hex : execOp a.eval o = (do pure (.value (← Builtin.len_ c.argTypes o.type (c.args.map a.eval)))) := by
    simp only [execOp, ho, resolve, hc]; rfl
   split at h
   ·rename_i t x ht hx
    have hmem : x ∈ c.args.toList := by simpa using Array.mem_of_getElem? hx
    have hget : opnd look x ≠ .bad → (c.args.map a.eval)[0]? = some ((opnd look x).den ε ρ) := fun hb => by
     rw [Array.getElem?_map, hx]; exact congrArg some (opnd_den (hops x hmem) hb)
    split at h
    ·rename_i e b off n cp hd hv
     cases h
     refine ⟨by simp, val_out (ex_value hex ?_) rfl rfl⟩
     rw [hv] at hget
     exact run_len_sl hd _ _ ht (hget (by simp))
    ·rename_i e hd hv
     cases h
     refine ⟨by simp, val_out (ex_value hex ?_) rfl rfl⟩
     rw [hv] at hget
     exact run_len_sl hd _ _ ht (hget (by simp))
    ·rename_i e i hd hv
     cases h
     refine ⟨by simp, val_out (ex_value hex ?_) rfl rfl⟩
     rw [hv] at hget
     exact run_len_sl hd _ _ ht (hget (by simp))
    ·rename_i n e v hd hv
     cases h
     refine ⟨by simp, val_out (ex_value hex ?_) rfl rfl⟩
     rw [hv] at hget
     exact run_len_arr hd _ _ ht (hget (by simp))
    ·cases h
   ·cases h
  ·-- max
   rename_i hc
   have hex : execOp a.eval o = (do pure (.value (← Builtin.max_ c.argTypes o.type (c.args.map a.eval)))) := by
    simp only [execOp, ho, resolve, hc]; rfl
   split at h
   ·rename_i x rest hxs
    obtain ⟨h1, h2, h3, h4⟩ := pureOp_spec h
    obtain ⟨b1, b2⟩ := foldMM_bad _ _ h1
    have em := map_opnd (ε := ε) (ρ := ρ) (a := a) (look := look) c.args.toList hops (by rw [hxs]; intro y hy; exact (List.mem_cons.1 hy).elim (fun e => e ▸ b1) (b2 y))
    refine ⟨by simp [h3], val_out (ex_value hex ?_) h3 rfl⟩
    unfold Builtin.max_
    rw [Array.toList_map, em, hxs]
    rw [h2]
    exact foldMM_spec (f := fun x y => if y > x then y else x) mkMx_den (fun _ _ _ _ _ => rfl) rest x h1
   ·cases h
  ·-- min
   rename_i hc
   have hex : execOp a.eval o = (do pure (.value (← Builtin.min_ c.argTypes o.type (c.args.map a.eval)))) := by
    simp only [execOp, ho, resolve, hc]; rfl
   split at h
   ·rename_i x rest hxs
    obtain ⟨h1, h2, h3, h4⟩ := pureOp_spec h
    obtain ⟨b1, b2⟩ := foldMM_bad _ _ h1
    have em := map_opnd (ε := ε) (ρ := ρ) (a := a) (look := look) c.args.toList hops (by rw [hxs]; intro y hy; exact (List.mem_cons.1 hy).elim (fun e => e ▸ b1) (b2 y))
    refine ⟨by simp [h3], val_out (ex_value hex ?_) h3 rfl⟩
    unfold Builtin.min_
    rw [Array.toList_map, em, hxs]
    rw [h2]
    exact foldMM_spec (f := fun x y => if y < x then y else x) mkMn_den (fun _ _ _ _ _ => rfl) rest x h1
   ·cases h
  ·-- a function
   rename_i f hc
   split at h
   ·rename_i g fi cap hf
    have hfe := opnd_eq (ε := ε) (ρ := ρ) (a := a) (look := look) (x := f) (fun t ht => hl t (by rw [ho]; simp only [Op.operands, Call.operands, hc]; rw [← ht]; simp)) hf (by simp)
    have := call_out (o := o) (a := a) hsp hsub h hid hob hpc hw hm hi (fun hargs => by
     have em := map_opnd (ε := ε) (ρ := ρ) (a := a) (look := look) c.args.toList hops (fun x hx => hargs x (List.mem_append_right _ (List.mem_append_left _ hx)))
     simp only [execOp, ho, resolve, hc, hfe, LV.den, V1.den, SV.den, Deferred.ofValue, Sem.run_bind, Sem.run_pure, Result.andThen, invoke]
     congr 2
     apply Array.ext'
     rw [List.map_append, List.map_append, ← em]
     simp [LV.den, V1.den, SV.den]
     rfl)
    exact this
   ·cases h
  ·cases h
 ·cases h
end
end SX
end
section
namespace SX
open Go.RowKit
variable {P : Program} {ε : Env}
def latest {α : Type} (f : Nat → Option α) : Nat → Option α
 | 0 => none
 | n + 1 => match f n with | some x => some x | none => latest f n
theorem latest_congr {α : Type} {f g : Nat → Option α} : ∀ n, (∀ j, j < n → f j = g j) → latest f n = latest g n
 | 0, _ => rfl
 | n + 1, h => by simp only [latest, h n (by omega), latest_congr n fun j hj => h j (by omega)]
theorem latest_below {α : Type} {f : Nat → Option α} {i : Nat} : ∀ n, i ≤ n → (∀ j, i ≤ j → j < n → f j = none) → latest f n = latest f i
 | 0, h, _ => by obtain rfl : i = 0 := by omega
                 rfl
 | n + 1, h, hn => by
  by_cases e : i = n + 1
  ·subst e; rfl
  ·rw [latest, hn n (by omega) (by omega)]
   exact latest_below n (by omega) fun j h1 h2 => hn j h1 (by omega)
theorem latest_at {α : Type} {f : Nat → Option α} {i : Nat} {x : α} : ∀ n, i < n → f i = some x → (∀ j, i < j → j < n → f j = none) → latest f n = some x
 | 0, h, _, _ => by omega
 | n + 1, h, hx, hn => by
  by_cases e : i = n
  ·subst e; simp [latest, hx]
  ·rw [latest, hn n (by omega) (by omega)]
   exact latest_at n (by omega) hx fun j h1 h2 => hn j h1 (by omega)
theorem latest_some {α : Type} {f : Nat → Option α} {x : α} : ∀ n, latest f n = some x → ∃ j, j < n ∧ f j = some x
 | 0, h => by cases h
 | n + 1, h => by
  rw [latest] at h
  split at h
  ·rename_i y hy; cases h; exact ⟨n, by omega, hy⟩
  ·obtain ⟨j, h1, h2⟩ := latest_some n h; exact ⟨j, by omega, h2⟩
def wT (recs : List Rec) (t j : Nat) : Option LV := match recs[j]? with
 | some r => if r.dst = some t then some r.val else none
 | none => none
def wM (recs : List Rec) (b j : Nat) : Option Cells := match recs[j]? with
 | some r => r.upd.lookup b
 | none => none
def on {α : Type} (D : Nat → Prop) [DecidablePred D] (f : Nat → Option α) (j : Nat) : Option α := if D j then f j else none
section
variable (recs : List Rec) (st : St) (D : Nat → Prop) [DecidablePred D]
def lookD (t : Nat) : LV := if t < st.tmps.length then (latest (on D (wT recs t)) recs.length).getD (st.look t) else .bad
def atD (b : Nat) : Option Cells := match latest (on D (wM recs b)) recs.length with
 | some c => some c
 | none => st.at b
end
theorem St.apply_len (s : St) (r : Rec) : (s.apply r).tmps.length = s.tmps.length := by
 unfold St.apply St.put; cases r.dst <;> simp
theorem St.apply_look (s : St) (r : Rec) (t : Nat) (ht : t < s.tmps.length) : (s.apply r).look t = if r.dst = some t then r.val else s.look t := by
 unfold St.apply St.put St.look
 cases hd : r.dst with
 | none => simp
 | some d =>
  by_cases h : d = t
  ·subst h; simp [ht]
  ·simp [h]
theorem lookup_append {α : Type} (b : Nat) : ∀ (l m : List (Nat × α)), (l ++ m).lookup b = match l.lookup b with | some x => some x | none => m.lookup b
 | [], m => rfl
 | (k, x) :: l, m => by
  simp only [List.cons_append, List.lookup]
  split
  ·rfl
  ·exact lookup_append b l m
theorem St.apply_at (s : St) (r : Rec) (b : Nat) : (s.apply r).at b = match r.upd.lookup b with | some c => some c | none => s.at b := by
 have e : (s.put r.dst r.val).mem = s.mem := by unfold St.put; cases r.dst <;> rfl
 unfold St.apply St.at
 simp only [lookup_append, e]
 cases List.lookup b r.upd <;> rfl
theorem mem_insL {b c : Nat} {l : List Nat} : b ∈ insL c l ↔ b = c ∨ b ∈ l := by
 unfold insL
 split
 ·rename_i h
  constructor
  ·exact .inr
  ·rintro (rfl | h')
   ·exact List.contains_iff_mem.1 h
   ·exact h'
 ·exact List.mem_cons
theorem mem_addL {b : Nat} {l : List Nat} : ∀ {m : List Nat}, b ∈ addL m l ↔ b ∈ m ∨ b ∈ l
 | [] => by simp [addL]
 | c :: m => by
  have ih := mem_addL (b := b) (l := l) (m := m)
  unfold addL at ih ⊢
  rw [List.foldr_cons, mem_insL, ih, List.mem_cons, or_assoc]
theorem St.apply_wr (s : St) (r : Rec) (b : Nat) : b ∈ (s.apply r).wr ↔ b ∈ r.upd.map (·.1) ∨ b ∈ s.wr := by
 have e : (s.apply r).wr = addL (r.upd.map (·.1)) s.wr := by unfold St.apply; rfl
 rw [e]; exact mem_addL
theorem foldl_wr : ∀ (recs : List Rec) (st : St) (b : Nat), b ∈ (recs.foldl St.apply st).wr ↔ (∃ q ∈ recs, b ∈ q.upd.map (·.1)) ∨ b ∈ st.wr
 | [], st, b => by simp
 | r :: recs, st, b => by
  rw [List.foldl_cons, foldl_wr recs, St.apply_wr]
  constructor
  ·rintro (⟨q, h1, h2⟩ | h | h)
   ·exact .inl ⟨q, List.mem_cons_of_mem _ h1, h2⟩
   ·exact .inl ⟨r, List.mem_cons_self, h⟩
   ·exact .inr h
  ·rintro (⟨q, h1, h2⟩ | h)
   ·rcases List.mem_cons.1 h1 with rfl | h1
    ·exact .inr (.inl h2)
    ·exact .inl ⟨q, h1, h2⟩
   ·exact .inr (.inr h)
def lexSt (recs : List Rec) (st : St) (i : Nat) : St := (recs.take i).foldl St.apply st
theorem lexSt_succ {recs : List Rec} {st : St} {i : Nat} {r : Rec} (h : recs[i]? = some r) : lexSt recs st (i + 1) = (lexSt recs st i).apply r := by
 unfold lexSt
 rw [List.take_add_one, h]
 simp
theorem lexSt_len (recs : List Rec) (st : St) : ∀ i, (lexSt recs st i).tmps.length = st.tmps.length
 | 0 => rfl
 | i + 1 => by
  cases h : recs[i]? with
  | none =>
   have : lexSt recs st (i + 1) = lexSt recs st i := by unfold lexSt; rw [List.take_add_one, h]; simp
   rw [this]; exact lexSt_len recs st i
  | some r => rw [lexSt_succ h, St.apply_len]; exact lexSt_len recs st i
theorem lexSt_look (recs : List Rec) (st : St) (t : Nat) (ht : t < st.tmps.length) : ∀ i, i ≤ recs.length → (lexSt recs st i).look t = (latest (wT recs t) i).getD (st.look t)
 | 0, _ => rfl
 | i + 1, hi => by
  have h : recs[i]? = some recs[i] := List.getElem?_eq_getElem (by omega)
  rw [lexSt_succ h, St.apply_look _ _ _ (by rw [lexSt_len]; exact ht), latest, lexSt_look recs st t ht i (by omega)]
  simp only [wT, h]
  split <;> rfl
theorem lexSt_at (recs : List Rec) (st : St) (b : Nat) : ∀ i, i ≤ recs.length → (lexSt recs st i).at b = match latest (wM recs b) i with | some c => some c | none => st.at b
 | 0, _ => rfl
 | i + 1, hi => by
  have h : recs[i]? = some recs[i] := List.getElem?_eq_getElem (by omega)
  rw [lexSt_succ h, St.apply_at, latest, lexSt_at recs st b i (by omega)]
  simp only [wM, h]
  cases (recs[i]).upd.lookup b <;> rfl
def DidAt (P : Program) (ε : Env) (w0 : World) (sub : Sub) (sp : Nat) (ops : Array Oper) (nid : Nat) (recs : List Rec) (st : St) (i : Nat) (o : Oper) (rc : Rec) : Prop :=
 rc.dst = o.dst ∧
 ((((o.guard = none) ∨ ∃ j want t e, o.guard = some (j, want) ∧ (ops[j]?).bind (·.dst) = some t ∧ (lexSt recs st i).look t = .v (.s (.a (.bool e))) ∧ (e.den ε).2 = want) ∧
     ∃ pc dec nv r, (pc.den ε).2 = true ∧ (∀ p ∈ dec, (p.1.den ε).2 = p.2) ∧ evOp P sub sp (nid + i * sp) pc (lexSt recs st i).look (lexSt recs st i).at nv dec o = some r ∧ rc = ⟨o.dst, r.val, r.fp, r.upd⟩ ∧ ∀ ob ∈ r.obs, ob.ok P ε w0) ∨
  ((∃ j want t, o.guard = some (j, want) ∧ (ops[j]?).bind (·.dst) = some t ∧ ((∃ e, (lexSt recs st i).look t = .v (.s (.a (.bool e))) ∧ (e.den ε).2 ≠ want) ∨ (lexSt recs st i).look t = .tup [])) ∧
   rc = ⟨o.dst, .tup [], [], []⟩))
theorem DidAt.shift {w0 : World} {sub : Sub} {sp : Nat} {ops : Array Oper} {nid : Nat} {recs recs' : List Rec} {st st' : St} {i i' nid' : Nat} {o : Oper} {rc : Rec}
  (h : DidAt P ε w0 sub sp ops nid recs st i o rc) (hl : lexSt recs st i = lexSt recs' st' i') (hn : nid + i * sp = nid' + i' * sp) : DidAt P ε w0 sub sp ops nid' recs' st' i' o rc := by
 unfold DidAt at *
 rw [← hl, ← hn]
 exact h
def Ops.path (ε : Env) : Ops → Option (List Rec × St)
 | .done st _ => some ([], st)
 | .op r _ rest => (rest.path ε).map fun p => (r :: p.1, p.2)
 | .fork e x y => if (e.den ε).2 then x.path ε else y.path ε
 | .none => Option.none
theorem evOps_cons {sub : Sub} {sp : Nat} {ops : Array Oper} {o : Oper} {rest : List Oper} {id : Nat} {pc : E} {dec : List (E × Bool)} {st : St} {nv : Nat} :
  evOps P sub sp ops (o :: rest) id pc dec st nv =
  (let run (pc : E) (dec : List (E × Bool)) (nv : Nat) : Ops := match evOp P sub sp id pc st.look st.at nv dec o with
   | some r => .op ⟨o.dst, r.val, r.fp, r.upd⟩ r.obs (evOps P sub sp ops rest (id + sp) pc dec (st.apply ⟨o.dst, r.val, r.fp, r.upd⟩) r.nv)
   | none => .none
  let skip (pc : E) (dec : List (E × Bool)) (nv : Nat) : Ops := .op ⟨o.dst, .tup [], [], []⟩ [] (evOps P sub sp ops rest (id + sp) pc dec (st.apply ⟨o.dst, .tup [], [], []⟩) nv)
  match o.guard with
  | none => run pc dec nv
  | some (j, want) => match ((ops[j]?).bind (·.dst)).map st.look with
   | some (.v (.s (.a (.bool e0)))) => match decided dec e0 with
    | some b => if b == want then run pc dec nv else skip pc dec nv
    | none => match under pc e0 with
     | .blit b => if b == want then run pc dec nv else skip pc dec nv
     | e => if want then
      let x := run (mkIf e pc (.blit false)) ((e0, true) :: dec) nv
      .fork e x (skip (mkIf e (.blit false) pc) ((e0, false) :: dec) x.nv)
     else
      let x := skip (mkIf e pc (.blit false)) ((e0, true) :: dec) nv
      .fork e x (run (mkIf e (.blit false) pc) ((e0, false) :: dec) x.nv)
   | some (.tup []) => skip pc dec nv
   | _ => .none) := by
 conv => lhs; unfold evOps
 simp only [fLV_eq, fM_eq, fNs_eq, applyK_eq, fE_eq]
 rfl
theorem evOps_spec {w0 : World} {sub : Sub} {sp : Nat} {ops : Array Oper} : ∀ {l : List Oper} {nid : Nat} {pc : E} {dec : List (E × Bool)} {st : St} {nv : Nat} {recs : List Rec} {st' : St},
  (evOps P sub sp ops l nid pc dec st nv).path ε = some (recs, st') → (∀ ob ∈ (evOps P sub sp ops l nid pc dec st nv).obs, ob.ok P ε w0) → (pc.den ε).2 = true → (∀ p ∈ dec, (p.1.den ε).2 = p.2) →
  recs.length = l.length ∧ st' = recs.foldl St.apply st ∧ ∀ i o, l[i]? = some o → ∃ rc, recs[i]? = some rc ∧ DidAt P ε w0 sub sp ops nid recs st i o rc
 | [], nid, pc, dec, st, nv, recs, st', h, _, _, _ => by
  simp only [evOps, Ops.path] at h
  cases h
  exact ⟨rfl, rfl, fun i o h => by simp at h⟩
 | o :: l, nid, pc, dec, st, nv, recs, st', h, hob, hpc, hdec => by
  have go : ∀ (rc : Rec) (pc : E) (dec : List (E × Bool)) (nv : Nat) (obs : List Ob), (pc.den ε).2 = true → (∀ p ∈ dec, (p.1.den ε).2 = p.2) →
    (Ops.op rc obs (evOps P sub sp ops l (nid + sp) pc dec (st.apply rc) nv)).path ε = some (recs, st') → (∀ ob ∈ (Ops.op rc obs (evOps P sub sp ops l (nid + sp) pc dec (st.apply rc) nv)).obs, ob.ok P ε w0) →
    (∀ recs' : List Rec, DidAt P ε w0 sub sp ops nid (rc :: recs') st 0 o rc) →
    recs.length = (o :: l).length ∧ st' = recs.foldl St.apply st ∧ ∀ i o', (o :: l)[i]? = some o' → ∃ rc, recs[i]? = some rc ∧ DidAt P ε w0 sub sp ops nid recs st i o' rc := by
   intro rc pc dec nv obs hpc hdec hp ho hd
   simp only [Ops.path, Option.map_eq_some_iff] at hp
   obtain ⟨⟨recs1, st1⟩, he, heq⟩ := hp
   cases heq
   obtain ⟨h1, h2, h3⟩ := evOps_spec he (fun ob hb => ho ob (List.mem_append_right _ hb)) hpc hdec
   refine ⟨by simp [h1], by simp [h2], fun i o' hi => ?_⟩
   cases i with
   | zero =>
    obtain rfl : o = o' := by simpa using hi
    exact ⟨_, rfl, hd _⟩
   | succ i =>
    obtain ⟨rc', e1, e2⟩ := h3 i o' (by simpa using hi)
    exact ⟨rc', by simpa using e1, e2.shift (by simp [lexSt]) (by rw [Nat.succ_mul]; omega)⟩
  have run : ∀ (pc : E) (dec : List (E × Bool)) (nv : Nat) (T : Ops), T = (match evOp P sub sp nid pc st.look st.at nv dec o with
    | some r => .op ⟨o.dst, r.val, r.fp, r.upd⟩ r.obs (evOps P sub sp ops l (nid + sp) pc dec (st.apply ⟨o.dst, r.val, r.fp, r.upd⟩) r.nv)
    | none => .none) → (pc.den ε).2 = true → (∀ p ∈ dec, (p.1.den ε).2 = p.2) → T.path ε = some (recs, st') → (∀ ob ∈ T.obs, ob.ok P ε w0) →
    ((o.guard = none) ∨ ∃ j want t e, o.guard = some (j, want) ∧ (ops[j]?).bind (·.dst) = some t ∧ st.look t = .v (.s (.a (.bool e))) ∧ (e.den ε).2 = want) →
    recs.length = (o :: l).length ∧ st' = recs.foldl St.apply st ∧ ∀ i o', (o :: l)[i]? = some o' → ∃ rc, recs[i]? = some rc ∧ DidAt P ε w0 sub sp ops nid recs st i o' rc := by
   intro pc dec nv T hT hpc hdec hr ho hg
   split at hT
   ·rename_i r he
    subst hT
    exact go _ pc dec r.nv r.obs hpc hdec hr ho fun recs' => ⟨rfl, .inl ⟨hg, pc, dec, nv, r, hpc, hdec, by rw [Nat.zero_mul]; exact he, rfl, fun ob hb => ho ob (List.mem_append_left _ hb)⟩⟩
   ·subst hT; cases hr
  have skip : ∀ (pc : E) (dec : List (E × Bool)) (nv : Nat), (pc.den ε).2 = true → (∀ p ∈ dec, (p.1.den ε).2 = p.2) →
    (Ops.op ⟨o.dst, .tup [], [], []⟩ [] (evOps P sub sp ops l (nid + sp) pc dec (st.apply ⟨o.dst, .tup [], [], []⟩) nv)).path ε = some (recs, st') →
    (∀ ob ∈ (Ops.op ⟨o.dst, .tup [], [], []⟩ [] (evOps P sub sp ops l (nid + sp) pc dec (st.apply ⟨o.dst, .tup [], [], []⟩) nv)).obs, ob.ok P ε w0) →
    (∃ j want t, o.guard = some (j, want) ∧ (ops[j]?).bind (·.dst) = some t ∧ ((∃ e, st.look t = .v (.s (.a (.bool e))) ∧ (e.den ε).2 ≠ want) ∨ st.look t = .tup [])) →
    recs.length = (o :: l).length ∧ st' = recs.foldl St.apply st ∧ ∀ i o', (o :: l)[i]? = some o' → ∃ rc, recs[i]? = some rc ∧ DidAt P ε w0 sub sp ops nid recs st i o' rc := by
   intro pc dec nv hpc hdec hr ho hg
   exact go _ pc dec nv [] hpc hdec hr ho fun recs' => ⟨rfl, .inr ⟨hg, rfl⟩⟩
  rw [evOps_cons] at h hob
  dsimp only at h hob
  split at h
  ·rename_i hg
   simp only [hg] at hob
   exact run pc dec nv _ rfl hpc hdec h hob (.inl hg)
  ·rename_i j want hg
   simp only [hg] at hob
   split at h
   ·rename_i e0 he
    simp only [he] at hob
    obtain ⟨t, ht, hte⟩ := Option.map_eq_some_iff.1 he
    split at h
    ·rename_i b hb
     simp only [hb] at hob
     split at h
     ·rename_i hbw
      simp only [hbw, if_true] at hob
      obtain rfl : b = want := by simpa using hbw
      exact run pc dec nv _ rfl hpc hdec h hob (.inr ⟨j, b, t, e0, hg, ht, hte, decided_spec hdec hb⟩)
     ·rename_i hbw
      simp only [hbw, if_false, Bool.false_eq_true] at hob
      exact skip pc dec nv hpc hdec h hob ⟨j, want, t, hg, ht, .inl ⟨e0, hte, by rw [decided_spec hdec hb]; simpa using hbw⟩⟩
    ·rename_i hb
     simp only [hb] at hob
     have hund := under_den hpc e0
     split at h
     ·rename_i b hu
      simp only [hu] at hob
      have hb0 : (e0.den ε).2 = b := by rw [← hund, hu]; rfl
      split at h
      ·rename_i hbw
       simp only [hbw, if_true] at hob
       obtain rfl : b = want := by simpa using hbw
       exact run pc dec nv _ rfl hpc hdec h hob (.inr ⟨j, b, t, e0, hg, ht, hte, hb0⟩)
      ·rename_i hbw
       simp only [hbw, if_false, Bool.false_eq_true] at hob
       exact skip pc dec nv hpc hdec h hob ⟨j, want, t, hg, ht, .inl ⟨e0, hte, by rw [hb0]; simpa using hbw⟩⟩
     ·rename_i hnb
      split at hob
      ·rename_i b hu; exact absurd hu (hnb b)
      generalize under pc e0 = e at h hob hund
      have ht1 : ∀ c, (e0.den ε).2 = c → ∀ p ∈ (e0, c) :: dec, (p.1.den ε).2 = p.2 := fun c hc p hp => by
       rcases List.mem_cons.1 hp with rfl | hp
       ·exact hc
       ·exact hdec p hp
      split at h
      ·rename_i hw
       subst hw
       simp only [if_true, Ops.obs] at hob
       simp only [Ops.path] at h
       cases hc : (e.den ε).2
       ·simp only [hc, Bool.false_eq_true, if_false] at h
        rw [hc] at hund
        exact skip _ _ _ (by rw [mkIf_den, hc, if_neg (by simp)]; exact hpc) (ht1 _ hund.symm) h (fun ob hb => hob ob (List.mem_append_right _ hb)) ⟨j, true, t, hg, ht, .inl ⟨e0, hte, by rw [← hund]; simp⟩⟩
       ·simp only [hc, if_true] at h
        rw [hc] at hund
        exact run _ _ _ _ rfl (by rw [mkIf_den, hc, if_pos rfl]; exact hpc) (ht1 _ hund.symm) h (fun ob hb => hob ob (List.mem_append_left _ hb)) (.inr ⟨j, true, t, e0, hg, ht, hte, hund.symm⟩)
      ·rename_i hw
       obtain rfl : want = false := by simpa using hw
       simp only [Bool.false_eq_true, if_false, Ops.obs] at hob
       simp only [Ops.path] at h
       cases hc : (e.den ε).2
       ·simp only [hc, Bool.false_eq_true, if_false] at h
        rw [hc] at hund
        exact run _ _ _ _ rfl (by rw [mkIf_den, hc, if_neg (by simp)]; exact hpc) (ht1 _ hund.symm) h (fun ob hb => hob ob (List.mem_append_right _ hb)) (.inr ⟨j, false, t, e0, hg, ht, hte, hund.symm⟩)
       ·simp only [hc, if_true] at h
        rw [hc] at hund
        exact skip _ _ _ (by rw [mkIf_den, hc, if_pos rfl]; exact hpc) (ht1 _ hund.symm) h (fun ob hb => hob ob (List.mem_append_left _ hb)) ⟨j, false, t, hg, ht, .inl ⟨e0, hte, by rw [← hund]; simp⟩⟩
   ·rename_i he
    simp only [he] at hob
    obtain ⟨t, ht, hte⟩ := Option.map_eq_some_iff.1 he
    exact skip pc dec nv hpc hdec h hob ⟨j, want, t, hg, ht, .inr hte⟩
   ·cases h
end SX
end
section
namespace SX
open Go.RowKit
variable {P : Program} {ε : Env}
def bef (bs : List Nat) (i j : Nat) : Prop := (bs.getD i 0).testBit j = true
structure RegOk (ops : Array Oper) (recs : List Rec) (bs : List Nat) (base sp : Nat) (i : Nat) (o : Oper) (r : Rec) : Prop where
 sel : ∀ cs b, o.op ≠ .select cs b
 lt : ∀ j, bef bs i j → j < i
 edge : ∀ e ∈ o.after, Region.binds .any e = true → bef bs i e.on
 back : ∀ j, bef bs i j → ∃ e ∈ o.after, Region.binds .any e = true ∧ (e.on = j ∨ bef bs e.on j)
 apart : ∀ j, j < ops.size → j ≠ i → ∀ q, recs[j]? = some q → (∃ k ∈ changes q, k ∈ footprint ops o r) → bef bs i j ∨ bef bs j i
 names : ∀ b ∈ mentions r, b < base ∨ NW (base + i * sp) sp b ∨ ∃ j, bef bs i j ∧ NW (base + j * sp) sp b
 keys : ∀ u ∈ r.upd, u.1 < base ∨ NW (base + i * sp) sp u.1 ∨ ∃ j, bef bs i j ∧ NW (base + j * sp) sp u.1
theorem testBit_shl (k j : Nat) : (1 <<< k).testBit j = decide (k = j) := by
 rw [Nat.shiftLeft_eq, Nat.one_mul, Nat.testBit_two_pow]
theorem maskS_bit {l : List Nat} {k : Nat} (h : k ∈ l) : (maskS l).testBit (squeeze k) = true := by
 have key : ∀ (l : List Nat) (m : Nat), (m.testBit (squeeze k) = true ∨ k ∈ l) → (l.foldl (fun m k => m ||| 1 <<< squeeze k) m).testBit (squeeze k) = true := by
  intro l
  induction l with
  | nil => intro m h; simpa using h
  | cons x l ih =>
   intro m h
   rw [List.foldl_cons]
   refine ih _ ?_
   rcases h with h | h
   ·left; rw [Nat.testBit_or, h, Bool.true_or]
   ·rcases List.mem_cons.1 h with rfl | h
    ·left; rw [Nat.testBit_or, testBit_shl]; simp
    ·exact .inr h
 exact key l 0 (.inr h)
theorem bmOf_bit {bm : List Nat} {o : Oper} {j : Nat} : (bmOf bm o).testBit j = true ↔ ∃ e ∈ o.after, Region.binds .any e = true ∧ (e.on = j ∨ bef bm e.on j) := by
 have key : ∀ (l : List _) (m : Nat), (l.foldl (fun m (e : Edge) => if Region.binds .any e then m ||| (1 <<< e.on) ||| bm.getD e.on 0 else m) m).testBit j = true ↔
   m.testBit j = true ∨ ∃ e ∈ l, Region.binds .any e = true ∧ (e.on = j ∨ bef bm e.on j) := by
  intro l
  induction l with
  | nil => intro m; simp
  | cons x l ih =>
   intro m
   rw [List.foldl_cons, ih]
   split
   ·rename_i hb
    rw [Nat.testBit_or, Nat.testBit_or, testBit_shl]
    simp only [Bool.or_eq_true, decide_eq_true_eq, List.mem_cons]
    constructor
    ·rintro (((h | h) | h) | ⟨e, h1, h2⟩)
     ·exact .inl h
     ·exact .inr ⟨x, .inl rfl, hb, .inl h⟩
     ·exact .inr ⟨x, .inl rfl, hb, .inr h⟩
     ·exact .inr ⟨e, .inr h1, h2⟩
    ·rintro (h | ⟨e, rfl | h1, h2, h3⟩)
     ·exact .inl (.inl (.inl h))
     ·rcases h3 with h3 | h3
      ·exact .inl (.inl (.inr h3))
      ·exact .inl (.inr h3)
     ·exact .inr ⟨e, h1, h2, h3⟩
   ·rename_i hb
    constructor
    ·rintro (h | ⟨e, h1, h2⟩)
     ·exact .inl h
     ·exact .inr ⟨e, List.mem_cons_of_mem _ h1, h2⟩
    ·rintro (h | ⟨e, h1, h2, h3⟩)
     ·exact .inl h
     ·rcases List.mem_cons.1 h1 with rfl | h1
      ·exact absurd h2 hb
      ·exact .inr ⟨e, h1, h2, h3⟩
 have := key o.after.toList 0
 unfold bmOf
 rw [this]
 simp
theorem apartFrom_acc {bi s : Nat} : ∀ (k j : Nat) (cs fs : List Nat) (c' f' : Nat), (c'.testBit s = true → (apartFrom bi j k cs fs c' f').1.testBit s = true) ∧ (f'.testBit s = true → (apartFrom bi j k cs fs c' f').2.testBit s = true)
 | 0, j, cs, fs, c', f' => by simp [apartFrom]
 | k + 1, j, [], fs, c', f' => by simp [apartFrom]
 | k + 1, j, _ :: _, [], c', f' => by simp [apartFrom]
 | k + 1, j, c :: cs, f :: fs, c', f' => by
  unfold apartFrom
  split
  ·exact apartFrom_acc k _ _ _ _ _
  ·obtain ⟨h1, h2⟩ := apartFrom_acc (s := s) k (j + 1) cs fs (c' ||| c) (f' ||| f)
   exact ⟨fun h => h1 (by rw [Nat.testBit_or, h, Bool.true_or]), fun h => h2 (by rw [Nat.testBit_or, h, Bool.true_or])⟩
theorem apartFrom_bit {bi s m : Nat} : ∀ (k j : Nat) (cs fs : List Nat) (c' f' c f : Nat), m < k → cs[m]? = some c → fs[m]? = some f → bi.testBit (j + m) = false →
  (c.testBit s = true → (apartFrom bi j k cs fs c' f').1.testBit s = true) ∧ (f.testBit s = true → (apartFrom bi j k cs fs c' f').2.testBit s = true) := by
 intro k
 induction k generalizing m with
 | zero => intro j cs fs c' f' c f h; omega
 | succ k ih =>
  intro j cs fs c' f' c f hm hc hf hb
  cases cs with
  | nil => simp at hc
  | cons c0 cs =>
   cases fs with
   | nil => simp at hf
   | cons f0 fs =>
    cases m with
    | zero =>
     simp only [List.getElem?_cons_zero, Option.some.injEq] at hc hf
     subst hc hf
     rw [Nat.add_zero] at hb
     unfold apartFrom
     rw [hb]
     simp only [Bool.false_eq_true, if_false]
     obtain ⟨h1, h2⟩ := apartFrom_acc (bi := bi) (s := s) k (j + 1) cs fs (c' ||| c0) (f' ||| f0)
     exact ⟨fun h => h1 (by rw [Nat.testBit_or, h, Bool.or_true]), fun h => h2 (by rw [Nat.testBit_or, h, Bool.or_true])⟩
    | succ m =>
     unfold apartFrom
     have hb' : bi.testBit (j + 1 + m) = false := by rw [← hb]; congr 1; omega
     split
     ·exact ih _ _ _ _ _ _ _ (by omega) (by simpa using hc) (by simpa using hf) hb'
     ·exact ih _ _ _ _ _ _ _ (by omega) (by simpa using hc) (by simpa using hf) hb'
theorem land_zero {x y s : Nat} (h : (x &&& y == 0) = true) (h1 : x.testBit s = true) (h2 : y.testBit s = true) : False := by
 have : (x &&& y).testBit s = true := by rw [Nat.testBit_and, h1, h2]; rfl
 rw [eq_of_beq h] at this
 simp at this
theorem ownB_spec {base sp i b : Nat} (h : ownB base sp i b = true) : NW (base + i * sp) sp b := by
 unfold ownB at h
 simp only [Bool.and_eq_true, decide_eq_true_eq] at h
 exact h
theorem blockOk_spec {base sp i b : Nat} {bs : List Nat} (h : blockOk base sp i (bs.getD i 0) b = true) : b < base ∨ NW (base + i * sp) sp b ∨ ∃ j, bef bs i j ∧ NW (base + j * sp) sp b := by
 unfold blockOk at h
 simp only [Bool.or_eq_true, Bool.and_eq_true, decide_eq_true_eq] at h
 rcases h with (h | h) | ⟨h1, h2⟩
 ·exact .inl h
 ·exact .inr (.inl (ownB_spec h))
 ·exact .inr (.inr ⟨_, h2, ownB_spec h1⟩)
theorem regionOk_spec {ops : Array Oper} {recs : List Rec} {bs : List Nat} {base sp : Nat} (h : regionOk ops recs bs base sp = true) :
  recs.length = ops.size ∧ bs.length = ops.size ∧ ∀ i o r, ops[i]? = some o → recs[i]? = some r → RegOk ops recs bs base sp i o r := by
 unfold regionOk at h
 simp only [fNs_eq, fN_eq] at h
 simp only [Bool.and_eq_true, beq_iff_eq, List.all_eq_true, List.mem_range] at h
 obtain ⟨⟨h1, h2⟩, h3⟩ := h
 have lt : ∀ {i o}, ops[i]? = some o → i < ops.size := fun {i o} ho => by
  rcases Nat.lt_or_ge i ops.size with h | h
  ·exact h
  ·rw [Array.getElem?_eq_none h] at ho; cases ho
 have all : ∀ (i : Nat) o r, ops[i]? = some o → recs[i]? = some r → (match o.op with | .select _ _ => false | _ => true) = true ∧ bs.getD i 0 >>> i = 0 ∧ bmOf bs o = bs.getD i 0 ∧
   (∀ b ∈ mentions r, blockOk base sp i (bs.getD i 0) b = true) ∧ (∀ u ∈ r.upd, blockOk base sp i (bs.getD i 0) u.1 = true) ∧
   (i = 0 ∨ pairOk (apartFrom (bs.getD i 0) 0 i (recs.map fun r => maskS (changes r)) ((ops.toList.zip recs).map fun x => maskS (footprint ops x.1 x.2)) 0 0) ((recs.map fun r => maskS (changes r)).getD i 0) (((ops.toList.zip recs).map fun x => maskS (footprint ops x.1 x.2)).getD i 0) = true) := fun i o r ho hr => by
  have := h3 i (lt ho)
  simp only [ho, hr, Bool.and_eq_true, List.all_eq_true, beq_iff_eq, Bool.or_eq_true] at this
  obtain ⟨a1, ⟨⟨⟨a2, a3⟩, a4⟩, a5⟩, a6⟩ := this
  exact ⟨a1, a2, a3, a4, a5, a6⟩
 have cmI : ∀ (i : Nat) r, recs[i]? = some r → (recs.map (fun r => maskS (changes r)))[i]? = some (maskS (changes r)) := fun i r hr => by rw [List.getElem?_map, hr]; rfl
 have fmI : ∀ (i : Nat) o r, ops[i]? = some o → recs[i]? = some r → ((ops.toList.zip recs).map (fun x => maskS (footprint ops x.1 x.2)))[i]? = some (maskS (footprint ops o r)) := fun i o r ho hr => by
  have ho' : ops.toList[i]? = some o := by simpa using ho
  have hz : (ops.toList.zip recs)[i]? = some (o, r) := List.getElem?_zip_eq_some.2 ⟨ho', hr⟩
  rw [List.getElem?_map, hz]; rfl
 have pairs : ∀ (i j : Nat) o r p q, j < i → ops[i]? = some o → recs[i]? = some r → ops[j]? = some p → recs[j]? = some q → ¬ bef bs i j →
   (∀ k ∈ changes q, k ∉ footprint ops o r) ∧ (∀ k ∈ changes r, k ∉ footprint ops p q) := fun i j o r p q hji ho hr hp hq hb => by
  have hb' : (bs.getD i 0).testBit (0 + j) = false := by rw [Nat.zero_add]; unfold bef at hb; simpa using hb
  rcases (all i o r ho hr).2.2.2.2.2 with h0 | hpair
  ·omega
  ·unfold pairOk at hpair
   simp only [Bool.and_eq_true] at hpair
   have e1 : (recs.map fun r => maskS (changes r)).getD i 0 = maskS (changes r) := by rw [List.getD_eq_getElem?_getD, cmI i r hr]; rfl
   have e2 : ((ops.toList.zip recs).map fun x => maskS (footprint ops x.1 x.2)).getD i 0 = maskS (footprint ops o r) := by rw [List.getD_eq_getElem?_getD, fmI i o r ho hr]; rfl
   rw [e1, e2] at hpair
   refine ⟨fun k hk hk' => ?_, fun k hk hk' => ?_⟩
   ·exact land_zero hpair.1 ((apartFrom_bit i 0 _ _ 0 0 _ _ hji (cmI j q hq) (fmI j p q hp hq) hb').1 (maskS_bit hk)) (maskS_bit hk')
   ·exact land_zero hpair.2 ((apartFrom_bit i 0 _ _ 0 0 _ _ hji (cmI j q hq) (fmI j p q hp hq) hb').2 (maskS_bit hk')) (maskS_bit hk)
 refine ⟨h1, h2, fun i o r ho hr => ?_⟩
 obtain ⟨a1, a2, a3, a4, a5, a6⟩ := all i o r ho hr
 refine ⟨fun cs b e => (by rw [e] at a1; cases a1), fun j hj => ?_, fun e he hb => ?_, fun j hj => ?_, fun j hj hne q hq hk => ?_, fun b hb => blockOk_spec (a4 b hb), fun u hu => blockOk_spec (a5 u hu)⟩
 ·rcases Nat.lt_or_ge j i with h | h
  ·exact h
  ·exfalso
   unfold bef at hj
   have : ((bs.getD i 0) >>> i).testBit (j - i) = true := by rw [Nat.testBit_shiftRight, show i + (j - i) = j by omega]; exact hj
   rw [a2] at this
   simp at this
 ·unfold bef; rw [← a3]; exact bmOf_bit.2 ⟨e, he, hb, .inl rfl⟩
 ·unfold bef at hj; rw [← a3] at hj; exact bmOf_bit.1 hj
 ·obtain ⟨k, k1, k2⟩ := hk
  have hp : ops[j]? = some ops[j] := Array.getElem?_eq_getElem hj
  rcases Nat.lt_or_ge j i with h | h
  ·refine .inl (Classical.byContradiction fun hb => ?_)
   exact (pairs i j o r _ q h ho hr hp hq hb).1 k k1 k2
  ·refine .inr (Classical.byContradiction fun hb => ?_)
   exact (pairs j i _ q o r (by omega) hp hq ho hr hb).2 k k1 k2
theorem lookup_mem {α : Type} {b : Nat} {x : α} : ∀ {l : List (Nat × α)}, l.lookup b = some x → (b, x) ∈ l
 | [], h => by cases h
 | (k, y) :: l, h => by
  simp only [List.lookup] at h
  split at h
  ·rename_i hk; cases h; rw [eq_of_beq hk]; exact List.mem_cons_self
  ·exact List.mem_cons_of_mem _ (lookup_mem h)
theorem lookup_isSome {α : Type} {b : Nat} : ∀ {l : List (Nat × α)}, (∃ u ∈ l, u.1 = b) → (l.lookup b).isSome = true
 | [], ⟨u, hu, _⟩ => by cases hu
 | (k, y) :: l, ⟨u, hu, hb⟩ => by
  simp only [List.lookup]
  split
  ·rfl
  ·rename_i hk
   rcases List.mem_cons.1 hu with rfl | hu
   ·subst hb; simp at hk
   ·exact lookup_isSome ⟨u, hu, hb⟩
section
variable {ops : Array Oper} {recs : List Rec} {bs : List Nat} {st : St} {nid sp : Nat}
structure Inv (ε : Env) (w0 : World) (d : List Deferred) (recs : List Rec) (bs : List Nat) (st : St) (nid : Nat) (ρ0 : Nat → Nat) (w1 : World) (D : Nat → Prop) [DecidablePred D] (ρ : Nat → Nat) (a : Act) (w : World) : Prop where
 size : a.tmps.size = st.tmps.length
 defers : a.defers = d
 slots : ∀ t, RV ε ρ (lookD recs st D t) (a.tmps.getD t undef)
 blocks : ∀ b cs, atD recs st D b = some cs → Blk ε ρ w0.heap.size w b cs
 inj : ∀ b b', (atD recs st D b).isSome = true → (atD recs st D b').isSome = true → ρ b = ρ b' → b = b'
 world : Below w0.heap.size w0 w
 agree : ∀ b, b < nid → ρ b = ρ0 b
 ext : Ext w1 w (fun x => ∃ b, (∃ j q, D j ∧ recs[j]? = some q ∧ b ∈ q.upd.map (·.1)) ∧ (st.at b).isSome = true ∧ ρ0 b = x)
 fresh : ∀ b, (atD recs st D b).isSome = true → (st.at b).isSome = true ∨ w1.heap.size ≤ ρ b
 closed : ∀ j, D j → ∀ k, bef bs j k → D k
theorem agree_at {α : Type} {D : Nat → Prop} [DecidablePred D] {i : Nat} {o : Oper} {r : Rec} {f : Nat → Option α} (hok : RegOk ops recs bs nid sp i o r) (hlen : recs.length = ops.size) (hi : i < ops.size)
  (hlt : ∀ j k, bef bs j k → k < j) (hD : ¬ D i) (hcl : ∀ j, D j → ∀ k, bef bs j k → D k) (hpre : ∀ e ∈ o.after, Region.binds .any e = true → D e.on)
  (hf : ∀ j q, f j ≠ none → recs[j]? = some q → ∃ k ∈ changes q, k ∈ footprint ops o r) (hfn : ∀ j, recs[j]? = none → f j = none) :
  latest (on D f) recs.length = latest f i := by
 have hbs : ∀ j, bef bs i j → D j := fun j hj => by
  obtain ⟨e, he, hb, h⟩ := hok.back j hj
  rcases h with rfl | h
  ·exact hpre e he hb
  ·exact hcl _ (hpre e he hb) _ h
 have ord : ∀ j, j < ops.size → j ≠ i → f j ≠ none → bef bs i j ∨ bef bs j i := fun j hj hne hfj => by
  have hr : recs[j]? = some recs[j] := List.getElem?_eq_getElem (by omega)
  exact hok.apart j hj hne _ hr (hf j _ hfj hr)
 have e1 : latest (on D f) recs.length = latest (on (· < i) f) recs.length := by
  refine latest_congr _ fun j hj => ?_
  unfold on
  by_cases hfj : f j = none
  ·simp [hfj]
  ·by_cases hji : j = i
   ·subst hji; simp [hD]
   ·have := ord j (by omega) hji hfj
    by_cases hji2 : j < i
    ·have : D j := by
      rcases this with h | h
      ·exact hbs j h
      ·exact absurd (hlt j i h) (by omega)
     simp [this, hji2]
    ·have : ¬ D j := fun hd => by
      rcases this with h | h
      ·exact hji2 (hok.lt j h)
      ·exact hD (hcl j hd i h)
     simp [this, hji2]
 rw [e1, latest_below recs.length (by omega) (i := i) fun j h1 h2 => by simp [on, show ¬ j < i by omega]]
 exact latest_congr i fun j hj => by simp [on, hj]
theorem contains_mentions {r : Rec} {b : Nat} (h : b ∈ r.val.ids) : b ∈ mentions r := List.mem_append_left _ h
theorem upd_mentions {r : Rec} {b k : Nat} {cs : Cells} (h : r.upd.lookup k = some cs) (hb : b ∈ Cells.ids cs) : b ∈ mentions r :=
 List.mem_append_right _ (List.mem_flatMap.2 ⟨_, lookup_mem h, hb⟩)
theorem changes_dst {r : Rec} {t : Nat} (h : r.dst = some t) : 2 * t ∈ changes r := List.mem_append_left _ (by simp [h])
theorem changes_upd {r : Rec} {b : Nat} {cs : Cells} (h : r.upd.lookup b = some cs) : 2 * b + 1 ∈ changes r := List.mem_append_right _ (List.mem_map.2 ⟨_, lookup_mem h, rfl⟩)
theorem on_some {α : Type} {D : Nat → Prop} [DecidablePred D] {f : Nat → Option α} {j : Nat} {x : α} (h : on D f j = some x) : D j ∧ f j = some x := by
 unfold on at h; split at h
 ·exact ⟨by assumption, h⟩
 ·cases h
theorem lookD_cases (D : Nat → Prop) [DecidablePred D] (t : Nat) : lookD recs st D t = .bad ∨ lookD recs st D t = st.look t ∨ ∃ j q, D j ∧ recs[j]? = some q ∧ lookD recs st D t = q.val := by
 unfold lookD
 split
 ·cases hl : latest (on D (wT recs t)) recs.length with
  | none => exact .inr (.inl rfl)
  | some x =>
   obtain ⟨j, _, h2⟩ := latest_some _ hl
   obtain ⟨h3, h4⟩ := on_some h2
   unfold wT at h4
   split at h4
   ·rename_i q hq
    split at h4
    ·cases h4; exact .inr (.inr ⟨j, q, h3, hq, rfl⟩)
    ·cases h4
   ·cases h4
 ·exact .inl rfl
theorem atD_cases {D : Nat → Prop} [DecidablePred D] {b : Nat} {cs : Cells} (h : atD recs st D b = some cs) : st.at b = some cs ∨ ∃ j q, D j ∧ recs[j]? = some q ∧ q.upd.lookup b = some cs := by
 unfold atD at h
 split at h
 ·rename_i c hl
  cases h
  obtain ⟨j, _, h2⟩ := latest_some _ hl
  obtain ⟨h3, h4⟩ := on_some h2
  unfold wM at h4
  split at h4
  ·rename_i q hq; exact .inr ⟨j, q, h3, hq, h4⟩
  ·cases h4
 ·exact .inl h
theorem on_with {α : Type} {D : Nat → Prop} [DecidablePred D] {i : Nat} {f : Nat → Option α} {n : Nat} (hn : i < n) (hD : ¬ D i) (hb : f i ≠ none → ∀ j, i < j → j < n → D j → f j = none) :
  latest (on (fun j => D j ∨ j = i) f) n = match f i with | some x => some x | none => latest (on D f) n := by
 cases hf : f i with
 | some x =>
  refine latest_at n hn (by simp [on, hf]) fun j h1 h2 => ?_
  unfold on
  by_cases hd : D j
  ·simp [hd, hb (by simp [hf]) j h1 h2 hd]
  ·rw [if_neg (by intro h; rcases h with h | h; exact hd h; omega)]
 | none =>
  refine latest_congr n fun j hj => ?_
  unfold on
  by_cases hji : j = i
  ·subst hji; simp [hf]
  ·simp [hji]
end
end SX
end
end Go.Proofs.YtcjlpgmhlghdkaaGreat
