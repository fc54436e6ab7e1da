/- Packed: Plain2. -/
import Derived.ChangeShapes
import Derived.WideShapes
import Derived.OpenShut
import Derived.Carry
import Derived.Test.YtacpahebbnnckaaP5
set_option linter.unusedVariables false
set_option linter.unusedSimpArgs false
namespace Go.Proofs.Ytacpahebbnnckaa
section
open Go.RowKit Go.ChangeShapes Go.WideShapes
inductive Kd | int (k : IntKind) | bool | sl (t : TypeId)
 deriving DecidableEq
def kindsOf (P : Program) : Nat → TypeId → Option (List Kd)
 | 0, _ => none
 | n + 1, t => match P.underlying t with
  | some (.int k) => some [.int k]
  | some .bool => some [.bool]
  | some (.slice _) => some [.sl t]
  | some (.struct fs) => fs.toList.foldl (fun acc f => match acc, kindsOf P n f.type with
    | some l, some m => if l.length = f.offset ∧ m.length = P.cellsOf f.type then some (l ++ m) else none
    | _, _ => none) (some [])
  | some (.array len e) => match kindsOf P n e with
   | some m => if m.length = P.cellsOf e ∧ len * P.cellsOf e = P.cellsOf t then some (List.replicate len m).flatten else none
   | none => none
  | _ => none
def OfKd (Q : TypeId → Value → Prop) : Kd → Value → Prop
 | .int k, v => ∃ x, v = .int k x ∧ (Lit.int k x).wf = true
 | .bool, v => ∃ b, v = .bool b
 | .sl t, v => Q t v
def Kinded (Q : TypeId → Value → Prop) : List Kd → List Value → Prop
 | [], [] => True
 | k :: ks, v :: vs => OfKd Q k v ∧ Kinded Q ks vs
 | _, _ => False
theorem Kinded.nil {Q : TypeId → Value → Prop} {vs : List Value} (h : Kinded Q [] vs) : vs = [] := by cases vs; rfl; cases h
theorem Kinded.int {Q : TypeId → Value → Prop} {k : IntKind} {ks : List Kd} {vs : List Value} (h : Kinded Q (.int k :: ks) vs) : ∃ x vs', vs = .int k x :: vs' ∧ (Lit.int k x).wf = true ∧ Kinded Q ks vs' := by
 cases vs with
 | nil => cases h
 | cons v vs => obtain ⟨⟨x, rfl, hw⟩, h2⟩ := h; exact ⟨x, vs, rfl, hw, h2⟩
theorem Kinded.append {Q : TypeId → Value → Prop} : ∀ {ks ls : List Kd} {vs us : List Value}, Kinded Q ks vs → Kinded Q ls us → Kinded Q (ks ++ ls) (vs ++ us)
 | [], ls, vs, us, h, k => by rw [h.nil]; exact k
 | x :: ks, ls, v :: vs, us, h, k => ⟨h.1, Kinded.append h.2 k⟩
 | _ :: _, _, [], _, h, _ => by cases h
section
variable {Q : TypeId → Value → Prop} {H : Type} {enc : TypeId × Value → H} {P : Program} {w : World} {base : Nat} {spare : Nat → Bool} {held : Bool}
theorem fold_none {f : Field → Option (List Kd)} : ∀ (l : List Field), l.foldl (fun acc (g : Field) => match acc, f g with
  | some l, some m => if l.length = g.offset ∧ m.length = P.cellsOf g.type then some (l ++ m) else none
  | _, _ => none) none = none
 | [] => rfl
 | g :: l => by simp only [List.foldl_cons]; exact fold_none l
theorem fields_kinded {f : Field → Option (List Kd)} (cs : List Value) : ∀ (l : List Field) (acc ks : List Kd),
  (∀ g ∈ l, ∀ m, f g = some m → m.length = P.cellsOf g.type → Kinded Q m ((cs.drop g.offset).take (P.cellsOf g.type))) → Kinded Q acc (cs.take acc.length) →
  l.foldl (fun acc (g : Field) => match acc, f g with
   | some l, some m => if l.length = g.offset ∧ m.length = P.cellsOf g.type then some (l ++ m) else none
   | _, _ => none) (some acc) = some ks → Kinded Q ks (cs.take ks.length)
 | [], acc, ks, _, ha, h => by simp at h; subst h; exact ha
 | g :: l, acc, ks, hg, ha, h => by
  simp only [List.foldl_cons] at h
  cases hf : f g with
  | none => rw [hf] at h; dsimp only at h; rw [fold_none] at h; cases h
  | some m =>
   rw [hf] at h
   dsimp only at h
   by_cases hc : acc.length = g.offset ∧ m.length = P.cellsOf g.type
   ·rw [if_pos hc] at h
    refine fields_kinded cs l (acc ++ m) ks (fun g' hg' => hg g' (List.mem_cons_of_mem _ hg')) ?_ h
    have k2 := hg g List.mem_cons_self m hf hc.2
    have e : cs.take (acc ++ m).length = cs.take acc.length ++ (cs.drop g.offset).take (P.cellsOf g.type) := by
     rw [List.length_append, List.take_add, hc.1, hc.2]
    rw [e]
    exact ha.append k2
   ·rw [if_neg hc, fold_none] at h; cases h
theorem kinds_of (hQ : ∀ (t e : TypeId) (fuel : Nat) (a : Option Addr) (n c : Nat) (x : DataW H × List MemPlace), P.underlying t = some (.slice e) → DataW.trod enc P w base spare held fuel t [.slice a n c] = some x → Q t (.slice a n c)) : ∀ (n : Nat) {t : TypeId} {ks : List Kd} {fuel : Nat} {cs : List Value} {x : DataW H × List MemPlace}, kindsOf P n t = some ks → DataW.trod enc P w base spare held fuel t cs = some x →
  ks.length = P.cellsOf t ∨ (∃ k, ks = [k]) → ks.length = P.cellsOf t → Kinded Q ks cs
 | 0, _, _, _, _, _, h, _, _, _ => by cases h
 | n + 1, t, ks, fuel, cs, x, h, ht, _, hlen => by
  simp only [kindsOf] at h
  split at h
  ·rename_i k hu
   cases h
   obtain ⟨v, rfl, _, hw⟩ := DataW.trod_int hu ht
   exact ⟨⟨v, rfl, hw⟩, trivial⟩
  ·rename_i hu
   cases h
   obtain ⟨v, rfl, _⟩ := DataW.trod_bool hu ht
   exact ⟨⟨v, rfl⟩, trivial⟩
  ·rename_i e hu
   cases h
   cases fuel with
   | zero => simp [DataW.trod] at ht
   | succ fuel =>
    have ht0 := ht
    unfold DataW.trod at ht
    rw [hu] at ht
    split at ht <;> first | (rename_i h9; cases h9; done) | skip
    all_goals first
     | exact ⟨hQ _ _ _ _ _ _ _ hu ht0, trivial⟩
     | (simp_all; done)
     | cases ht
  ·rename_i fs hu
   obtain ⟨xs, m, _, rfl, hl, hx, hf⟩ := DataW.trod_struct hu ht
   have := fields_kinded (P := P) (f := fun g => kindsOf P n g.type) cs fs.toList [] ks (fun g hg m' hm' hm2 => by
    obtain ⟨i, hi, rfl⟩ := List.getElem_of_mem hg
    have hi' : fs[i]? = some fs.toList[i] := by simp at hi ⊢
    have h1 := hf i _ hi'
    have hi2 : i < xs.length := by simp at hi; omega
    rw [List.getElem?_eq_getElem hi2] at h1
    exact kinds_of hQ n hm' h1 (.inl hm2) hm2) trivial h
   rw [hlen, ← hl, List.take_length] at this
   exact this
  ·rename_i len e hu
   split at h
   ·rename_i m hm
    split at h
    ·rename_i hc
     cases h
     obtain ⟨xs, m2, _, rfl, hl, hx, hf⟩ := DataW.trod_array hu ht
     have key : ∀ j, j ≤ len → Kinded Q (List.replicate j m).flatten (cs.take (j * P.cellsOf e)) := by
      intro j
      induction j with
      | zero => intro _; simp [Kinded]
      | succ j ih =>
       intro hj
       have h1 := hf j (by omega)
       rw [List.getElem?_eq_getElem (by omega)] at h1
       have k2 := kinds_of hQ n hm h1 (.inl hc.1) hc.1
       rw [List.replicate_succ', List.flatten_append, Nat.succ_mul, List.take_add]
       simpa using (ih (by omega)).append k2
     have := key len (Nat.le_refl _)
     rw [hc.2, ← hl, List.take_length] at this
     exact this
    ·cases h
   ·cases h
  ·cases h
theorem open_plain (hQ : ∀ (t e : TypeId) (fuel : Nat) (a : Option Addr) (n c : Nat) (x : DataW H × List MemPlace), P.underlying t = some (.slice e) → DataW.trod enc P w base spare held fuel t [.slice a n c] = some x → Q t (.slice a n c)) {r : Reach} {b0 n : Nat} {t : TypeId} {ks : List Kd} {v : Value} {d : DataW H} {p : List MemPlace} (hk : kindsOf P n t = some ks) (hlen : ks.length = P.cellsOf t) (hagg : (match P.underlying t with | some (.struct _) | some (.array _ _) => true | _ => false) = true)
  (hv : Value.okWide P w r b0 t v) (h : DataW.Trod enc P w base spare held t v d p) : ∃ cs : List Value, v = .agg cs.toArray ∧ Kinded Q ks cs := by
 obtain ⟨fuel, hf⟩ := h
 have hcs : ∃ c, v = .agg c := by
  unfold Value.okWide at hv
  split at hv
  ·obtain ⟨c, h1, _⟩ := hv; exact ⟨c, h1⟩
  ·obtain ⟨c, h1, _⟩ := hv; exact ⟨c, h1⟩
  ·rename_i n1 n2
   exfalso
   split at hagg
   ·rename_i f hu; exact n1 f hu
   ·rename_i a b hu; exact n2 a b hu
   ·cases hagg
 obtain ⟨c, rfl⟩ := hcs
 exact ⟨c.toList, rfl, kinds_of hQ n hk hf (.inl hlen) hlen⟩
end
end
end Go.Proofs.Ytacpahebbnnckaa
