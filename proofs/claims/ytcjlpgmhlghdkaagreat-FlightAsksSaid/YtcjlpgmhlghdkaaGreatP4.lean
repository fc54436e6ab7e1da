/- Packed: SxT SxU SxV SxW SxX. -/
import Derived.Test.YtcjlpgmhlghdkaaGreatP3
set_option linter.unusedVariables false
set_option linter.unusedSimpArgs false
namespace Go.Proofs.YtcjlpgmhlghdkaaGreat
section
namespace SX
open Go.RowKit
variable {P : Program} {ε : Env}
theorem at_ids {st : St} {b : Nat} {cs : Cells} (h : st.at b = some cs) : b ∈ stIds st ∧ ∀ k ∈ Cells.ids cs, k ∈ stIds st := by
 have := lookup_mem h
 exact ⟨List.mem_append_right _ (List.mem_flatMap.2 ⟨_, this, List.mem_cons_self⟩), fun k hk => List.mem_append_right _ (List.mem_flatMap.2 ⟨_, this, List.mem_cons_of_mem _ hk⟩)⟩
theorem look_ids {st : St} {t k : Nat} (h : k ∈ (st.look t).ids) : k ∈ stIds st := by
 unfold St.look at h
 by_cases ht : t < st.tmps.length
 ·rw [List.getD_eq_getElem?_getD, List.getElem?_eq_getElem ht] at h
  exact List.mem_append_left _ (List.mem_flatMap.2 ⟨_, List.getElem_mem ht, h⟩)
 ·rw [List.getD_eq_getElem?_getD, List.getElem?_eq_none (by omega)] at h
  cases h
theorem NW_inj {base sp i j b : Nat} (h : NW (base + i * sp) sp b) (k : NW (base + j * sp) sp b) : i = j := by
 obtain ⟨h1, h2⟩ := h
 obtain ⟨k1, k2⟩ := k
 rcases Nat.lt_trichotomy i j with hlt | he | hlt
 ·have := Nat.mul_le_mul_right sp (show i + 1 ≤ j from hlt)
  rw [Nat.succ_mul] at this; omega
 ·exact he
 ·have := Nat.mul_le_mul_right sp (show j + 1 ≤ i from hlt)
  rw [Nat.succ_mul] at this; omega
theorem NW_ge {base sp i b : Nat} (h : NW (base + i * sp) sp b) : base ≤ b := by
 obtain ⟨h1, _⟩ := h; omega
section
variable {ops : Array Oper} {recs : List Rec} {bs : List Nat} {st : St} {nid sp : Nat} {w0 w1 w w' : World} {d : List Deferred} {ρ0 ρ ρ' : Nat → Nat} {D : Nat → Prop} [DecidablePred D] {a : Act} {i : Nat} {o : Oper} {r : Rec} {v : Value}
theorem inv_put (hR : ∀ i o r, ops[i]? = some o → recs[i]? = some r → RegOk ops recs bs nid sp i o r) (hlen : recs.length = ops.size)
  (hids : ∀ b ∈ stIds st, b < nid) (hI : Inv ε w0 d recs bs st nid ρ0 w1 D ρ a w) (ho : ops[i]? = some o) (hr : recs[i]? = some r) (hdst : r.dst = o.dst) (hD : ¬ D i)
  (hpre : ∀ k, bef bs i k → D k)
  (h1 : ∀ b, ¬ NW (nid + i * sp) sp b → ρ' b = ρ b) (h2 : v = r.val.den ε ρ') (h3 : ∀ u ∈ r.upd, Blk ε ρ' w0.heap.size w' u.1 u.2)
  (h5 : ∀ u ∈ r.upd, NW (nid + i * sp) sp u.1 → w.heap.size ≤ ρ' u.1)
  (h5' : ∀ u ∈ r.upd, ∀ u' ∈ r.upd, NW (nid + i * sp) sp u.1 → NW (nid + i * sp) sp u'.1 → ρ' u.1 = ρ' u'.1 → u.1 = u'.1)
  (h6 : Ext w w' (fun x => ∃ u ∈ r.upd, ¬ NW (nid + i * sp) sp u.1 ∧ ρ u.1 = x))
  (h7 : ∀ u ∈ r.upd, NW (nid + i * sp) sp u.1 ∨ (atD recs st D u.1).isSome = true) :
  Inv ε w0 d recs bs st nid ρ0 w1 (fun j => D j ∨ j = i) ρ' (a.put o.dst v) w' := by
 have hok := hR i o r ho hr
 have hi : i < ops.size := by
  rcases Nat.lt_or_ge i ops.size with h | h
  ·exact h
  ·rw [Array.getElem?_eq_none h] at ho; cases ho
 have rok : ∀ j q, recs[j]? = some q → ∃ oj, ops[j]? = some oj ∧ RegOk ops recs bs nid sp j oj q := fun j q hq => by
  have hj : j < ops.size := by
   rcases Nat.lt_or_ge j recs.length with h | h
   ·omega
   ·rw [List.getElem?_eq_none h] at hq; cases hq
  exact ⟨ops[j], Array.getElem?_eq_getElem hj, hR _ _ _ (Array.getElem?_eq_getElem hj) hq⟩
 have later : ∀ k, k ∈ footprint ops o r → ∀ j, i < j → j < recs.length → D j → ∀ q, recs[j]? = some q → k ∉ changes q := fun k hk j hij hj hd q hq hc => by
  rcases hok.apart j (by omega) (by omega) q hq ⟨k, hc, hk⟩ with h | h
  ·exact absurd (hok.lt j h) (by omega)
  ·exact hD (hI.closed j hd i h)
 have names : ∀ j q, D j → recs[j]? = some q → ∀ b ∈ mentions q, ¬ NW (nid + i * sp) sp b := fun j q hd hq b hb e => by
  obtain ⟨oj, _, hq2⟩ := rok j q hq
  rcases hq2.names b hb with h | h | ⟨j', h, h'⟩
  ·have := NW_ge e; omega
  ·have : j = i := NW_inj h e
   subst this; exact hD hd
  ·have : j' = i := NW_inj h' e
   subst this; exact hD (hI.closed j hd j' h)
 have new : ∀ b, NW (nid + i * sp) sp b → atD recs st D b = none := fun b e => by
  cases h : atD recs st D b with
  | none => rfl
  | some cs =>
   exfalso
   rcases atD_cases h with h | ⟨j, q, hd, hq, h⟩
   ·have := hids _ (at_ids h).1; have := NW_ge e; omega
   ·obtain ⟨oj, _, hq2⟩ := rok j q hq
    have hk := hq2.keys _ (lookup_mem h)
    dsimp only at hk
    rcases hk with g | g | ⟨j', g, g'⟩
    ·have := NW_ge e; omega
    ·have : j = i := NW_inj g e
     subst this; exact hD hd
    ·have : j' = i := NW_inj g' e
     subst this; exact hD (hI.closed j hd j' g)
 have wTi : ∀ t, wT recs t i = if r.dst = some t then some r.val else none := fun t => by simp [wT, hr]
 have wMi : ∀ b, wM recs b i = r.upd.lookup b := fun b => by simp [wM, hr]
 have slotW : ∀ t, t < st.tmps.length → lookD recs st (fun j => D j ∨ j = i) t = if r.dst = some t then r.val else lookD recs st D t := fun t ht => by
  unfold lookD
  rw [if_pos ht, if_pos ht, on_with (by omega) hD, wTi]
  ·by_cases hdt : r.dst = some t <;> simp [hdt]
  ·intro hne j h1 h2 hd
   cases hq : recs[j]? with
   | none => simp [wT, hq]
   | some q =>
    unfold wT
    rw [hq]
    dsimp only
    rw [if_neg]
    intro hqd
    have hdt : r.dst = some t := by rw [wTi] at hne; by_cases h : r.dst = some t; exact h; simp [h] at hne
    exact later (2 * t) (by unfold footprint; simp [hdt]) j h1 h2 hd q hq (changes_dst hqd)
 have blkW : ∀ b, atD recs st (fun j => D j ∨ j = i) b = match r.upd.lookup b with | some c => some c | none => atD recs st D b := fun b => by
  unfold atD
  rw [on_with (by omega) hD, wMi]
  ·cases r.upd.lookup b <;> rfl
  ·intro hne j h1 h2 hd
   cases hq : recs[j]? with
   | none => simp [wM, hq]
   | some q =>
    unfold wM
    rw [hq]
    dsimp only
    cases hl : q.upd.lookup b with
    | none => rfl
    | some c =>
     exfalso
     rw [wMi] at hne
     obtain ⟨c', hc'⟩ := Option.ne_none_iff_exists'.1 hne
     refine later (2 * b + 1) ?_ j h1 h2 hd q hq (changes_upd hl)
     unfold footprint
     refine List.mem_append_right _ (List.mem_map.2 ⟨_, lookup_mem hc', rfl⟩)
 have domW : ∀ b, (atD recs st (fun j => D j ∨ j = i) b).isSome = true → (NW (nid + i * sp) sp b ∧ ∃ u ∈ r.upd, u.1 = b) ∨ (¬ NW (nid + i * sp) sp b ∧ (atD recs st D b).isSome = true) := fun b hb => by
  rw [blkW] at hb
  cases hl : r.upd.lookup b with
  | some c =>
   rcases h7 _ (lookup_mem hl) with h | h
   ·exact .inl ⟨h, _, lookup_mem hl, rfl⟩
   ·exact .inr ⟨fun e => (by rw [new b e] at h; cases h), h⟩
  | none =>
   rw [hl] at hb
   exact .inr ⟨fun e => (by rw [new b e] at hb; cases hb), hb⟩
 refine ⟨?_, ?_, ?_, ?_, ?_, ?_, ?_, ?_, ?_, ?_⟩
 ·rw [← hI.size]; unfold Act.put; cases o.dst <;> simp
 ·rw [← hI.defers]; unfold Act.put; cases o.dst <;> rfl
 ·intro t
  by_cases ht : t < st.tmps.length
  ·rw [slotW t ht]
   by_cases hdt : r.dst = some t
   ·rw [if_pos hdt]
    refine .inr ?_
    rw [← h2, ← hdst, hdt]
    have : t < a.tmps.size := by rw [hI.size]; exact ht
    simp [Act.put, Array.getD_eq_getD_getElem?, this]
   ·rw [if_neg hdt]
    have e1 : (a.put o.dst v).tmps.getD t undef = a.tmps.getD t undef := by
     rw [← hdst]
     unfold Act.put
     cases hd : r.dst with
     | none => rfl
     | some d0 =>
      have : d0 ≠ t := fun e => hdt (by rw [hd, e])
      simp [Array.getD_eq_getD_getElem?, Array.getElem?_setIfInBounds_ne this]
    rw [e1]
    refine (hI.slots t).congr fun b hb => (h1 b ?_).symm
    rcases lookD_cases (recs := recs) (st := st) D t with h | h | ⟨j, q, hd, hq, h⟩
    ·rw [h] at hb; cases hb
    ·rw [h] at hb; have := hids _ (look_ids hb); intro e; have := NW_ge e; omega
    ·rw [h] at hb; exact names j q hd hq b (contains_mentions hb)
  ·exact .inl (by unfold lookD; rw [if_neg ht])
 ·intro b cs hb
  rw [blkW] at hb
  cases hl : r.upd.lookup b with
  | some c =>
   rw [hl] at hb
   cases hb
   exact h3 _ (lookup_mem hl)
  | none =>
   rw [hl] at hb
   dsimp only at hb
   have hbk := hI.blocks b cs hb
   have hne : ¬ NW (nid + i * sp) sp b := fun e => by rw [new b e] at hb; cases hb
   refine (hbk.ext h6 ?_).congr (h1 b hne).symm fun k hk => (h1 k ?_).symm
   ·rintro ⟨u, hu, hun, hue⟩
    have hs := (h7 u hu).resolve_left hun
    have := hI.inj _ _ hs (by rw [hb]; rfl) hue
    subst this
    have := lookup_isSome ⟨u, hu, rfl⟩
    rw [hl] at this
    cases this
   ·rcases atD_cases hb with h | ⟨j, q, hd, hq, h⟩
    ·have := hids _ ((at_ids h).2 k hk); intro e; have := NW_ge e; omega
    ·exact names j q hd hq k (upd_mentions h hk)
 ·intro b b' hb hb' he
  rcases domW b hb with ⟨e1, u, hu, rfl⟩ | ⟨e1, f1⟩ <;> rcases domW b' hb' with ⟨e2, u', hu', rfl⟩ | ⟨e2, f2⟩
  ·exact h5' u hu u' hu' e1 e2 he
  ·exfalso
   have := h5 u hu e1
   rw [h1 b' e2] at he
   obtain ⟨cs, hcs⟩ := Option.isSome_iff_exists.1 f2
   have := (hI.blocks b' cs hcs).2.1
   omega
  ·exfalso
   have := h5 u' hu' e2
   rw [h1 b e1] at he
   obtain ⟨cs, hcs⟩ := Option.isSome_iff_exists.1 f1
   have := (hI.blocks b cs hcs).2.1
   omega
  ·rw [h1 b e1, h1 b' e2] at he
   exact hI.inj b b' f1 f2 he
 ·refine h6.below ?_ hI.world.size hI.world
  rintro x ⟨u, hu, hun, rfl⟩
  have hs := (h7 u hu).resolve_left hun
  obtain ⟨cs, hcs⟩ := Option.isSome_iff_exists.1 hs
  exact (hI.blocks _ cs hcs).1
 ·intro b hb
  rw [h1 b (fun e => by have := NW_ge e; omega)]; exact hI.agree b hb
 ·refine (hI.ext.trans h6).mono ?_
  rintro x hx (⟨b, ⟨j, q, hd, hq, hb⟩, h, h'⟩ | ⟨u, hu, hun, rfl⟩)
  ·exact ⟨b, ⟨j, q, .inl hd, hq, hb⟩, h, h'⟩
  ·have hs := (h7 u hu).resolve_left hun
   rcases hI.fresh _ hs with h | h
   ·obtain ⟨cs, hcs⟩ := Option.isSome_iff_exists.1 h
    exact ⟨u.1, ⟨i, r, .inr rfl, hr, List.mem_map.2 ⟨u, hu, rfl⟩⟩, h, (hI.agree _ (hids _ (at_ids hcs).1)).symm⟩
   ·omega
 ·intro b hb
  rcases domW b hb with ⟨e1, u, hu, rfl⟩ | ⟨e1, f1⟩
  ·exact .inr (Nat.le_trans hI.ext.size (h5 u hu e1))
  ·rw [h1 b e1]; exact hI.fresh b f1
 ·intro j hj k hk
  rcases hj with hj | rfl
  ·exact .inl (hI.closed j hj k hk)
  ·exact .inl (hpre k hk)
end
end SX
end
section
namespace SX
open Go.RowKit
variable {P : Program} {ε : Env}
section
variable {sub : Sub} {ops : Array Oper} {pc : E} {dec : List (E × Bool)} {recs : List Rec} {bs : List Nat} {obs : List Ob} {st : St} {nid sp : Nat} {w0 w1 : World} {d : List Deferred} {ρ0 : Nat → Nat}
theorem Inv.congr {D D' : Nat → Prop} [DecidablePred D] [DecidablePred D'] {ρ : Nat → Nat} {a : Act} {w : World} (hD : ∀ j, D j ↔ D' j) (h : Inv ε w0 d recs bs st nid ρ0 w1 D ρ a w) : Inv ε w0 d recs bs st nid ρ0 w1 D' ρ a w := by
 have e : ∀ {α : Type} (f : Nat → Option α), on D f = on D' f := fun f => funext fun j => by
  unfold on; by_cases hj : D j
  ·rw [if_pos hj, if_pos ((hD j).1 hj)]
  ·rw [if_neg hj, if_neg fun h => hj ((hD j).2 h)]
 have eL : ∀ t, lookD recs st D t = lookD recs st D' t := fun t => by unfold lookD; rw [e]
 have eA : ∀ b, atD recs st D b = atD recs st D' b := fun b => by unfold atD; rw [e]
 exact ⟨h.size, h.defers, fun t => eL t ▸ h.slots t, fun b cs hb => h.blocks b cs (eA b ▸ hb), fun b b' hb hb' => h.inj b b' (eA b ▸ hb) (eA b' ▸ hb'), h.world, h.agree, h.ext.mono fun x _ ⟨b, ⟨j, q, hj, hq, hb⟩, h'⟩ => ⟨b, ⟨j, q, (hD j).1 hj, hq, hb⟩, h'⟩, fun b hb => h.fresh b (eA b ▸ hb),
  fun j hj k hk => (hD k).1 (h.closed j ((hD j).2 hj) k hk)⟩
structure RegD (P : Program) (ε : Env) (w0 : World) (sub : Sub) (sp : Nat) (ops : Array Oper) (recs : List Rec) (bs : List Nat) (st : St) (nid : Nat) : Prop where
 pos : 0 < sp
 reg : ∀ i o r, ops[i]? = some o → recs[i]? = some r → RegOk ops recs bs nid sp i o r
 len : recs.length = ops.size
 lt : ∀ j k, bef bs j k → k < j
 ids : ∀ b ∈ stIds st, b < nid
 subok : SubOk P ε w0 sub
 did : ∀ i o, ops[i]? = some o → ∃ rc, recs[i]? = some rc ∧ DidAt P ε w0 sub sp ops nid recs st i o rc
theorem step_inv (hd : RegD P ε w0 sub sp ops recs bs st nid) {D : Nat → Prop} [DecidablePred D] {ρ : Nat → Nat} {a : Act} {w : World} (hI : Inv ε w0 d recs bs st nid ρ0 w1 D ρ a w) {i : Nat} {o : Oper}
  (ho : ops[i]? = some o) (hD : ¬ D i) (hpre : ∀ e ∈ o.after, Region.binds .any e = true → D e.on) {K : Act → World → Prop} {Q : Exit → Act → World → Prop}
  (hK : ∀ ρ' a' w', Inv ε w0 d recs bs st nid ρ0 w1 (fun j => D j ∨ j = i) ρ' a' w' → K a' w') : wpOp P ops Q i K a w := by
 obtain ⟨r, hr, hdid⟩ := hd.did i o ho
 have hok := hd.reg i o r ho hr
 have hi : i < ops.size := by
  rcases Nat.lt_or_ge i ops.size with h | h
  ·exact h
  ·rw [Array.getElem?_eq_none h] at ho; cases ho
 have hpre2 : ∀ k, bef bs i k → D k := fun k hk => by
  obtain ⟨e, he, hb, h⟩ := hok.back k hk
  rcases h with rfl | h
  ·exact hpre e he hb
  ·exact hI.closed _ (hpre e he hb) _ h
 have agT : ∀ t : Nat, t ∈ Go.Oper.looksAt ops o → RV ε ρ ((lexSt recs st i).look t) (a.tmps.getD t undef) := fun t ht => by
  by_cases hl : t < st.tmps.length
  ·have := hI.slots t
   unfold lookD at this
   rw [if_pos hl, agree_at hok hd.len hi hd.lt hD hI.closed hpre (f := wT recs t) (fun j q hne hq => by
    unfold wT at hne; rw [hq] at hne; dsimp only at hne
    by_cases hqd : q.dst = some t
    ·exact ⟨2 * t, changes_dst hqd, by unfold footprint Oper.looks; exact List.mem_append_left _ (List.mem_append_left _ (List.mem_append_left _ (List.mem_map.2 ⟨t, ht, rfl⟩)))⟩
    ·rw [if_neg hqd] at hne; exact absurd rfl hne) (fun j hq => by simp [wT, hq])] at this
   rw [lexSt_look recs st t hl i (by have := hd.len; omega)]
   exact this
  ·refine .inl ?_
   unfold St.look
   rw [List.getD_eq_getElem?_getD, List.getElem?_eq_none (by rw [lexSt_len]; omega)]; rfl
 have agM : ∀ b, b ∈ r.fp → (lexSt recs st i).at b = atD recs st D b := fun b hb => by
  rw [lexSt_at recs st b i (by have := hd.len; omega)]
  unfold atD
  rw [agree_at hok hd.len hi hd.lt hD hI.closed hpre (f := wM recs b) (fun j q hne hq => by
   unfold wM at hne; rw [hq] at hne; dsimp only at hne
   obtain ⟨c, hc⟩ := Option.ne_none_iff_exists'.1 hne
   exact ⟨2 * b + 1, changes_upd hc, by unfold footprint; exact List.mem_append_left _ (List.mem_append_right _ (List.mem_map.2 ⟨b, hb, rfl⟩))⟩) (fun j hq => by simp [wM, hq])]
 obtain ⟨hdst, hcase⟩ := hdid
 unfold wpOp
 simp only [ho]
 have yields : ∀ j t e, (ops[j]?).bind (·.dst) = some t → (lexSt recs st i).look t = .v (.s (.a (.bool e))) → t ∈ Go.Oper.looksAt ops o → yielded ops a.tmps j = some (e.den ε).2 := fun j t e hj hl ht => by
  have h1 := agT t ht
  rw [hl] at h1
  have h2 : a.tmps.getD t undef = .bool (e.den ε).2 := h1.get (by simp)
  have h3 : a.tmps[t]? = some (.bool (e.den ε).2) := by
   rw [Array.getD_eq_getD_getElem?] at h2
   cases h4 : a.tmps[t]? with
   | none => rw [h4] at h2; simp [undef] at h2
   | some x => rw [h4] at h2; simp at h2; rw [h2]
  unfold yielded
  rw [hj]
  simp [h3]
 have guardT : ∀ j want t, o.guard = some (j, want) → (ops[j]?).bind (·.dst) = some t → t ∈ Go.Oper.looksAt ops o := fun j want t hg ht => by
  unfold Go.Oper.looksAt
  refine List.mem_append_right _ ?_
  rw [hg]; simp [ht]
 rcases hcase with ⟨hg, pc, dec, nv, r1, hpc, hdec, hev, hrc, hobs⟩ | ⟨hg, hrc⟩
 ·have hwant : Region.wanted o (yielded ops a.tmps) = true := by
   unfold Region.wanted
   rcases hg with hg | ⟨j, want, t, e, hg, ht, hl, hb⟩
   ·rw [hg]
   ·rw [hg]
    dsimp only
    rw [yields j t e ht hl (guardT j want t hg ht), hb]
    simp
  rw [if_pos hwant]
  refine .inl ?_
  have efp : r.fp = r1.fp := by rw [hrc]
  have eup : r.upd = r1.upd := by rw [hrc]
  have evl : r.val = r1.val := by rw [hrc]
  have hid : ∀ b, NW (nid + i * sp) sp b → (lexSt recs st i).at b = none := fun b hn => by
   cases h : (lexSt recs st i).at b with
   | none => rfl
   | some cs =>
    exfalso
    rw [lexSt_at recs st _ i (by have := hd.len; omega)] at h
    split at h
    ·rename_i c hl
     obtain ⟨j, hj, h2⟩ := latest_some _ hl
     unfold wM at h2
     split at h2
     ·rename_i q hq
      have hjn : j < ops.size := by omega
      have hk := (hd.reg j _ q (Array.getElem?_eq_getElem hjn) hq).keys _ (lookup_mem h2)
      dsimp only at hk
      rcases hk with g | g | ⟨j', g, g'⟩
      ·have := NW_ge hn; omega
      ·have := NW_inj g hn; omega
      ·have := hd.lt j j' g; have := NW_inj g' hn; omega
     ·cases h2
    ·have := hd.ids _ (at_ids h).1; have := NW_ge hn; omega
  obtain ⟨h7, hop⟩ := evOp_sound (ρ := ρ) (a := a) (w := w) hd.pos hd.subok hev hid hobs hpc hdec
   (fun t ht => agT t (by unfold Go.Oper.looksAt; exact List.mem_append_left _ (List.mem_filterMap.2 ⟨.tmp t, by simpa using ht, rfl⟩))) hI.world
   (fun b hb cs hcs => hI.blocks b cs (by rw [← agM b (efp ▸ hb)]; exact hcs))
   (fun b hb b' hb' hs hs' => hI.inj b b' (by rw [← agM b (efp ▸ hb)]; exact hs) (by rw [← agM b' (efp ▸ hb')]; exact hs'))
  refine hop _ _ fun v w' hout => ?_
  obtain ⟨ρ', g1, g2, g3, g4, g5, g6⟩ := hout
  refine hK ρ' _ _ (inv_put hd.reg hd.len hd.ids hI ho hr hdst hD hpre2 g1 (by rw [evl]; exact g2) (by rw [eup]; exact g3) (by rw [eup]; exact g4) (by rw [eup]; exact g5) (by rw [eup]; exact g6) fun u hu => ?_)
  rw [eup] at hu
  rcases h7 u hu with h | ⟨h, h'⟩
  ·exact .inl h
  ·exact .inr (by rw [← agM u.1 (efp ▸ h)]; exact h')
 ·obtain ⟨j, want, t, hg, ht, hc⟩ := hg
  have hwant : Region.wanted o (yielded ops a.tmps) = false := by
   unfold Region.wanted
   rw [hg]
   dsimp only
   rcases hc with ⟨e, hl, hne⟩ | hl
   ·rw [yields j t e ht hl (guardT j want t hg ht)]
    simpa using hne
   ·have h1 := agT t (guardT j want t hg ht)
    rw [hl] at h1
    have h2 : a.tmps.getD t undef = .tuple #[] := h1.get (by simp)
    have : yielded ops a.tmps j = none := by
     unfold yielded
     rw [ht]
     rw [Array.getD_eq_getD_getElem?] at h2
     cases h4 : a.tmps[t]? with
     | none => simp [h4]
     | some x => rw [h4] at h2; simp at h2; simp [h4, h2]
    rw [this]; rfl
  rw [if_neg (by rw [hwant]; simp)]
  refine hK ρ _ _ (inv_put hd.reg hd.len hd.ids hI ho hr hdst hD hpre2 (fun _ _ => rfl) (by rw [hrc]; rfl) (by rw [hrc]; simp) (by rw [hrc]; simp) (by rw [hrc]; simp) (Ext.refl _ _) (by rw [hrc]; simp))
theorem inv_all (hd : RegD P ε w0 sub sp ops recs bs st nid) {D : Nat → Prop} [DecidablePred D] {ρ : Nat → Nat} {a : Act} {w : World} (hI : Inv ε w0 d recs bs st nid ρ0 w1 D ρ a w) (hD : ∀ j, j < ops.size → D j) :
  Rep ε w0 d (recs.foldl St.apply st) ρ a w ∧ Aft st ρ0 w1 nid (recs.foldl St.apply st) ρ w := by
 have e0 : recs.foldl St.apply st = lexSt recs st recs.length := by unfold lexSt; rw [List.take_length]
 have eL : ∀ t, t < st.tmps.length → lookD recs st D t = (lexSt recs st recs.length).look t := fun t ht => by
  rw [lexSt_look recs st t ht _ (Nat.le_refl _)]
  unfold lookD
  rw [if_pos ht]
  congr 1
  exact latest_congr _ fun j hj => by unfold on; rw [if_pos (hD j (by have := hd.len; omega))]
 have eA : ∀ b, atD recs st D b = (lexSt recs st recs.length).at b := fun b => by
  rw [lexSt_at recs st b _ (Nat.le_refl _)]
  unfold atD
  rw [latest_congr (f := on D (wM recs b)) (g := wM recs b) _ fun j hj => by unfold on; rw [if_pos (hD j (by have := hd.len; omega))]]
 rw [e0]
 refine ⟨⟨by rw [lexSt_len]; exact hI.size, hI.defers, fun t => ?_, fun b cs hb => hI.blocks b cs (by rw [eA]; exact hb), fun b b' hb hb' => hI.inj b b' (by rw [eA]; exact hb) (by rw [eA]; exact hb'), hI.world⟩,
  ⟨hI.agree, hI.ext.mono fun x _ ⟨b, ⟨j, q, _, hq, hb⟩, h'⟩ => ⟨b, by rw [← e0]; exact (foldl_wr _ _ _).2 (.inl ⟨q, List.mem_of_getElem? hq, hb⟩), h'⟩, fun b hb => by rw [← e0]; exact (foldl_wr _ _ _).2 (.inr hb), fun b hb => hI.fresh b (by rw [eA]; exact hb)⟩⟩
 by_cases ht : t < st.tmps.length
 ·rw [← eL t ht]; exact hI.slots t
 ·refine .inl ?_
  unfold St.look
  rw [List.getD_eq_getElem?_getD, List.getElem?_eq_none (by rw [lexSt_len]; omega)]; rfl
theorem inv_none {ρ : Nat → Nat} {a : Act} {w : World} {D : Nat → Prop} [DecidablePred D] (hD : ∀ j, ¬ D j) (h : Rep ε w0 d st ρ a w) : Inv ε w0 d recs bs st nid ρ w D ρ a w := by
 have e : ∀ {α : Type} (f : Nat → Option α) n, latest (on D f) n = none := fun f n => by
  induction n with
  | zero => rfl
  | succ n ih => rw [latest]; unfold on; rw [if_neg (hD n)]; exact ih
 have eA : ∀ b, atD recs st D b = st.at b := fun b => by unfold atD; rw [e]
 refine ⟨h.size, h.defers, fun t => ?_, fun b cs hb => h.blocks b cs (by rw [← eA]; exact hb), fun b b' hb hb' => h.inj b b' (by rw [← eA]; exact hb) (by rw [← eA]; exact hb'), h.world, fun _ _ => rfl, Ext.refl _ _, fun b hb => .inl (by rw [← eA]; exact hb), fun j hj => absurd hj (hD j)⟩
 unfold lookD
 split
 ·rw [e]; exact h.slots t
 ·exact .inl rfl
theorem Inv.drew {D : Nat → Prop} [DecidablePred D] {ρ : Nat → Nat} {a : Act} {w : World} (h : Inv ε w0 d recs bs st nid ρ0 w1 D ρ a w) : Inv ε w0 d recs bs st nid ρ0 w1 D ρ a w.drew :=
 ⟨h.size, h.defers, h.slots, h.blocks, h.inj, h.world.drew, h.agree, ⟨h.ext.os, h.ext.tape, h.ext.output, h.ext.size, h.ext.block⟩, h.fresh, h.closed⟩
theorem countP_lt {p p' : Nat → Bool} {i : Nat} (h1 : p i = true) (h2 : p' i = false) (h : ∀ j, p' j = true → p j = true) : ∀ l : List Nat, i ∈ l → l.countP p' < l.countP p
 | [], hi => by cases hi
 | x :: l, hi => by
  have hm : l.countP p' ≤ l.countP p := List.countP_mono_left fun j _ => h j
  rcases List.mem_cons.1 hi with rfl | hi
  ·rw [List.countP_cons_of_pos h1, List.countP_cons_of_neg (by simp [h2])]; omega
  ·have := countP_lt h1 h2 h l hi
   rw [List.countP_cons, List.countP_cons]
   cases hx : p' x
   ·simp; omega
   ·simp [h x hx]; omega
theorem wpAny_inv (hd : RegD P ε w0 sub sp ops recs bs st nid) {Q : Exit → Act → World → Prop}
  (hQ : ∀ ρ a w, Rep ε w0 d (recs.foldl St.apply st) ρ a w → Aft st ρ0 w1 nid (recs.foldl St.apply st) ρ w → Q .normal a w) :
  ∀ (fuel : Nat) (listed : Array Bool) (ρ : Nat → Nat) (a : Act) (w : World), listed.size = ops.size → (List.range ops.size).countP (fun j => !listed.getD j false) ≤ fuel →
   Inv ε w0 d recs bs st nid ρ0 w1 (fun j => listed.getD j false = true) ρ a w → wpAny P .any ops Q fuel listed a w := by
 have done : ∀ (listed : Array Bool), listed.size = ops.size → Region.ready .any ops listed = [] → ∀ j, j < ops.size → listed.getD j false = true := by
  intro listed hsz hr j
  induction j using Nat.strongRecOn with
  | _ j ih =>
   intro hj
   cases hc : listed.getD j false with
   | true => rfl
   | false =>
    exfalso
    have : j ∈ Region.ready .any ops listed := by
     have hs : ops[j]? = some ops[j] := Array.getElem?_eq_getElem hj
     refine mem_ready.2 ⟨?_, _, hs, fun e he hb => ?_⟩
     ·rw [Array.getD_eq_getD_getElem?, Array.getElem?_eq_getElem (by omega)] at hc ⊢; simpa using hc
     ·obtain ⟨rc, hrc, _⟩ := hd.did j _ hs
      have hlt := hd.lt j _ ((hd.reg j _ rc hs hrc).edge e he hb)
      exact ih _ hlt (by omega)
    rw [hr] at this
    cases this
 intro fuel
 induction fuel with
 | zero =>
  intro listed ρ a w hsz hc hI
  have hall : ∀ j, j < ops.size → listed.getD j false = true := fun j hj => by
   have := List.countP_eq_zero.1 (Nat.le_zero.1 hc) j (List.mem_range.2 hj)
   simpa using this
  refine ⟨?_, ?_⟩
  ·cases hr : Region.ready .any ops listed with
   | nil => rfl
   | cons x xs =>
    exfalso
    have hx : x ∈ Region.ready .any ops listed := by rw [hr]; exact List.mem_cons_self
    obtain ⟨h1, o, h2, _⟩ := mem_ready.1 hx
    have hlt : x < ops.size := by
     rcases Nat.lt_or_ge x ops.size with h | h
     ·exact h
     ·rw [Array.getElem?_eq_none h] at h2; cases h2
    have := hall x hlt
    rw [Array.getD_eq_getD_getElem?, Array.getElem?_eq_getElem (by omega)] at this h1
    simp at this h1
    rw [this] at h1; cases h1
  ·obtain ⟨h1, h2⟩ := inv_all hd hI hall
   exact hQ _ _ _ h1 h2
 | succ fuel ih =>
  intro listed ρ a w hsz hc hI
  refine ⟨fun hr => ?_, fun i hi => ?_⟩
  ·obtain ⟨h1, h2⟩ := inv_all hd hI (done listed hsz hr)
   exact hQ _ _ _ h1 h2
  ·obtain ⟨h1, o, h2, h3⟩ := mem_ready.1 hi
   have hlt : i < ops.size := by
    rcases Nat.lt_or_ge i ops.size with h | h
    ·exact h
    ·rw [Array.getElem?_eq_none h] at h2; cases h2
   have h1' : listed.getD i false = false := by
    rw [Array.getD_eq_getD_getElem?, Array.getElem?_eq_getElem (by omega)] at h1 ⊢; simpa using h1
   have hset : ∀ j, (listed.setIfInBounds i true).getD j false = true ↔ (listed.getD j false = true ∨ j = i) := fun j => by
    by_cases hji : j = i
    ·subst hji
     simp only [Array.getD_eq_getD_getElem?, or_true, iff_true]
     rw [Array.getElem?_setIfInBounds_self_of_lt (by omega)]; rfl
    ·simp only [Array.getD_eq_getD_getElem?, Array.getElem?_setIfInBounds_ne (Ne.symm hji), hji, or_false]
   refine step_inv hd hI h2 (by rw [h1']; simp) (fun e he hb => h3 e he hb) fun ρ' a' w' hI' => ih _ ρ' a' w' (by simpa using hsz) ?_ (hI'.congr fun j => (hset j).symm)
   have := countP_lt (p := fun j => !listed.getD j false) (p' := fun j => !(listed.setIfInBounds i true).getD j false) (i := i) (by simp [h1']) (by simpa using (hset i).2 (.inr rfl)) (fun j hj => by
    cases hb : listed.getD j false with
    | false => rfl
    | true => have := (hset j).2 (.inl hb); simp only [this] at hj; cases hj) (List.range ops.size) (List.mem_range.2 hlt)
   omega
theorem wpOps_inv (hd : RegD P ε w0 sub sp ops recs bs st nid) {Q : Exit → Act → World → Prop}
  (hQ : ∀ ρ a w, Rep ε w0 d (recs.foldl St.apply st) ρ a w → Aft st ρ0 w1 nid (recs.foldl St.apply st) ρ w → Q .normal a w) :
  ∀ (m i : Nat) (ρ : Nat → Nat) (a : Act) (w : World), i + m = ops.size → Inv ε w0 d recs bs st nid ρ0 w1 (fun j => j < i) ρ a w → wpOps P ops Q (List.range' i m) a w
 | 0, i, ρ, a, w, hm, hI => by
  obtain ⟨h1, h2⟩ := inv_all hd hI (fun j hj => by omega)
  simpa [wpOps] using hQ _ _ _ h1 h2
 | m + 1, i, ρ, a, w, hm, hI => by
  rw [List.range'_succ, wpOps_cons]
  have hs : ops[i]? = some ops[i] := Array.getElem?_eq_getElem (by omega)
  obtain ⟨rc, hrc, _⟩ := hd.did i _ hs
  exact step_inv hd hI hs (by omega) (fun e he hb => hd.lt i _ ((hd.reg i _ rc hs hrc).edge e he hb)) fun ρ' a' w' hI' => wpOps_inv hd hQ m (i + 1) ρ' a' w' (by omega) (hI'.congr fun j => by omega)
theorem region_leaf (hmix : P.follows .mixedOrders = true) (hsp : 0 < sp) (hsub : SubOk P ε w0 sub) {nv : Nat} {st' : St} (h : (evOps P sub sp ops ops.toList nid pc [] st nv).path ε = some (recs, st')) (hok : regionOk ops recs (befores ops.toList) nid sp = true)
  (hids : (stIds st).all (· < nid) = true) (hobs : ∀ ob ∈ (evOps P sub sp ops ops.toList nid pc [] st nv).obs, ob.ok P ε w0) (hpc : (pc.den ε).2 = true) {ρ : Nat → Nat} {a : Act} {w : World} (hrep : Rep ε w0 d st ρ a w)
  {Q : Exit → Act → World → Prop} (hQ : ∀ ρ' a' w', Rep ε w0 d st' ρ' a' w' → Aft st ρ w nid st' ρ' w' → Q .normal a' w') {id : Nat} {draw : Bool} : (Code.region id ops draw).wp P Q a w := by
 obtain ⟨e1, e2, e3⟩ := evOps_spec h hobs hpc (by simp)
 obtain ⟨f1, f2, f3⟩ := regionOk_spec hok
 subst e2
 have hd : RegD P ε w0 sub sp ops recs (befores ops.toList) st nid := by
  refine ⟨hsp, f3, f1, fun j k hk => ?_, fun b hb => by simpa using List.all_eq_true.1 hids b hb, hsub, fun i o ho => e3 i o (by simpa using ho)⟩
  by_cases hj : j < ops.size
  ·have hs : ops[j]? = some ops[j] := Array.getElem?_eq_getElem hj
   have hr : recs[j]? = some recs[j] := List.getElem?_eq_getElem (by omega)
   exact (f3 j _ _ hs hr).lt k hk
  ·unfold bef at hk
   rw [List.getD_eq_getElem?_getD, List.getElem?_eq_none (by omega)] at hk
   simp at hk
 cases draw with
 | false =>
  refine wp_region ?_
  rw [List.range_eq_range']
  exact wpOps_inv hd hQ _ 0 ρ a w (by omega) (inv_none (fun j => by omega) hrep)
 | true =>
  refine wp_region_any hmix ?_
  refine wpAny_inv hd hQ _ _ ρ a w.drew (by simp) ?_ (Inv.drew (inv_none (fun j => ?_) hrep))
  ·exact Nat.le_trans List.countP_le_length (by simp)
  ·rw [Array.getD_eq_getD_getElem?]
   by_cases hj : j < ops.size
   ·rw [Array.getElem?_replicate, if_pos hj]; simp
   ·rw [Array.getElem?_replicate, if_neg hj]; simp
end
end SX
end
section
namespace SX
open Go.RowKit
variable {P : Program} {ε : Env}
structure Weak (ε : Env) (s t : St) : Prop where
 len : t.tmps.length = s.tmps.length
 look : ∀ ρ i v, RV ε ρ (s.look i) v → RV ε ρ (t.look i) v
 at_ : ∀ b cs, t.at b = some cs → ∃ cs', s.at b = some cs' ∧ ∀ ρ base w, Blk ε ρ base w b cs' → Blk ε ρ base w b cs
 wr : ∀ b ∈ s.wr, b ∈ t.wr
theorem Weak.refl (s : St) : Weak ε s s := ⟨rfl, fun _ _ _ h => h, fun b cs h => ⟨cs, h, fun _ _ _ h => h⟩, fun _ h => h⟩
theorem Weak.trans {s t u : St} (h : Weak ε s t) (k : Weak ε t u) : Weak ε s u :=
 ⟨k.len.trans h.len, fun ρ i v hv => k.look ρ i v (h.look ρ i v hv), fun b cs hb => by
  obtain ⟨c1, e1, f1⟩ := k.at_ b cs hb
  obtain ⟨c2, e2, f2⟩ := h.at_ b c1 e1
  exact ⟨c2, e2, fun ρ base w hw => f1 ρ base w (f2 ρ base w hw)⟩, fun b hb => k.wr b (h.wr b hb)⟩
theorem Weak.some {s t : St} (h : Weak ε s t) {b : Nat} (hb : (t.at b).isSome = true) : (s.at b).isSome = true := by
 obtain ⟨cs, hcs⟩ := Option.isSome_iff_exists.1 hb
 obtain ⟨c, hc, _⟩ := h.at_ b cs hcs
 rw [hc]; rfl
theorem Rep.weak {w0 : World} {d : List Deferred} {s t : St} {ρ : Nat → Nat} {a : Act} {w : World} (h : Weak ε s t) (hr : Rep ε w0 d s ρ a w) : Rep ε w0 d t ρ a w :=
 ⟨hr.size.trans h.len.symm, hr.defers, fun i => h.look _ _ _ (hr.slots i), fun b cs hb => by
  obtain ⟨c, hc, hf⟩ := h.at_ b cs hb
  exact hf _ _ _ (hr.blocks b c hc), fun b b' hb hb' => hr.inj b b' (h.some hb) (h.some hb'), hr.world⟩
theorem mergeTmps_len (c : E) : ∀ (l m : List LV), l.length = m.length → (mergeTmps c l m).length = l.length
 | [], [], _ => rfl
 | x :: l, y :: m, h => by simp only [mergeTmps, List.length_cons]; rw [mergeTmps_len c l m (by simpa using h)]
 | [], _ :: _, h => by simp at h
 | _ :: _, [], h => by simp at h
theorem mergeTmps_get (c : E) : ∀ (l m : List LV) (i : Nat), l.length = m.length → i < l.length → (mergeTmps c l m).getD i .bad = LV.merge c (l.getD i .bad) (m.getD i .bad)
 | x :: l, y :: m, i, h, hi => by
  cases i with
  | zero => rfl
  | succ i =>
   simp only [mergeTmps, List.getD_cons_succ]
   exact mergeTmps_get c l m i (by simpa using h) (by simpa using hi)
 | [], _, _, _, hi => by simp at hi
 | _ :: _, [], _, h, _ => by simp at h
theorem mergeC_spec (c : E) : ∀ {x y z : Cells}, mergeC c x y = some z → ∀ (j : Nat) (o : Option SV), z[j]? = some o → ∃ p q, x[j]? = some p ∧ y[j]? = some q ∧ ∀ s, o = some s → ∃ u v, p = some u ∧ q = some v ∧ SV.merge c u v = some s
 | [], [], z, h, j, o, hj => by simp [mergeC] at h; subst h; simp at hj
 | x :: xs, y :: ys, z, h, j, o, hj => by
  simp only [mergeC] at h
  split at h
  ·rename_i zs hz
   cases h
   cases j with
   | zero =>
    refine ⟨x, y, rfl, rfl, fun s hs => ?_⟩
    simp only [List.getElem?_cons_zero, Option.some.injEq] at hj
    subst hj
    split at hs
    ·rename_i u v; exact ⟨u, v, rfl, rfl, hs⟩
    ·cases hs
   | succ j => exact mergeC_spec c hz j o (by simpa using hj)
  ·cases h
 | [], _ :: _, _, h, _, _, _ => by simp [mergeC] at h
 | _ :: _, [], _, h, _, _, _ => by simp [mergeC] at h
theorem mergeMem_spec (c : E) (s m : List (Nat × Cells)) : ∀ {l : List Nat} {b : Nat} {z : Cells}, (mergeMem c s m l).lookup b = some z → ∃ x y, s.lookup b = some x ∧ m.lookup b = some y ∧ mergeC c x y = some z
 | [], b, z, h => by simp [mergeMem] at h
 | k :: l, b, z, h => by
  unfold mergeMem at h
  split at h
  ·rename_i x y hx hy
   split at h
   ·rename_i z' hz
    simp only [List.lookup] at h
    split at h
    ·rename_i hk
     cases h
     obtain rfl := eq_of_beq hk
     exact ⟨x, y, hx, hy, hz⟩
    ·exact mergeMem_spec c s m h
   ·exact mergeMem_spec c s m h
  ·exact mergeMem_spec c s m h
theorem merge_t {c : E} {s t : St} (hc : (c.den ε).2 = true) (hl : s.tmps.length = t.tmps.length) : Weak ε s (St.merge c s t) := by
 refine ⟨mergeTmps_len c _ _ hl, fun ρ i v hv => ?_, fun b cs hb => ?_, fun b hb => mem_addL.2 (.inl hb)⟩
 ·unfold St.look St.merge
  by_cases hi : i < s.tmps.length
  ·rw [mergeTmps_get c _ _ i hl hi]; exact LV.merge_t hc hv
  ·refine .inl ?_
   rw [List.getD_eq_getElem?_getD, List.getElem?_eq_none (by rw [mergeTmps_len c _ _ hl]; omega)]; rfl
 ·obtain ⟨x, y, hx, hy, hz⟩ := mergeMem_spec c s.mem t.mem hb
  refine ⟨x, hx, fun ρ base w ⟨h1, h2, h3⟩ => ⟨h1, h2, fun j o hj => ?_⟩⟩
  obtain ⟨p, q, hp, hq, hs⟩ := mergeC_spec c hz j o hj
  obtain ⟨v, e1, e2, e3⟩ := h3 j p hp
  refine ⟨v, e1, e2, fun s' hs' => ?_⟩
  obtain ⟨u, u', rfl, rfl, hm⟩ := hs s' hs'
  rw [SV.merge_den hm, hc, if_pos rfl]
  exact e3 u rfl
theorem merge_f {c : E} {s t : St} (hc : (c.den ε).2 = false) (hl : s.tmps.length = t.tmps.length) : Weak ε t (St.merge c s t) := by
 refine ⟨(mergeTmps_len c _ _ hl).trans hl, fun ρ i v hv => ?_, fun b cs hb => ?_, fun b hb => mem_addL.2 (.inr hb)⟩
 ·unfold St.look St.merge
  by_cases hi : i < s.tmps.length
  ·rw [mergeTmps_get c _ _ i hl hi]; exact LV.merge_f hc hv
  ·refine .inl ?_
   rw [List.getD_eq_getElem?_getD, List.getElem?_eq_none (by rw [mergeTmps_len c _ _ hl]; omega)]; rfl
 ·obtain ⟨x, y, hx, hy, hz⟩ := mergeMem_spec c s.mem t.mem hb
  refine ⟨y, hy, fun ρ base w ⟨h1, h2, h3⟩ => ⟨h1, h2, fun j o hj => ?_⟩⟩
  obtain ⟨p, q, hp, hq, hs⟩ := mergeC_spec c hz j o hj
  obtain ⟨v, e1, e2, e3⟩ := h3 j q hq
  refine ⟨v, e1, e2, fun s' hs' => ?_⟩
  obtain ⟨u, u', rfl, rfl, hm⟩ := hs s' hs'
  rw [SV.merge_den hm, hc, if_neg (by simp)]
  exact e3 u' rfl
theorem gather_len {k : Ex} {n : Nat} : ∀ {t : Tr} {g : E} {s : St}, allLen k n t = true → gather k t = some (g, s) → s.tmps.length = n
 | .leaf k' s', g, s, h, hg => by
  simp only [gather] at hg
  split at hg
  ·rename_i hk
   cases hg
   simp only [allLen, hk, Bool.not_true, Bool.false_or, beq_iff_eq] at h
   exact h
  ·cases hg
 | .node c x y, g, s, h, hg => by
  simp only [allLen, Bool.and_eq_true] at h
  simp only [gather] at hg
  split at hg
  ·rename_i g1 s1 g2 s2 h1 h2
   cases hg
   have l1 := gather_len h.1 h1
   have l2 := gather_len h.2 h2
   show (mergeTmps c _ _).length = n
   rw [mergeTmps_len c _ _ (l1.trans l2.symm)]; exact l1
  ·rename_i g1 s1 h1 h2
   cases hg; exact gather_len h.1 h1
  ·rename_i g2 s2 h1 h2
   cases hg; exact gather_len h.2 h2
  ·cases hg
theorem gather_none {k : Ex} : ∀ {t : Tr}, gather k t = none → (t.sel ε).1 ≠ k
 | .leaf k' s, h, e => by
  simp only [Tr.sel] at e
  subst e
  simp [gather] at h
 | .node c x y, h, e => by
  simp only [gather] at h
  simp only [Tr.sel] at e
  split at h <;> try cases h
  rename_i h1 h2
  split at e
  ·exact gather_none h1 e
  ·exact gather_none h2 e
theorem gather_spec {k : Ex} {n : Nat} : ∀ {t : Tr} {g : E} {s : St}, allLen k n t = true → gather k t = some (g, s) →
  ((g.den ε).2 = true → (t.sel ε).1 = k ∧ Weak ε (t.sel ε).2 s) ∧ ((g.den ε).2 = false → (t.sel ε).1 ≠ k)
 | .leaf k' s', g, s, h, hg => by
  simp only [gather] at hg
  split at hg
  ·rename_i hk
   cases hg
   exact ⟨fun _ => ⟨(eq_of_beq hk).symm, Weak.refl _⟩, fun h => by simp [E.den] at h⟩
  ·cases hg
 | .node c x y, g, s, h, hg => by
  have h' := h
  simp only [allLen, Bool.and_eq_true] at h
  simp only [gather] at hg
  simp only [Tr.sel]
  split at hg
  ·rename_i g1 s1 g2 s2 h1 h2
   cases hg
   have l1 := gather_len h.1 h1
   have l2 := gather_len h.2 h2
   obtain ⟨a1, b1⟩ := gather_spec h.1 h1
   obtain ⟨a2, b2⟩ := gather_spec h.2 h2
   rw [mkIf_den]
   cases hc : (c.den ε).2
   ·simp only [Bool.false_eq_true, if_false]
    exact ⟨fun hg => ⟨(a2 hg).1, (a2 hg).2.trans (merge_f hc (l1.trans l2.symm))⟩, b2⟩
   ·simp only [if_true]
    exact ⟨fun hg => ⟨(a1 hg).1, (a1 hg).2.trans (merge_t hc (l1.trans l2.symm))⟩, b1⟩
  ·rename_i g1 s1 h1 h2
   cases hg
   obtain ⟨a1, b1⟩ := gather_spec h.1 h1
   rw [mkIf_den]
   cases hc : (c.den ε).2
   ·simp only [Bool.false_eq_true, if_false]
    exact ⟨fun hg => by simp [E.den] at hg, fun _ => gather_none h2⟩
   ·simp only [if_true]; exact ⟨a1, b1⟩
  ·rename_i g2 s2 h1 h2
   cases hg
   obtain ⟨a2, b2⟩ := gather_spec h.2 h2
   rw [mkIf_den]
   cases hc : (c.den ε).2
   ·simp only [Bool.false_eq_true, if_false]; exact ⟨a2, b2⟩
   ·simp only [if_true]
    exact ⟨fun hg => by simp [E.den] at hg, fun _ => gather_none h1⟩
  ·cases hg
theorem prune_none {k : Ex} : ∀ {t : Tr}, prune k t = none → (t.sel ε).1 = k
 | .leaf k' s, h => by
  simp only [prune] at h
  split at h
  ·rename_i hk; exact (eq_of_beq hk).symm
  ·cases h
 | .node c x y, h => by
  simp only [prune] at h
  split at h <;> try cases h
  rename_i h1 h2
  simp only [Tr.sel]
  split
  ·exact prune_none h1
  ·exact prune_none h2
theorem prune_some {k : Ex} : ∀ {t t' : Tr}, prune k t = some t' → (t.sel ε).1 ≠ k → t'.sel ε = t.sel ε
 | .leaf k' s, t', h, hk => by
  simp only [prune] at h
  split at h
  ·cases h
  ·cases h; rfl
 | .node c x y, t', h, hk => by
  simp only [prune] at h
  simp only [Tr.sel] at hk ⊢
  split at h
  ·rename_i x' y' h1 h2
   cases h
   simp only [Tr.sel]
   split
   ·rename_i hc; rw [if_pos hc] at hk; exact prune_some h1 hk
   ·rename_i hc; rw [if_neg hc] at hk; exact prune_some h2 hk
  ·rename_i x' h1 h2
   cases h
   split
   ·rename_i hc; rw [if_pos hc] at hk; exact prune_some h1 hk
   ·rename_i hc; rw [if_neg hc] at hk; exact absurd (prune_none h2) hk
  ·rename_i y' h1 h2
   cases h
   split
   ·rename_i hc; rw [if_pos hc] at hk; exact absurd (prune_none h1) hk
   ·rename_i hc; rw [if_neg hc] at hk; exact prune_some h2 hk
  ·cases h
theorem norm_spec (ε : Env) (k : Ex) (t : Tr) : ((norm k t).sel ε).1 = (t.sel ε).1 ∧ Weak ε (t.sel ε).2 ((norm k t).sel ε).2 := by
 unfold norm
 split
 ·exact ⟨rfl, Weak.refl _⟩
 ·rename_i hn
  simp only [Bool.or_eq_true, not_or, Bool.not_eq_true', Bool.not_eq_false] at hn
  have hl := hn.2
  simp only [fSt_eq, fE_eq]
  split
  ·rename_i g s hg hp
   have hk := prune_none (ε := ε) hp
   obtain ⟨a, b⟩ := gather_spec (ε := ε) hl hg
   cases hgd : (g.den ε).2
   ·exact absurd hk (b hgd)
   ·exact ⟨hk.symm, (a hgd).2⟩
  ·rename_i g s t' hg hp
   obtain ⟨a, b⟩ := gather_spec (ε := ε) hl hg
   simp only [Tr.sel]
   cases hgd : (g.den ε).2
   ·simp only [Bool.false_eq_true, if_false]
    rw [prune_some hp (b hgd)]
    exact ⟨rfl, Weak.refl _⟩
   ·simp only [if_true]
    exact ⟨(a hgd).1.symm, (a hgd).2⟩
  ·exact ⟨rfl, Weak.refl _⟩
theorem Blk.ceq {ρ : Nat → Nat} {base b : Nat} {w : World} {c d : Cells} (h : Blk ε ρ base w b c) (hc : CEq ε c d) : Blk ε ρ base w b d := by
 obtain ⟨h1, h2, h3⟩ := h
 refine ⟨h1, h2, fun j x hj => ?_⟩
 obtain ⟨y, hy, hs⟩ := hc j x hj
 obtain ⟨v, e1, e2, e3⟩ := h3 j y hy
 refine ⟨v, e1, e2, fun s hx => ?_⟩
 obtain ⟨s', hs1, hs2⟩ := hs s hx
 rw [hs2 ρ]
 exact e3 s' hs1
theorem nameLVs_len : ∀ l : List LV, (nameLVs l).1.length = l.length
 | [] => rfl
 | x :: xs => by simp only [nameLVs, List.length_cons, nameLVs_len xs]
theorem nameLVs_get : ∀ {l : List LV} {i : Nat}, (∀ ob ∈ (nameLVs l).2, ob.nm ε) → ∀ ρ v, RV ε ρ (l.getD i .bad) v → RV ε ρ ((nameLVs l).1.getD i .bad) v
 | [], i, _, ρ, v, _ => by simp only [nameLVs, List.getD_nil]; exact .inl rfl
 | x :: xs, 0, h, ρ, v, hv => by
  simp only [nameLVs, List.getD_cons_zero] at hv ⊢
  rcases hv with hv | hv
  ·exact .inl (nameLV_bad.2 hv)
  ·exact .inr (hv.trans (nameLV_den (ρ := ρ) fun ob hb => h ob (List.mem_append_left _ hb)).1.symm)
 | x :: xs, i + 1, h, ρ, v, hv => by
  simp only [nameLVs, List.getD_cons_succ] at hv ⊢
  exact nameLVs_get (fun ob hb => h ob (List.mem_append_right _ hb)) ρ v hv
theorem nameSt_spec {s : St} (h : ∀ ob ∈ (nameSt s).2, ob.nm ε) : Weak ε s (nameSt s).1 := by
 refine ⟨nameLVs_len _, fun ρ i v hv => nameLVs_get (fun ob hb => h ob (List.mem_append_left _ hb)) ρ v hv, fun b cs hb => ?_, fun _ h => h⟩
 obtain ⟨c, h1, h2, h3⟩ := (nameM_den (ε := ε) (fun ob hb => h ob (List.mem_append_right _ hb)) b).2 cs hb
 exact ⟨c, h1, fun ρ base w hw => hw.ceq h2⟩
theorem nameK_spec {k : Ex} : ∀ {t : Tr}, (∀ ob ∈ (nameK k t).2, ob.nm ε) → ((nameK k t).1.sel ε).1 = (t.sel ε).1 ∧ Weak ε (t.sel ε).2 ((nameK k t).1.sel ε).2
 | .leaf k' s, h => by
  unfold nameK at h ⊢
  split
  ·rename_i hk
   simp only [hk, if_true, fSt_eq] at h
   rw [fSt_eq]
   exact ⟨rfl, nameSt_spec h⟩
  ·exact ⟨rfl, Weak.refl _⟩
 | .node c x y, h => by
  simp only [nameK, Tr.sel] at h ⊢
  split
  ·exact nameK_spec fun ob hb => h ob (List.mem_append_left _ hb)
  ·exact nameK_spec fun ob hb => h ob (List.mem_append_right _ hb)
theorem rnorm_spec (ε : Env) (nm : Bool) (k : Ex) (r : Res) : (Res.norm nm k r).nid = r.nid ∧ (∀ ob ∈ r.obs, ob ∈ (Res.norm nm k r).obs) ∧
  ((∀ ob ∈ (Res.norm nm k r).obs, ob.nm ε) → ((Res.norm nm k r).tr.sel ε).1 = (r.tr.sel ε).1 ∧ Weak ε (r.tr.sel ε).2 ((Res.norm nm k r).tr.sel ε).2) := by
 unfold Res.norm
 have n := norm_spec ε k r.tr
 split
 ·refine ⟨rfl, fun ob hb => List.mem_append_left _ hb, fun h => ?_⟩
  obtain ⟨h1, h2⟩ := nameK_spec (ε := ε) (k := k) (t := norm k r.tr) fun ob hb => h ob (List.mem_append_right _ hb)
  exact ⟨h1.trans n.1, n.2.trans h2⟩
 ·exact ⟨rfl, fun ob hb => hb, fun _ => n⟩
end SX
end
section
namespace SX
open Go.RowKit
variable {P : Program} {ε : Env}
theorem Dom.mono {st : St} {n m : Nat} (h : Dom st n) (hm : n ≤ m) : Dom st m := fun b hb => Nat.lt_of_lt_of_le (h b hb) hm
theorem Dom.weak {s t : St} {n : Nat} (h : Weak ε s t) (hd : Dom s n) : Dom t n := fun b hb => hd b (h.some hb)
theorem Aft.refl (st : St) (ρ : Nat → Nat) (w : World) (nid : Nat) : Aft st ρ w nid st ρ w := ⟨fun _ _ => rfl, Ext.refl _ _, fun _ h => h, fun b hb => .inl hb⟩
theorem Aft.weak {st s t : St} {ρ ρ' : Nat → Nat} {w w' : World} {nid : Nat} (h : Aft st ρ w nid s ρ' w') (hw : Weak ε s t) : Aft st ρ w nid t ρ' w' :=
 ⟨h.agree, h.ext.mono fun x _ ⟨b, hb, h'⟩ => ⟨b, hw.wr b hb, h'⟩, fun b hb => hw.wr b (h.sub b hb), fun b hb => h.fresh b (hw.some hb)⟩
theorem Aft.trans {s0 s1 s2 : St} {ρ0 ρ1 ρ2 : Nat → Nat} {w0 w1 w2 : World} {n0 n1 : Nat} (hd : Dom s0 n0) (hd1 : Dom s1 n1) (hn : n0 ≤ n1) (h : Aft s0 ρ0 w0 n0 s1 ρ1 w1) (k : Aft s1 ρ1 w1 n1 s2 ρ2 w2) : Aft s0 ρ0 w0 n0 s2 ρ2 w2 := by
 refine ⟨fun b hb => (k.agree b (by omega)).trans (h.agree b hb), (h.ext.trans k.ext).mono ?_, fun b hb => k.sub b (h.sub b hb), fun b hb => ?_⟩
 ·rintro x hx (⟨b, hb, h1, h2⟩ | ⟨b, hw, hb, rfl⟩)
  ·exact ⟨b, k.sub b hb, h1, h2⟩
  ·rcases h.fresh b hb with h1 | h1
   ·exact ⟨b, hw, h1, (h.agree b (hd b h1)).symm⟩
   ·omega
 ·rcases k.fresh b hb with h1 | h1
  ·rcases h.fresh b h1 with h2 | h2
   ·exact .inl h2
   ·refine .inr ?_
    rw [k.agree b (hd1 b h1)]; exact h2
  ·exact .inr (Nat.le_trans h.ext.size h1)
def CodeOk (P : Program) (ε : Env) (w0 : World) (c : Code) (pc : E) (st : St) (nid : Nat) (r : Res) : Prop :=
 nid ≤ r.nid ∧ ((∀ ob ∈ r.obs, ob.ok P ε w0) → (Dom st nid → Dom (r.tr.sel ε).2 r.nid) ∧
 ((pc.den ε).2 = true → Dom st nid → ∀ (d : List Deferred) (ρ : Nat → Nat) (a : Act) (w : World), Rep ε w0 d st ρ a w → ∀ Q : Exit → Act → World → Prop,
  (∀ ρ' a' w', Rep ε w0 d (r.tr.sel ε).2 ρ' a' w' → Aft st ρ w nid (r.tr.sel ε).2 ρ' w' → Q (r.tr.sel ε).1.to a' w') → c.wp P Q a w))
theorem wp_loop_of {c : Code} {Q : Exit → Act → World → Prop} {a : Act} {w : World} (h : LoopWp P c Q a w) : (Code.loop c).wp P Q a w := fun b k cs =>
 let ⟨e, a', w', hq, harr⟩ := h b k cs
 ⟨e, a', w', hq, .of_steps (.one step_loop) harr⟩
theorem loop_round {c : Code} {Q : Exit → Act → World → Prop} {a : Act} {w : World} (h : c.wp P (Exit.then (LoopWp P c Q) Q) a w) : LoopWp P c Q a w := by
 intro b k cs
 obtain ⟨e, a₁, w₁, hq, harr⟩ := h b (.inLoop c :: k) cs
 cases e with
 | normal =>
  obtain ⟨e₂, a₂, w₂, hq₂, harr₂⟩ := hq b k cs
  exact ⟨e₂, a₂, w₂, hq₂, .of_steps (Steps.trans harr (.one step_inLoop)) harr₂⟩
 | exit id => exact ⟨_, a₁, w₁, hq, .pass (x := .inLoop c) rfl (fun _ _ => .inl (by simp)) harr⟩
 | goto l => exact ⟨_, a₁, w₁, hq, .pass (x := .inLoop c) rfl (fun _ _ => .inl (by simp)) harr⟩
 | ret => exact ⟨_, a₁, w₁, hq, .pass (x := .inLoop c) rfl (fun _ _ => .inl (by simp)) harr⟩
 | panic ch => exact ⟨_, a₁, w₁, hq, .pass (x := .inLoop c) rfl (fun _ _ => .inl (by simp)) harr⟩
 | outgrown => exact ⟨_, a₁, w₁, hq, .pass (x := .inLoop c) rfl (fun _ _ => .inl (by simp)) harr⟩
def LoopOk (P : Program) (ε : Env) (w0 : World) (c : Code) (pc : E) (st : St) (nid : Nat) (r : Res) : Prop :=
 nid ≤ r.nid ∧ ((∀ ob ∈ r.obs, ob.ok P ε w0) → (Dom st nid → Dom (r.tr.sel ε).2 r.nid) ∧
 ((pc.den ε).2 = true → Dom st nid → ∀ (d : List Deferred) (ρ : Nat → Nat) (a : Act) (w : World), Rep ε w0 d st ρ a w → ∀ Q : Exit → Act → World → Prop,
  (∀ ρ' a' w', Rep ε w0 d (r.tr.sel ε).2 ρ' a' w' → Aft st ρ w nid (r.tr.sel ε).2 ρ' w' → Q (r.tr.sel ε).1.to a' w') → LoopWp P c Q a w))
theorem CodeOk.norm {w0 : World} {c : Code} {pc : E} {st : St} {nid : Nat} {r : Res} (nm : Bool) (k : Ex) (h : CodeOk P ε w0 c pc st nid r) : CodeOk P ε w0 c pc st nid (Res.norm nm k r) := by
 obtain ⟨h1, h2⟩ := h
 obtain ⟨m1, m2, m3⟩ := rnorm_spec ε nm k r
 refine ⟨by rw [m1]; exact h1, fun hobs => ?_⟩
 obtain ⟨n1, n2⟩ := m3 fun ob hb => (hobs ob hb).nm
 obtain ⟨h2, h3⟩ := h2 fun ob hb => hobs ob (m2 ob hb)
 refine ⟨fun hd => by rw [m1]; exact (h2 hd).weak n2, fun hpc hd d ρ a w hr Q hQ => h3 hpc hd d ρ a w hr Q fun ρ' a' w' hr' ha' => ?_⟩
 rw [← n1]
 exact hQ ρ' a' w' (hr'.weak n2) (ha'.weak n2)
theorem pc_t {e pc : E} (h1 : (e.den ε).2 = true) (h2 : (pc.den ε).2 = true) : ((mkIf e pc (.blit false)).den ε).2 = true := by rw [mkIf_den, h1, if_pos rfl]; exact h2
theorem pc_f {e pc : E} (h1 : (e.den ε).2 = false) (h2 : (pc.den ε).2 = true) : ((mkIf e (.blit false) pc).den ε).2 = true := by rw [mkIf_den, h1, if_neg (by simp)]; exact h2
theorem flat_spec {ops : Array Oper} {bs : List Nat} {nid sp : Nat} : ∀ {T : Ops} {acc : List Rec} {tr : Tr}, flat ops bs nid sp T acc = some tr → ∃ recs st', T.path ε = some (recs, st') ∧ regionOk ops (acc.reverse ++ recs) bs nid sp = true ∧ tr.sel ε = (.normal, st')
 | .done st nv, acc, tr, h => by
  simp only [flat, recsK_eq, List.append_nil] at h
  split at h
  ·rename_i hok; cases h; exact ⟨[], st, rfl, by simpa using hok, rfl⟩
  ·cases h
 | .op r obs rest, acc, tr, h => by
  simp only [flat] at h
  obtain ⟨recs, st', h1, h2, h3⟩ := flat_spec h
  exact ⟨r :: recs, st', by simp [Ops.path, h1], by simpa using h2, h3⟩
 | .fork e x y, acc, tr, h => by
  simp only [flat] at h
  split at h
  ·rename_i a b ha hb
   cases h
   simp only [Ops.path, Tr.sel]
   cases (e.den ε).2
   ·simp only [Bool.false_eq_true, if_false]; exact flat_spec hb
   ·simp only [if_true]; exact flat_spec ha
  ·cases h
 | .none, acc, tr, h => by cases h
theorem path_fold {sub : Sub} {sp : Nat} {ops : Array Oper} : ∀ {l : List Oper} {nid : Nat} {pc : E} {dec : List (E × Bool)} {st : St} {nv : Nat} {recs : List Rec} {st' : St},
  (evOps P sub sp ops l nid pc dec st nv).path ε = some (recs, st') → st' = recs.foldl St.apply st
 | [], nid, pc, dec, st, nv, recs, st', h => by simp only [evOps, Ops.path] at h; cases h; rfl
 | o :: l, nid, pc, dec, st, nv, recs, st', h => by
  have go : ∀ (rc : Rec) (pc : E) (dec : List (E × Bool)) (nv : Nat) (obs : List Ob), (Ops.op rc obs (evOps P sub sp ops l (nid + sp) pc dec (st.apply rc) nv)).path ε = some (recs, st') → st' = recs.foldl St.apply st := by
   intro rc pc dec nv obs hp
   simp only [Ops.path, Option.map_eq_some_iff] at hp
   obtain ⟨⟨recs1, st1⟩, he, heq⟩ := hp
   cases heq
   rw [path_fold he]; rfl
  have run : ∀ (pc : E) (dec : List (E × Bool)) (nv : Nat) (T : Ops), T = (match evOp P sub sp nid pc st.look st.at nv dec o with
    | some r => .op ⟨o.dst, r.val, r.fp, r.upd⟩ r.obs (evOps P sub sp ops l (nid + sp) pc dec (st.apply ⟨o.dst, r.val, r.fp, r.upd⟩) r.nv)
    | none => .none) → T.path ε = some (recs, st') → st' = recs.foldl St.apply st := by
   intro pc dec nv T hT hr
   split at hT
   ·subst hT; exact go _ _ _ _ _ hr
   ·subst hT; cases hr
  rw [evOps_cons] at h
  dsimp only at h
  split at h
  ·exact run _ _ _ _ rfl h
  ·split at h
   ·split at h
    ·split at h
     ·exact run _ _ _ _ rfl h
     ·exact go _ _ _ _ [] h
    ·split at h
     ·split at h
      ·exact run _ _ _ _ rfl h
      ·exact go _ _ _ _ [] h
     ·split at h
      ·simp only [Ops.path] at h
       split at h
       ·exact run _ _ _ _ rfl h
       ·exact go _ _ _ _ [] h
      ·simp only [Ops.path] at h
       split at h
       ·exact go _ _ _ _ [] h
       ·exact run _ _ _ _ rfl h
   ·exact go _ _ _ _ [] h
   ·cases h
theorem evRegion_ok (hmix : P.follows .mixedOrders = true) {w0 : World} {sub : Sub} {sp : Nat} (hsp : 0 < sp) (hsub : SubOk P ε w0 sub) {ops : Array Oper} {st : St} {nid id : Nat} {draw : Bool} {pc : E} {nv : Nat} {r : Res}
  (h : evRegion P sub sp ops st nid pc nv = some r) : CodeOk P ε w0 (Code.region id ops draw) pc st nid r := by
 unfold evRegion at h
 dsimp only at h
 simp only [fNs_eq] at h
 split at h
 ·rename_i hids
  split at h
  ·rename_i tr htr
   cases h
   obtain ⟨recs, st', hp, hok, hsel⟩ := flat_spec (ε := ε) htr
   simp only [List.reverse_nil, List.nil_append] at hok
   have hn := regionOk_spec hok
   obtain ⟨f1, f2, f3⟩ := hn
   refine ⟨by dsimp only; omega, fun hobs => ⟨fun hd b hb => ?_, fun hpc hd d ρ a w hr Q hQ => ?_⟩⟩
   ·dsimp only at hb ⊢
    rw [hsel] at hb
    dsimp only at hb
    by_cases hold : (st.at b).isSome = true
    ·have := hd b hold; omega
    ·-- a block of an operation's own
     have e0 : st' = recs.foldl St.apply st := path_fold hp
     have e1 : st' = lexSt recs st recs.length := by rw [e0]; unfold lexSt; rw [List.take_length]
     rw [e1, lexSt_at recs st b _ (Nat.le_refl _)] at hb
     have top : ∀ j, j < ops.size → NW (nid + j * sp) sp b → b < nid + ops.size * sp := fun j hj h => by
      obtain ⟨_, h2⟩ := h
      have := Nat.mul_le_mul_right sp (show j + 1 ≤ ops.size from hj)
      rw [Nat.succ_mul] at this; omega
     split at hb
     ·rename_i c hl
      obtain ⟨j, hj, h2⟩ := latest_some _ hl
      unfold wM at h2
      split at h2
      ·rename_i q hq
       have hjn : j < ops.size := by omega
       have hro := f3 j _ q (Array.getElem?_eq_getElem hjn) hq
       have hk := hro.keys _ (lookup_mem h2)
       dsimp only at hk
       rcases hk with g | g | ⟨j', g, g'⟩
       ·omega
       ·exact top j hjn g
       ·have := hro.lt j' g; exact top j' (by omega) g'
      ·cases h2
     ·exact absurd hb hold
   ·rw [hsel] at hQ
    exact region_leaf hmix hsp hsub hp hok hids hobs hpc hr fun ρ' a' w' h1 h2 => hQ ρ' a' w' h1 h2
  ·cases h
 ·cases h
theorem behind_spec {f : E → St → Nat → Nat → Option Res} (hf : ∀ pc s nv nid r, f pc s nv nid = some r → nid ≤ r.nid) : ∀ {t : Tr} {pc : E} {nv nid : Nat} {q : Res}, behind f t pc nv nid = some q →
  nid ≤ q.nid ∧ ((t.sel ε).1 ≠ .normal → q.tr.sel ε = t.sel ε) ∧
  ((t.sel ε).1 = .normal → ∃ pc' nv' nid' r, f pc' (t.sel ε).2 nv' nid' = some r ∧ q.tr.sel ε = r.tr.sel ε ∧ ((pc.den ε).2 = true → (pc'.den ε).2 = true) ∧ (∀ ob ∈ r.obs, ob ∈ q.obs) ∧ nid ≤ nid' ∧ r.nid ≤ q.nid)
 | .leaf .normal s, pc, nv, nid, q, h => by
  simp only [behind] at h
  exact ⟨hf _ _ _ _ _ h, fun hn => absurd rfl hn, fun _ => ⟨pc, nv, nid, q, h, rfl, id, fun _ h => h, Nat.le_refl _, Nat.le_refl _⟩⟩
 | .leaf (.exit i) s, pc, nv, nid, q, h => by
  simp only [behind] at h; cases h
  exact ⟨Nat.le_refl _, fun _ => rfl, fun hn => by cases hn⟩
 | .leaf .ret s, pc, nv, nid, q, h => by
  simp only [behind] at h; cases h
  exact ⟨Nat.le_refl _, fun _ => rfl, fun hn => by cases hn⟩
 | .node c x y, pc, nv, nid, q, h => by
  simp only [behind, fE_eq] at h
  split at h
  ·rename_i r1 h1
   split at h
   ·rename_i r2 h2
    cases h
    obtain ⟨a1, a2, a3⟩ := behind_spec hf h1
    obtain ⟨b1, b2, b3⟩ := behind_spec hf h2
    simp only [Tr.sel]
    refine ⟨by omega, ?_, ?_⟩
    ·cases hc : (c.den ε).2
     ·simp only [Bool.false_eq_true, if_false]; exact b2
     ·simp only [if_true]; exact a2
    ·cases hc : (c.den ε).2
     ·simp only [Bool.false_eq_true, if_false]
      intro hn
      obtain ⟨pc', nv', nid', r, e1, e2, e3, e4, e5, e6⟩ := b3 hn
      exact ⟨pc', nv', nid', r, e1, e2, fun hp => e3 (pc_f hc hp), fun ob hb => List.mem_append_right _ (e4 ob hb), by omega, e6⟩
     ·simp only [if_true]
      intro hn
      obtain ⟨pc', nv', nid', r, e1, e2, e3, e4, e5, e6⟩ := a3 hn
      exact ⟨pc', nv', nid', r, e1, e2, fun hp => e3 (pc_t hc hp), fun ob hb => List.mem_append_left _ (e4 ob hb), e5, by omega⟩
   ·cases h
  ·cases h
theorem unExit_sel (id : Nat) : ∀ (t : Tr), (unExit id t).sel ε = (match (t.sel ε).1 with | .exit id' => if id' = id then .normal else .exit id' | k => k, (t.sel ε).2)
 | .leaf .normal s => rfl
 | .leaf .ret s => rfl
 | .leaf (.exit id') s => by simp only [unExit, Tr.sel]; split <;> rfl
 | .node c x y => by
  simp only [unExit, Tr.sel]
  split
  ·exact unExit_sel id x
  ·exact unExit_sel id y
theorem toRet_sel : ∀ (t : Tr), (toRet t).sel ε = (match (t.sel ε).1 with | .normal => .ret | k => k, (t.sel ε).2)
 | .leaf .normal s => rfl
 | .leaf .ret s => rfl
 | .leaf (.exit id') s => rfl
 | .node c x y => by
  simp only [toRet, Tr.sel]
  split
  ·exact toRet_sel x
  ·exact toRet_sel y
def resVar (tmps : Array Value) : ResultVar → Sem Value
 | .tmp t => pure (tmps.getD t undef)
 | .cell b t => asAddr (tmps.getD b undef) >>= fun a => loadVar t a
theorem results_eq (fn : Func) (tmps : Array Value) : results fn tmps = (fn.results.mapM (resVar tmps) >>= fun vs => pure (if h : vs.size = 1 then vs[0] else .tuple vs)) := by
 unfold results
 congr 2
theorem resultsOf_spec {w0 : World} {d : List Deferred} {s : St} {ρ : Nat → Nat} {a : Act} {w : World} (hr : Rep ε w0 d s ρ a w) : ∀ {rs : List ResultVar} {vs : List V1}, resultsOf P s rs = some vs →
  (rs.mapM (resVar a.tmps)).run P w = .ok (vs.map (V1.den ε ρ)) w
 | [], vs, h => by simp [resultsOf] at h; subst h; simp
 | .tmp t :: rest, vs, h => by
  simp only [resultsOf] at h
  split at h
  ·rename_i v vs' h1 h2
   cases h
   have e : a.tmps.getD t undef = v.den ε ρ := by
    have := (hr.slots t).get (by rw [h1]; simp)
    rw [h1] at this; exact this
   rw [List.mapM_cons]
   have hB : (resVar a.tmps (.tmp t)).run P w = .ok (v.den ε ρ) w := by
    simp only [resVar, e, Sem.run_pure]
   simp only [Sem.run_bind, hB, Sem.run_pure, Result.andThen, resultsOf_spec hr h2, List.map_cons]

  ·cases h
 | .cell b t :: rest, vs, h => by
  simp only [resultsOf] at h
  split at h
  ·rename_i v _ _ _ _ vs' h1 h2
   cases h
   have hb : s.look b ≠ .bad := by intro e; rw [e] at h1; simp [evLoad] at h1
   have e := (hr.slots b).get hb
   obtain ⟨_, _, l3⟩ := load_out (base := w0.heap.size) (ρ := ρ) (ε := ε) (w := w) h1 (fun b _ cs hcs => hr.blocks b cs hcs)
   rw [← e] at l3
   obtain ⟨y, hy, hl⟩ : ∃ y, a.tmps.getD b undef = .pointer (some y) ∧ (loadVar t y).run P w = .ok (v.den ε ρ) w := by
    cases hv : a.tmps.getD b undef with
    | pointer x =>
     cases x with
     | some y =>
      rw [hv] at l3
      refine ⟨y, rfl, ?_⟩
      simpa [Instr.loadAt, Instr.sureAddr, Result.andThen, LV.den] using l3
     | none => rw [hv] at l3; simp [Instr.loadAt, Instr.sureAddr, Result.andThen] at l3
    | _ => rw [hv] at l3; simp [Instr.loadAt, Instr.sureAddr, Result.andThen] at l3
   have hA : (asAddr (a.tmps.getD b undef)).run P w = .ok y w := by rw [hy]; rfl
   rw [List.mapM_cons]
   have hB : (resVar a.tmps (.cell b t)).run P w = .ok (v.den ε ρ) w := by
    simp only [resVar, Sem.run_bind, hA, hl, Result.andThen]
   simp only [Sem.run_bind, hB, Result.andThen, Sem.run_pure, resultsOf_spec hr h2, List.map_cons]
  ·cases h
end SX
end
section
namespace SX
open Go.RowKit
variable {P : Program} {ε : Env}
def FnOk (P : Program) (ε : Env) (w0 : World) (f : FuncId) (args : List LV) (mem : List (Nat × Cells)) (pc : E) (nid : Nat) (v : LV) (s : St) (obs : List Ob) : Prop :=
 (∀ ob ∈ obs, ob.ok P ε w0) → (pc.den ε).2 = true → (∀ b, (mem.lookup b).isSome = true → b < nid) → (∀ x ∈ args, x ≠ .bad) → ∀ (w : World) (ρ : Nat → Nat), Below w0.heap.size w0 w →
  (∀ b cs, mem.lookup b = some cs → Blk ε ρ w0.heap.size w b cs) → (∀ b b', (mem.lookup b).isSome = true → (mem.lookup b').isSome = true → ρ b = ρ b' → b = b') →
  Calls P f (args.map (LV.den ε ρ)).toArray w (fun e w' => ∃ ρ', e = .returned (v.den ε ρ') ∧ (∀ b, b < nid → ρ' b = ρ b) ∧ (∀ b cs, s.at b = some cs → Blk ε ρ' w0.heap.size w' b cs) ∧
   (∀ b b', (s.at b).isSome = true → (s.at b').isSome = true → ρ' b = ρ' b' → b = b') ∧ (∀ b, (s.at b).isSome = true → (mem.lookup b).isSome = true ∨ w.heap.size ≤ ρ' b) ∧
   Ext w w' (fun x => ∃ b, b ∈ s.wr ∧ (mem.lookup b).isSome = true ∧ ρ b = x))
theorem reach_some {mem : Nat → Option Cells} : ∀ (n : Nat) (todo seen : List Nat), (∀ b ∈ seen, (mem b).isSome = true) → ∀ b ∈ reach mem n todo seen, (mem b).isSome = true
 | 0, _, seen, hs => hs
 | n + 1, [], seen, hs => hs
 | n + 1, x :: rest, seen, hs => by
  simp only [reach]
  split
  ·exact reach_some n _ _ hs
  ·split
   ·rename_i c hc
    exact reach_some n _ _ fun b hb => by
     rcases List.mem_cons.1 hb with rfl | hb
     ·rw [hc]; rfl
     ·exact hs b hb
   ·exact reach_some n _ _ hs
theorem lookup_filterMap {mem : Nat → Option Cells} (b : Nat) : ∀ l : List Nat, (l.filterMap fun b => (mem b).map fun c => (b, c)).lookup b = if b ∈ l then mem b else none
 | [] => rfl
 | x :: l => by
  simp only [List.filterMap_cons]
  cases hm : mem x with
  | none =>
   simp only [Option.map_none]
   rw [lookup_filterMap b l]
   by_cases hx : b = x
   ·subst hx; simp [hm]
   ·simp [hx]
  | some c =>
   simp only [Option.map_some, List.lookup]
   by_cases hx : b = x
   ·subst hx; simp [hm]
   ·have : (b == x) = false := by simpa using hx
    rw [this]
    simp only [lookup_filterMap b l, List.mem_cons, hx, false_or]
theorem lookup_fM {m : Nat → Option Cells} {b : Nat} {c : Cells} {l : List Nat} (h : (l.filterMap fun b => (m b).map fun c => (b, c)).lookup b = some c) : b ∈ l ∧ m b = some c := by
 rw [lookup_filterMap] at h
 split at h
 ·exact ⟨by assumption, h⟩
 ·cases h
theorem mem_fM {m : Nat → Option Cells} {u : Nat × Cells} {l : List Nat} : u ∈ (l.filterMap fun b => (m b).map fun c => (b, c)) ↔ u.1 ∈ l ∧ m u.1 = some u.2 := by
 constructor
 ·intro hu
  obtain ⟨b, hb, he⟩ := List.mem_filterMap.1 hu
  obtain ⟨c, hc, rfl⟩ := Option.map_eq_some_iff.1 he
  exact ⟨hb, hc⟩
 ·rintro ⟨h1, h2⟩
  exact List.mem_filterMap.2 ⟨u.1, h1, by rw [h2]; rfl⟩
theorem all_fM {m : Nat → Option Cells} : ∀ l : List Nat, (l.filterMap fun b => (m b).map fun c => (b, c)).length = l.length → ∀ b ∈ l, ∃ c, m b = some c := by
 intro l
 induction l with
 | nil => intro _ b hb; cases hb
 | cons y l ih =>
  intro hl b hb
  rw [List.filterMap_cons] at hl
  cases hy : m y with
  | none =>
   rw [hy] at hl
   simp only [Option.map_none] at hl
   have := List.length_filterMap_le (fun b => (m b).map fun c => (b, c)) l
   simp only [List.length_cons] at hl; omega
  | some c =>
   rw [hy] at hl
   simp only [Option.map_some, List.length_cons, Nat.add_right_cancel_iff] at hl
   rcases List.mem_cons.1 hb with rfl | hb
   ·exact ⟨c, hy⟩
   ·exact ih hl b hb
theorem codeAt_child {wy : Way} {c x : Code} {d : Nat} (h : codeAt P wy = some c) (hd : child c d = some x) : codeAt P (d :: wy) = some x := by
 cases wy with
 | nil => simp [codeAt] at h
 | cons a l =>
  show (codeAt P (a :: l)).bind (fun c => child c d) = some x
  rw [h]; exact hd
theorem domT_sel {nid : Nat} : ∀ {t : Tr}, domT nid t = true → Dom (t.sel ε).2 nid
 | .leaf k s, h => fun b hb => by
  simp only [domT, List.all_eq_true, decide_eq_true_eq] at h
  simp only [Tr.sel, St.at] at hb
  cases hl : s.mem.lookup b with
  | none => rw [hl] at hb; cases hb
  | some cs => exact h _ (lookup_mem hl)
 | .node c x y, h => by
  simp only [domT, Bool.and_eq_true] at h
  simp only [Tr.sel]
  split
  ·exact domT_sel h.1
  ·exact domT_sel h.2
set_option maxHeartbeats 2000000 in
theorem sound (hmix : P.follows .mixedOrders = true) (K : Cfg) (w0 : World) : ∀ n,
  (∀ nm sp wy c pc st nv nid r, 0 < sp → codeAt P wy = some c → evCode P K n nm sp wy c pc st nv nid = some r → CodeOk P ε w0 c pc st nid r) ∧
  (∀ nm sp wy c pc st nv nid r, 0 < sp → codeAt P wy = some c → evLoop P K n nm sp wy c pc st nv nid = some r → LoopOk P ε w0 c pc st nid r) ∧
  (∀ sp f args mem pc nv nid v s nv' obs, 0 < sp → evFn P K n sp f args mem pc nv nid = some (v, s, nv', obs) → FnOk P ε w0 f args mem pc nid v s obs) ∧
  SubOk P ε w0 (evSub P K n)
 | 0 => by
  refine ⟨fun nm sp wy c pc st nv nid r _ _ h => ?_, fun nm sp wy c pc st nv nid r _ _ h => ?_, fun sp f args mem pc nv nid v s nv' obs _ h => ?_, fun sp f args mem pc nv id r _ h => ?_⟩
  ·simp [evCode] at h
  ·simp [evLoop] at h
  ·simp [evFn] at h
  ·simp [evSub] at h
 | n + 1 => by
  obtain ⟨ihC, ihL, ihF, ihS⟩ := sound hmix K w0 n
  refine ⟨fun nm sp wy c pc st nv nid r hsp hwy h => ?_, fun nm sp wy c pc st nv nid r hsp hwy h => ?_, fun sp f args mem pc nv nid v s nv' obs hsp h => ?_, fun sp f args mem pc nv id r hsp h hid hobs hpc hargs => ?_⟩
  ·-- code
   unfold evCode at h
   split at h
   ·cases h
    exact ⟨Nat.le_refl _, fun _ => ⟨id, fun _ _ d ρ a w hr Q hQ => wp_skip (hQ ρ a w hr (Aft.refl _ _ _ _))⟩⟩
   ·cases h
    exact ⟨Nat.le_refl _, fun _ => ⟨id, fun _ _ d ρ a w hr Q hQ => wp_label (hQ ρ a w hr (Aft.refl _ _ _ _))⟩⟩
   ·-- region
    obtain ⟨r1, h1, rfl⟩ := Option.map_eq_some_iff.1 h
    exact (evRegion_ok hmix hsp ihS h1).norm nm .normal
   ·-- seq
    rename_i x y
    split at h
    ·rename_i r1 h1
     split at h
     ·rename_i q hq
      cases h
      have hwx : codeAt P (0 :: wy) = some x := codeAt_child hwy rfl
      have hwz : codeAt P (1 :: wy) = some y := codeAt_child hwy rfl
      obtain ⟨a1, a2⟩ := ihC _ _ _ _ _ _ _ _ _ hsp hwx h1
      have hf : ∀ pc s nv nid r, (fun pc s nv nid => evCode P K n nm sp (1 :: wy) y pc s nv nid) pc s nv nid = some r → nid ≤ r.nid := fun pc s nv nid r h => (ihC _ _ _ _ _ _ _ _ _ hsp hwz h).1
      obtain ⟨b1, b2, b3⟩ := behind_spec (ε := ε) hf hq
      have key : CodeOk P ε w0 (.seq x y) pc st nid { q with obs := r1.obs ++ q.obs } := by
       refine ⟨by dsimp only; omega, fun hobs => ?_⟩
       obtain ⟨a2, a3⟩ := a2 fun ob hb => hobs ob (List.mem_append_left _ hb)
       refine ⟨fun hd => ?_, fun hpc hd d ρ a w hr Q hQ => ?_⟩
       ·dsimp only
        by_cases hk : (r1.tr.sel ε).1 = .normal
        ·obtain ⟨pc', nv', nid', r, e1, e2, e3, e4, e5, e6⟩ := b3 hk
         rw [e2]
         exact (((ihC _ _ _ _ _ _ _ _ _ hsp hwz e1).2 fun ob hb => hobs ob (List.mem_append_right _ (e4 ob hb))).1 ((a2 hd).mono e5)).mono e6
        ·rw [b2 hk]; exact (a2 hd).mono b1
       ·refine wp_seq (a3 hpc hd d ρ a w hr _ fun ρ1 a1' w1 hr1 ha1 => ?_)
        dsimp only at hQ
        by_cases hk : (r1.tr.sel ε).1 = .normal
        ·obtain ⟨pc', nv', nid', r, e1, e2, e3, e4, e5, e6⟩ := b3 hk
         rw [hk]
         have hd1 := (a2 hd).mono e5
         refine ((ihC _ _ _ _ _ _ _ _ _ hsp hwz e1).2 fun ob hb => hobs ob (List.mem_append_right _ (e4 ob hb))).2 (e3 hpc) hd1 d ρ1 a1' w1 hr1 Q fun ρ2 a2' w2 hr2 ha2 => ?_
         rw [← e2] at hr2 ha2 ⊢
         exact hQ ρ2 a2' w2 hr2 (ha1.trans hd hd1 (by omega) ha2)
        ·rw [b2 hk] at hQ
         have := hQ ρ1 a1' w1 hr1 ha1
         cases hkk : (r1.tr.sel ε).1 with
         | normal => exact absurd hkk hk
         | exit i => rw [hkk] at this; exact this
         | ret => rw [hkk] at this; exact this
      exact key.norm nm .normal
     ·cases h
    ·cases h
   ·-- cond
    rename_i c x y
    have hcs : ∀ {d ρ a w}, Rep ε w0 d st ρ a w → ∀ t, c = .tmp t → RV ε ρ (st.look t) (a.tmps.getD t undef) := fun hr t _ => hr.slots t
    split at h
    ·rename_i e0 hc
     rw [fE_eq] at h
     have hce : ∀ {d ρ a w}, Rep ε w0 d st ρ a w → a.eval c = .bool (e0.den ε).2 := fun hr => opnd_eq (hcs hr) hc (by simp)
     split at h
     ·rename_i hu
      obtain ⟨a1, a2⟩ := ihC _ _ _ _ _ _ _ _ _ hsp (codeAt_child hwy rfl) h
      refine ⟨a1, fun hobs => ⟨(a2 hobs).1, fun hpc hd d ρ a w hr Q hQ => ?_⟩⟩
      have hb : (e0.den ε).2 = true := by rw [← under_den hpc e0, hu]; rfl
      exact wp_cond_true (by rw [hce hr, hb]) ((a2 hobs).2 hpc hd d ρ a w hr Q hQ)
     ·rename_i hu
      obtain ⟨a1, a2⟩ := ihC _ _ _ _ _ _ _ _ _ hsp (codeAt_child hwy rfl) h
      refine ⟨a1, fun hobs => ⟨(a2 hobs).1, fun hpc hd d ρ a w hr Q hQ => ?_⟩⟩
      have hb : (e0.den ε).2 = false := by rw [← under_den hpc e0, hu]; rfl
      exact wp_cond_false (by rw [hce hr, hb]) ((a2 hobs).2 hpc hd d ρ a w hr Q hQ)
     ·simp only [fE_eq] at h
      have hund : (pc.den ε).2 = true → ((under pc e0).den ε).2 = (e0.den ε).2 := fun hpc => under_den hpc e0
      generalize under pc e0 = e at h hund
      split at h
      ·rename_i r1 h1
       split at h
       ·rename_i r2 h2
        cases h
        obtain ⟨a1, a2⟩ := ihC _ _ _ _ _ _ _ _ _ hsp (codeAt_child hwy rfl) h1
        obtain ⟨b1, b2⟩ := ihC _ _ _ _ _ _ _ _ _ hsp (codeAt_child hwy rfl) h2
        have key : CodeOk P ε w0 (.cond c x y) pc st nid ⟨.node e r1.tr r2.tr, r2.nv, r2.nid, r1.obs ++ r2.obs⟩ := by
         refine ⟨by dsimp only; omega, fun hobs => ?_⟩
         obtain ⟨a2, a3⟩ := a2 fun ob hb => hobs ob (List.mem_append_left _ hb)
         obtain ⟨b2, b3⟩ := b2 fun ob hb => hobs ob (List.mem_append_right _ hb)
         refine ⟨fun hd => ?_, fun hpc hd d ρ a w hr Q hQ => ?_⟩
         ·simp only [Tr.sel]
          split
          ·exact (a2 hd).mono b1
          ·exact b2 (hd.mono a1)
         ·have hce := hce hr
          rw [← hund hpc] at hce
          simp only [Tr.sel] at hQ
          cases hcd : (e.den ε).2
          ·rw [hcd] at hce
           simp only [hcd, Bool.false_eq_true, if_false] at hQ
           exact wp_cond_false hce (b3 (pc_f hcd hpc) (hd.mono a1) d ρ a w hr Q fun ρ' a' w' h1 h2 => hQ ρ' a' w' h1 ⟨fun b hb => h2.agree b (by omega), h2.ext, h2.sub, h2.fresh⟩)
          ·rw [hcd] at hce
           simp only [hcd, if_true] at hQ
           exact wp_cond_true hce (a3 (pc_t hcd hpc) hd d ρ a w hr Q hQ)
        exact key.norm nm .normal
       ·cases h
      ·cases h
    ·cases h
   ·-- block
    rename_i id body
    obtain ⟨r1, h1, rfl⟩ := Option.map_eq_some_iff.1 h
    obtain ⟨a1, a2⟩ := ihC _ _ _ _ _ _ _ _ _ hsp (codeAt_child hwy rfl) h1
    have key : CodeOk P ε w0 (.block id body) pc st nid { r1 with tr := unExit id r1.tr } := by
     refine ⟨a1, fun hobs => ⟨fun hd => by dsimp only; rw [unExit_sel]; exact (a2 hobs).1 hd, fun hpc hd d ρ a w hr Q hQ => wp_block ((a2 hobs).2 hpc hd d ρ a w hr _ fun ρ' a' w' h1 h2 => ?_)⟩⟩
     dsimp only at hQ
     rw [unExit_sel] at hQ
     have := hQ ρ' a' w' h1 h2
     cases hk : (r1.tr.sel ε).1 with
     | normal => rw [hk] at this; exact this
     | ret => rw [hk] at this; exact this
     | exit i =>
      rw [hk] at this
      dsimp only at this
      simp only [Ex.to, Exit.inBlock]
      by_cases hi : i = id
      ·rw [if_pos hi] at this; rw [if_pos hi]; exact this
      ·rw [if_neg hi] at this; rw [if_neg hi]; exact this
    exact key.norm nm .normal
   ·-- loop
    split at h
    ·rename_i s ins tr hlp
     simp only [fLVs_eq, fTr_eq] at h
     split at h
     ·rename_i hdom
      cases h
      refine ⟨Nat.le_refl _, fun hobs => ⟨fun _ => domT_sel hdom, fun hpc hd d ρ a w hr Q hQ => wp_loop_of ?_⟩⟩
      have ho := hobs _ (List.mem_singleton.2 rfl)
      exact ho _ hwy hpc hd d ρ a w hr Q hQ
     ·cases h
    ·obtain ⟨a1, a2⟩ := ihL _ _ _ _ _ _ _ _ _ hsp (codeAt_child hwy rfl) h
     exact ⟨a1, fun hobs => ⟨(a2 hobs).1, fun hpc hd d ρ a w hr Q hQ => wp_loop_of ((a2 hobs).2 hpc hd d ρ a w hr Q hQ)⟩⟩
   ·cases h
    exact ⟨Nat.le_refl _, fun _ => ⟨id, fun _ _ d ρ a w hr Q hQ => wp_exit (hQ ρ a w hr (Aft.refl _ _ _ _))⟩⟩
   ·cases h
    exact ⟨Nat.le_refl _, fun _ => ⟨id, fun _ _ d ρ a w hr Q hQ => wp_ret (hQ ρ a w hr (Aft.refl _ _ _ _))⟩⟩
   ·-- scope
    obtain ⟨a1, a2⟩ := ihC _ _ _ _ _ _ _ _ _ hsp (codeAt_child hwy rfl) h
    refine ⟨a1, fun hobs => ⟨(a2 hobs).1, fun hpc hd d ρ a w hr Q hQ => wp_scope_straight ((a2 hobs).2 hpc hd d ρ a w hr _ fun ρ' a' w' h1 h2 => ?_)⟩⟩
    have := hQ ρ' a' w' h1 h2
    cases hk : (r.tr.sel ε).1 with
    | normal => rw [hk] at this; exact this
    | ret => rw [hk] at this; exact this
    | exit i => rw [hk] at this; exact this
   ·cases h
  ·-- loop
   unfold evLoop at h
   split at h
   ·rename_i r1 h1
    split at h
    ·rename_i q hq
     cases h
     obtain ⟨a1, a2⟩ := ihC _ _ _ _ _ _ _ _ _ hsp hwy h1
     have hf : ∀ pc s nv nid r, (fun pc s nv nid => evLoop P K n nm sp wy c pc s nv nid) pc s nv nid = some r → nid ≤ r.nid := fun pc s nv nid r h => (ihL _ _ _ _ _ _ _ _ _ hsp hwy h).1
     obtain ⟨b1, b2, b3⟩ := behind_spec (ε := ε) hf hq
     refine ⟨by dsimp only; omega, fun hobs => ?_⟩
     obtain ⟨a2, a3⟩ := a2 fun ob hb => hobs ob (List.mem_append_left _ hb)
     refine ⟨fun hd => ?_, fun hpc hd d ρ a w hr Q hQ => ?_⟩
     ·dsimp only
      by_cases hk : (r1.tr.sel ε).1 = .normal
      ·obtain ⟨pc', nv', nid', r, e1, e2, e3, e4, e5, e6⟩ := b3 hk
       rw [e2]
       exact (((ihL _ _ _ _ _ _ _ _ _ hsp hwy e1).2 fun ob hb => hobs ob (List.mem_append_right _ (e4 ob hb))).1 ((a2 hd).mono e5)).mono e6
      ·rw [b2 hk]; exact (a2 hd).mono b1
     ·refine loop_round (a3 hpc hd d ρ a w hr _ fun ρ1 a1' w1 hr1 ha1 => ?_)
      dsimp only at hQ
      by_cases hk : (r1.tr.sel ε).1 = .normal
      ·obtain ⟨pc', nv', nid', r, e1, e2, e3, e4, e5, e6⟩ := b3 hk
       rw [hk]
       have hd1 := (a2 hd).mono e5
       refine ((ihL _ _ _ _ _ _ _ _ _ hsp hwy e1).2 fun ob hb => hobs ob (List.mem_append_right _ (e4 ob hb))).2 (e3 hpc) hd1 d ρ1 a1' w1 hr1 Q fun ρ2 a2' w2 hr2 ha2 => ?_
       rw [← e2] at hr2 ha2 ⊢
       exact hQ ρ2 a2' w2 hr2 (ha1.trans hd hd1 (by omega) ha2)
      ·rw [b2 hk] at hQ
       have := hQ ρ1 a1' w1 hr1 ha1
       cases hkk : (r1.tr.sel ε).1 with
       | normal => exact absurd hkk hk
       | exit i => rw [hkk] at this; exact this
       | ret => rw [hkk] at this; exact this
    ·cases h
   ·cases h
  ·-- function
   unfold evFn at h
   split at h
   ·cases h
   ·rename_i fn hfn
    split at h
    ·cases h
    ·rename_i c hc
     split at h
     ·cases h
     ·rename_i r hr
      obtain ⟨a1, a2⟩ := ihC _ _ _ _ _ _ _ _ _ hsp (show codeAt P [f] = some c by simp [codeAt, hfn, hc]) hr
      split at h
      ·rename_i s hs
       intro hobs hpc hdom hargs w ρ hw hblk hinj
       have n1 := norm_spec ε .ret (toRet r.tr)
       rw [hs] at n1
       rw [toRet_sel] at n1
       simp only [Tr.sel] at n1
       obtain ⟨n1, n2⟩ := n1
       have fin : ∀ vs, resultsOf P s fn.results.toList = some vs → (∀ ob ∈ r.obs, ob.ok P ε w0) →
         Calls P f (args.map (LV.den ε ρ)).toArray w (fun e w' => ∃ ρ', e = .returned (if h : (vs.map (V1.den ε ρ')).toArray.size = 1 then (vs.map (V1.den ε ρ')).toArray[0] else .tuple (vs.map (V1.den ε ρ')).toArray) ∧ (∀ b, b < nid → ρ' b = ρ b) ∧ (∀ b cs, s.at b = some cs → Blk ε ρ' w0.heap.size w' b cs) ∧
          (∀ b b', (s.at b).isSome = true → (s.at b').isSome = true → ρ' b = ρ' b' → b = b') ∧ (∀ b, (s.at b).isSome = true → (mem.lookup b).isSome = true ∨ w.heap.size ≤ ρ' b) ∧
          Ext w w' (fun x => ∃ b, b ∈ s.wr ∧ (mem.lookup b).isSome = true ∧ ρ b = x)) := by
        intro vs hvs hobs'
        refine calls_of_wp hfn hc ((a2 hobs').2 hpc hdom [] ρ _ w ⟨?_, rfl, ?_, hblk, hinj, hw⟩ _ fun ρ' a' w' h1 h2 => ?_)
        ·simp
        ·intro t
         refine .inr ?_
         unfold St.look
         simp only [Array.getD_eq_getD_getElem?, List.getD_eq_getElem?_getD]
         rw [Array.getElem?_append]
         simp only [List.size_toArray, List.length_map]
         by_cases ht : t < args.length
         ·rw [if_pos ht, List.getElem?_append_left ht]
          simp [List.getElem?_eq_getElem ht]
         ·rw [if_neg ht, List.getElem?_append_right (by omega)]
          rw [Array.getElem?_replicate, List.getElem?_replicate]
          split <;> rfl
        ·have h3 := h1.weak n2
         have h4 := h2.weak n2
         have hbp : bodyPost P fn (fun e w' => ∃ ρ', e = .returned (if h : (vs.map (V1.den ε ρ')).toArray.size = 1 then (vs.map (V1.den ε ρ')).toArray[0] else .tuple (vs.map (V1.den ε ρ')).toArray) ∧ (∀ b, b < nid → ρ' b = ρ b) ∧ (∀ b cs, s.at b = some cs → Blk ε ρ' w0.heap.size w' b cs) ∧
           (∀ b b', (s.at b).isSome = true → (s.at b').isSome = true → ρ' b = ρ' b' → b = b') ∧ (∀ b, (s.at b).isSome = true → (mem.lookup b).isSome = true ∨ w.heap.size ≤ ρ' b) ∧
           Ext w w' (fun x => ∃ b, b ∈ s.wr ∧ (mem.lookup b).isSome = true ∧ ρ b = x)) .ret a' w' := by
          refine ⟨h3.defers, _, ?_, ρ', rfl, h4.agree, h3.blocks, h3.inj, h4.fresh, h4.ext⟩
          have hm := resultsOf_spec h3 hvs
          have hm2 : (fn.results.mapM (resVar a'.tmps)).run P w' = .ok (vs.map (V1.den ε ρ')).toArray w' := by
           rw [← Array.toList_mapM] at hm
           simp only [Sem.run_map] at hm
           generalize (fn.results.mapM (resVar a'.tmps)).run P w' = rr at hm ⊢
           cases rr with
           | ok x w2 =>
            simp only [Result.andThen, Result.ok.injEq] at hm
            obtain ⟨hm1, rfl⟩ := hm
            rw [← hm1]
           | halt x w2 => simp only [Result.andThen] at hm; cases hm
          rw [results_eq]
          simp only [Sem.run_bind, hm2, Result.andThen, Sem.run_pure]
         cases hk : (r.tr.sel ε).1 with
         | normal => exact hbp
         | ret => exact hbp
         | exit i => rw [hk] at n1; cases n1
       split at h
       ·rename_i x hvs
        cases h
        refine (fin _ hvs hobs).mono fun e w' ⟨ρ', e1, e2⟩ => ⟨ρ', by rw [e1]; simp [LV.den], e2⟩
       ·rename_i vs hne hvs
        cases h
        refine (fin _ hvs hobs).mono fun e w' ⟨ρ', e1, e2⟩ => ⟨ρ', ?_, e2⟩
        rw [e1]
        have : ¬ (vs.map (V1.den ε ρ')).toArray.size = 1 := fun h1 => by
         simp at h1
         obtain ⟨x, hx⟩ := List.length_eq_one_iff.1 h1
         exact hne x hx
        rw [dif_neg this]
        rfl
       ·cases h
      ·cases h
  ·-- calls
   unfold evSub at h
   simp only [fNs_eq, fM_eq, fLV_eq] at h
   have hbs := reach_some (mem := mem) 100 (args.flatMap LV.ids) [] (by simp)
   generalize reach mem 100 (args.flatMap LV.ids) [] = bs at h hbs
   split at h
   ·split at h
    ·cases h
    ·rename_i hsp'
     have hsp2 : 0 < sp / 1048576 := Nat.pos_of_ne_zero fun e => hsp' (by rw [e]; rfl)
     split at h
     ·cases h
     ·rename_i v s nv' obs hev
      have hall := reach_some (mem := s.at) 100 (v.ids ++ (bs.filter s.wr.contains).flatMap fun b => Cells.ids ((s.at b).getD [])) [] (by simp)
      generalize reach s.at 100 (v.ids ++ (bs.filter s.wr.contains).flatMap fun b => Cells.ids ((s.at b).getD [])) [] = rs at h hall
      generalize hold : bs.filter s.wr.contains = old at h
      generalize hnew : (rs.filter fun b => !bs.contains b) = new at h
      split at h
      ·rename_i hc
       simp only [Bool.and_eq_true, List.all_eq_true, decide_eq_true_eq, beq_iff_eq] at hc
       obtain ⟨⟨⟨⟨⟨c1, c2⟩, c3⟩, c4⟩, c5⟩, c6⟩ := hc
       have hupd := fun u => mem_fM (m := s.at) (u := u) (l := old ++ new)
       have hsome := all_fM (m := s.at) (old ++ new) c6
       generalize hup : ((old ++ new).filterMap fun b => (s.at b).map fun c => (b, c)) = upd at h c5 c6 hupd
       have hlk : ∀ b, (bs.filterMap fun b => (mem b).map fun c => (b, c)).lookup b = if b ∈ bs then mem b else none := fun b => lookup_filterMap b bs
       have hinS : ∀ b, ((bs.filterMap fun b => (mem b).map fun c => (b, c)).lookup b).isSome = true → b ∈ bs := fun b hb => by
        rw [hlk] at hb
        split at hb
        ·assumption
        ·cases hb
       have old_in : ∀ b ∈ old, b ∈ bs := fun b hb => by rw [← hold] at hb; exact (List.mem_filter.1 hb).1
       have new_out : ∀ b ∈ new, b ∉ bs := fun b hb hb' => by
        rw [← hnew] at hb
        have := (List.mem_filter.1 hb).2
        simp only [Bool.not_eq_true'] at this
        rw [List.contains_iff_mem.2 hb'] at this
        cases this
       have new_NW : ∀ b ∈ new, NW id sp b := fun b hb => by
        have := c2 b hb
        simpa [NW] using this
       have old_NW : ∀ b ∈ bs, ¬ NW id sp b := fun b hb e => by
        have := c1 b hb; obtain ⟨e1, _⟩ := e; omega
       have updIn : ∀ u ∈ upd, NW id sp u.1 ∨ (u.1 ∈ bs ∧ (mem u.1).isSome = true) := fun u hu => by
        rcases List.mem_append.1 ((hupd u).1 hu).1 with h | h
        ·exact .inr ⟨old_in _ h, hbs _ (old_in _ h)⟩
        ·exact .inl (new_NW _ h)
       have allIds : ∀ b, b ∈ bs ++ new → b < id ∨ NW id sp b := fun b hb => by
        rcases List.mem_append.1 hb with h | h
        ·exact .inl (c1 b h)
        ·exact .inr (new_NW b h)
       have main : (∀ ob ∈ obs, ob.ok P ε w0) → ∀ (w : World) (ρ : Nat → Nat), Below w0.heap.size w0 w → (∀ b ∈ bs, ∀ cs, mem b = some cs → Blk ε ρ w0.heap.size w b cs) →
         (∀ b ∈ bs, ∀ b' ∈ bs, (mem b).isSome = true → (mem b').isSome = true → ρ b = ρ b' → b = b') →
         Calls P f (args.map (LV.den ε ρ)).toArray w (fun e w' => ∃ vv, e = .returned vv ∧ Out1 ε ρ w0.heap.size id sp w v upd vv w') := by
        intro hobs w ρ hw hblk hinj
        refine (ihF _ _ _ _ _ _ _ _ _ _ _ hsp2 hev hobs hpc (fun b hb => c1 b (hinS b hb)) hargs w ρ hw (fun b cs hb => ?_) (fun b b' hb hb' => ?_)).mono fun e w' => ?_
        ·obtain ⟨h1, h2⟩ := lookup_fM hb
         exact hblk b h1 cs h2
        ·exact hinj b (hinS b hb) b' (hinS b' hb') (hbs _ (hinS b hb)) (hbs _ (hinS b' hb'))
        ·rintro ⟨ρ', e1, e2, e3, e4, e5, e6⟩
         have hr : ∀ b, b < id ∨ NW id sp b → (fun b => if id ≤ b ∧ b < id + sp then ρ' b else ρ b) b = ρ' b := fun b hb => by
          dsimp only
          split
          ·rfl
          ·rename_i hn
           rcases hb with h | h
           ·exact (e2 b h).symm
           ·exact absurd h hn
         refine ⟨_, e1, fun b => if id ≤ b ∧ b < id + sp then ρ' b else ρ b, fun b hb => if_neg hb, ?_, fun u hu => ?_, fun u hu hn => ?_, fun u hu u' hu' hn hn' he => ?_, e6.mono ?_⟩
         ·exact LV.den_congr fun b hb => (hr b (allIds b (List.contains_iff_mem.1 (c4 b hb)))).symm
         ·have hu' := (hupd u).1 hu
          refine (e3 u.1 u.2 hu'.2).congr (hr _ ?_).symm fun k hk => (hr k ?_).symm
          ·rcases updIn u hu with h | h
           ·exact .inr h
           ·exact .inl (c1 _ h.1)
          ·exact allIds k (List.contains_iff_mem.1 (c5 u hu k hk))
         ·rw [hr _ (.inr hn)]
          have hu' := (hupd u).1 hu
          rcases e5 u.1 (by rw [hu'.2]; rfl) with h | h
          ·exact absurd hn (old_NW _ (hinS _ h))
          ·exact h
         ·rw [hr _ (.inr hn), hr _ (.inr hn')] at he
          exact e4 _ _ (by rw [((hupd u).1 hu).2]; rfl) (by rw [((hupd u').1 hu').2]; rfl) he
         ·rintro x hx ⟨b, hb, hb', rfl⟩
          have hbb := hinS b hb'
          have ho : b ∈ old := by rw [← hold]; exact List.mem_filter.2 ⟨hbb, List.contains_iff_mem.2 hb⟩
          obtain ⟨c, hc⟩ := hsome b (List.mem_append_left _ ho)
          exact ⟨(b, c), (hupd (b, c)).2 ⟨List.mem_append_left _ ho, hc⟩, old_NW b hbb, rfl⟩
       split at h
       ·-- with names
        cases h
        dsimp only at hobs ⊢
        have nmU := nameM_mem (ε := ε) (o := errOf v upd) (m := upd) fun ob hb => (hobs ob (List.mem_append_right _ hb)).nm
        have nmV := fun ρ => (nameLV_den (ε := ε) (ρ := ρ) (o := errOf v upd) (x := v) fun ob hb => (hobs ob (List.mem_append_left _ (List.mem_append_right _ hb))).nm).1
        refine ⟨fun u hu => ?_, fun w ρ hw hblk hinj => ?_⟩
        ·obtain ⟨c, h1, _⟩ := nmU u hu
         exact updIn (u.1, c) h1
        ·refine (main (fun ob hb => hobs ob (List.mem_append_left _ (List.mem_append_left _ hb))) w ρ hw hblk hinj).mono fun e w' => ?_
         rintro ⟨vv, e1, ρ', f1, f2, f3, f4, f5, f6⟩
         refine ⟨vv, e1, ρ', f1, by rw [nmV]; exact f2, fun u hu => ?_, fun u hu hn => ?_, fun u hu u' hu' hn hn' he => ?_, f6.mono ?_⟩
         ·obtain ⟨c, h1, h2, _⟩ := nmU u hu
          exact (f3 _ h1).ceq h2
         ·obtain ⟨c, h1, _⟩ := nmU u hu
          exact f4 (u.1, c) h1 hn
         ·obtain ⟨c, h1, _⟩ := nmU u hu
          obtain ⟨c', h1', _⟩ := nmU u' hu'
          exact f5 (u.1, c) h1 (u'.1, c') h1' hn hn' he
         ·rintro x hx ⟨u, hu, hn, rfl⟩
          have : u.1 ∈ (nameM (errOf v upd) upd).1.map (·.1) := by rw [nameM_keys]; exact List.mem_map.2 ⟨u, hu, rfl⟩
          obtain ⟨u', hu', he⟩ := List.mem_map.1 this
          exact ⟨u', hu', by rw [he]; exact hn, by rw [he]⟩
       ·cases h
        exact ⟨updIn, main hobs⟩
      ·cases h
   ·split at h
    ·rename_i hc
     simp only [Bool.and_eq_true, List.all_eq_true, decide_eq_true_eq] at hc
     obtain ⟨⟨c1, c2⟩, c3⟩ := hc
     split at h
     ·rename_i v upd hv
      split at h
      ·rename_i hu
       simp only [Bool.and_eq_true, List.all_eq_true] at hu
       cases h
       dsimp only at hobs ⊢
       have hob := hobs _ (List.mem_singleton.2 rfl) rfl
       have inBs : ∀ u ∈ upd, u.1 ∈ bs := fun u h => List.contains_iff_mem.1 (hu.2 u h)
       have notNW : ∀ u ∈ upd, ¬ NW id sp u.1 := fun u h e => by
        have := c1 _ (inBs u h); obtain ⟨e1, _⟩ := e; omega
       refine ⟨fun u h => .inr ⟨inBs u h, hbs _ (inBs u h)⟩, fun w ρ hw hblk hinj => ?_⟩
       refine (hob w ρ hw (fun b cs hb => ?_) (fun b b' hb hb' => ?_)).mono fun e w' ⟨e1, e2, e3⟩ => ⟨_, e1, ρ, fun _ _ => rfl, (underLV_den hpc v).symm, e2, fun u hu hn => absurd hn (notNW u hu), fun u hu _ _ hn => absurd hn (notNW u hu), e3.mono ?_⟩
       ·obtain ⟨h1, h2⟩ := lookup_fM hb
        exact hblk b h1 cs h2
       ·have hin : ∀ b, ((bs.filterMap fun b => (mem b).map fun c => (b, c)).lookup b).isSome = true → b ∈ bs := fun b hb => by
         rw [lookup_filterMap] at hb
         split at hb
         ·assumption
         ·cases hb
        exact hinj b (hin b hb) b' (hin b' hb') (hbs _ (hin b hb)) (hbs _ (hin b' hb'))
       ·rintro x hx ⟨u, hu, rfl⟩
        exact ⟨u, hu, notNW u hu, rfl⟩
      ·cases h
     ·cases h
    ·cases h
end SX
end
end Go.Proofs.YtcjlpgmhlghdkaaGreat
