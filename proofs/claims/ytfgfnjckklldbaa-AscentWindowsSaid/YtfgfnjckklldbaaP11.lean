/- Packed: SxX SxY SxI. -/
import Derived.Test.YtfgfnjckklldbaaP10
set_option linter.unusedVariables false
set_option linter.unusedSimpArgs false
namespace Go.Proofs.Ytfgfnjckklldbaa
section
namespace SX
open Go.RowKit
variable {P : Program} {ε : Env}
def FnOk (P : Program) (ε : Env) (w0 : World) (f : FuncId) (args : List LV) (mem : List (Nat × Cells)) (pc : E) (nid : Nat) (v : LV) (s : St) (obs : List Ob) : Prop :=
 (∀ ob ∈ obs, ob.ok P ε w0) → (pc.den ε).2 = true → (∀ b, (mem.lookup b).isSome = true → b < nid) → (∀ x ∈ args, x ≠ .bad) → ∀ (w : World) (ρ : Nat → Nat), Below w0.heap.size w0 w →
  (∀ b cs, mem.lookup b = some cs → Blk ε ρ w0.heap.size w b cs) → (∀ b b', (mem.lookup b).isSome = true → (mem.lookup b').isSome = true → ρ b = ρ b' → b = b') →
  Calls P f (args.map (LV.den ε ρ)).toArray w (fun e w' => ∃ ρ', e = .returned (v.den ε ρ') ∧ (∀ b, b < nid → ρ' b = ρ b) ∧ (∀ b cs, s.at b = some cs → Blk ε ρ' w0.heap.size w' b cs) ∧
   (∀ b b', (s.at b).isSome = true → (s.at b').isSome = true → ρ' b = ρ' b' → b = b') ∧ (∀ b, (s.at b).isSome = true → (mem.lookup b).isSome = true ∨ w.heap.size ≤ ρ' b ∨ ∃ k, k ∈ s.wr ∧ (mem.lookup k).isSome = true ∧ s.at k = none ∧ ρ k = ρ' b) ∧
   Ext w w' (fun x => ∃ b, b ∈ s.wr ∧ (mem.lookup b).isSome = true ∧ ρ b = x))
theorem reach_some {mem : Nat → Option Cells} : ∀ (n : Nat) (todo seen : List Nat), (∀ b ∈ seen, (mem b).isSome = true) → ∀ b ∈ reach mem n todo seen, (mem b).isSome = true
 | 0, _, seen, hs => hs
 | n + 1, [], seen, hs => hs
 | n + 1, x :: rest, seen, hs => by
  simp only [reach]
  split
  ·exact reach_some n _ _ hs
  ·split
   ·rename_i c hc
    exact reach_some n _ _ fun b hb => by
     rcases List.mem_cons.1 hb with rfl | hb
     ·rw [hc]; rfl
     ·exact hs b hb
   ·exact reach_some n _ _ hs
theorem lookup_filterMap {mem : Nat → Option Cells} (b : Nat) : ∀ l : List Nat, (l.filterMap fun b => (mem b).map fun c => (b, c)).lookup b = if b ∈ l then mem b else none
 | [] => rfl
 | x :: l => by
  simp only [List.filterMap_cons]
  cases hm : mem x with
  | none =>
   simp only [Option.map_none]
   rw [lookup_filterMap b l]
   by_cases hx : b = x
   ·subst hx; simp [hm]
   ·simp [hx]
  | some c =>
   simp only [Option.map_some, List.lookup]
   by_cases hx : b = x
   ·subst hx; simp [hm]
   ·have : (b == x) = false := by simpa using hx
    rw [this]
    simp only [lookup_filterMap b l, List.mem_cons, hx, false_or]
theorem lookup_fM {m : Nat → Option Cells} {b : Nat} {c : Cells} {l : List Nat} (h : (l.filterMap fun b => (m b).map fun c => (b, c)).lookup b = some c) : b ∈ l ∧ m b = some c := by
 rw [lookup_filterMap] at h
 split at h
 ·exact ⟨by assumption, h⟩
 ·cases h
theorem mem_fM {m : Nat → Option Cells} {u : Nat × Cells} {l : List Nat} : u ∈ (l.filterMap fun b => (m b).map fun c => (b, c)) ↔ u.1 ∈ l ∧ m u.1 = some u.2 := by
 constructor
 ·intro hu
  obtain ⟨b, hb, he⟩ := List.mem_filterMap.1 hu
  obtain ⟨c, hc, rfl⟩ := Option.map_eq_some_iff.1 he
  exact ⟨hb, hc⟩
 ·rintro ⟨h1, h2⟩
  exact List.mem_filterMap.2 ⟨u.1, h1, by rw [h2]; rfl⟩
theorem codeAt_child {wy : Way} {c x : Code} {d : Nat} (h : codeAt P wy = some c) (hd : child c d = some x) : codeAt P (d :: wy) = some x := by
 cases wy with
 | nil => simp [codeAt] at h
 | cons a l =>
  show (codeAt P (a :: l)).bind (fun c => child c d) = some x
  rw [h]; exact hd
theorem domT_sel {nid : Nat} : ∀ {t : Tr}, domT nid t = true → Dom (t.sel ε).2 nid
 | .leaf k s, h => fun b hb => by
  simp only [domT, List.all_eq_true, decide_eq_true_eq] at h
  simp only [Tr.sel] at hb
  obtain ⟨cs, hl⟩ := Option.isSome_iff_exists.1 (at_some hb)
  exact h _ (lookup_mem hl)
 | .node c x y, h => by
  simp only [domT, Bool.and_eq_true] at h
  simp only [Tr.sel]
  split
  ·exact domT_sel h.1
  ·exact domT_sel h.2
theorem nameM_nil {o : Option E} {k : Nat} : ∀ {m : List (Nat × Cells)}, m.lookup k = some [] → (nameM o m).1.lookup k = some []
 | [], h => by cases h
 | (b, c) :: rest, h => by
  simp only [nameM, List.lookup] at h ⊢
  split at h
  ·cases h
   rfl
  ·exact nameM_nil h
set_option maxHeartbeats 2000000 in
theorem sound (hmix : P.follows .mixedOrders = true) (K : Cfg) (w0 : World) : ∀ n,
  (∀ nm sp wy c pc st nv nid r, 0 < sp → codeAt P wy = some c → evCode P K n nm sp wy c pc st nv nid = some r → CodeOk P ε w0 c pc st nid r) ∧
  (∀ nm sp wy c pc st nv nid r, 0 < sp → codeAt P wy = some c → evLoop P K n nm sp wy c pc st nv nid = some r → LoopOk P ε w0 c pc st nid r) ∧
  (∀ sp f args mem pc nv nid v s nv' obs, 0 < sp → evFn P K n sp f args mem pc nv nid = some (v, s, nv', obs) → FnOk P ε w0 f args mem pc nid v s obs) ∧
  SubOk P ε w0 (evSub P K n)
 | 0 => by
  refine ⟨fun nm sp wy c pc st nv nid r _ _ h => ?_, fun nm sp wy c pc st nv nid r _ _ h => ?_, fun sp f args mem pc nv nid v s nv' obs _ h => ?_, fun sp f args mem pc nv id r _ h => ?_⟩
  ·simp [evCode] at h
  ·simp [evLoop] at h
  ·simp [evFn] at h
  ·simp [evSub] at h
 | n + 1 => by
  obtain ⟨ihC, ihL, ihF, ihS⟩ := sound hmix K w0 n
  refine ⟨fun nm sp wy c pc st nv nid r hsp hwy h => ?_, fun nm sp wy c pc st nv nid r hsp hwy h => ?_, fun sp f args mem pc nv nid v s nv' obs hsp h => ?_, fun sp f args mem pc nv id r hsp h hid hobs hpc hargs => ?_⟩
  ·-- code
   unfold evCode at h
   split at h
   ·cases h
    exact ⟨Nat.le_refl _, fun _ => ⟨id, fun _ _ d ρ a w hr Q hQ => wp_skip (hQ ρ a w hr (Aft.refl _ _ _ _))⟩⟩
   ·cases h
    exact ⟨Nat.le_refl _, fun _ => ⟨id, fun _ _ d ρ a w hr Q hQ => wp_label (hQ ρ a w hr (Aft.refl _ _ _ _))⟩⟩
   ·-- region
    obtain ⟨r1, h1, rfl⟩ := Option.map_eq_some_iff.1 h
    exact (evRegion_ok hmix hsp ihS h1).norm nm .normal
   ·-- seq
    rename_i x y
    split at h
    ·rename_i r1 h1
     split at h
     ·rename_i q hq
      cases h
      have hwx : codeAt P (0 :: wy) = some x := codeAt_child hwy rfl
      have hwz : codeAt P (1 :: wy) = some y := codeAt_child hwy rfl
      obtain ⟨a1, a2⟩ := ihC _ _ _ _ _ _ _ _ _ hsp hwx h1
      have hf : ∀ pc s nv nid r, (fun pc s nv nid => evCode P K n nm sp (1 :: wy) y pc s nv nid) pc s nv nid = some r → nid ≤ r.nid := fun pc s nv nid r h => (ihC _ _ _ _ _ _ _ _ _ hsp hwz h).1
      obtain ⟨b1, b2, b3⟩ := behind_spec (ε := ε) hf hq
      have key : CodeOk P ε w0 (.seq x y) pc st nid { q with obs := r1.obs ++ q.obs } := by
       refine ⟨by dsimp only; omega, fun hobs => ?_⟩
       obtain ⟨a2, a3⟩ := a2 fun ob hb => hobs ob (List.mem_append_left _ hb)
       refine ⟨fun hd => ?_, fun hpc hd d ρ a w hr Q hQ => ?_⟩
       ·dsimp only
        by_cases hk : (r1.tr.sel ε).1 = .normal
        ·obtain ⟨pc', nv', nid', r, e1, e2, e3, e4, e5, e6⟩ := b3 hk
         rw [e2]
         exact (((ihC _ _ _ _ _ _ _ _ _ hsp hwz e1).2 fun ob hb => hobs ob (List.mem_append_right _ (e4 ob hb))).1 ((a2 hd).mono e5)).mono e6
        ·rw [b2 hk]; exact (a2 hd).mono b1
       ·refine wp_seq (a3 hpc hd d ρ a w hr _ fun ρ1 a1' w1 hr1 ha1 => ?_)
        dsimp only at hQ
        by_cases hk : (r1.tr.sel ε).1 = .normal
        ·obtain ⟨pc', nv', nid', r, e1, e2, e3, e4, e5, e6⟩ := b3 hk
         rw [hk]
         have hd1 := (a2 hd).mono e5
         refine ((ihC _ _ _ _ _ _ _ _ _ hsp hwz e1).2 fun ob hb => hobs ob (List.mem_append_right _ (e4 ob hb))).2 (e3 hpc) hd1 d ρ1 a1' w1 hr1 Q fun ρ2 a2' w2 hr2 ha2 => ?_
         rw [← e2] at hr2 ha2 ⊢
         exact hQ ρ2 a2' w2 hr2 (ha1.trans hd hd1 (by omega) ha2)
        ·rw [b2 hk] at hQ
         have := hQ ρ1 a1' w1 hr1 ha1
         cases hkk : (r1.tr.sel ε).1 with
         | normal => exact absurd hkk hk
         | exit i => rw [hkk] at this; exact this
         | ret => rw [hkk] at this; exact this
      exact key.norm nm .normal
     ·cases h
    ·cases h
   ·-- cond
    rename_i c x y
    have hcs : ∀ {d ρ a w}, Rep ε w0 d st ρ a w → ∀ t, c = .tmp t → RV ε ρ (st.look t) (a.tmps.getD t undef) := fun hr t _ => hr.slots t
    split at h
    ·rename_i e0 hc
     rw [fE_eq] at h
     have hce : ∀ {d ρ a w}, Rep ε w0 d st ρ a w → a.eval c = .bool (e0.den ε).2 := fun hr => opnd_eq (hcs hr) hc (by simp)
     split at h
     ·rename_i hu
      obtain ⟨a1, a2⟩ := ihC _ _ _ _ _ _ _ _ _ hsp (codeAt_child hwy rfl) h
      refine ⟨a1, fun hobs => ⟨(a2 hobs).1, fun hpc hd d ρ a w hr Q hQ => ?_⟩⟩
      have hb : (e0.den ε).2 = true := by rw [← under_den hpc e0, hu]; rfl
      exact wp_cond_true (by rw [hce hr, hb]) ((a2 hobs).2 hpc hd d ρ a w hr Q hQ)
     ·rename_i hu
      obtain ⟨a1, a2⟩ := ihC _ _ _ _ _ _ _ _ _ hsp (codeAt_child hwy rfl) h
      refine ⟨a1, fun hobs => ⟨(a2 hobs).1, fun hpc hd d ρ a w hr Q hQ => ?_⟩⟩
      have hb : (e0.den ε).2 = false := by rw [← under_den hpc e0, hu]; rfl
      exact wp_cond_false (by rw [hce hr, hb]) ((a2 hobs).2 hpc hd d ρ a w hr Q hQ)
     ·simp only [fE_eq] at h
      have hund : (pc.den ε).2 = true → ((under pc e0).den ε).2 = (e0.den ε).2 := fun hpc => under_den hpc e0
      generalize under pc e0 = e at h hund
      split at h
      ·rename_i r1 h1
       split at h
       ·rename_i r2 h2
        cases h
        obtain ⟨a1, a2⟩ := ihC _ _ _ _ _ _ _ _ _ hsp (codeAt_child hwy rfl) h1
        obtain ⟨b1, b2⟩ := ihC _ _ _ _ _ _ _ _ _ hsp (codeAt_child hwy rfl) h2
        have key : CodeOk P ε w0 (.cond c x y) pc st nid ⟨.node e r1.tr r2.tr, r2.nv, r2.nid, r1.obs ++ r2.obs⟩ := by
         refine ⟨by dsimp only; omega, fun hobs => ?_⟩
         obtain ⟨a2, a3⟩ := a2 fun ob hb => hobs ob (List.mem_append_left _ hb)
         obtain ⟨b2, b3⟩ := b2 fun ob hb => hobs ob (List.mem_append_right _ hb)
         refine ⟨fun hd => ?_, fun hpc hd d ρ a w hr Q hQ => ?_⟩
         ·simp only [Tr.sel]
          split
          ·exact (a2 hd).mono b1
          ·exact b2 (hd.mono a1)
         ·have hce := hce hr
          rw [← hund hpc] at hce
          simp only [Tr.sel] at hQ
          cases hcd : (e.den ε).2
          ·rw [hcd] at hce
           simp only [hcd, Bool.false_eq_true, if_false] at hQ
           exact wp_cond_false hce (b3 (pc_f hcd hpc) (hd.mono a1) d ρ a w hr Q fun ρ' a' w' h1 h2 => hQ ρ' a' w' h1 ⟨fun b hb => h2.agree b (by omega), h2.ext, h2.sub, h2.fresh, fun b hb hs => h2.keep b (by omega) hs⟩)
          ·rw [hcd] at hce
           simp only [hcd, if_true] at hQ
           exact wp_cond_true hce (a3 (pc_t hcd hpc) hd d ρ a w hr Q hQ)
        exact key.norm nm .normal
       ·cases h
      ·cases h
    ·cases h
   ·-- block
    rename_i id body
    obtain ⟨r1, h1, rfl⟩ := Option.map_eq_some_iff.1 h
    obtain ⟨a1, a2⟩ := ihC _ _ _ _ _ _ _ _ _ hsp (codeAt_child hwy rfl) h1
    have key : CodeOk P ε w0 (.block id body) pc st nid { r1 with tr := unExit id r1.tr } := by
     refine ⟨a1, fun hobs => ⟨fun hd => by dsimp only; rw [unExit_sel]; exact (a2 hobs).1 hd, fun hpc hd d ρ a w hr Q hQ => wp_block ((a2 hobs).2 hpc hd d ρ a w hr _ fun ρ' a' w' h1 h2 => ?_)⟩⟩
     dsimp only at hQ
     rw [unExit_sel] at hQ
     have := hQ ρ' a' w' h1 h2
     cases hk : (r1.tr.sel ε).1 with
     | normal => rw [hk] at this; exact this
     | ret => rw [hk] at this; exact this
     | exit i =>
      rw [hk] at this
      dsimp only at this
      simp only [Ex.to, Exit.inBlock]
      by_cases hi : i = id
      ·rw [if_pos hi] at this; rw [if_pos hi]; exact this
      ·rw [if_neg hi] at this; rw [if_neg hi]; exact this
    exact key.norm nm .normal
   ·-- loop
    split at h
    ·rename_i s ins tr hlp
     simp only [fLVs_eq, fTr_eq] at h
     split at h
     ·rename_i hdom
      cases h
      refine ⟨Nat.le_refl _, fun hobs => ⟨fun _ => domT_sel hdom, fun hpc hd d ρ a w hr Q hQ => wp_loop_of ?_⟩⟩
      have ho := hobs _ (List.mem_singleton.2 rfl)
      exact ho _ hwy hpc hd d ρ a w hr Q hQ
     ·cases h
    ·obtain ⟨a1, a2⟩ := ihL _ _ _ _ _ _ _ _ _ hsp (codeAt_child hwy rfl) h
     exact ⟨a1, fun hobs => ⟨(a2 hobs).1, fun hpc hd d ρ a w hr Q hQ => wp_loop_of ((a2 hobs).2 hpc hd d ρ a w hr Q hQ)⟩⟩
   ·cases h
    exact ⟨Nat.le_refl _, fun _ => ⟨id, fun _ _ d ρ a w hr Q hQ => wp_exit (hQ ρ a w hr (Aft.refl _ _ _ _))⟩⟩
   ·cases h
    exact ⟨Nat.le_refl _, fun _ => ⟨id, fun _ _ d ρ a w hr Q hQ => wp_ret (hQ ρ a w hr (Aft.refl _ _ _ _))⟩⟩
   ·-- scope
    obtain ⟨a1, a2⟩ := ihC _ _ _ _ _ _ _ _ _ hsp (codeAt_child hwy rfl) h
    refine ⟨a1, fun hobs => ⟨(a2 hobs).1, fun hpc hd d ρ a w hr Q hQ => wp_scope_straight ((a2 hobs).2 hpc hd d ρ a w hr _ fun ρ' a' w' h1 h2 => ?_)⟩⟩
    have := hQ ρ' a' w' h1 h2
    cases hk : (r.tr.sel ε).1 with
    | normal => rw [hk] at this; exact this
    | ret => rw [hk] at this; exact this
    | exit i => rw [hk] at this; exact this
   ·cases h
  ·-- loop
   unfold evLoop at h
   split at h
   ·rename_i r1 h1
    split at h
    ·rename_i q hq
     cases h
     obtain ⟨a1, a2⟩ := ihC _ _ _ _ _ _ _ _ _ hsp hwy h1
     have hf : ∀ pc s nv nid r, (fun pc s nv nid => evLoop P K n nm sp wy c pc s nv nid) pc s nv nid = some r → nid ≤ r.nid := fun pc s nv nid r h => (ihL _ _ _ _ _ _ _ _ _ hsp hwy h).1
     obtain ⟨b1, b2, b3⟩ := behind_spec (ε := ε) hf hq
     refine ⟨by dsimp only; omega, fun hobs => ?_⟩
     obtain ⟨a2, a3⟩ := a2 fun ob hb => hobs ob (List.mem_append_left _ hb)
     refine ⟨fun hd => ?_, fun hpc hd d ρ a w hr Q hQ => ?_⟩
     ·dsimp only
      by_cases hk : (r1.tr.sel ε).1 = .normal
      ·obtain ⟨pc', nv', nid', r, e1, e2, e3, e4, e5, e6⟩ := b3 hk
       rw [e2]
       exact (((ihL _ _ _ _ _ _ _ _ _ hsp hwy e1).2 fun ob hb => hobs ob (List.mem_append_right _ (e4 ob hb))).1 ((a2 hd).mono e5)).mono e6
      ·rw [b2 hk]; exact (a2 hd).mono b1
     ·refine loop_round (a3 hpc hd d ρ a w hr _ fun ρ1 a1' w1 hr1 ha1 => ?_)
      dsimp only at hQ
      by_cases hk : (r1.tr.sel ε).1 = .normal
      ·obtain ⟨pc', nv', nid', r, e1, e2, e3, e4, e5, e6⟩ := b3 hk
       rw [hk]
       have hd1 := (a2 hd).mono e5
       refine ((ihL _ _ _ _ _ _ _ _ _ hsp hwy e1).2 fun ob hb => hobs ob (List.mem_append_right _ (e4 ob hb))).2 (e3 hpc) hd1 d ρ1 a1' w1 hr1 Q fun ρ2 a2' w2 hr2 ha2 => ?_
       rw [← e2] at hr2 ha2 ⊢
       exact hQ ρ2 a2' w2 hr2 (ha1.trans hd hd1 (by omega) ha2)
      ·rw [b2 hk] at hQ
       have := hQ ρ1 a1' w1 hr1 ha1
       cases hkk : (r1.tr.sel ε).1 with
       | normal => exact absurd hkk hk
       | exit i => rw [hkk] at this; exact this
       | ret => rw [hkk] at this; exact this
    ·cases h
   ·cases h
  ·-- function
   unfold evFn at h
   split at h
   ·cases h
   ·rename_i fn hfn
    split at h
    ·cases h
    ·rename_i c hc
     split at h
     ·cases h
     ·rename_i r hr
      obtain ⟨a1, a2⟩ := ihC _ _ _ _ _ _ _ _ _ hsp (show codeAt P [f] = some c by simp [codeAt, hfn, hc]) hr
      split at h
      ·rename_i s hs
       intro hobs hpc hdom hargs w ρ hw hblk hinj
       have n1 := norm_spec ε .ret (toRet r.tr)
       rw [hs] at n1
       rw [toRet_sel] at n1
       simp only [Tr.sel] at n1
       obtain ⟨n1, n2⟩ := n1
       have fin : ∀ vs, resultsOf P s fn.results.toList = some vs → (∀ ob ∈ r.obs, ob.ok P ε w0) →
         Calls P f (args.map (LV.den ε ρ)).toArray w (fun e w' => ∃ ρ', e = .returned (if h : (vs.map (V1.den ε ρ')).toArray.size = 1 then (vs.map (V1.den ε ρ')).toArray[0] else .tuple (vs.map (V1.den ε ρ')).toArray) ∧ (∀ b, b < nid → ρ' b = ρ b) ∧ (∀ b cs, s.at b = some cs → Blk ε ρ' w0.heap.size w' b cs) ∧
          (∀ b b', (s.at b).isSome = true → (s.at b').isSome = true → ρ' b = ρ' b' → b = b') ∧ (∀ b, (s.at b).isSome = true → (mem.lookup b).isSome = true ∨ w.heap.size ≤ ρ' b ∨ ∃ k, k ∈ s.wr ∧ (mem.lookup k).isSome = true ∧ s.at k = none ∧ ρ k = ρ' b) ∧
          Ext w w' (fun x => ∃ b, b ∈ s.wr ∧ (mem.lookup b).isSome = true ∧ ρ b = x)) := by
        intro vs hvs hobs'
        refine calls_of_wp hfn hc ((a2 hobs').2 hpc (fun b hb => hdom b (at_some hb)) [] ρ _ w ⟨?_, rfl, ?_, fun b cs hb => hblk b cs (at_look hb).1, fun b b' hb hb' => hinj b b' (at_some hb) (at_some hb'), hw⟩ _ fun ρ' a' w' h1 h2 => ?_)
        ·simp
        ·intro t
         refine .inr ?_
         unfold St.look
         simp only [Array.getD_eq_getD_getElem?, List.getD_eq_getElem?_getD]
         rw [Array.getElem?_append]
         simp only [List.size_toArray, List.length_map]
         by_cases ht : t < args.length
         ·rw [if_pos ht, List.getElem?_append_left ht]
          simp [List.getElem?_eq_getElem ht]
         ·rw [if_neg ht, List.getElem?_append_right (by omega)]
          rw [Array.getElem?_replicate, List.getElem?_replicate]
          split <;> rfl
        ·have h3 := h1.weak n2
         have h4 := h2.weak n2
         have hbp : bodyPost P fn (fun e w' => ∃ ρ', e = .returned (if h : (vs.map (V1.den ε ρ')).toArray.size = 1 then (vs.map (V1.den ε ρ')).toArray[0] else .tuple (vs.map (V1.den ε ρ')).toArray) ∧ (∀ b, b < nid → ρ' b = ρ b) ∧ (∀ b cs, s.at b = some cs → Blk ε ρ' w0.heap.size w' b cs) ∧
           (∀ b b', (s.at b).isSome = true → (s.at b').isSome = true → ρ' b = ρ' b' → b = b') ∧ (∀ b, (s.at b).isSome = true → (mem.lookup b).isSome = true ∨ w.heap.size ≤ ρ' b ∨ ∃ k, k ∈ s.wr ∧ (mem.lookup k).isSome = true ∧ s.at k = none ∧ ρ k = ρ' b) ∧
           Ext w w' (fun x => ∃ b, b ∈ s.wr ∧ (mem.lookup b).isSome = true ∧ ρ b = x)) .ret a' w' := by
          refine ⟨h3.defers, _, ?_, ρ', rfl, h4.agree, h3.blocks, h3.inj, fun b hb => (h4.fresh b hb).imp (fun h => at_some h) fun h => h.imp id fun ⟨k, k1, k2, k3, k4⟩ => ⟨k, k1, at_some k2, k3, k4⟩, h4.ext.mono fun x _ ⟨b, hb1, hb2, hb3⟩ => ⟨b, hb1, at_some hb2, hb3⟩⟩
          have hm := resultsOf_spec h3 hvs
          have hm2 : (fn.results.mapM (resVar a'.tmps)).run P w' = .ok (vs.map (V1.den ε ρ')).toArray w' := by
           rw [← Array.toList_mapM] at hm
           simp only [Sem.run_map] at hm
           generalize (fn.results.mapM (resVar a'.tmps)).run P w' = rr at hm ⊢
           cases rr with
           | ok x w2 =>
            simp only [Result.andThen, Result.ok.injEq] at hm
            obtain ⟨hm1, rfl⟩ := hm
            rw [← hm1]
           | halt x w2 => simp only [Result.andThen] at hm; cases hm
          rw [results_eq]
          simp only [Sem.run_bind, hm2, Result.andThen, Sem.run_pure]
         cases hk : (r.tr.sel ε).1 with
         | normal => exact hbp
         | ret => exact hbp
         | exit i => rw [hk] at n1; cases n1
       split at h
       ·rename_i x hvs
        cases h
        refine (fin _ hvs hobs).mono fun e w' ⟨ρ', e1, e2⟩ => ⟨ρ', by rw [e1]; simp [LV.den], e2⟩
       ·rename_i vs hne hvs
        cases h
        refine (fin _ hvs hobs).mono fun e w' ⟨ρ', e1, e2⟩ => ⟨ρ', ?_, e2⟩
        rw [e1]
        have : ¬ (vs.map (V1.den ε ρ')).toArray.size = 1 := fun h1 => by
         simp at h1
         obtain ⟨x, hx⟩ := List.length_eq_one_iff.1 h1
         exact hne x hx
        rw [dif_neg this]
        rfl
       ·cases h
      ·cases h
  ·-- calls
   unfold evSub at h
   simp only [fNs_eq, fM_eq, fLV_eq] at h
   have hbs := reach_some (mem := mem) 100 (args.flatMap LV.ids) [] (by simp)
   generalize reach mem 100 (args.flatMap LV.ids) [] = bs at h hbs
   split at h
   ·split at h
    ·cases h
    ·rename_i hsp'
     have hsp2 : 0 < sp / 1048576 := Nat.pos_of_ne_zero fun e => hsp' (by rw [e]; rfl)
     split at h
     ·cases h
     ·rename_i v s nv' obs hev
      have hall := reach_some (mem := s.at) 100 (v.ids ++ (bs.filter s.wr.contains).flatMap fun b => Cells.ids ((s.at b).getD [])) [] (by simp)
      generalize reach s.at 100 (v.ids ++ (bs.filter s.wr.contains).flatMap fun b => Cells.ids ((s.at b).getD [])) [] = rs at h hall
      generalize hold : bs.filter s.wr.contains = old at h
      generalize hnew : (rs.filter fun b => !bs.contains b) = new at h
      split at h
      ·rename_i hc
       simp only [Bool.and_eq_true, List.all_eq_true, decide_eq_true_eq, beq_iff_eq] at hc
       obtain ⟨⟨⟨⟨c1, c2⟩, c3⟩, c4⟩, c5⟩ := hc
       have hupd : ∀ u, u ∈ (old.map fun b => (b, (s.at b).getD [])) ++ (new.filterMap fun b => (s.at b).map fun c => (b, c)) ↔ (u.1 ∈ old ∧ u.2 = (s.at u.1).getD []) ∨ (u.1 ∈ new ∧ s.at u.1 = some u.2) := fun u => by
        rw [List.mem_append, mem_fM, List.mem_map]
        constructor
        ·rintro (⟨b, hb, rfl⟩ | h)
         ·exact .inl ⟨hb, rfl⟩
         ·exact .inr h
        ·rintro (⟨h1, h2⟩ | h)
         ·exact .inl ⟨u.1, h1, by rw [← h2]⟩
         ·exact .inr h
       have hlkUpd : ∀ b, b ∈ old → ((old.map fun b => (b, (s.at b).getD [])) ++ (new.filterMap fun b => (s.at b).map fun c => (b, c))).lookup b = some ((s.at b).getD []) := fun b hb => by
        rw [lookup_append]
        have : ∀ l : List Nat, b ∈ l → (l.map fun b => (b, (s.at b).getD [])).lookup b = some ((s.at b).getD []) := by
         intro l
         induction l with
         | nil => intro h; cases h
         | cons x l ih =>
          intro h
          simp only [List.map_cons, List.lookup]
          split
          ·rename_i hx; rw [eq_of_beq hx]
          ·rename_i hx
           rcases List.mem_cons.1 h with rfl | h
           ·simp at hx
           ·exact ih h
        rw [this old hb]
       generalize hup : (old.map fun b => (b, (s.at b).getD [])) ++ (new.filterMap fun b => (s.at b).map fun c => (b, c)) = upd at h c5 hupd hlkUpd
       have hlk : ∀ b, (bs.filterMap fun b => (mem b).map fun c => (b, c)).lookup b = if b ∈ bs then mem b else none := fun b => lookup_filterMap b bs
       have hinS : ∀ b, ((bs.filterMap fun b => (mem b).map fun c => (b, c)).lookup b).isSome = true → b ∈ bs := fun b hb => by
        rw [hlk] at hb
        split at hb
        ·assumption
        ·cases hb
       have old_in : ∀ b ∈ old, b ∈ bs := fun b hb => by rw [← hold] at hb; exact (List.mem_filter.1 hb).1
       have new_out : ∀ b ∈ new, b ∉ bs := fun b hb hb' => by
        rw [← hnew] at hb
        have := (List.mem_filter.1 hb).2
        simp only [Bool.not_eq_true'] at this
        rw [List.contains_iff_mem.2 hb'] at this
        cases this
       have new_NW : ∀ b ∈ new, NW id sp b := fun b hb => by
        have := c2 b hb
        simpa [NW] using this
       have old_NW : ∀ b ∈ bs, ¬ NW id sp b := fun b hb e => by
        have := c1 b hb; obtain ⟨e1, _⟩ := e; omega
       have updIn : ∀ u ∈ upd, NW id sp u.1 ∨ (u.1 ∈ bs ∧ (mem u.1).isSome = true) := fun u hu => by
        rcases (hupd u).1 hu with h | h
        ·exact .inr ⟨old_in _ h.1, hbs _ (old_in _ h.1)⟩
        ·exact .inl (new_NW _ h.1)
       have allIds : ∀ b, b < id + sp → b < id ∨ NW id sp b := fun b hb => by
        rcases Nat.lt_or_ge b id with h | h
        ·exact .inl h
        ·exact .inr ⟨h, hb⟩
       have main : (∀ ob ∈ obs, ob.ok P ε w0) → ∀ (w : World) (ρ : Nat → Nat), Below w0.heap.size w0 w → (∀ b ∈ bs, ∀ cs, mem b = some cs → Blk ε ρ w0.heap.size w b cs) →
         (∀ b ∈ bs, ∀ b' ∈ bs, (mem b).isSome = true → (mem b').isSome = true → ρ b = ρ b' → b = b') →
         Calls P f (args.map (LV.den ε ρ)).toArray w (fun e w' => ∃ vv, e = .returned vv ∧ Out1 ε ρ w0.heap.size id sp w v upd vv w') := by
        intro hobs w ρ hw hblk hinj
        refine (ihF _ _ _ _ _ _ _ _ _ _ _ hsp2 hev hobs hpc (fun b hb => c1 b (hinS b hb)) hargs w ρ hw (fun b cs hb => ?_) (fun b b' hb hb' => ?_)).mono fun e w' => ?_
        ·obtain ⟨h1, h2⟩ := lookup_fM hb
         exact hblk b h1 cs h2
        ·exact hinj b (hinS b hb) b' (hinS b' hb') (hbs _ (hinS b hb)) (hbs _ (hinS b' hb'))
        ·rintro ⟨ρ', e1, e2, e3, e4, e5, e6⟩
         have hr : ∀ b, b < id ∨ NW id sp b → (fun b => if id ≤ b ∧ b < id + sp then ρ' b else ρ b) b = ρ' b := fun b hb => by
          dsimp only
          split
          ·rfl
          ·rename_i hn
           rcases hb with h | h
           ·exact (e2 b h).symm
           ·exact absurd h hn
         refine ⟨_, e1, fun b => if id ≤ b ∧ b < id + sp then ρ' b else ρ b, fun b hb => if_neg hb, ?_, fun u hu => ?_, fun u hu hn => ?_, fun u hu u' hu' hn hn' he => ?_, e6.mono ?_⟩
         ·exact LV.den_congr fun b hb => (hr b (allIds b (c4 b hb))).symm
         ·have hB : Blk ε ρ' w0.heap.size w' u.1 u.2 := by
           rcases (hupd u).1 hu with ⟨h1, h2⟩ | ⟨h1, h2⟩
           ·cases hs : s.at u.1 with
            | some c => rw [hs] at h2; rw [h2]; exact e3 _ _ hs
            | none =>
             rw [hs] at h2
             rw [h2]
             have hb1 := old_in _ h1
             obtain ⟨c, hc⟩ := Option.isSome_iff_exists.1 (hbs _ hb1)
             have := hblk _ hb1 c hc
             have er := e2 _ (c1 _ hb1)
             exact ⟨by rw [er]; exact this.1, by rw [er]; exact Nat.lt_of_lt_of_le this.2.1 e6.size, fun j c hj => by simp at hj⟩
           ·exact e3 _ _ h2
          refine hB.congr (hr _ ?_).symm fun k hk => (hr k ?_).symm
          ·rcases updIn u hu with h | h
           ·exact .inr h
           ·exact .inl (c1 _ h.1)
          ·exact allIds k (c5 u hu k hk)
         ·rw [hr _ (.inr hn)]
          rcases (hupd u).1 hu with ⟨h1, h2⟩ | ⟨h1, h2⟩
          ·exact absurd hn (old_NW _ (old_in _ h1))
          ·rcases e5 u.1 (by rw [h2]; rfl) with h | h | ⟨k, k1, k2, k3, k4⟩
           ·exact absurd hn (old_NW _ (hinS _ h))
           ·exact .inl h
           ·have hkb := hinS _ k2
            have hko : k ∈ old := by rw [← hold]; exact List.mem_filter.2 ⟨hkb, List.contains_iff_mem.2 k1⟩
            exact .inr ⟨k, old_NW k hkb, by rw [hlkUpd k hko, k3]; rfl, k4⟩
         ·rw [hr _ (.inr hn), hr _ (.inr hn')] at he
          have inNew : ∀ u ∈ upd, NW id sp u.1 → s.at u.1 = some u.2 := fun u hu hn => by
           rcases (hupd u).1 hu with ⟨h1, h2⟩ | ⟨h1, h2⟩
           ·exact absurd hn (old_NW _ (old_in _ h1))
           ·exact h2
          exact e4 _ _ (by rw [inNew u hu hn]; rfl) (by rw [inNew u' hu' hn']; rfl) he
         ·rintro x hx ⟨b, hb, hb', rfl⟩
          have hbb := hinS b hb'
          have ho : b ∈ old := by rw [← hold]; exact List.mem_filter.2 ⟨hbb, List.contains_iff_mem.2 hb⟩
          exact ⟨(b, (s.at b).getD []), (hupd _).2 (.inl ⟨ho, rfl⟩), old_NW b hbb, rfl⟩
       split at h
       ·-- with names
        cases h
        dsimp only at hobs ⊢
        have nmU := nameM_mem (ε := ε) (o := errOf v upd) (m := upd) fun ob hb => (hobs ob (List.mem_append_right _ hb)).nm
        have nmV := fun ρ => (nameLV_den (ε := ε) (ρ := ρ) (o := errOf v upd) (x := v) fun ob hb => (hobs ob (List.mem_append_left _ (List.mem_append_right _ hb))).nm).1
        refine ⟨fun u hu => ?_, fun w ρ hw hblk hinj => ?_⟩
        ·obtain ⟨c, h1, _⟩ := nmU u hu
         exact updIn (u.1, c) h1
        ·refine (main (fun ob hb => hobs ob (List.mem_append_left _ (List.mem_append_left _ hb))) w ρ hw hblk hinj).mono fun e w' => ?_
         rintro ⟨vv, e1, ρ', f1, f2, f3, f4, f5, f6⟩
         refine ⟨vv, e1, ρ', f1, by rw [nmV]; exact f2, fun u hu => ?_, fun u hu hn => ?_, fun u hu u' hu' hn hn' he => ?_, f6.mono ?_⟩
         ·obtain ⟨c, h1, h2, _⟩ := nmU u hu
          exact (f3 _ h1).ceq h2
         ·obtain ⟨c, h1, _⟩ := nmU u hu
          rcases f4 (u.1, c) h1 hn with h | ⟨k, k1, k2, k3⟩
          ·exact .inl h
          ·exact .inr ⟨k, k1, nameM_nil k2, k3⟩
         ·obtain ⟨c, h1, _⟩ := nmU u hu
          obtain ⟨c', h1', _⟩ := nmU u' hu'
          exact f5 (u.1, c) h1 (u'.1, c') h1' hn hn' he
         ·rintro x hx ⟨u, hu, hn, rfl⟩
          have : u.1 ∈ (nameM (errOf v upd) upd).1.map (·.1) := by rw [nameM_keys]; exact List.mem_map.2 ⟨u, hu, rfl⟩
          obtain ⟨u', hu', he⟩ := List.mem_map.1 this
          exact ⟨u', hu', by rw [he]; exact hn, by rw [he]⟩
       ·cases h
        exact ⟨updIn, main hobs⟩
      ·cases h
   ·split at h
    ·rename_i hc
     simp only [Bool.and_eq_true, List.all_eq_true, decide_eq_true_eq] at hc
     obtain ⟨c1, c2⟩ := hc
     split at h
     ·rename_i v upd hv
      split at h
      ·rename_i hu
       simp only [Bool.and_eq_true, List.all_eq_true] at hu
       cases h
       dsimp only at hobs ⊢
       have hob := hobs _ (List.mem_singleton.2 rfl) rfl
       have inBs : ∀ u ∈ upd, u.1 ∈ bs := fun u h => List.contains_iff_mem.1 (hu.2 u h)
       have notNW : ∀ u ∈ upd, ¬ NW id sp u.1 := fun u h e => by
        have := c1 _ (inBs u h); obtain ⟨e1, _⟩ := e; omega
       refine ⟨fun u h => .inr ⟨inBs u h, hbs _ (inBs u h)⟩, fun w ρ hw hblk hinj => ?_⟩
       refine (hob w ρ hw (fun b cs hb => ?_) (fun b b' hb hb' => ?_)).mono fun e w' ⟨e1, e2, e3⟩ => ⟨_, e1, ρ, fun _ _ => rfl, (underLV_den hpc v).symm, e2, fun u hu hn => absurd hn (notNW u hu), fun u hu _ _ hn => absurd hn (notNW u hu), e3.mono ?_⟩
       ·obtain ⟨h1, h2⟩ := lookup_fM hb
        exact hblk b h1 cs h2
       ·have hin : ∀ b, ((bs.filterMap fun b => (mem b).map fun c => (b, c)).lookup b).isSome = true → b ∈ bs := fun b hb => by
         rw [lookup_filterMap] at hb
         split at hb
         ·assumption
         ·cases hb
        exact hinj b (hin b hb) b' (hin b' hb') (hbs _ (hin b hb)) (hbs _ (hin b' hb'))
       ·rintro x hx ⟨u, hu, rfl⟩
        exact ⟨u, hu, notNW u hu, rfl⟩
      ·cases h
     ·cases h
    ·cases h
end SX
end
section
namespace SX
open Go.RowKit
variable {P : Program}
theorem reads4 (hmix : P.follows .mixedOrders = true) {K : Cfg} {n sp : Nat} (hsp : 0 < sp) {f : FuncId} {args : List LV} {nv nid : Nat} {v : LV} {s : St} {nv' : Nat} {obs : List Ob}
  (h : evFn P K n sp f args [] (.blit true) nv nid = some (v, s, nv', obs)) (ha : noIds args = true) (hv : v.ids.isEmpty = true) (ε : Env) (w : World) (hobs : ∀ ob ∈ obs, ob.ok P ε w) :
  Calls P f (args.map (LV.den ε fun _ => 0)).toArray w (fun e w' => e = .returned (v.den ε fun _ => 0) ∧ Below w.heap.size w w') := by
 have := (sound (ε := ε) hmix K w n).2.2.1 _ _ _ _ _ _ _ _ _ _ _ hsp h hobs rfl (by simp) (fun x hx e => by
  have := List.all_eq_true.1 ha x hx
  subst e; simp at this) w (fun _ => 0) (Below.refl _ _) (by simp) (by simp)
 refine this.mono fun e w' ⟨ρ', h1, h2, h3, _, _, h4⟩ => ⟨?_, ⟨h4.os, h4.tape, h4.output, h4.size, fun k hk => h4.block k hk (by simp)⟩⟩
 rw [h1]
 congr 1
 exact LV.den_congr fun b hb => by rw [List.isEmpty_iff.1 hv] at hb; cases hb
end SX
end
section
namespace SX
open Go.RowKit
variable {P : Program}
end SX
end
end Go.Proofs.Ytfgfnjckklldbaa
