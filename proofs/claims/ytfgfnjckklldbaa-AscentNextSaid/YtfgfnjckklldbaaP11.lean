/- Packed: SxX SxY SxI SxC SxJ SxQ SxL SxK SxN SxA ClK. -/
import Derived.Test.YtfgfnjckklldbaaP10
set_option linter.unusedVariables false
set_option linter.unusedSimpArgs false
namespace Go.Proofs.Ytfgfnjckklldbaa
section
namespace SX
open Go.RowKit
variable {P : Program} {ε : Env}
def FnOk (P : Program) (ε : Env) (w0 : World) (f : FuncId) (args : List LV) (mem : List (Nat × Cells)) (pc : E) (nid : Nat) (v : LV) (s : St) (obs : List Ob) : Prop :=
 (∀ ob ∈ obs, ob.ok P ε w0) → (pc.den ε).2 = true → (∀ b, (mem.lookup b).isSome = true → b < nid) → (∀ x ∈ args, x ≠ .bad) → ∀ (w : World) (ρ : Nat → Nat), Below w0.heap.size w0 w →
  (∀ b cs, mem.lookup b = some cs → Blk ε ρ w0.heap.size w b cs) → (∀ b b', (mem.lookup b).isSome = true → (mem.lookup b').isSome = true → ρ b = ρ b' → b = b') →
  Calls P f (args.map (LV.den ε ρ)).toArray w (fun e w' => ∃ ρ', e = .returned (v.den ε ρ') ∧ (∀ b, b < nid → ρ' b = ρ b) ∧ (∀ b cs, s.at b = some cs → Blk ε ρ' w0.heap.size w' b cs) ∧
   (∀ b b', (s.at b).isSome = true → (s.at b').isSome = true → ρ' b = ρ' b' → b = b') ∧ (∀ b, (s.at b).isSome = true → (mem.lookup b).isSome = true ∨ w.heap.size ≤ ρ' b ∨ ∃ k, k ∈ s.wr ∧ (mem.lookup k).isSome = true ∧ s.at k = none ∧ ρ k = ρ' b) ∧
   Ext w w' (fun x => ∃ b, b ∈ s.wr ∧ (mem.lookup b).isSome = true ∧ ρ b = x))
theorem reach_some {mem : Nat → Option Cells} : ∀ (n : Nat) (todo seen : List Nat), (∀ b ∈ seen, (mem b).isSome = true) → ∀ b ∈ reach mem n todo seen, (mem b).isSome = true
 | 0, _, seen, hs => hs
 | n + 1, [], seen, hs => hs
 | n + 1, x :: rest, seen, hs => by
  simp only [reach]
  split
  ·exact reach_some n _ _ hs
  ·split
   ·rename_i c hc
    exact reach_some n _ _ fun b hb => by
     rcases List.mem_cons.1 hb with rfl | hb
     ·rw [hc]; rfl
     ·exact hs b hb
   ·exact reach_some n _ _ hs
theorem lookup_filterMap {mem : Nat → Option Cells} (b : Nat) : ∀ l : List Nat, (l.filterMap fun b => (mem b).map fun c => (b, c)).lookup b = if b ∈ l then mem b else none
 | [] => rfl
 | x :: l => by
  simp only [List.filterMap_cons]
  cases hm : mem x with
  | none =>
   simp only [Option.map_none]
   rw [lookup_filterMap b l]
   by_cases hx : b = x
   ·subst hx; simp [hm]
   ·simp [hx]
  | some c =>
   simp only [Option.map_some, List.lookup]
   by_cases hx : b = x
   ·subst hx; simp [hm]
   ·have : (b == x) = false := by simpa using hx
    rw [this]
    simp only [lookup_filterMap b l, List.mem_cons, hx, false_or]
theorem lookup_fM {m : Nat → Option Cells} {b : Nat} {c : Cells} {l : List Nat} (h : (l.filterMap fun b => (m b).map fun c => (b, c)).lookup b = some c) : b ∈ l ∧ m b = some c := by
 rw [lookup_filterMap] at h
 split at h
 ·exact ⟨by assumption, h⟩
 ·cases h
theorem mem_fM {m : Nat → Option Cells} {u : Nat × Cells} {l : List Nat} : u ∈ (l.filterMap fun b => (m b).map fun c => (b, c)) ↔ u.1 ∈ l ∧ m u.1 = some u.2 := by
 constructor
 ·intro hu
  obtain ⟨b, hb, he⟩ := List.mem_filterMap.1 hu
  obtain ⟨c, hc, rfl⟩ := Option.map_eq_some_iff.1 he
  exact ⟨hb, hc⟩
 ·rintro ⟨h1, h2⟩
  exact List.mem_filterMap.2 ⟨u.1, h1, by rw [h2]; rfl⟩
theorem codeAt_child {wy : Way} {c x : Code} {d : Nat} (h : codeAt P wy = some c) (hd : child c d = some x) : codeAt P (d :: wy) = some x := by
 cases wy with
 | nil => simp [codeAt] at h
 | cons a l =>
  show (codeAt P (a :: l)).bind (fun c => child c d) = some x
  rw [h]; exact hd
theorem domT_sel {nid : Nat} : ∀ {t : Tr}, domT nid t = true → Dom (t.sel ε).2 nid
 | .leaf k s, h => fun b hb => by
  simp only [domT, List.all_eq_true, decide_eq_true_eq] at h
  simp only [Tr.sel] at hb
  obtain ⟨cs, hl⟩ := Option.isSome_iff_exists.1 (at_some hb)
  exact h _ (lookup_mem hl)
 | .node c x y, h => by
  simp only [domT, Bool.and_eq_true] at h
  simp only [Tr.sel]
  split
  ·exact domT_sel h.1
  ·exact domT_sel h.2
theorem nameM_nil {o : Option E} {k : Nat} : ∀ {m : List (Nat × Cells)}, m.lookup k = some [] → (nameM o m).1.lookup k = some []
 | [], h => by cases h
 | (b, c) :: rest, h => by
  simp only [nameM, List.lookup] at h ⊢
  split at h
  ·cases h
   rfl
  ·exact nameM_nil h
set_option maxHeartbeats 2000000 in
theorem sound (hmix : P.follows .mixedOrders = true) (K : Cfg) (w0 : World) : ∀ n,
  (∀ nm sp wy c pc st nv nid r, 0 < sp → codeAt P wy = some c → evCode P K n nm sp wy c pc st nv nid = some r → CodeOk P ε w0 c pc st nid r) ∧
  (∀ nm sp wy c pc st nv nid r, 0 < sp → codeAt P wy = some c → evLoop P K n nm sp wy c pc st nv nid = some r → LoopOk P ε w0 c pc st nid r) ∧
  (∀ sp f args mem pc nv nid v s nv' obs, 0 < sp → evFn P K n sp f args mem pc nv nid = some (v, s, nv', obs) → FnOk P ε w0 f args mem pc nid v s obs) ∧
  SubOk P ε w0 (evSub P K n)
 | 0 => by
  refine ⟨fun nm sp wy c pc st nv nid r _ _ h => ?_, fun nm sp wy c pc st nv nid r _ _ h => ?_, fun sp f args mem pc nv nid v s nv' obs _ h => ?_, fun sp f args mem pc nv id r _ h => ?_⟩
  ·simp [evCode] at h
  ·simp [evLoop] at h
  ·simp [evFn] at h
  ·simp [evSub] at h
 | n + 1 => by
  obtain ⟨ihC, ihL, ihF, ihS⟩ := sound hmix K w0 n
  refine ⟨fun nm sp wy c pc st nv nid r hsp hwy h => ?_, fun nm sp wy c pc st nv nid r hsp hwy h => ?_, fun sp f args mem pc nv nid v s nv' obs hsp h => ?_, fun sp f args mem pc nv id r hsp h hid hobs hpc hargs => ?_⟩
  ·-- code
   unfold evCode at h
   split at h
   ·cases h
    exact ⟨Nat.le_refl _, fun _ => ⟨id, fun _ _ d ρ a w hr Q hQ => wp_skip (hQ ρ a w hr (Aft.refl _ _ _ _))⟩⟩
   ·cases h
    exact ⟨Nat.le_refl _, fun _ => ⟨id, fun _ _ d ρ a w hr Q hQ => wp_label (hQ ρ a w hr (Aft.refl _ _ _ _))⟩⟩
   ·-- region
    obtain ⟨r1, h1, rfl⟩ := Option.map_eq_some_iff.1 h
    exact (evRegion_ok hmix hsp ihS h1).norm nm .normal
   ·-- seq
    rename_i x y
    split at h
    ·rename_i r1 h1
     split at h
     ·rename_i q hq
      cases h
      have hwx : codeAt P (0 :: wy) = some x := codeAt_child hwy rfl
      have hwz : codeAt P (1 :: wy) = some y := codeAt_child hwy rfl
      obtain ⟨a1, a2⟩ := ihC _ _ _ _ _ _ _ _ _ hsp hwx h1
      have hf : ∀ pc s nv nid r, (fun pc s nv nid => evCode P K n nm sp (1 :: wy) y pc s nv nid) pc s nv nid = some r → nid ≤ r.nid := fun pc s nv nid r h => (ihC _ _ _ _ _ _ _ _ _ hsp hwz h).1
      obtain ⟨b1, b2, b3⟩ := behind_spec (ε := ε) hf hq
      have key : CodeOk P ε w0 (.seq x y) pc st nid { q with obs := r1.obs ++ q.obs } := by
       refine ⟨by dsimp only; omega, fun hobs => ?_⟩
       obtain ⟨a2, a3⟩ := a2 fun ob hb => hobs ob (List.mem_append_left _ hb)
       refine ⟨fun hd => ?_, fun hpc hd d ρ a w hr Q hQ => ?_⟩
       ·dsimp only
        by_cases hk : (r1.tr.sel ε).1 = .normal
        ·obtain ⟨pc', nv', nid', r, e1, e2, e3, e4, e5, e6⟩ := b3 hk
         rw [e2]
         exact (((ihC _ _ _ _ _ _ _ _ _ hsp hwz e1).2 fun ob hb => hobs ob (List.mem_append_right _ (e4 ob hb))).1 ((a2 hd).mono e5)).mono e6
        ·rw [b2 hk]; exact (a2 hd).mono b1
       ·refine wp_seq (a3 hpc hd d ρ a w hr _ fun ρ1 a1' w1 hr1 ha1 => ?_)
        dsimp only at hQ
        by_cases hk : (r1.tr.sel ε).1 = .normal
        ·obtain ⟨pc', nv', nid', r, e1, e2, e3, e4, e5, e6⟩ := b3 hk
         rw [hk]
         have hd1 := (a2 hd).mono e5
         refine ((ihC _ _ _ _ _ _ _ _ _ hsp hwz e1).2 fun ob hb => hobs ob (List.mem_append_right _ (e4 ob hb))).2 (e3 hpc) hd1 d ρ1 a1' w1 hr1 Q fun ρ2 a2' w2 hr2 ha2 => ?_
         rw [← e2] at hr2 ha2 ⊢
         exact hQ ρ2 a2' w2 hr2 (ha1.trans hd hd1 (by omega) ha2)
        ·rw [b2 hk] at hQ
         have := hQ ρ1 a1' w1 hr1 ha1
         cases hkk : (r1.tr.sel ε).1 with
         | normal => exact absurd hkk hk
         | exit i => rw [hkk] at this; exact this
         | ret => rw [hkk] at this; exact this
      exact key.norm nm .normal
     ·cases h
    ·cases h
   ·-- cond
    rename_i c x y
    have hcs : ∀ {d ρ a w}, Rep ε w0 d st ρ a w → ∀ t, c = .tmp t → RV ε ρ (st.look t) (a.tmps.getD t undef) := fun hr t _ => hr.slots t
    split at h
    ·rename_i e0 hc
     rw [fE_eq] at h
     have hce : ∀ {d ρ a w}, Rep ε w0 d st ρ a w → a.eval c = .bool (e0.den ε).2 := fun hr => opnd_eq (hcs hr) hc (by simp)
     split at h
     ·rename_i hu
      obtain ⟨a1, a2⟩ := ihC _ _ _ _ _ _ _ _ _ hsp (codeAt_child hwy rfl) h
      refine ⟨a1, fun hobs => ⟨(a2 hobs).1, fun hpc hd d ρ a w hr Q hQ => ?_⟩⟩
      have hb : (e0.den ε).2 = true := by rw [← under_den hpc e0, hu]; rfl
      exact wp_cond_true (by rw [hce hr, hb]) ((a2 hobs).2 hpc hd d ρ a w hr Q hQ)
     ·rename_i hu
      obtain ⟨a1, a2⟩ := ihC _ _ _ _ _ _ _ _ _ hsp (codeAt_child hwy rfl) h
      refine ⟨a1, fun hobs => ⟨(a2 hobs).1, fun hpc hd d ρ a w hr Q hQ => ?_⟩⟩
      have hb : (e0.den ε).2 = false := by rw [← under_den hpc e0, hu]; rfl
      exact wp_cond_false (by rw [hce hr, hb]) ((a2 hobs).2 hpc hd d ρ a w hr Q hQ)
     ·simp only [fE_eq] at h
      have hund : (pc.den ε).2 = true → ((under pc e0).den ε).2 = (e0.den ε).2 := fun hpc => under_den hpc e0
      generalize under pc e0 = e at h hund
      split at h
      ·rename_i r1 h1
       split at h
       ·rename_i r2 h2
        cases h
        obtain ⟨a1, a2⟩ := ihC _ _ _ _ _ _ _ _ _ hsp (codeAt_child hwy rfl) h1
        obtain ⟨b1, b2⟩ := ihC _ _ _ _ _ _ _ _ _ hsp (codeAt_child hwy rfl) h2
        have key : CodeOk P ε w0 (.cond c x y) pc st nid ⟨.node e r1.tr r2.tr, r2.nv, r2.nid, r1.obs ++ r2.obs⟩ := by
         refine ⟨by dsimp only; omega, fun hobs => ?_⟩
         obtain ⟨a2, a3⟩ := a2 fun ob hb => hobs ob (List.mem_append_left _ hb)
         obtain ⟨b2, b3⟩ := b2 fun ob hb => hobs ob (List.mem_append_right _ hb)
         refine ⟨fun hd => ?_, fun hpc hd d ρ a w hr Q hQ => ?_⟩
         ·simp only [Tr.sel]
          split
          ·exact (a2 hd).mono b1
          ·exact b2 (hd.mono a1)
         ·have hce := hce hr
          rw [← hund hpc] at hce
          simp only [Tr.sel] at hQ
          cases hcd : (e.den ε).2
          ·rw [hcd] at hce
           simp only [hcd, Bool.false_eq_true, if_false] at hQ
           exact wp_cond_false hce (b3 (pc_f hcd hpc) (hd.mono a1) d ρ a w hr Q fun ρ' a' w' h1 h2 => hQ ρ' a' w' h1 ⟨fun b hb => h2.agree b (by omega), h2.ext, h2.sub, h2.fresh, fun b hb hs => h2.keep b (by omega) hs⟩)
          ·rw [hcd] at hce
           simp only [hcd, if_true] at hQ
           exact wp_cond_true hce (a3 (pc_t hcd hpc) hd d ρ a w hr Q hQ)
        exact key.norm nm .normal
       ·cases h
      ·cases h
    ·cases h
   ·-- block
    rename_i id body
    obtain ⟨r1, h1, rfl⟩ := Option.map_eq_some_iff.1 h
    obtain ⟨a1, a2⟩ := ihC _ _ _ _ _ _ _ _ _ hsp (codeAt_child hwy rfl) h1
    have key : CodeOk P ε w0 (.block id body) pc st nid { r1 with tr := unExit id r1.tr } := by
     refine ⟨a1, fun hobs => ⟨fun hd => by dsimp only; rw [unExit_sel]; exact (a2 hobs).1 hd, fun hpc hd d ρ a w hr Q hQ => wp_block ((a2 hobs).2 hpc hd d ρ a w hr _ fun ρ' a' w' h1 h2 => ?_)⟩⟩
     dsimp only at hQ
     rw [unExit_sel] at hQ
     have := hQ ρ' a' w' h1 h2
     cases hk : (r1.tr.sel ε).1 with
     | normal => rw [hk] at this; exact this
     | ret => rw [hk] at this; exact this
     | exit i =>
      rw [hk] at this
      dsimp only at this
      simp only [Ex.to, Exit.inBlock]
      by_cases hi : i = id
      ·rw [if_pos hi] at this; rw [if_pos hi]; exact this
      ·rw [if_neg hi] at this; rw [if_neg hi]; exact this
    exact key.norm nm .normal
   ·-- loop
    split at h
    ·rename_i s ins tr hlp
     simp only [fLVs_eq, fTr_eq] at h
     split at h
     ·rename_i hdom
      cases h
      refine ⟨Nat.le_refl _, fun hobs => ⟨fun _ => domT_sel hdom, fun hpc hd d ρ a w hr Q hQ => wp_loop_of ?_⟩⟩
      have ho := hobs _ (List.mem_singleton.2 rfl)
      exact ho _ hwy hpc hd d ρ a w hr Q hQ
     ·cases h
    ·obtain ⟨a1, a2⟩ := ihL _ _ _ _ _ _ _ _ _ hsp (codeAt_child hwy rfl) h
     exact ⟨a1, fun hobs => ⟨(a2 hobs).1, fun hpc hd d ρ a w hr Q hQ => wp_loop_of ((a2 hobs).2 hpc hd d ρ a w hr Q hQ)⟩⟩
   ·cases h
    exact ⟨Nat.le_refl _, fun _ => ⟨id, fun _ _ d ρ a w hr Q hQ => wp_exit (hQ ρ a w hr (Aft.refl _ _ _ _))⟩⟩
   ·cases h
    exact ⟨Nat.le_refl _, fun _ => ⟨id, fun _ _ d ρ a w hr Q hQ => wp_ret (hQ ρ a w hr (Aft.refl _ _ _ _))⟩⟩
   ·-- scope
    obtain ⟨a1, a2⟩ := ihC _ _ _ _ _ _ _ _ _ hsp (codeAt_child hwy rfl) h
    refine ⟨a1, fun hobs => ⟨(a2 hobs).1, fun hpc hd d ρ a w hr Q hQ => wp_scope_straight ((a2 hobs).2 hpc hd d ρ a w hr _ fun ρ' a' w' h1 h2 => ?_)⟩⟩
    have := hQ ρ' a' w' h1 h2
    cases hk : (r.tr.sel ε).1 with
    | normal => rw [hk] at this; exact this
    | ret => rw [hk] at this; exact this
    | exit i => rw [hk] at this; exact this
   ·cases h
  ·-- loop
   unfold evLoop at h
   split at h
   ·rename_i r1 h1
    split at h
    ·rename_i q hq
     cases h
     obtain ⟨a1, a2⟩ := ihC _ _ _ _ _ _ _ _ _ hsp hwy h1
     have hf : ∀ pc s nv nid r, (fun pc s nv nid => evLoop P K n nm sp wy c pc s nv nid) pc s nv nid = some r → nid ≤ r.nid := fun pc s nv nid r h => (ihL _ _ _ _ _ _ _ _ _ hsp hwy h).1
     obtain ⟨b1, b2, b3⟩ := behind_spec (ε := ε) hf hq
     refine ⟨by dsimp only; omega, fun hobs => ?_⟩
     obtain ⟨a2, a3⟩ := a2 fun ob hb => hobs ob (List.mem_append_left _ hb)
     refine ⟨fun hd => ?_, fun hpc hd d ρ a w hr Q hQ => ?_⟩
     ·dsimp only
      by_cases hk : (r1.tr.sel ε).1 = .normal
      ·obtain ⟨pc', nv', nid', r, e1, e2, e3, e4, e5, e6⟩ := b3 hk
       rw [e2]
       exact (((ihL _ _ _ _ _ _ _ _ _ hsp hwy e1).2 fun ob hb => hobs ob (List.mem_append_right _ (e4 ob hb))).1 ((a2 hd).mono e5)).mono e6
      ·rw [b2 hk]; exact (a2 hd).mono b1
     ·refine loop_round (a3 hpc hd d ρ a w hr _ fun ρ1 a1' w1 hr1 ha1 => ?_)
      dsimp only at hQ
      by_cases hk : (r1.tr.sel ε).1 = .normal
      ·obtain ⟨pc', nv', nid', r, e1, e2, e3, e4, e5, e6⟩ := b3 hk
       rw [hk]
       have hd1 := (a2 hd).mono e5
       refine ((ihL _ _ _ _ _ _ _ _ _ hsp hwy e1).2 fun ob hb => hobs ob (List.mem_append_right _ (e4 ob hb))).2 (e3 hpc) hd1 d ρ1 a1' w1 hr1 Q fun ρ2 a2' w2 hr2 ha2 => ?_
       rw [← e2] at hr2 ha2 ⊢
       exact hQ ρ2 a2' w2 hr2 (ha1.trans hd hd1 (by omega) ha2)
      ·rw [b2 hk] at hQ
       have := hQ ρ1 a1' w1 hr1 ha1
       cases hkk : (r1.tr.sel ε).1 with
       | normal => exact absurd hkk hk
       | exit i => rw [hkk] at this; exact this
       | ret => rw [hkk] at this; exact this
    ·cases h
   ·cases h
  ·-- function
   unfold evFn at h
   split at h
   ·cases h
   ·rename_i fn hfn
    split at h
    ·cases h
    ·rename_i c hc
     split at h
     ·cases h
     ·rename_i r hr
      obtain ⟨a1, a2⟩ := ihC _ _ _ _ _ _ _ _ _ hsp (show codeAt P [f] = some c by simp [codeAt, hfn, hc]) hr
      split at h
      ·rename_i s hs
       intro hobs hpc hdom hargs w ρ hw hblk hinj
       have n1 := norm_spec ε .ret (toRet r.tr)
       rw [hs] at n1
       rw [toRet_sel] at n1
       simp only [Tr.sel] at n1
       obtain ⟨n1, n2⟩ := n1
       have fin : ∀ vs, resultsOf P s fn.results.toList = some vs → (∀ ob ∈ r.obs, ob.ok P ε w0) →
         Calls P f (args.map (LV.den ε ρ)).toArray w (fun e w' => ∃ ρ', e = .returned (if h : (vs.map (V1.den ε ρ')).toArray.size = 1 then (vs.map (V1.den ε ρ')).toArray[0] else .tuple (vs.map (V1.den ε ρ')).toArray) ∧ (∀ b, b < nid → ρ' b = ρ b) ∧ (∀ b cs, s.at b = some cs → Blk ε ρ' w0.heap.size w' b cs) ∧
          (∀ b b', (s.at b).isSome = true → (s.at b').isSome = true → ρ' b = ρ' b' → b = b') ∧ (∀ b, (s.at b).isSome = true → (mem.lookup b).isSome = true ∨ w.heap.size ≤ ρ' b ∨ ∃ k, k ∈ s.wr ∧ (mem.lookup k).isSome = true ∧ s.at k = none ∧ ρ k = ρ' b) ∧
          Ext w w' (fun x => ∃ b, b ∈ s.wr ∧ (mem.lookup b).isSome = true ∧ ρ b = x)) := by
        intro vs hvs hobs'
        refine calls_of_wp hfn hc ((a2 hobs').2 hpc (fun b hb => hdom b (at_some hb)) [] ρ _ w ⟨?_, rfl, ?_, fun b cs hb => hblk b cs (at_look hb).1, fun b b' hb hb' => hinj b b' (at_some hb) (at_some hb'), hw⟩ _ fun ρ' a' w' h1 h2 => ?_)
        ·simp
        ·intro t
         refine .inr ?_
         unfold St.look
         simp only [Array.getD_eq_getD_getElem?, List.getD_eq_getElem?_getD]
         rw [Array.getElem?_append]
         simp only [List.size_toArray, List.length_map]
         by_cases ht : t < args.length
         ·rw [if_pos ht, List.getElem?_append_left ht]
          simp [List.getElem?_eq_getElem ht]
         ·rw [if_neg ht, List.getElem?_append_right (by omega)]
          rw [Array.getElem?_replicate, List.getElem?_replicate]
          split <;> rfl
        ·have h3 := h1.weak n2
         have h4 := h2.weak n2
         have hbp : bodyPost P fn (fun e w' => ∃ ρ', e = .returned (if h : (vs.map (V1.den ε ρ')).toArray.size = 1 then (vs.map (V1.den ε ρ')).toArray[0] else .tuple (vs.map (V1.den ε ρ')).toArray) ∧ (∀ b, b < nid → ρ' b = ρ b) ∧ (∀ b cs, s.at b = some cs → Blk ε ρ' w0.heap.size w' b cs) ∧
           (∀ b b', (s.at b).isSome = true → (s.at b').isSome = true → ρ' b = ρ' b' → b = b') ∧ (∀ b, (s.at b).isSome = true → (mem.lookup b).isSome = true ∨ w.heap.size ≤ ρ' b ∨ ∃ k, k ∈ s.wr ∧ (mem.lookup k).isSome = true ∧ s.at k = none ∧ ρ k = ρ' b) ∧
           Ext w w' (fun x => ∃ b, b ∈ s.wr ∧ (mem.lookup b).isSome = true ∧ ρ b = x)) .ret a' w' := by
          refine ⟨h3.defers, _, ?_, ρ', rfl, h4.agree, h3.blocks, h3.inj, fun b hb => (h4.fresh b hb).imp (fun h => at_some h) fun h => h.imp id fun ⟨k, k1, k2, k3, k4⟩ => ⟨k, k1, at_some k2, k3, k4⟩, h4.ext.mono fun x _ ⟨b, hb1, hb2, hb3⟩ => ⟨b, hb1, at_some hb2, hb3⟩⟩
          have hm := resultsOf_spec h3 hvs
          have hm2 : (fn.results.mapM (resVar a'.tmps)).run P w' = .ok (vs.map (V1.den ε ρ')).toArray w' := by
           rw [← Array.toList_mapM] at hm
           simp only [Sem.run_map] at hm
           generalize (fn.results.mapM (resVar a'.tmps)).run P w' = rr at hm ⊢
           cases rr with
           | ok x w2 =>
            simp only [Result.andThen, Result.ok.injEq] at hm
            obtain ⟨hm1, rfl⟩ := hm
            rw [← hm1]
           | halt x w2 => simp only [Result.andThen] at hm; cases hm
          rw [results_eq]
          simp only [Sem.run_bind, hm2, Result.andThen, Sem.run_pure]
         cases hk : (r.tr.sel ε).1 with
         | normal => exact hbp
         | ret => exact hbp
         | exit i => rw [hk] at n1; cases n1
       split at h
       ·rename_i x hvs
        cases h
        refine (fin _ hvs hobs).mono fun e w' ⟨ρ', e1, e2⟩ => ⟨ρ', by rw [e1]; simp [LV.den], e2⟩
       ·rename_i vs hne hvs
        cases h
        refine (fin _ hvs hobs).mono fun e w' ⟨ρ', e1, e2⟩ => ⟨ρ', ?_, e2⟩
        rw [e1]
        have : ¬ (vs.map (V1.den ε ρ')).toArray.size = 1 := fun h1 => by
         simp at h1
         obtain ⟨x, hx⟩ := List.length_eq_one_iff.1 h1
         exact hne x hx
        rw [dif_neg this]
        rfl
       ·cases h
      ·cases h
  ·-- calls
   unfold evSub at h
   simp only [fNs_eq, fM_eq, fLV_eq] at h
   have hbs := reach_some (mem := mem) 100 (args.flatMap LV.ids) [] (by simp)
   generalize reach mem 100 (args.flatMap LV.ids) [] = bs at h hbs
   split at h
   ·split at h
    ·cases h
    ·rename_i hsp'
     have hsp2 : 0 < sp / 1048576 := Nat.pos_of_ne_zero fun e => hsp' (by rw [e]; rfl)
     split at h
     ·cases h
     ·rename_i v s nv' obs hev
      have hall := reach_some (mem := s.at) 100 (v.ids ++ (bs.filter s.wr.contains).flatMap fun b => Cells.ids ((s.at b).getD [])) [] (by simp)
      generalize reach s.at 100 (v.ids ++ (bs.filter s.wr.contains).flatMap fun b => Cells.ids ((s.at b).getD [])) [] = rs at h hall
      generalize hold : bs.filter s.wr.contains = old at h
      generalize hnew : (rs.filter fun b => !bs.contains b) = new at h
      split at h
      ·rename_i hc
       simp only [Bool.and_eq_true, List.all_eq_true, decide_eq_true_eq, beq_iff_eq] at hc
       obtain ⟨⟨⟨⟨c1, c2⟩, c3⟩, c4⟩, c5⟩ := hc
       have hupd : ∀ u, u ∈ (old.map fun b => (b, (s.at b).getD [])) ++ (new.filterMap fun b => (s.at b).map fun c => (b, c)) ↔ (u.1 ∈ old ∧ u.2 = (s.at u.1).getD []) ∨ (u.1 ∈ new ∧ s.at u.1 = some u.2) := fun u => by
        rw [List.mem_append, mem_fM, List.mem_map]
        constructor
        ·rintro (⟨b, hb, rfl⟩ | h)
         ·exact .inl ⟨hb, rfl⟩
         ·exact .inr h
        ·rintro (⟨h1, h2⟩ | h)
         ·exact .inl ⟨u.1, h1, by rw [← h2]⟩
         ·exact .inr h
       have hlkUpd : ∀ b, b ∈ old → ((old.map fun b => (b, (s.at b).getD [])) ++ (new.filterMap fun b => (s.at b).map fun c => (b, c))).lookup b = some ((s.at b).getD []) := fun b hb => by
        rw [lookup_append]
        have : ∀ l : List Nat, b ∈ l → (l.map fun b => (b, (s.at b).getD [])).lookup b = some ((s.at b).getD []) := by
         intro l
         induction l with
         | nil => intro h; cases h
         | cons x l ih =>
          intro h
          simp only [List.map_cons, List.lookup]
          split
          ·rename_i hx; rw [eq_of_beq hx]
          ·rename_i hx
           rcases List.mem_cons.1 h with rfl | h
           ·simp at hx
           ·exact ih h
        rw [this old hb]
       generalize hup : (old.map fun b => (b, (s.at b).getD [])) ++ (new.filterMap fun b => (s.at b).map fun c => (b, c)) = upd at h c5 hupd hlkUpd
       have hlk : ∀ b, (bs.filterMap fun b => (mem b).map fun c => (b, c)).lookup b = if b ∈ bs then mem b else none := fun b => lookup_filterMap b bs
       have hinS : ∀ b, ((bs.filterMap fun b => (mem b).map fun c => (b, c)).lookup b).isSome = true → b ∈ bs := fun b hb => by
        rw [hlk] at hb
        split at hb
        ·assumption
        ·cases hb
       have old_in : ∀ b ∈ old, b ∈ bs := fun b hb => by rw [← hold] at hb; exact (List.mem_filter.1 hb).1
       have new_out : ∀ b ∈ new, b ∉ bs := fun b hb hb' => by
        rw [← hnew] at hb
        have := (List.mem_filter.1 hb).2
        simp only [Bool.not_eq_true'] at this
        rw [List.contains_iff_mem.2 hb'] at this
        cases this
       have new_NW : ∀ b ∈ new, NW id sp b := fun b hb => by
        have := c2 b hb
        simpa [NW] using this
       have old_NW : ∀ b ∈ bs, ¬ NW id sp b := fun b hb e => by
        have := c1 b hb; obtain ⟨e1, _⟩ := e; omega
       have updIn : ∀ u ∈ upd, NW id sp u.1 ∨ (u.1 ∈ bs ∧ (mem u.1).isSome = true) := fun u hu => by
        rcases (hupd u).1 hu with h | h
        ·exact .inr ⟨old_in _ h.1, hbs _ (old_in _ h.1)⟩
        ·exact .inl (new_NW _ h.1)
       have allIds : ∀ b, b < id + sp → b < id ∨ NW id sp b := fun b hb => by
        rcases Nat.lt_or_ge b id with h | h
        ·exact .inl h
        ·exact .inr ⟨h, hb⟩
       have main : (∀ ob ∈ obs, ob.ok P ε w0) → ∀ (w : World) (ρ : Nat → Nat), Below w0.heap.size w0 w → (∀ b ∈ bs, ∀ cs, mem b = some cs → Blk ε ρ w0.heap.size w b cs) →
         (∀ b ∈ bs, ∀ b' ∈ bs, (mem b).isSome = true → (mem b').isSome = true → ρ b = ρ b' → b = b') →
         Calls P f (args.map (LV.den ε ρ)).toArray w (fun e w' => ∃ vv, e = .returned vv ∧ Out1 ε ρ w0.heap.size id sp w v upd vv w') := by
        intro hobs w ρ hw hblk hinj
        refine (ihF _ _ _ _ _ _ _ _ _ _ _ hsp2 hev hobs hpc (fun b hb => c1 b (hinS b hb)) hargs w ρ hw (fun b cs hb => ?_) (fun b b' hb hb' => ?_)).mono fun e w' => ?_
        ·obtain ⟨h1, h2⟩ := lookup_fM hb
         exact hblk b h1 cs h2
        ·exact hinj b (hinS b hb) b' (hinS b' hb') (hbs _ (hinS b hb)) (hbs _ (hinS b' hb'))
        ·rintro ⟨ρ', e1, e2, e3, e4, e5, e6⟩
         have hr : ∀ b, b < id ∨ NW id sp b → (fun b => if id ≤ b ∧ b < id + sp then ρ' b else ρ b) b = ρ' b := fun b hb => by
          dsimp only
          split
          ·rfl
          ·rename_i hn
           rcases hb with h | h
           ·exact (e2 b h).symm
           ·exact absurd h hn
         refine ⟨_, e1, fun b => if id ≤ b ∧ b < id + sp then ρ' b else ρ b, fun b hb => if_neg hb, ?_, fun u hu => ?_, fun u hu hn => ?_, fun u hu u' hu' hn hn' he => ?_, e6.mono ?_⟩
         ·exact LV.den_congr fun b hb => (hr b (allIds b (c4 b hb))).symm
         ·have hB : Blk ε ρ' w0.heap.size w' u.1 u.2 := by
           rcases (hupd u).1 hu with ⟨h1, h2⟩ | ⟨h1, h2⟩
           ·cases hs : s.at u.1 with
            | some c => rw [hs] at h2; rw [h2]; exact e3 _ _ hs
            | none =>
             rw [hs] at h2
             rw [h2]
             have hb1 := old_in _ h1
             obtain ⟨c, hc⟩ := Option.isSome_iff_exists.1 (hbs _ hb1)
             have := hblk _ hb1 c hc
             have er := e2 _ (c1 _ hb1)
             exact ⟨by rw [er]; exact this.1, by rw [er]; exact Nat.lt_of_lt_of_le this.2.1 e6.size, fun j c hj => by simp at hj⟩
           ·exact e3 _ _ h2
          refine hB.congr (hr _ ?_).symm fun k hk => (hr k ?_).symm
          ·rcases updIn u hu with h | h
           ·exact .inr h
           ·exact .inl (c1 _ h.1)
          ·exact allIds k (c5 u hu k hk)
         ·rw [hr _ (.inr hn)]
          rcases (hupd u).1 hu with ⟨h1, h2⟩ | ⟨h1, h2⟩
          ·exact absurd hn (old_NW _ (old_in _ h1))
          ·rcases e5 u.1 (by rw [h2]; rfl) with h | h | ⟨k, k1, k2, k3, k4⟩
           ·exact absurd hn (old_NW _ (hinS _ h))
           ·exact .inl h
           ·have hkb := hinS _ k2
            have hko : k ∈ old := by rw [← hold]; exact List.mem_filter.2 ⟨hkb, List.contains_iff_mem.2 k1⟩
            exact .inr ⟨k, old_NW k hkb, by rw [hlkUpd k hko, k3]; rfl, k4⟩
         ·rw [hr _ (.inr hn), hr _ (.inr hn')] at he
          have inNew : ∀ u ∈ upd, NW id sp u.1 → s.at u.1 = some u.2 := fun u hu hn => by
           rcases (hupd u).1 hu with ⟨h1, h2⟩ | ⟨h1, h2⟩
           ·exact absurd hn (old_NW _ (old_in _ h1))
           ·exact h2
          exact e4 _ _ (by rw [inNew u hu hn]; rfl) (by rw [inNew u' hu' hn']; rfl) he
         ·rintro x hx ⟨b, hb, hb', rfl⟩
          have hbb := hinS b hb'
          have ho : b ∈ old := by rw [← hold]; exact List.mem_filter.2 ⟨hbb, List.contains_iff_mem.2 hb⟩
          exact ⟨(b, (s.at b).getD []), (hupd _).2 (.inl ⟨ho, rfl⟩), old_NW b hbb, rfl⟩
       split at h
       ·-- with names
        cases h
        dsimp only at hobs ⊢
        have nmU := nameM_mem (ε := ε) (o := errOf v upd) (m := upd) fun ob hb => (hobs ob (List.mem_append_right _ hb)).nm
        have nmV := fun ρ => (nameLV_den (ε := ε) (ρ := ρ) (o := errOf v upd) (x := v) fun ob hb => (hobs ob (List.mem_append_left _ (List.mem_append_right _ hb))).nm).1
        refine ⟨fun u hu => ?_, fun w ρ hw hblk hinj => ?_⟩
        ·obtain ⟨c, h1, _⟩ := nmU u hu
         exact updIn (u.1, c) h1
        ·refine (main (fun ob hb => hobs ob (List.mem_append_left _ (List.mem_append_left _ hb))) w ρ hw hblk hinj).mono fun e w' => ?_
         rintro ⟨vv, e1, ρ', f1, f2, f3, f4, f5, f6⟩
         refine ⟨vv, e1, ρ', f1, by rw [nmV]; exact f2, fun u hu => ?_, fun u hu hn => ?_, fun u hu u' hu' hn hn' he => ?_, f6.mono ?_⟩
         ·obtain ⟨c, h1, h2, _⟩ := nmU u hu
          exact (f3 _ h1).ceq h2
         ·obtain ⟨c, h1, _⟩ := nmU u hu
          rcases f4 (u.1, c) h1 hn with h | ⟨k, k1, k2, k3⟩
          ·exact .inl h
          ·exact .inr ⟨k, k1, nameM_nil k2, k3⟩
         ·obtain ⟨c, h1, _⟩ := nmU u hu
          obtain ⟨c', h1', _⟩ := nmU u' hu'
          exact f5 (u.1, c) h1 (u'.1, c') h1' hn hn' he
         ·rintro x hx ⟨u, hu, hn, rfl⟩
          have : u.1 ∈ (nameM (errOf v upd) upd).1.map (·.1) := by rw [nameM_keys]; exact List.mem_map.2 ⟨u, hu, rfl⟩
          obtain ⟨u', hu', he⟩ := List.mem_map.1 this
          exact ⟨u', hu', by rw [he]; exact hn, by rw [he]⟩
       ·cases h
        exact ⟨updIn, main hobs⟩
      ·cases h
   ·split at h
    ·rename_i hc
     simp only [Bool.and_eq_true, List.all_eq_true, decide_eq_true_eq] at hc
     obtain ⟨c1, c2⟩ := hc
     split at h
     ·rename_i v upd hv
      split at h
      ·rename_i hu
       simp only [Bool.and_eq_true, List.all_eq_true] at hu
       cases h
       dsimp only at hobs ⊢
       have hob := hobs _ (List.mem_singleton.2 rfl) rfl
       have inBs : ∀ u ∈ upd, u.1 ∈ bs := fun u h => List.contains_iff_mem.1 (hu.2 u h)
       have notNW : ∀ u ∈ upd, ¬ NW id sp u.1 := fun u h e => by
        have := c1 _ (inBs u h); obtain ⟨e1, _⟩ := e; omega
       refine ⟨fun u h => .inr ⟨inBs u h, hbs _ (inBs u h)⟩, fun w ρ hw hblk hinj => ?_⟩
       refine (hob w ρ hw (fun b cs hb => ?_) (fun b b' hb hb' => ?_)).mono fun e w' ⟨e1, e2, e3⟩ => ⟨_, e1, ρ, fun _ _ => rfl, (underLV_den hpc v).symm, e2, fun u hu hn => absurd hn (notNW u hu), fun u hu _ _ hn => absurd hn (notNW u hu), e3.mono ?_⟩
       ·obtain ⟨h1, h2⟩ := lookup_fM hb
        exact hblk b h1 cs h2
       ·have hin : ∀ b, ((bs.filterMap fun b => (mem b).map fun c => (b, c)).lookup b).isSome = true → b ∈ bs := fun b hb => by
         rw [lookup_filterMap] at hb
         split at hb
         ·assumption
         ·cases hb
        exact hinj b (hin b hb) b' (hin b' hb') (hbs _ (hin b hb)) (hbs _ (hin b' hb'))
       ·rintro x hx ⟨u, hu, rfl⟩
        exact ⟨u, hu, notNW u hu, rfl⟩
      ·cases h
     ·cases h
    ·cases h
end SX
end
section
namespace SX
open Go.RowKit
variable {P : Program}
theorem reads4 (hmix : P.follows .mixedOrders = true) {K : Cfg} {n sp : Nat} (hsp : 0 < sp) {f : FuncId} {args : List LV} {nv nid : Nat} {v : LV} {s : St} {nv' : Nat} {obs : List Ob}
  (h : evFn P K n sp f args [] (.blit true) nv nid = some (v, s, nv', obs)) (ha : noIds args = true) (hv : v.ids.isEmpty = true) (ε : Env) (w : World) (hobs : ∀ ob ∈ obs, ob.ok P ε w) :
  Calls P f (args.map (LV.den ε fun _ => 0)).toArray w (fun e w' => e = .returned (v.den ε fun _ => 0) ∧ Below w.heap.size w w') := by
 have := (sound (ε := ε) hmix K w n).2.2.1 _ _ _ _ _ _ _ _ _ _ _ hsp h hobs rfl (by simp) (fun x hx e => by
  have := List.all_eq_true.1 ha x hx
  subst e; simp at this) w (fun _ => 0) (Below.refl _ _) (by simp) (by simp)
 refine this.mono fun e w' ⟨ρ', h1, h2, h3, _, _, h4⟩ => ⟨?_, ⟨h4.os, h4.tape, h4.output, h4.size, fun k hk => h4.block k hk (by simp)⟩⟩
 rw [h1]
 congr 1
 exact LV.den_congr fun b hb => by rw [List.isEmpty_iff.1 hv] at hb; cases hb
def SV.ints (ε : Env) : SV → List Int
 | .a (.int _ e) => [(e.den ε).1]
 | .a (.bool e) => [if (e.den ε).2 then 1 else 0]
 | .a (.fsl i) => [(i : Int)]
 | .a (.str i) => [(i : Int)]
 | _ => []
def cellsInts (ε : Env) (l : Cells) : List Int := l.flatMap fun | some s => s.ints ε | none => []
def argInts (ε : Env) (mem : List (Nat × Cells)) : LV → List Int
 | .v (.s (.a (.sl b off _ _))) => cellsInts ε (((mem.lookup b).getD []).drop off)
 | .v x => x.cells.flatMap (SV.ints ε)
 | _ => []
structure Sig where
 sym : FuncId → Option (Nat × Nat)
 val : Nat → List Int → Nat → Int
def callArgs (z : Nat) (args : List LV) (mem : List (Nat × Cells)) : List LV := if z == 3 then match args with
 | .v (.s (.a (.ptr b 0))) :: rest => match mem.lookup b with
  | some [some (.a (.int k e))] => .v (.s (.a (.int k e))) :: rest
  | _ => args
 | _ => args
 else args
def Env.setC (ε : Env) (base : Nat) (g : Nat → Int) : Env :=
 { ε with i := fun j => if j / 32 = base then g (j % 32) else ε.i j, b := fun j => if j / 32 = base then decide (g (j % 32) ≠ 0) else ε.b j }
def callNo (S : Sig) (f : FuncId) (args : List LV) (mem : List (Nat × Cells)) : Option (Nat × Nat × List LV) := match S.sym f with
 | some (s, z) => some (callBase s (callArgs z args mem) mem / 32, s, callArgs z args mem)
 | none => none
def Ob.sat (S : Sig) (ε : Env) : Ob → Prop
 | .eq v e => (e.den ε).1 = ε.i v
 | .eqb v e => (e.den ε).2 = ε.b v
 | .call _ f args mem _ _ => ∀ base s l, callNo S f args mem = some (base, s, l) → ∀ j, j < 32 → ε.i (base * 32 + j) = S.val s (l.flatMap (argInts ε mem)) j ∧ ε.b (base * 32 + j) = decide (S.val s (l.flatMap (argInts ε mem)) j ≠ 0)
 | .loop s ins _ _ _ _ _ => ∀ j, j < 32 → ε.i (callBase s ins [] / 32 * 32 + j) = S.val s (ins.flatMap (argInts ε [])) j ∧ ε.b (callBase s ins [] / 32 * 32 + j) = decide (S.val s (ins.flatMap (argInts ε [])) j ≠ 0)
 | .req _ _ => True
 | .lst _ _ _ _ => True
def rngE : E → Bool
 | .lit n => -9223372036854775808 ≤ n && n ≤ 9223372036854775807
 | .var _ => true
 | .ar .add .i64 _ _ => true
 | .ar .sub .i64 _ _ => true
 | .ar .mul .i64 _ _ => true
 | .ar .quo .i64 _ _ => true
 | .cv .i64 _ => true
 | .mx x y => rngE x && rngE y
 | .mn x y => rngE x && rngE y
 | .ite _ x y => rngE x && rngE y
 | .el _ _ _ _ => true
 | _ => false
def R64 (n : Int) : Prop := -9223372036854775808 ≤ n ∧ n ≤ 9223372036854775807
theorem wrap_R64 (n : Int) : R64 (IntKind.i64.wrap n) := by
 unfold R64
 rw [IntKind.wrap_i64]
 omega
theorem rngE_spec {ε : Env} (hε : ∀ i, R64 (ε.i i)) : ∀ {e : E}, rngE e = true → R64 (e.den ε).1 := by
 intro e
 induction e with
 | lit n => intro h; simpa [rngE, R64, E.den] using h
 | var i => intro _; exact hε i
 | slen i => intro h; cases h
 | el i m o x hx => intro _; unfold R64; simp only [E.den, clmp]; split <;> omega
 | ar op q x y hx hy => intro h; cases op <;> cases q <;> first | (cases h; done) | exact wrap_R64 _
 | cv q x hx => intro h; cases q <;> first | (cases h; done) | exact wrap_R64 _
 | mx x y hx hy => intro h; simp only [rngE, Bool.and_eq_true] at h; have := hx h.1; have := hy h.2; simp only [E.den]; split <;> assumption
 | mn x y hx hy => intro h; simp only [rngE, Bool.and_eq_true] at h; have := hx h.1; have := hy h.2; simp only [E.den]; split <;> assumption
 | ite c x y hc hx hy => intro h; simp only [rngE, Bool.and_eq_true] at h; have := hx h.1; have := hy h.2; simp only [E.den]; split <;> assumption
 | blit b => intro h; cases h
 | bvar i => intro h; cases h
 | cmp op x y hx hy => intro h; cases h
 | not x hx => intro h; cases h
 | same x y hx hy => intro h; cases h
def rngSV : SV → Bool
 | .a (.int _ e) => rngE e
 | _ => true
def rngOb : Ob → Bool
 | .eq _ e => rngE e
 | .eqb _ _ => true
 | .call _ _ args mem _ _ => args.all (fun x => match x with | .v v => v.cells.all rngSV | _ => false) && mem.all fun u => u.2.all fun c => match c with | some s => rngSV s | none => true
 | .loop _ ins _ _ _ _ _ => ins.all (fun x => match x with | .v v => v.cells.all rngSV | _ => false)
 | .req _ _ => true
 | .lst _ _ _ _ => true
end SX
end
section
namespace SX
open Go.RowKit
variable {P : Program}
def matchSV (p a : SV) (k : Nat) : Bool := match p, a with
 | .a (.int q (.var i)), .a (.int q' _) => i == k && q == q'
 | .a (.fsl i), .a (.fsl j) => i == j
 | _, _ => false
def matchSVs : List SV → List SV → Nat → Bool
 | [], [], _ => true
 | p :: ps, a :: as, k => matchSV p a k && matchSVs ps as (k + 1)
 | _, _, _ => false
def matchLV (p a : LV) (k : Nat) : Bool := match p, a with
 | .v (.agg l), .v (.agg m) => matchSVs l m k
 | .v (.s x), .v (.s y) => matchSV x y k
 | _, _ => false
def sizeLV : LV → Nat
 | .v x => x.cells.length
 | _ => 0
def matchLVs : List LV → List LV → Nat → Bool
 | [], [], _ => true
 | p :: ps, a :: as, k => matchLV p a k && matchLVs ps as (k + sizeLV p)
 | _, _, _ => false
def envL (T : Env) (l : List Int) : Env := { i := fun v => l.getD v 0, b := fun _ => false, sa := T.sa, sn := T.sn, sc := T.sc, st := T.st, el := T.el }
theorem matchSV_ints {p a : SV} {k : Nat} (h : matchSV p a k = true) (ε : Env) : ∃ x, a.ints ε = [x] := by
 unfold matchSV at h
 split at h
 ·exact ⟨_, rfl⟩
 ·exact ⟨_, rfl⟩
 ·cases h
theorem matchSV_den {p a : SV} {k : Nat} (h : matchSV p a k = true) {ε ε' : Env} {ρ ρ' : Nat → Nat} (hs : ε'.sa = ε.sa ∧ ε'.sn = ε.sn ∧ ε'.sc = ε.sc) (hk : ∀ x, a.ints ε = [x] → ε'.i k = x) : p.den ε' ρ' = a.den ε ρ := by
 unfold matchSV at h
 split at h
 ·rename_i q i q' e
  simp only [Bool.and_eq_true, beq_iff_eq] at h
  obtain ⟨rfl, rfl⟩ := h
  simp only [SV.den, AV.den, E.den, hk _ rfl]
 ·simp only [beq_iff_eq] at h
  subst h
  simp only [SV.den, AV.den, hs]
 ·cases h
theorem matchSVs_den {ε ε' : Env} {ρ ρ' : Nat → Nat} (hs : ε'.sa = ε.sa ∧ ε'.sn = ε.sn ∧ ε'.sc = ε.sc) : ∀ {ps as : List SV} {k : Nat} {L : List Int}, matchSVs ps as k = true → (∀ j x, (as.flatMap (SV.ints ε))[j]? = some x → ε'.i (k + j) = x) →
  ps.map (SV.den ε' ρ') = as.map (SV.den ε ρ) ∧ (as.flatMap (SV.ints ε)).length = ps.length
 | [], [], _, _, _, _ => ⟨rfl, rfl⟩
 | p :: ps, a :: as, k, L, h, hk => by
  simp only [matchSVs, Bool.and_eq_true] at h
  obtain ⟨x, hx⟩ := matchSV_ints h.1 ε
  have e1 : p.den ε' ρ' = a.den ε ρ := matchSV_den h.1 hs fun y hy => by
   rw [hx] at hy; cases hy
   have := hk 0 x (by simp [hx])
   simpa using this
  obtain ⟨e2, e3⟩ := matchSVs_den (ρ := ρ) (ρ' := ρ') hs (L := L) h.2 fun j y hj => by
   have := hk (j + 1) y (by simp only [List.flatMap_cons, hx, List.singleton_append, List.getElem?_cons_succ]; exact hj)
   rw [← this]; congr 1; omega
  exact ⟨by simp only [List.map_cons, e1, e2], by simp only [List.flatMap_cons, hx, List.singleton_append, List.length_cons, e3]⟩
 | [], _ :: _, _, _, h, _ => by simp [matchSVs] at h
 | _ :: _, [], _, _, h, _ => by simp [matchSVs] at h
theorem matchLV_den {ε ε' : Env} {ρ ρ' : Nat → Nat} (hs : ε'.sa = ε.sa ∧ ε'.sn = ε.sn ∧ ε'.sc = ε.sc) {p a : LV} {k : Nat} {mem : List (Nat × Cells)} (h : matchLV p a k = true) (hk : ∀ j x, (argInts ε mem a)[j]? = some x → ε'.i (k + j) = x) :
  p.den ε' ρ' = a.den ε ρ ∧ (argInts ε mem a).length = sizeLV p := by
 unfold matchLV at h
 split at h
 ·rename_i l m
  have hk' : ∀ j x, (m.flatMap (SV.ints ε))[j]? = some x → ε'.i (k + j) = x := hk
  obtain ⟨e1, e2⟩ := matchSVs_den (ρ := ρ) (ρ' := ρ') hs (L := []) h hk'
  refine ⟨?_, e2⟩
  simp only [LV.den, V1.den, e1]
 ·rename_i x y
  obtain ⟨n, hn⟩ := matchSV_ints h ε
  have hy : argInts ε mem (.v (.s y)) = y.ints ε := by
   unfold matchSV at h
   split at h
   ·rfl
   ·rfl
   ·cases h
  rw [hy] at hk ⊢
  refine ⟨?_, by rw [hn]; rfl⟩
  simp only [LV.den, V1.den]
  exact matchSV_den h hs fun z hz => by
   have := hk 0 z (by rw [hz]; rfl)
   simpa using this
 ·cases h
theorem matchLVs_den {ε ε' : Env} {ρ ρ' : Nat → Nat} (hs : ε'.sa = ε.sa ∧ ε'.sn = ε.sn ∧ ε'.sc = ε.sc) {mem : List (Nat × Cells)} : ∀ {ps as : List LV} {k : Nat}, matchLVs ps as k = true → (∀ j x, (as.flatMap (argInts ε mem))[j]? = some x → ε'.i (k + j) = x) →
  ps.map (LV.den ε' ρ') = as.map (LV.den ε ρ)
 | [], [], _, _, _ => rfl
 | p :: ps, a :: as, k, h, hk => by
  simp only [matchLVs, Bool.and_eq_true] at h
  have hk1 : ∀ j x, (argInts ε mem a)[j]? = some x → ε'.i (k + j) = x := fun j x hj => hk j x (by
   rw [List.flatMap_cons, List.getElem?_append_left (List.getElem?_eq_some_iff.1 hj).1]; exact hj)
  obtain ⟨e1, e2⟩ := matchLV_den (ρ := ρ) (ρ' := ρ') hs h.1 hk1
  simp only [List.map_cons, e1]
  rw [matchLVs_den (ρ := ρ) (ρ' := ρ') hs (mem := mem) h.2 fun j x hj => by
   have := hk (sizeLV p + j) x (by
    rw [List.flatMap_cons, List.getElem?_append_right (by omega), e2, show sizeLV p + j - sizeLV p = j by omega]; exact hj)
   rw [← this]; congr 1; omega]
 | [], _ :: _, _, h, _ => by simp [matchLVs] at h
 | _ :: _, [], _, h, _ => by simp [matchLVs] at h
def sizeLVs : List LV → Nat
 | [] => 0
 | p :: ps => sizeLV p + sizeLVs ps
theorem matchSVs_len (ε : Env) : ∀ {ps as : List SV} {k : Nat}, matchSVs ps as k = true → (as.flatMap (SV.ints ε)).length = ps.length
 | [], [], _, _ => rfl
 | p :: ps, a :: as, k, h => by
  simp only [matchSVs, Bool.and_eq_true] at h
  obtain ⟨x, hx⟩ := matchSV_ints h.1 ε
  simp only [List.flatMap_cons, hx, List.singleton_append, List.length_cons, matchSVs_len ε h.2]
 | [], _ :: _, _, h => by simp [matchSVs] at h
 | _ :: _, [], _, h => by simp [matchSVs] at h
theorem matchLV_len (ε : Env) {mem : List (Nat × Cells)} {p a : LV} {k : Nat} (h : matchLV p a k = true) : (argInts ε mem a).length = sizeLV p ∧ argInts ε mem a = argInts ε [] a := by
 unfold matchLV at h
 split at h
 ·rename_i l m
  exact ⟨matchSVs_len ε h, rfl⟩
 ·rename_i x y
  obtain ⟨n, hn⟩ := matchSV_ints h ε
  have hy : ∀ mem, argInts ε mem (.v (.s y)) = y.ints ε := fun mem => by
   unfold matchSV at h
   split at h
   ·rfl
   ·rfl
   ·cases h
  rw [hy, hy]
  exact ⟨by rw [hn]; rfl, rfl⟩
 ·cases h
theorem matchLVs_len (ε : Env) {mem : List (Nat × Cells)} : ∀ {ps as : List LV} {k : Nat}, matchLVs ps as k = true → (as.flatMap (argInts ε mem)).length = sizeLVs ps ∧ as.flatMap (argInts ε mem) = as.flatMap (argInts ε [])
 | [], [], _, _ => ⟨rfl, rfl⟩
 | p :: ps, a :: as, k, h => by
  simp only [matchLVs, Bool.and_eq_true] at h
  obtain ⟨e1, e2⟩ := matchLV_len ε (mem := mem) h.1
  obtain ⟨e3, e4⟩ := matchLVs_len ε (mem := mem) h.2
  exact ⟨by simp only [List.flatMap_cons, List.length_append, e1, e3, sizeLVs], by simp only [List.flatMap_cons, e2, e4]⟩
 | [], _ :: _, _, h => by simp [matchLVs] at h
 | _ :: _, [], _, h => by simp [matchLVs] at h
def Con (P : Program) (S : Sig) (shp : FuncId → List LV → List (Nat × Cells) → Bool) (T : Env) (w0 : World) : Prop :=
 ∀ (ε : Env), ε.sa = T.sa → ε.sn = T.sn → ε.sc = T.sc → (∀ i, R64 (ε.i i)) → ∀ w, Below w0.heap.size w0 w → ∀ f args mem res upd, shp f args mem = true → stdRes P S.sym f args mem = some (res, upd) →
  rngOb (.call (.blit true) f args mem res upd) = true → Ob.sat S ε (.call (.blit true) f args mem res upd) → Ob.ok P ε w (.call (.blit true) f args mem res upd)
theorem R64_0 : R64 0 := by unfold R64; omega
theorem envL_R64 {T : Env} {l : List Int} (h : ∀ x ∈ l, R64 x) (i : Nat) : R64 ((envL T l).i i) := by
 show R64 (l.getD i 0)
 rw [List.getD_eq_getElem?_getD]
 cases hi : l[i]? with
 | none => exact R64_0
 | some x => exact h x (List.mem_of_getElem? hi)
theorem base32 (s : Nat) (args : List LV) (mem : List (Nat × Cells)) : callBase s args mem / 32 * 32 = callBase s args mem := by
 unfold callBase; omega
end SX
end
section
namespace SX
open Go.RowKit
variable {P : Program}
def fsl0 : SV → Bool
 | .a (.fsl i) => i == 0
 | _ => true
theorem matchSV_R64 {ε : Env} (hε : ∀ i, R64 (ε.i i)) {p a : SV} {k : Nat} (h : matchSV p a k = true) (hr : rngSV a = true) (hp : fsl0 p = true) : ∀ x ∈ a.ints ε, R64 x := by
 unfold matchSV at h
 split at h
 ·intro x hx
  simp only [SV.ints, List.mem_singleton] at hx
  subst hx
  exact rngE_spec hε hr
 ·simp only [beq_iff_eq] at h
  subst h
  intro x hx
  simp only [fsl0, beq_iff_eq] at hp
  subst hp
  simp only [SV.ints, List.mem_singleton] at hx
  subst hx
  exact R64_0
 ·cases h
theorem matchSVs_R64 {ε : Env} (hε : ∀ i, R64 (ε.i i)) : ∀ {ps as : List SV} {k : Nat}, matchSVs ps as k = true → as.all rngSV = true → ps.all fsl0 = true → ∀ x ∈ as.flatMap (SV.ints ε), R64 x
 | [], [], _, _, _, _, x, hx => by simp at hx
 | p :: ps, a :: as, k, h, hr, hp, x, hx => by
  simp only [matchSVs, Bool.and_eq_true] at h
  simp only [List.all_cons, Bool.and_eq_true] at hr hp
  rw [List.flatMap_cons] at hx
  rcases List.mem_append.1 hx with hx | hx
  ·exact matchSV_R64 hε h.1 hr.1 hp.1 x hx
  ·exact matchSVs_R64 hε h.2 hr.2 hp.2 x hx
 | [], _ :: _, _, h, _, _, _, _ => by simp [matchSVs] at h
 | _ :: _, [], _, h, _, _, _, _ => by simp [matchSVs] at h
def fsl0LV : LV → Bool
 | .v x => x.cells.all fsl0
 | _ => false
def rngLV : LV → Bool := fun x => match x with | .v v => v.cells.all rngSV | _ => false
theorem matchLVs_R64 {ε : Env} (hε : ∀ i, R64 (ε.i i)) : ∀ {ps as : List LV} {k : Nat}, matchLVs ps as k = true → as.all rngLV = true → ps.all fsl0LV = true → ∀ x ∈ as.flatMap (argInts ε []), R64 x
 | [], [], _, _, _, _, x, hx => by simp at hx
 | p :: ps, a :: as, k, h, hr, hp, x, hx => by
  simp only [matchLVs, Bool.and_eq_true] at h
  simp only [List.all_cons, Bool.and_eq_true] at hr hp
  rw [List.flatMap_cons] at hx
  rcases List.mem_append.1 hx with hx1 | hx1
  ·have h1 := h.1
   unfold matchLV at h1
   split at h1
   ·exact matchSVs_R64 hε h1 hr.1 hp.1 x hx1
   ·rename_i y z
    have hz : argInts ε [] (.v (.s z)) = z.ints ε := by
     unfold matchSV at h1
     split at h1
     ·rfl
     ·rfl
     ·cases h1
    rw [hz] at hx1
    have hr1 : rngSV z = true := by have := hr.1; simpa [rngLV, V1.cells] using this
    have hp1 : fsl0 y = true := by have := hp.1; simpa [fsl0LV, V1.cells] using this
    exact matchSV_R64 hε h1 hr1 hp1 x hx1
   ·cases h1
  ·exact matchLVs_R64 hε h.2 hr.2 hp.2 x hx1
 | [], _ :: _, _, h, _, _, _, _ => by simp [matchLVs] at h
 | _ :: _, [], _, h, _, _, _, _ => by simp [matchLVs] at h
theorem rngOb_args {pc : E} {f : FuncId} {args : List LV} {mem : List (Nat × Cells)} {res : LV} {upd : List (Nat × Cells)} (h : rngOb (.call pc f args mem res upd) = true) : args.all rngLV = true := by
 simp only [rngOb, Bool.and_eq_true] at h
 exact h.1
theorem base_common {S : Sig} {pat : List LV} {q s z : Nat} (hz3 : (z == 3) = false) (hs : S.sym q = some (s, z)) {T ε : Env} (ht : ε.sa = T.sa ∧ ε.sn = T.sn ∧ ε.sc = T.sc) {args : List LV} {mem : List (Nat × Cells)} {pc : E} {res : LV} {upd : List (Nat × Cells)} (hm : matchLVs pat args 0 = true)
  (hsat : Ob.sat S ε (.call pc q args mem res upd)) :
  ∃ L, args.flatMap (argInts ε []) = L ∧ L.length = sizeLVs pat ∧ (∀ j, j < 32 → ε.i (callBase s args mem + j) = S.val s L j ∧ ε.b (callBase s args mem + j) = decide (S.val s L j ≠ 0)) ∧ ∀ ρ : Nat → Nat, pat.map (LV.den (envL T L) fun _ => 0) = args.map (LV.den ε ρ) := by
 obtain ⟨l1, l2⟩ := matchLVs_len ε (mem := mem) hm
 refine ⟨_, rfl, by rw [← l2]; exact l1, fun j hj => ?_, fun ρ => ?_⟩
 ·have hcn : callNo S q args mem = some (callBase s args mem / 32, s, args) := by
   unfold callNo
   rw [hs]
   simp only [callArgs, hz3, Bool.false_eq_true, if_false]
  have := hsat _ _ _ hcn j hj
  rw [base32, l2] at this
  exact this
 ·exact matchLVs_den (ε' := envL T (args.flatMap (argInts ε []))) ⟨ht.1.symm, ht.2.1.symm, ht.2.2.symm⟩ (mem := []) hm fun j x hj => by
   show (args.flatMap (argInts ε [])).getD (0 + j) 0 = x
   rw [Nat.zero_add, List.getD_eq_getElem?_getD, hj]; rfl
theorem base_sp {S : Sig} {pat : List LV} {q s : Nat} (hs : S.sym q = some (s, 1)) {fn : Func} (hfn : P.funcs[q]? = some fn)
  (hres : ∀ base, ∃ m, nameRes P fn base = some (.tup [.agg [.a (.int .i64 (.var base)), .a (.int .i64 (.var (base + 1)))], .s (.a (.int .i64 (.var (base + 2))))], m)) {T : Env} {w0 : World}
  (hz : ∀ L, S.val s L 2 ≠ 0 → S.val s L 0 = 0 ∧ S.val s L 1 = 0) (hp : pat.all fsl0LV = true)
  (hC : ∀ L : List Int, (∀ x ∈ L, R64 x) → L.length = sizeLVs pat → ∀ w, Below w0.heap.size w0 w → Calls P q ((pat.map (LV.den (envL T L) fun _ => 0)).toArray) w (fun e w' => e = .returned (.tuple #[.agg #[.int .i64 (S.val s L 0), .int .i64 (S.val s L 1)], .int .i64 (S.val s L 2)]) ∧ Below w.heap.size w w'))
  {ε : Env} (ht : ε.sa = T.sa ∧ ε.sn = T.sn ∧ ε.sc = T.sc) (hε : ∀ i, R64 (ε.i i)) {w : World} (hw : Below w0.heap.size w0 w) {args : List LV} {mem : List (Nat × Cells)} {res : LV} {upd : List (Nat × Cells)} (hm : matchLVs pat args 0 = true) (hr : rngOb (.call (.blit true) q args mem res upd) = true)
  (hstd : stdRes P S.sym q args mem = some (res, upd)) (hsat : Ob.sat S ε (.call (.blit true) q args mem res upd)) : Ob.ok P ε w (.call (.blit true) q args mem res upd) := by
 obtain ⟨L, hL, l1, hv, hden⟩ := base_common rfl hs ht hm hsat
 have hR : ∀ x ∈ L, R64 x := by rw [← hL]; exact matchLVs_R64 hε hm (rngOb_args hr) hp
 obtain ⟨base, hbase⟩ : ∃ base, callBase s args mem = base := ⟨_, rfl⟩
 rw [hbase] at hv
 have hres' : res = .tup [zeroLess1 (.var (base + 2)) (.agg [.a (.int .i64 (.var base)), .a (.int .i64 (.var (base + 1)))]), .s (.a (.int .i64 (.var (base + 2))))] ∧ upd = [] := by
  unfold stdRes at hstd
  rw [hs, hfn] at hstd
  obtain ⟨m, hm⟩ := hres base
  simp [stdVal, hbase, hm, zeroLess1, zeroLess, mkIte] at hstd
  simp [zeroLess1, zeroLess, hstd]
 obtain ⟨rfl, rfl⟩ := hres'
 intro _ w2 ρ hw2 _ _
 have := hC L hR l1 w2 (hw.trans (hw2.mono hw.size))
 rw [hden ρ] at this
 have v0 := (hv 0 (by omega)).1
 have v1 := (hv 1 (by omega)).1
 have v2 := (hv 2 (by omega)).1
 rw [Nat.add_zero] at v0
 refine this.mono fun e w' ⟨h1, h2⟩ => ⟨?_, by simp, Ext.of_below h2 _⟩
 rw [h1]
 congr 1
 show _ = Value.tuple #[.agg #[.int .i64 ((mkIte (mkEq 200 (.var (base + 2)) (.lit 0)) (.var base) (.lit 0)).den ε).1, .int .i64 ((mkIte (mkEq 200 (.var (base + 2)) (.lit 0)) (.var (base + 1)) (.lit 0)).den ε).1], .int .i64 (ε.i (base + 2))]
 simp only [mkIte_den, mkEq_den, E.den, v0, v1, v2, beq_iff_eq]
 by_cases h : S.val s L 2 = 0
 ·simp only [h, if_true]
 ·obtain ⟨k0, k1⟩ := hz L h
  simp only [h, if_false, k0, k1]
theorem base_i {S : Sig} {pat : List LV} {q s : Nat} (hs : S.sym q = some (s, 0)) {fn : Func} (hfn : P.funcs[q]? = some fn)
  (hres : ∀ base, ∃ m, nameRes P fn base = some (.v (.s (.a (.int .i64 (.var base)))), m)) {T : Env} {w0 : World} (hp : pat.all fsl0LV = true)
  (hC : ∀ L : List Int, (∀ x ∈ L, R64 x) → L.length = sizeLVs pat → ∀ w, Below w0.heap.size w0 w → Calls P q ((pat.map (LV.den (envL T L) fun _ => 0)).toArray) w (fun e w' => e = .returned (.int .i64 (S.val s L 0)) ∧ Below w.heap.size w w'))
  {ε : Env} (ht : ε.sa = T.sa ∧ ε.sn = T.sn ∧ ε.sc = T.sc) (hε : ∀ i, R64 (ε.i i)) {w : World} (hw : Below w0.heap.size w0 w) {args : List LV} {mem : List (Nat × Cells)} {res : LV} {upd : List (Nat × Cells)} (hm : matchLVs pat args 0 = true) (hr : rngOb (.call (.blit true) q args mem res upd) = true)
  (hstd : stdRes P S.sym q args mem = some (res, upd)) (hsat : Ob.sat S ε (.call (.blit true) q args mem res upd)) : Ob.ok P ε w (.call (.blit true) q args mem res upd) := by
 obtain ⟨L, hL, l1, hv, hden⟩ := base_common rfl hs ht hm hsat
 have hR : ∀ x ∈ L, R64 x := by rw [← hL]; exact matchLVs_R64 hε hm (rngOb_args hr) hp
 obtain ⟨base, hbase⟩ : ∃ base, callBase s args mem = base := ⟨_, rfl⟩
 rw [hbase] at hv
 have hres' : res = .v (.s (.a (.int .i64 (.var base)))) ∧ upd = [] := by
  unfold stdRes at hstd
  rw [hs, hfn] at hstd
  obtain ⟨m, hm⟩ := hres base
  simp [stdVal, hbase, hm] at hstd
  exact ⟨hstd.1.symm, hstd.2⟩
 obtain ⟨rfl, rfl⟩ := hres'
 intro _ w2 ρ hw2 _ _
 have := hC L hR l1 w2 (hw.trans (hw2.mono hw.size))
 rw [hden ρ] at this
 have v0 := (hv 0 (by omega)).1
 rw [Nat.add_zero] at v0
 refine this.mono fun e w' ⟨h1, h2⟩ => ⟨?_, by simp, Ext.of_below h2 _⟩
 rw [h1, ← v0]; rfl
theorem base_b {S : Sig} {pat : List LV} {q s : Nat} (hs : S.sym q = some (s, 0)) {fn : Func} (hfn : P.funcs[q]? = some fn)
  (hres : ∀ base, ∃ m, nameRes P fn base = some (.v (.s (.a (.bool (.bvar base)))), m)) {T : Env} {w0 : World} (hp : pat.all fsl0LV = true)
  (hC : ∀ L : List Int, (∀ x ∈ L, R64 x) → L.length = sizeLVs pat → ∀ w, Below w0.heap.size w0 w → Calls P q ((pat.map (LV.den (envL T L) fun _ => 0)).toArray) w (fun e w' => e = .returned (.bool (decide (S.val s L 0 ≠ 0))) ∧ Below w.heap.size w w'))
  {ε : Env} (ht : ε.sa = T.sa ∧ ε.sn = T.sn ∧ ε.sc = T.sc) (hε : ∀ i, R64 (ε.i i)) {w : World} (hw : Below w0.heap.size w0 w) {args : List LV} {mem : List (Nat × Cells)} {res : LV} {upd : List (Nat × Cells)} (hm : matchLVs pat args 0 = true) (hr : rngOb (.call (.blit true) q args mem res upd) = true)
  (hstd : stdRes P S.sym q args mem = some (res, upd)) (hsat : Ob.sat S ε (.call (.blit true) q args mem res upd)) : Ob.ok P ε w (.call (.blit true) q args mem res upd) := by
 obtain ⟨L, hL, l1, hv, hden⟩ := base_common rfl hs ht hm hsat
 have hR : ∀ x ∈ L, R64 x := by rw [← hL]; exact matchLVs_R64 hε hm (rngOb_args hr) hp
 obtain ⟨base, hbase⟩ : ∃ base, callBase s args mem = base := ⟨_, rfl⟩
 rw [hbase] at hv
 have hres' : res = .v (.s (.a (.bool (.bvar base)))) ∧ upd = [] := by
  unfold stdRes at hstd
  rw [hs, hfn] at hstd
  obtain ⟨m, hm⟩ := hres base
  simp [stdVal, hbase, hm] at hstd
  exact ⟨hstd.1.symm, hstd.2⟩
 obtain ⟨rfl, rfl⟩ := hres'
 intro _ w2 ρ hw2 _ _
 have := hC L hR l1 w2 (hw.trans (hw2.mono hw.size))
 rw [hden ρ] at this
 have v0 := (hv 0 (by omega)).2
 rw [Nat.add_zero] at v0
 refine this.mono fun e w' ⟨h1, h2⟩ => ⟨?_, by simp, Ext.of_below h2 _⟩
 rw [h1, ← v0]; rfl
end SX
end
section
namespace SX
open Go.RowKit
variable {P : Program}
end SX
end
section
namespace SX
open Go.RowKit
variable {P : Program}
end SX
end
section
namespace SX
open Go.RowKit
variable {P : Program}
theorem CellOk.of2 {ε ε' : Env} {ρ : Nat → Nat} {w : World} {a j : Nat} {x y : Option SV} (h : CellOk ε ρ w a j x) (hr : isRowC x = true ∨ isRowC y = true → x = y) (hd : ∀ s, y = some s → ∃ s', x = some s' ∧ s'.den ε ρ = s.den ε' ρ) : CellOk ε' ρ w a j y := by
 cases hy : isRowC y with
 | true =>
  rw [← hr (.inr hy)]
  have hx : isRowC x = true := by rw [hr (.inr hy)]; exact hy
  unfold CellOk at h ⊢
  split at h
  ·exact h
  ·rename_i hn
   exfalso
   cases x with
   | none => cases hx
   | some s => cases s <;> first | (cases hx; done) | exact hn _ _ rfl
 | false =>
  have hx : isRowC x = false := by
   cases hx : isRowC x with
   | false => rfl
   | true => rw [hr (.inl hx), hy] at hx; cases hx
  obtain ⟨v, e1, e2, e3⟩ := (cell_plain hx).1 h
  refine (cell_plain hy).2 ⟨v, e1, e2, fun s hs => ?_⟩
  obtain ⟨s', h1, h2⟩ := hd s hs
  rw [e3 s' h1, h2]
section
variable {ε ε' : Env} {ρ : Nat → Nat}
end
end SX
end
section
namespace SX
open Go.RowKit
variable {P : Program}
end SX
end
section
namespace SX
open Go.RowKit
variable {P : Program}
end SX
end
section
namespace SX
open Go.RowKit
variable {P : Program}
def freeAV : AV → Bool
 | .int _ (.lit _) => true
 | .bool (.blit _) => true
 | .ptr _ _ => true
 | .nilp => true
 | .sl _ _ _ _ => true
 | .gsl _ _ _ _ _ _ => true
 | .nils => true
 | _ => false
def freeSV : SV → Bool
 | .a x => freeAV x
 | .fn _ fi cap => fi.all freeAV && cap.all freeAV
 | .nilf => true
 | .row _ _ => true
def freeLV : LV → Bool
 | .v x => x.cells.all freeSV
 | .tup l => l.all fun x => x.cells.all freeSV
 | .bad => false
def freeC (c : Cells) : Bool := c.all fun | some s => freeSV s | none => true
theorem freeAV_den {x : AV} (h : freeAV x = true) (ε ε' : Env) (ρ : Nat → Nat) : x.den ε ρ = x.den ε' ρ := by
 cases x with
 | int k e => cases e <;> first | rfl | cases h
 | bool e => cases e <;> first | rfl | cases h
 | _ => first | rfl | cases h
theorem freeSV_den {x : SV} (h : freeSV x = true) (ε ε' : Env) (ρ : Nat → Nat) : x.den ε ρ = x.den ε' ρ := by
 cases x with
 | a x => exact freeAV_den h ε ε' ρ
 | fn f fi cap =>
  simp only [freeSV, Bool.and_eq_true, List.all_eq_true] at h
  simp only [SV.den]
  rw [List.map_congr_left fun x hx => freeAV_den (h.1 x hx) ε ε' ρ, List.map_congr_left fun x hx => freeAV_den (h.2 x hx) ε ε' ρ]
 | nilf => rfl
 | row _ _ => rfl
theorem freeV1_den {x : V1} (h : x.cells.all freeSV = true) (ε ε' : Env) (ρ : Nat → Nat) : x.den ε ρ = x.den ε' ρ := by
 cases x with
 | s x =>
  simp only [V1.cells, List.all_cons, List.all_nil, Bool.and_true] at h
  exact freeSV_den h ε ε' ρ
 | agg l =>
  simp only [V1.cells, List.all_eq_true] at h
  simp only [V1.den]
  rw [List.map_congr_left fun x hx => freeSV_den (h x hx) ε ε' ρ]
theorem freeLV_den {x : LV} (h : freeLV x = true) (ε ε' : Env) (ρ : Nat → Nat) : x.den ε ρ = x.den ε' ρ := by
 cases x with
 | v x => exact freeV1_den h ε ε' ρ
 | tup l =>
  simp only [freeLV, List.all_eq_true] at h
  simp only [LV.den]
  rw [List.map_congr_left fun x hx => freeV1_den (by simpa using h x hx) ε ε' ρ]
 | bad => cases h
theorem freeC_blk {c : Cells} (h : freeC c = true) {ε ε' : Env} {ρ : Nat → Nat} {base b : Nat} {w : World} (hb : Blk ε ρ base w b c) : Blk ε' ρ base w b c := by
 obtain ⟨h1, h2, h3⟩ := hb
 refine ⟨h1, h2, fun j x hj => (h3 j x hj).of2 (fun _ => rfl) fun s hs => ⟨s, hs, ?_⟩⟩
 subst hs
 have := List.all_eq_true.1 h _ (List.mem_of_getElem? hj)
 exact freeSV_den this _ _ _
theorem litInt_ints {s : SV} {n : Int} (h : litInt s = some n) (ε : Env) : s.ints ε = [n] := by
 unfold litInt at h
 split at h
 ·cases h; rfl
 ·cases h; rfl
 ·cases h
theorem litInts_ints : ∀ {l : List SV} {m : List Int}, litInts l = some m → ∀ ε : Env, l.flatMap (SV.ints ε) = m
 | [], m, h, ε => by simp [litInts] at h; subst h; rfl
 | x :: xs, m, h, ε => by
  simp only [litInts] at h
  split at h
  ·rename_i n l h1 h2
   cases h
   simp only [List.flatMap_cons, litInt_ints h1, litInts_ints h2, List.singleton_append]
  ·cases h
theorem litArg_ints {mem : List (Nat × Cells)} {x : LV} {m : List Int} (h : litArg mem x = some m) (hg : ∀ b off len c d o, x ≠ .v (.s (.a (.gsl b off len c d o)))) (ε : Env) : argInts ε mem x = m := by
 have hc : ∀ (l : List SV), cellsInts ε (l.map some) = l.flatMap (SV.ints ε) := by
  intro l
  induction l with
  | nil => rfl
  | cons y l ih =>
   unfold cellsInts at ih ⊢
   simp only [List.map_cons, List.flatMap_cons, ih]
 unfold litArg at h
 split at h
 ·cases h; rfl
 ·rename_i b off len cap
  obtain ⟨l, h1, h2⟩ := Option.bind_eq_some_iff.1 h
  show cellsInts ε (((mem.lookup b).getD []).drop off) = m
  rw [allSome_spec h1, hc]
  exact litInts_ints h2 ε
 ·exact absurd rfl (hg _ _ _ _ _ _)
 ·rename_i v h1 h2 h3
  have hi := litInts_ints h ε
  unfold argInts
  split
  ·rename_i b off len cap he; exact (h2 _ _ _ _ (by simpa using he)).elim
  ·rename_i y hy he; cases he; exact hi
  ·rename_i h4 h5; exact absurd rfl (h5 _)
 ·cases h
def isGsl : LV → Bool
 | .v (.s (.a (.gsl _ _ _ _ _ _))) => true
 | _ => false
theorem litArgs_ints {mem : List (Nat × Cells)} : ∀ {l : List LV} {m : List Int}, litArgs mem l = some m → l.all (fun x => !isGsl x) = true → ∀ ε : Env, l.flatMap (argInts ε mem) = m
 | [], m, h, _, ε => by simp [litArgs] at h; subst h; rfl
 | x :: xs, m, h, hg, ε => by
  simp only [List.all_cons, Bool.and_eq_true] at hg
  simp only [litArgs] at h
  split at h
  ·rename_i l l' h1 h2
   cases h
   rw [List.flatMap_cons, litArg_ints h1 (fun b off len c d o e => by rw [e] at hg; cases hg.1) ε, litArgs_ints h2 hg.2 ε]
  ·cases h
def litVal (z : Nat) (g : Nat → Int) (r : LV) : LV := if z == 0 then numLV g r else match r with
 | .tup vs => match vs.getLast? with
  | some (.s (.a (.int k (.var e)))) => .tup (vs.dropLast.map (numV1 fun v => if g e = 0 then g v else 0) ++ [.s (.a (.int k (.lit (g e))))])
  | _ => .bad
 | _ => .bad
def onlyInts : LV → Bool
 | .tup l => l.all fun x => x.cells.all fun | .a (.int _ (.var _)) => true | _ => false
 | _ => false
def resL (P : Program) (S : Sig) (shp : FuncId → List LV → List (Nat × Cells) → Bool) (f : FuncId) (args : List LV) (mem : List (Nat × Cells)) : Option (LV × List (Nat × Cells)) := match S.sym f, P.funcs[f]?, litArgs mem args with
 | some (s, z), some fn, some l =>
  if (z == 0 || z == 1) && shp f args mem && args.all (fun x => freeLV x && !isGsl x) && mem.all (fun u => freeC u.2) && rngOb (.call (.blit true) f args mem .bad []) then
   match nameRes P fn 0 with
   | some (r, m) => if m ≤ 32 && (z == 0 || onlyInts r) then (if freeLV (litVal z (S.val s l) r) then some (litVal z (S.val s l) r, []) else none) else none
   | none => none
  else none
 | _, _, _ => none
def upSV (b : Nat) : SV → SV
 | .a (.int k (.var v)) => .a (.int k (.var (b + v)))
 | .a (.bool (.bvar v)) => .a (.bool (.bvar (b + v)))
 | .a (.str v) => .a (.str (b + v))
 | .a (.fsl v) => .a (.fsl (b + v))
 | x => x
def upV1 (b : Nat) : V1 → V1
 | .s x => .s (upSV b x)
 | .agg l => .agg (l.map (upSV b))
def upLV (b : Nat) : LV → LV
 | .v x => .v (upV1 b x)
 | .tup l => .tup (l.map (upV1 b))
 | .bad => .bad
def belowSV (n m : Nat) : SV → Prop
 | .a (.int _ (.var v)) => n ≤ v ∧ v < m
 | .a (.bool (.bvar v)) => n ≤ v ∧ v < m
 | .a (.str _) => True
 | .a (.fsl _) => True
 | _ => False
theorem belowSV.mono {n n' m m' : Nat} {x : SV} (h : belowSV n m x) (h1 : n' ≤ n) (h2 : m ≤ m') : belowSV n' m' x := by
 unfold belowSV at *
 split at h <;> first | exact ⟨by omega, by omega⟩ | trivial | exact h.elim
theorem nameCells_up (b : Nat) : ∀ (l : List Value) (n : Nat) (r : List SV) (m : Nat), nameCells l n = some (r, m) → nameCells l (b + n) = some (r.map (upSV b), b + m) ∧ n ≤ m ∧ ∀ x ∈ r, belowSV n m x
 | [], n, r, m, h => by simp [nameCells] at h; obtain ⟨rfl, rfl⟩ := h; simp [nameCells]
 | v :: rest, n, r, m, h => by
  have key : ∀ (x : SV), (nameCells rest (n + 1)).map (fun r => (x :: r.1, r.2)) = some (r, m) → belowSV n (n + 1) x → ∃ r', r = x :: r' ∧ nameCells rest (b + (n + 1)) = some (r'.map (upSV b), b + m) ∧ n ≤ m ∧ ∀ y ∈ r, belowSV n m y := fun x hx hb => by
   obtain ⟨⟨r', m'⟩, h1, h2⟩ := Option.map_eq_some_iff.1 hx
   cases h2
   obtain ⟨e1, e2, e3⟩ := nameCells_up b rest (n + 1) _ _ h1
   refine ⟨r', rfl, e1, by omega, fun y hy => ?_⟩
   rcases List.mem_cons.1 hy with rfl | hy
   ·exact hb.mono (Nat.le_refl _) e2
   ·exact (e3 y hy).mono (by omega) (Nat.le_refl _)
  cases v <;> simp only [nameCells, reduceCtorEq] at h ⊢
  all_goals
   obtain ⟨r', rfl, e1, e2, e3⟩ := key _ h (by first | exact ⟨Nat.le_refl _, Nat.lt_succ_self _⟩ | trivial)
   rw [show b + n + 1 = b + (n + 1) by omega, e1]
   exact ⟨rfl, e2, e3⟩
theorem nameT_up (b : Nat) {t : TypeId} {n : Nat} {r : V1} {m : Nat} (h : nameT P t n = some (r, m)) : nameT P t (b + n) = some (upV1 b r, b + m) ∧ n ≤ m ∧ ∀ x ∈ r.cells, belowSV n m x := by
 unfold nameT at h ⊢
 split at h
 ·rename_i cs hz
  obtain ⟨⟨r', m'⟩, h1, h2⟩ := Option.map_eq_some_iff.1 h
  cases h2
  obtain ⟨e1, e2, e3⟩ := nameCells_up b _ _ _ _ h1
  rw [e1]
  exact ⟨rfl, e2, e3⟩
 ·cases h; exact ⟨rfl, by omega, fun x hx => by rw [List.mem_singleton.1 hx]; exact ⟨Nat.le_refl _, by omega⟩⟩
 ·cases h; exact ⟨rfl, by omega, fun x hx => by rw [List.mem_singleton.1 hx]; exact ⟨Nat.le_refl _, by omega⟩⟩
 ·cases h; exact ⟨rfl, by omega, fun x hx => by rw [List.mem_singleton.1 hx]; trivial⟩
 ·cases h; exact ⟨rfl, by omega, fun x hx => by rw [List.mem_singleton.1 hx]; trivial⟩
 ·cases h
theorem nameTs_up (b : Nat) : ∀ {ts : List TypeId} {n : Nat} {r : List V1} {m : Nat}, nameTs P ts n = some (r, m) → nameTs P ts (b + n) = some (r.map (upV1 b), b + m) ∧ n ≤ m ∧ ∀ y ∈ r, ∀ x ∈ y.cells, belowSV n m x
 | [], n, r, m, h => by simp [nameTs] at h; obtain ⟨rfl, rfl⟩ := h; simp [nameTs]
 | t :: ts, n, r, m, h => by
  simp only [nameTs] at h ⊢
  split at h
  ·rename_i v n' hv
   obtain ⟨⟨r', m'⟩, h1, h2⟩ := Option.map_eq_some_iff.1 h
   cases h2
   obtain ⟨e1, e2, e3⟩ := nameT_up b hv
   obtain ⟨f1, f2, f3⟩ := nameTs_up b h1
   rw [e1]
   dsimp only
   rw [f1]
   refine ⟨rfl, by omega, fun y hy x hx => ?_⟩
   rcases List.mem_cons.1 hy with rfl | hy
   ·exact (e3 x hx).mono (Nat.le_refl _) f2
   ·exact (f3 y hy x hx).mono e2 (Nat.le_refl _)
  ·cases h
def cellsLV : LV → List SV
 | .v x => x.cells
 | .tup l => l.flatMap V1.cells
 | .bad => []
theorem nameRes_up (b : Nat) {fn : Func} {r : LV} {m : Nat} (h : nameRes P fn 0 = some (r, m)) : nameRes P fn b = some (upLV b r, b + m) ∧ r ≠ .bad ∧ ∀ x ∈ cellsLV r, belowSV 0 m x := by
 unfold nameRes at h ⊢
 split at h
 ·rename_i v n hv
  cases h
  obtain ⟨f1, f2, f3⟩ := nameTs_up b hv
  rw [Nat.add_zero] at f1
  rw [f1]
  exact ⟨rfl, by simp, fun x hx => f3 v (by simp) x hx⟩
 ·rename_i vs n hne hv
  cases h
  obtain ⟨f1, f2, f3⟩ := nameTs_up b hv
  rw [Nat.add_zero] at f1
  rw [f1]
  refine ⟨?_, by simp, fun x hx => ?_⟩
  ·cases vs with
   | nil => rfl
   | cons a l => cases l with
    | nil => exact absurd rfl (hne a)
    | cons c l => rfl
  ·obtain ⟨y, hy, hx⟩ := List.mem_flatMap.1 hx
   exact f3 y hy x hx
 ·cases h
theorem num_den {g : Nat → Int} {ε ε' : Env} {b m : Nat} (h1 : ∀ j, j < m → ε.i (b + j) = g j) (h2 : ∀ j, j < m → ε.b (b + j) = decide (g j ≠ 0)) {x : SV} (hx : belowSV 0 m x) (hn : freeSV (numSV g x) = true) (ρ : Nat → Nat) :
  (upSV b x).den ε ρ = (numSV g x).den ε' ρ := by
 unfold belowSV at hx
 split at hx
 ·rename_i k v
  simp only [upSV, numSV, SV.den, AV.den, E.den, h1 v hx.2]
 ·rename_i v
  simp only [upSV, numSV, SV.den, AV.den, E.den, h2 v hx.2]
 ·cases hn
 ·cases hn
 ·exact hx.elim
theorem numV1_den {g : Nat → Int} {ε ε' : Env} {b m : Nat} (h1 : ∀ j, j < m → ε.i (b + j) = g j) (h2 : ∀ j, j < m → ε.b (b + j) = decide (g j ≠ 0)) {x : V1} (hx : ∀ y ∈ x.cells, belowSV 0 m y) (hn : (numV1 g x).cells.all freeSV = true) (ρ : Nat → Nat) :
  (upV1 b x).den ε ρ = (numV1 g x).den ε' ρ := by
 cases x with
 | s x =>
  simp only [numV1, V1.cells, List.all_cons, List.all_nil, Bool.and_true] at hn
  exact num_den h1 h2 (hx x (by simp [V1.cells])) hn ρ
 | agg l =>
  simp only [numV1, V1.cells, List.all_eq_true, List.mem_map, forall_exists_index, and_imp, forall_apply_eq_imp_iff₂] at hn
  simp only [upV1, numV1, V1.den, List.map_map]
  exact congrArg (fun l : List Value => Value.agg l.toArray) (List.map_congr_left fun y hy => num_den h1 h2 (hx y hy) (hn y hy) ρ)
theorem up_last {b : Nat} {vs : List V1} {k : IntKind} {e : Nat} (h : vs.getLast? = some (.s (.a (.int k (.var e))))) : (vs.map (upV1 b)).getLast? = some (.s (.a (.int k (.var (b + e))))) := by
 rw [List.getLast?_map, h]; rfl
theorem zero_den {g : Nat → Int} {ε ε' : Env} {b m e : Nat} (h1 : ∀ j, j < m → ε.i (b + j) = g j) (he : e < m) {x : V1} (hx : ∀ y ∈ x.cells, belowSV 0 m y) (hn : x.cells.all (fun | .a (.int _ (.var _)) => true | _ => false) = true) (ρ : Nat → Nat) :
  (zeroLess1 (.var (b + e)) (upV1 b x)).den ε ρ = (numV1 (fun v => if g e = 0 then g v else 0) x).den ε' ρ := by
 have one : ∀ y : SV, belowSV 0 m y → (match y with | .a (.int _ (.var _)) => true | _ => false) = true → (zeroLess (.var (b + e)) (upSV b y)).den ε ρ = (numSV (fun v => if g e = 0 then g v else 0) y).den ε' ρ := by
  intro y hy hk
  split at hk
  ·rename_i k v
   simp only [upSV, zeroLess, numSV, SV.den, AV.den, mkIte_den, mkEq_den, E.den, h1 e he, h1 v hy.2, beq_iff_eq]
  ·cases hk
 cases x with
 | s x =>
  simp only [V1.cells, List.all_cons, List.all_nil, Bool.and_true] at hn
  exact one x (hx x (by simp [V1.cells])) hn
 | agg l =>
  simp only [V1.cells, List.all_eq_true] at hn
  simp only [upV1, zeroLess1, numV1, V1.den, List.map_map]
  exact congrArg (fun l : List Value => Value.agg l.toArray) (List.map_congr_left fun y hy => one y (hx y hy) (hn y hy))
theorem lit_ok {S : Sig} {shp : FuncId → List LV → List (Nat × Cells) → Bool} {T : Env} {w0 : World} (hS : ∀ s l k, R64 (S.val s l k)) (hc : Con P S shp T w0) {f : FuncId} {args : List LV} {mem : List (Nat × Cells)} {res : LV} {upd : List (Nat × Cells)}
  (h : resL P S shp f args mem = some (res, upd)) {w : World} (hw : Below w0.heap.size w0 w) (ε : Env) : Ob.ok P ε w (.call (.blit true) f args mem res upd) := by
 unfold resL at h
 split at h
 ·rename_i s z fn l hs hfn hl
  split at h
  ·rename_i hcond
   simp only [Bool.and_eq_true, Bool.or_eq_true, beq_iff_eq] at hcond
   obtain ⟨⟨⟨⟨hz, hshp⟩, hargs⟩, hmem⟩, hrng⟩ := hcond
   split at h
   ·rename_i r m hr
    split at h
    ·rename_i hm
     simp only [Bool.and_eq_true, decide_eq_true_eq, Bool.or_eq_true, beq_iff_eq] at hm
     obtain ⟨hm, honly⟩ := hm
     split at h
     ·rename_i hfree
      cases h
      obtain ⟨b, hb⟩ : ∃ b, callBase s args mem = b := ⟨_, rfl⟩
      have hb32 : b / 32 * 32 = b := by rw [← hb]; exact base32 s args mem
      obtain ⟨u1, u2, u3⟩ := nameRes_up b hr
      obtain ⟨εs, hεs⟩ : ∃ εs, εs = ({ i := fun _ => 0, b := fun _ => false, sa := T.sa, sn := T.sn, sc := T.sc, st := T.st, el := T.el } : Env).setC (b / 32) (S.val s l) := ⟨_, rfl⟩
      have i1 : ∀ j, j < 32 → εs.i (b + j) = S.val s l j := fun j hj => by
       rw [hεs]
       have e1 : (b + j) / 32 = b / 32 := by omega
       have e2 : (b + j) % 32 = j := by omega
       simp [Env.setC, e1, e2]
      have i2 : ∀ j, j < 32 → εs.b (b + j) = decide (S.val s l j ≠ 0) := fun j hj => by
       rw [hεs]
       have e1 : (b + j) / 32 = b / 32 := by omega
       have e2 : (b + j) % 32 = j := by omega
       simp [Env.setC, e1, e2]
      have hR : ∀ i, R64 (εs.i i) := fun i => by
       rw [hεs]
       simp only [Env.setC]
       split
       ·exact hS _ _ _
       ·exact R64_0
      have hgs : args.all (fun x => !isGsl x) = true := by
       rw [List.all_eq_true] at hargs ⊢
       exact fun x hx => (by have := hargs x hx; simp only [Bool.and_eq_true] at this; exact this.2)
      have hfr : ∀ x ∈ args, freeLV x = true := fun x hx => by have := List.all_eq_true.1 hargs x hx; simp only [Bool.and_eq_true] at this; exact this.1
      have h3 : (z == 3) = false := by rcases hz with rfl | rfl <;> rfl
      have h4 : (z == 4) = false := by rcases hz with rfl | rfl <;> rfl
      have h2 : (z == 2) = false := by rcases hz with rfl | rfl <;> rfl
      have hno : callNo S f args mem = some (b / 32, s, args) := by
       unfold callNo
       rw [hs]
       simp only [callArgs, h3, Bool.false_eq_true, if_false, hb]
      have hsat : ∀ res', Ob.sat S εs (.call (.blit true) f args mem res' []) := fun res' b' s' l' hcn j hj => by
       rw [hno] at hcn
       cases hcn
       rw [litArgs_ints hl hgs εs, hb32]
       exact ⟨i1 j hj, i2 j hj⟩
      have fin : ∀ res', stdRes P S.sym f args mem = some (res', []) → (∀ ρ, res'.den εs ρ = (litVal z (S.val s l) r).den ε ρ) → Ob.ok P ε w (.call (.blit true) f args mem (litVal z (S.val s l) r) []) := by
       intro res' hstd hden _ w2 ρ hw2 hblk hinj
       have := hc εs (by rw [hεs]; rfl) (by rw [hεs]; rfl) (by rw [hεs]; rfl) hR w hw f args mem res' [] hshp hstd hrng (hsat res') rfl w2 ρ hw2 (fun b cs hbc => freeC_blk (List.all_eq_true.1 hmem _ (lookup_mem hbc)) (hblk b cs hbc)) hinj
       rw [List.map_congr_left fun x hx => freeLV_den (hfr x hx) εs ε ρ] at this
       exact this.mono fun e w' ⟨e1, e2, e3⟩ => ⟨by rw [e1, hden], by simp, e3⟩
      have hcells : ∀ {vs : List V1}, r = .tup vs → ∀ x ∈ vs, ∀ y ∈ x.cells, belowSV 0 m y := fun hrv x hx y hy => u3 y (by rw [hrv]; exact List.mem_flatMap.2 ⟨x, hx, hy⟩)
      have j1 : ∀ j, j < m → εs.i (b + j) = S.val s l j := fun j hj => i1 j (by omega)
      have j2 : ∀ j, j < m → εs.b (b + j) = decide (S.val s l j ≠ 0) := fun j hj => i2 j (by omega)
      rcases hz with rfl | rfl
      ·refine fin (upLV b r) ?_ fun ρ => ?_
       ·unfold stdRes
        rw [hs, hfn]
        simp only [h4, h3, Bool.false_eq_true, if_false, hb]
        unfold stdVal
        rw [u1]
        cases r with
        | v x => rfl
        | tup vs => rfl
        | bad => exact absurd rfl u2
       ·show (upLV b r).den εs ρ = (numLV (S.val s l) r).den ε ρ
        have hf0 : freeLV (numLV (S.val s l) r) = true := hfree
        cases r with
        | v x => exact numV1_den j1 j2 (fun y hy => u3 y hy) hf0 ρ
        | tup vs =>
         simp only [numLV, freeLV, List.all_eq_true, List.mem_map, forall_exists_index, and_imp, forall_apply_eq_imp_iff₂] at hf0
         simp only [upLV, numLV, LV.den, List.map_map]
         exact congrArg (fun l : List Value => Value.tuple l.toArray) (List.map_congr_left fun x hx => numV1_den (ε' := ε) j1 j2 (hcells rfl x hx) (List.all_eq_true.2 (hf0 x hx)) ρ)
        | bad => exact absurd rfl u2
      ·have honly' : onlyInts r = true := honly.resolve_left (by decide)
       cases r with
       | v x => cases honly'
       | bad => exact absurd rfl u2
       | tup vs =>
        have hlast : ∃ k e, vs.getLast? = some (.s (.a (.int k (.var e)))) := by
         unfold litVal at hfree
         rw [if_neg (by decide)] at hfree
         dsimp only at hfree
         split at hfree
         ·rename_i k e hl; exact ⟨k, e, hl⟩
         ·cases hfree
        obtain ⟨k, e, hlast⟩ := hlast
        have hem : e < m := by
         have := hcells rfl _ (List.mem_of_getLast? hlast) (.a (.int k (.var e))) (by simp [V1.cells])
         exact this.2
        refine fin (.tup (((vs.map (upV1 b)).dropLast).map (zeroLess1 (.var (b + e))) ++ [.s (.a (.int k (.var (b + e))))])) ?_ fun ρ => ?_
        ·unfold stdRes
         rw [hs, hfn]
         simp only [h4, h3, Bool.false_eq_true, if_false, hb]
         unfold stdVal
         rw [u1]
         dsimp only [upLV]
         rw [if_neg (by decide), up_last hlast]
         dsimp only
         rw [if_neg (by decide)]
         rfl
        ·unfold litVal
         rw [if_neg (by decide)]
         simp only [hlast, LV.den, List.map_append, List.map_cons, List.map_nil, ← List.map_dropLast, List.map_map]
         have hint : ∀ x ∈ vs.dropLast, x.cells.all (fun | .a (.int _ (.var _)) => true | _ => false) = true := fun x hx => by
          have := List.all_eq_true.1 (show vs.all _ = true from honly') x (List.dropLast_subset _ hx)
          exact this
         have e4 : vs.dropLast.map (V1.den εs ρ ∘ zeroLess1 (.var (b + e)) ∘ upV1 b) = vs.dropLast.map (V1.den ε ρ ∘ numV1 (fun v => if S.val s l e = 0 then S.val s l v else 0)) := List.map_congr_left fun x hx => zero_den (ε' := ε) j1 hem (hcells rfl x (List.dropLast_subset _ hx)) (hint x hx) ρ
         rw [e4]
         simp only [V1.den, SV.den, AV.den, E.den, j1 e hem]
     ·cases h
    ·cases h
   ·cases h
  ·cases h
 ·cases h
def closedOb (R : FuncId → List LV → List (Nat × Cells) → Option (LV × List (Nat × Cells))) : Ob → Bool
 | .call pc f args mem res upd => pc == .blit true && R f args mem == some (res, upd)
 | _ => false
def KL (isSym : FuncId → Bool) (R : FuncId → List LV → List (Nat × Cells) → Option (LV × List (Nat × Cells))) : Cfg := ⟨fun f => !isSym f, fun _ => false, R, fun _ _ => none⟩
end SX
end
section
namespace SX
open Go.RowKit
def forceN {α} (n : Nat) (k : Nat → α) : α := match n with | 0 => k 0 | m + 1 => k (m + 1)
def forceI {α} (n : Int) (k : Int → α) : α := match n with | .ofNat m => forceN m fun m => k (.ofNat m) | .negSucc m => forceN m fun m => k (.negSucc m)
def forceE {α} (e : E) (k : E → α) : α := match e with | .lit n => forceI n fun n => k (.lit n) | .blit true => k (.blit true) | .blit false => k (.blit false) | e => k e
def forceSV {α} (e : SV) (k : SV → α) : α := match e with | .a (.int ik e) => forceE e fun e => k (.a (.int ik e)) | .a (.bool e) => forceE e fun e => k (.a (.bool e)) | e => k e
def forceL {β α} (g : β → (β → α) → α) : List β → (List β → α) → α | [], k => k [] | x :: xs, k => g x fun x => forceL g xs fun xs => k (x :: xs)
def forceV1 {α} (e : V1) (k : V1 → α) : α := match e with | .s x => forceSV x fun x => k (.s x) | .agg l => forceL forceSV l fun l => k (.agg l)
def forceLV {α} (e : LV) (k : LV → α) : α := match e with | .v x => forceV1 x fun x => k (.v x) | .tup l => forceL forceV1 l fun l => k (.tup l) | .bad => k .bad
theorem forceN_eq {α} (n : Nat) (k : Nat → α) : forceN n k = k n := by cases n <;> rfl
theorem forceI_eq {α} (n : Int) (k : Int → α) : forceI n k = k n := by cases n <;> (simp only [forceI]; exact forceN_eq _ _)
theorem forceE_eq {α} (n : E) (k : E → α) : forceE n k = k n := by unfold forceE; split <;> first | exact forceI_eq _ _ | rfl
theorem forceSV_eq {α} (n : SV) (k : SV → α) : forceSV n k = k n := by unfold forceSV; split <;> first | exact forceE_eq _ _ | rfl
theorem forceL_eq {β α} (g : β → (β → α) → α) (hg : ∀ x k, g x k = k x) : ∀ (l : List β) (k : List β → α), forceL g l k = k l
 | [], k => rfl
 | x :: xs, k => by simp only [forceL, hg, forceL_eq g hg xs]
theorem forceV1_eq {α} (n : V1) (k : V1 → α) : forceV1 n k = k n := by unfold forceV1; split <;> first | exact forceSV_eq _ _ | exact forceL_eq _ (fun _ _ => forceSV_eq _ _) _ _
theorem forceLV_eq {α} (n : LV) (k : LV → α) : forceLV n k = k n := by unfold forceLV; split <;> first | exact forceV1_eq _ _ | exact forceL_eq _ (fun _ _ => forceV1_eq _ _) _ _ | rfl
abbrev RF := FuncId → List LV → List (Nat × Cells) → Option (LV × List (Nat × Cells))
noncomputable def forced (R : RF) : RF := fun f args mem => match R f args mem with
 | some (r, u) => forceLV r fun r => some (r, u)
 | none => none
theorem forced_eq (R : RF) : forced R = R := by
 funext f args mem
 unfold forced
 split
 ·rename_i r u h; rw [forceLV_eq, h]
 ·rename_i h; rw [h]
variable {P : Program}
structure Kwn where
 f : FuncId
 args : List LV
 res : LV
def εk : Env := ⟨fun _ => 0, fun _ => false, fun _ => none, fun _ => 0, fun _ => 0, fun _ => default, fun _ _ => 0⟩
def Kwn.free (e : Kwn) : Bool := noIds e.args && e.args.all freeLV && freeLV e.res && e.res.ids.isEmpty
def Kwn.ok (P : Program) (e : Kwn) : Prop := e.free = true ∧ ∀ w, Calls P e.f (e.args.map (LV.den εk fun _ => 0)).toArray w (fun x w' => x = .returned (e.res.den εk fun _ => 0) ∧ Below w.heap.size w w')
def closedK (P : Program) (isSym : FuncId → Bool) (R : RF) (n sp : Nat) (e : Kwn) : Bool := e.free && match evFn P (KL isSym R) n sp e.f e.args [] (.blit true) 0 2 with
 | some (v, _, _, obs) => v == e.res && obs.all (closedOb R)
 | none => false
def RF.right (P : Program) (R : RF) : Prop := ∀ f args mem res upd, R f args mem = some (res, upd) → ∀ (ε : Env) (w : World), Ob.ok P ε w (.call (.blit true) f args mem res upd)
theorem closedK_ok (hmix : P.follows .mixedOrders = true) {isSym : FuncId → Bool} {R : RF} {n sp : Nat} (hsp : 0 < sp) {e : Kwn} (h : closedK P isSym R n sp e = true) (hR : RF.right P R) : e.ok P := by
 unfold closedK at h
 rw [Bool.and_eq_true] at h
 obtain ⟨hf, h⟩ := h
 refine ⟨hf, fun w => ?_⟩
 simp only [Kwn.free, Bool.and_eq_true] at hf
 obtain ⟨⟨⟨f1, f2⟩, f3⟩, f4⟩ := hf
 split at h
 ·rename_i v s nv' obs he
  simp only [Bool.and_eq_true, beq_iff_eq] at h
  obtain ⟨rfl, ho⟩ := h
  exact reads4 hmix hsp he f1 f4 εk w fun ob hob => by
   have h1 := List.all_eq_true.1 ho ob hob
   cases ob with
   | call pc f args mem res upd =>
    simp only [closedOb, Bool.and_eq_true, beq_iff_eq] at h1
    obtain ⟨rfl, h1⟩ := h1
    exact hR f args mem res upd h1 _ _
   | _ => cases h1
 ·cases h
def resK (tab : List Kwn) (R : RF) : RF := fun f args mem => match tab.find? fun e => e.f == f && e.args == args with
 | some e => some (e.res, [])
 | none => R f args mem
def symK (tab : List Kwn) (isSym : FuncId → Bool) (f : FuncId) : Bool := isSym f || tab.any fun e => e.f == f
theorem resK_right {tab : List Kwn} {R : RF} (ht : ∀ e ∈ tab, e.ok P) (hR : RF.right P R) : RF.right P (resK tab R) := by
 intro f args mem res upd h ε w
 unfold resK at h
 split at h
 ·rename_i e he
  cases h
  have h1 := List.find?_some he
  simp only [Bool.and_eq_true, beq_iff_eq] at h1
  obtain ⟨rfl, rfl⟩ := h1
  obtain ⟨hf, hc⟩ := ht e (List.mem_of_find?_eq_some he)
  simp only [Kwn.free, Bool.and_eq_true] at hf
  obtain ⟨⟨⟨f1, f2⟩, f3⟩, f4⟩ := hf
  intro _ w2 ρ hw2 hblk hinj
  have ea : e.args.map (LV.den ε ρ) = e.args.map (LV.den εk fun _ => 0) := List.map_congr_left fun x hx => by
   have h2 := List.all_eq_true.1 f1 x hx
   simp only [Bool.and_eq_true] at h2
   rw [freeLV_den (List.all_eq_true.1 f2 x hx) ε εk ρ]
   exact LV.den_congr fun b hb => by rw [List.isEmpty_iff.1 h2.1] at hb; cases hb
  have er : e.res.den ε ρ = e.res.den εk fun _ => 0 := by
   rw [freeLV_den f3 ε εk ρ]
   exact LV.den_congr fun b hb => by rw [List.isEmpty_iff.1 f4] at hb; cases hb
  rw [ea, er]
  exact (hc w2).mono fun x w' ⟨q1, q2⟩ => ⟨q1, by simp, Ext.of_below q2 _⟩
 ·exact hR f args mem res upd h ε w
theorem forced_right {R : RF} (hR : RF.right P R) : RF.right P (forced R) := by rw [forced_eq]; exact hR
theorem true_of (hmix : P.follows .mixedOrders = true) {isSym : FuncId → Bool} {R : RF} {n sp : Nat} (hsp : 0 < sp) {f : FuncId} (h : closedK P isSym R n sp ⟨f, [], .v (.s (.a (.bool (.blit true))))⟩ = true) (hR : RF.right P R) (w : World) :
  Calls P f #[] w (fun e w' => e = .returned (.bool true) ∧ Below w.heap.size w w') := (closedK_ok hmix hsp h hR).2 w
end SX
end
end Go.Proofs.Ytfgfnjckklldbaa
