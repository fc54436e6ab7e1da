/- Packed: SxX SxY SxI SxC SxJ SxQ SxL SxK SxN SxA. -/
import Derived.Test.YtdcolicajjmffaaP13
set_option linter.unusedVariables false
set_option linter.unusedSimpArgs false
namespace Go.Proofs.Ytdcolicajjmffaa
section
namespace SX
open Go.RowKit
variable {P : Program} {ε : Env}
def FnOk (P : Program) (ε : Env) (w0 : World) (f : FuncId) (args : List LV) (mem : List (Nat × Cells)) (pc : E) (nid : Nat) (v : LV) (s : St) (obs : List Ob) : Prop :=
 (∀ ob ∈ obs, ob.ok P ε w0) → (pc.den ε).2 = true → (∀ b, (mem.lookup b).isSome = true → b < nid) → (∀ x ∈ args, x ≠ .bad) → ∀ (w : World) (ρ : Nat → Nat), Below w0.heap.size w0 w →
  (∀ b cs, mem.lookup b = some cs → Blk ε ρ w0.heap.size w b cs) → (∀ b b', (mem.lookup b).isSome = true → (mem.lookup b').isSome = true → ρ b = ρ b' → b = b') →
  Calls P f (args.map (LV.den ε ρ)).toArray w (fun e w' => ∃ ρ', e = .returned (v.den ε ρ') ∧ (∀ b, b < nid → ρ' b = ρ b) ∧ (∀ b cs, s.at b = some cs → Blk ε ρ' w0.heap.size w' b cs) ∧
   (∀ b b', (s.at b).isSome = true → (s.at b').isSome = true → ρ' b = ρ' b' → b = b') ∧ (∀ b, (s.at b).isSome = true → (mem.lookup b).isSome = true ∨ w.heap.size ≤ ρ' b ∨ ∃ k, k ∈ s.wr ∧ (mem.lookup k).isSome = true ∧ s.at k = none ∧ ρ k = ρ' b) ∧
   Ext w w' (fun x => ∃ b, b ∈ s.wr ∧ (mem.lookup b).isSome = true ∧ ρ b = x))
theorem reach_some {mem : Nat → Option Cells} : ∀ (n : Nat) (todo seen : List Nat), (∀ b ∈ seen, (mem b).isSome = true) → ∀ b ∈ reach mem n todo seen, (mem b).isSome = true
 | 0, _, seen, hs => hs
 | n + 1, [], seen, hs => hs
 | n + 1, x :: rest, seen, hs => by
  simp only [reach]
  split
  ·exact reach_some n _ _ hs
  ·split
   ·rename_i c hc
    exact reach_some n _ _ fun b hb => by
     rcases List.mem_cons.1 hb with rfl | hb
     ·rw [hc]; rfl
     ·exact hs b hb
   ·exact reach_some n _ _ hs
theorem lookup_filterMap {mem : Nat → Option Cells} (b : Nat) : ∀ l : List Nat, (l.filterMap fun b => (mem b).map fun c => (b, c)).lookup b = if b ∈ l then mem b else none
 | [] => rfl
 | x :: l => by
  simp only [List.filterMap_cons]
  cases hm : mem x with
  | none =>
   simp only [Option.map_none]
   rw [lookup_filterMap b l]
   by_cases hx : b = x
   ·subst hx; simp [hm]
   ·simp [hx]
  | some c =>
   simp only [Option.map_some, List.lookup]
   by_cases hx : b = x
   ·subst hx; simp [hm]
   ·have : (b == x) = false := by simpa using hx
    rw [this]
    simp only [lookup_filterMap b l, List.mem_cons, hx, false_or]
theorem lookup_fM {m : Nat → Option Cells} {b : Nat} {c : Cells} {l : List Nat} (h : (l.filterMap fun b => (m b).map fun c => (b, c)).lookup b = some c) : b ∈ l ∧ m b = some c := by
 rw [lookup_filterMap] at h
 split at h
 ·exact ⟨by assumption, h⟩
 ·cases h
theorem mem_fM {m : Nat → Option Cells} {u : Nat × Cells} {l : List Nat} : u ∈ (l.filterMap fun b => (m b).map fun c => (b, c)) ↔ u.1 ∈ l ∧ m u.1 = some u.2 := by
 constructor
 ·intro hu
  obtain ⟨b, hb, he⟩ := List.mem_filterMap.1 hu
  obtain ⟨c, hc, rfl⟩ := Option.map_eq_some_iff.1 he
  exact ⟨hb, hc⟩
 ·rintro ⟨h1, h2⟩
  exact List.mem_filterMap.2 ⟨u.1, h1, by rw [h2]; rfl⟩
theorem codeAt_child {wy : Way} {c x : Code} {d : Nat} (h : codeAt P wy = some c) (hd : child c d = some x) : codeAt P (d :: wy) = some x := by
 cases wy with
 | nil => simp [codeAt] at h
 | cons a l =>
  show (codeAt P (a :: l)).bind (fun c => child c d) = some x
  rw [h]; exact hd
theorem domT_sel {nid : Nat} : ∀ {t : Tr}, domT nid t = true → Dom (t.sel ε).2 nid
 | .leaf k s, h => fun b hb => by
  simp only [domT, List.all_eq_true, decide_eq_true_eq] at h
  simp only [Tr.sel] at hb
  obtain ⟨cs, hl⟩ := Option.isSome_iff_exists.1 (at_some hb)
  exact h _ (lookup_mem hl)
 | .node c x y, h => by
  simp only [domT, Bool.and_eq_true] at h
  simp only [Tr.sel]
  split
  ·exact domT_sel h.1
  ·exact domT_sel h.2
theorem nameM_nil {o : Option E} {k : Nat} : ∀ {m : List (Nat × Cells)}, m.lookup k = some [] → (nameM o m).1.lookup k = some []
 | [], h => by cases h
 | (b, c) :: rest, h => by
  simp only [nameM, List.lookup] at h ⊢
  split at h
  ·cases h
   rfl
  ·exact nameM_nil h
set_option maxHeartbeats 2000000 in
theorem sound (hmix : P.follows .mixedOrders = true) (K : Cfg) (w0 : World) : ∀ n,
  (∀ nm sp wy c pc st nv nid r, 0 < sp → codeAt P wy = some c → evCode P K n nm sp wy c pc st nv nid = some r → CodeOk P ε w0 c pc st nid r) ∧
  (∀ nm sp wy c pc st nv nid r, 0 < sp → codeAt P wy = some c → evLoop P K n nm sp wy c pc st nv nid = some r → LoopOk P ε w0 c pc st nid r) ∧
  (∀ sp f args mem pc nv nid v s nv' obs, 0 < sp → evFn P K n sp f args mem pc nv nid = some (v, s, nv', obs) → FnOk P ε w0 f args mem pc nid v s obs) ∧
  SubOk P ε w0 (evSub P K n)
 | 0 => by
  refine ⟨fun nm sp wy c pc st nv nid r _ _ h => ?_, fun nm sp wy c pc st nv nid r _ _ h => ?_, fun sp f args mem pc nv nid v s nv' obs _ h => ?_, fun sp f args mem pc nv id r _ h => ?_⟩
  ·simp [evCode] at h
  ·simp [evLoop] at h
  ·simp [evFn] at h
  ·simp [evSub] at h
 | n + 1 => by
  obtain ⟨ihC, ihL, ihF, ihS⟩ := sound hmix K w0 n
  refine ⟨fun nm sp wy c pc st nv nid r hsp hwy h => ?_, fun nm sp wy c pc st nv nid r hsp hwy h => ?_, fun sp f args mem pc nv nid v s nv' obs hsp h => ?_, fun sp f args mem pc nv id r hsp h hid hobs hpc hargs => ?_⟩
  ·-- code
   unfold evCode at h
   split at h
   ·cases h
    exact ⟨Nat.le_refl _, fun _ => ⟨id, fun _ _ d ρ a w hr Q hQ => wp_skip (hQ ρ a w hr (Aft.refl _ _ _ _))⟩⟩
   ·cases h
    exact ⟨Nat.le_refl _, fun _ => ⟨id, fun _ _ d ρ a w hr Q hQ => wp_label (hQ ρ a w hr (Aft.refl _ _ _ _))⟩⟩
   ·-- region
    obtain ⟨r1, h1, rfl⟩ := Option.map_eq_some_iff.1 h
    exact (evRegion_ok hmix hsp ihS h1).norm nm .normal
   ·-- seq
    rename_i x y
    split at h
    ·rename_i r1 h1
     split at h
     ·rename_i q hq
      cases h
      have hwx : codeAt P (0 :: wy) = some x := codeAt_child hwy rfl
      have hwz : codeAt P (1 :: wy) = some y := codeAt_child hwy rfl
      obtain ⟨a1, a2⟩ := ihC _ _ _ _ _ _ _ _ _ hsp hwx h1
      have hf : ∀ pc s nv nid r, (fun pc s nv nid => evCode P K n nm sp (1 :: wy) y pc s nv nid) pc s nv nid = some r → nid ≤ r.nid := fun pc s nv nid r h => (ihC _ _ _ _ _ _ _ _ _ hsp hwz h).1
      obtain ⟨b1, b2, b3⟩ := behind_spec (ε := ε) hf hq
      have key : CodeOk P ε w0 (.seq x y) pc st nid { q with obs := r1.obs ++ q.obs } := by
       refine ⟨by dsimp only; omega, fun hobs => ?_⟩
       obtain ⟨a2, a3⟩ := a2 fun ob hb => hobs ob (List.mem_append_left _ hb)
       refine ⟨fun hd => ?_, fun hpc hd d ρ a w hr Q hQ => ?_⟩
       ·dsimp only
        by_cases hk : (r1.tr.sel ε).1 = .normal
        ·obtain ⟨pc', nv', nid', r, e1, e2, e3, e4, e5, e6⟩ := b3 hk
         rw [e2]
         exact (((ihC _ _ _ _ _ _ _ _ _ hsp hwz e1).2 fun ob hb => hobs ob (List.mem_append_right _ (e4 ob hb))).1 ((a2 hd).mono e5)).mono e6
        ·rw [b2 hk]; exact (a2 hd).mono b1
       ·refine wp_seq (a3 hpc hd d ρ a w hr _ fun ρ1 a1' w1 hr1 ha1 => ?_)
        dsimp only at hQ
        by_cases hk : (r1.tr.sel ε).1 = .normal
        ·obtain ⟨pc', nv', nid', r, e1, e2, e3, e4, e5, e6⟩ := b3 hk
         rw [hk]
         have hd1 := (a2 hd).mono e5
         refine ((ihC _ _ _ _ _ _ _ _ _ hsp hwz e1).2 fun ob hb => hobs ob (List.mem_append_right _ (e4 ob hb))).2 (e3 hpc) hd1 d ρ1 a1' w1 hr1 Q fun ρ2 a2' w2 hr2 ha2 => ?_
         rw [← e2] at hr2 ha2 ⊢
         exact hQ ρ2 a2' w2 hr2 (ha1.trans hd hd1 (by omega) ha2)
        ·rw [b2 hk] at hQ
         have := hQ ρ1 a1' w1 hr1 ha1
         cases hkk : (r1.tr.sel ε).1 with
         | normal => exact absurd hkk hk
         | exit i => rw [hkk] at this; exact this
         | ret => rw [hkk] at this; exact this
      exact key.norm nm .normal
     ·cases h
    ·cases h
   ·-- cond
    rename_i c x y
    have hcs : ∀ {d ρ a w}, Rep ε w0 d st ρ a w → ∀ t, c = .tmp t → RV ε ρ (st.look t) (a.tmps.getD t undef) := fun hr t _ => hr.slots t
    split at h
    ·rename_i e0 hc
     rw [fE_eq] at h
     have hce : ∀ {d ρ a w}, Rep ε w0 d st ρ a w → a.eval c = .bool (e0.den ε).2 := fun hr => opnd_eq (hcs hr) hc (by simp)
     split at h
     ·rename_i hu
      obtain ⟨a1, a2⟩ := ihC _ _ _ _ _ _ _ _ _ hsp (codeAt_child hwy rfl) h
      refine ⟨a1, fun hobs => ⟨(a2 hobs).1, fun hpc hd d ρ a w hr Q hQ => ?_⟩⟩
      have hb : (e0.den ε).2 = true := by rw [← under_den hpc e0, hu]; rfl
      exact wp_cond_true (by rw [hce hr, hb]) ((a2 hobs).2 hpc hd d ρ a w hr Q hQ)
     ·rename_i hu
      obtain ⟨a1, a2⟩ := ihC _ _ _ _ _ _ _ _ _ hsp (codeAt_child hwy rfl) h
      refine ⟨a1, fun hobs => ⟨(a2 hobs).1, fun hpc hd d ρ a w hr Q hQ => ?_⟩⟩
      have hb : (e0.den ε).2 = false := by rw [← under_den hpc e0, hu]; rfl
      exact wp_cond_false (by rw [hce hr, hb]) ((a2 hobs).2 hpc hd d ρ a w hr Q hQ)
     ·simp only [fE_eq] at h
      have hund : (pc.den ε).2 = true → ((under pc e0).den ε).2 = (e0.den ε).2 := fun hpc => under_den hpc e0
      generalize under pc e0 = e at h hund
      split at h
      ·rename_i r1 h1
       split at h
       ·rename_i r2 h2
        cases h
        obtain ⟨a1, a2⟩ := ihC _ _ _ _ _ _ _ _ _ hsp (codeAt_child hwy rfl) h1
        obtain ⟨b1, b2⟩ := ihC _ _ _ _ _ _ _ _ _ hsp (codeAt_child hwy rfl) h2
        have key : CodeOk P ε w0 (.cond c x y) pc st nid ⟨.node e r1.tr r2.tr, r2.nv, r2.nid, r1.obs ++ r2.obs⟩ := by
         refine ⟨by dsimp only; omega, fun hobs => ?_⟩
         obtain ⟨a2, a3⟩ := a2 fun ob hb => hobs ob (List.mem_append_left _ hb)
         obtain ⟨b2, b3⟩ := b2 fun ob hb => hobs ob (List.mem_append_right _ hb)
         refine ⟨fun hd => ?_, fun hpc hd d ρ a w hr Q hQ => ?_⟩
         ·simp only [Tr.sel]
          split
          ·exact (a2 hd).mono b1
          ·exact b2 (hd.mono a1)
         ·have hce := hce hr
          rw [← hund hpc] at hce
          simp only [Tr.sel] at hQ
          cases hcd : (e.den ε).2
          ·rw [hcd] at hce
           simp only [hcd, Bool.false_eq_true, if_false] at hQ
           exact wp_cond_false hce (b3 (pc_f hcd hpc) (hd.mono a1) d ρ a w hr Q fun ρ' a' w' h1 h2 => hQ ρ' a' w' h1 ⟨fun b hb => h2.agree b (by omega), h2.ext, h2.sub, h2.fresh, fun b hb hs => h2.keep b (by omega) hs⟩)
          ·rw [hcd] at hce
           simp only [hcd, if_true] at hQ
           exact wp_cond_true hce (a3 (pc_t hcd hpc) hd d ρ a w hr Q hQ)
        exact key.norm nm .normal
       ·cases h
      ·cases h
    ·cases h
   ·-- block
    rename_i id body
    obtain ⟨r1, h1, rfl⟩ := Option.map_eq_some_iff.1 h
    obtain ⟨a1, a2⟩ := ihC _ _ _ _ _ _ _ _ _ hsp (codeAt_child hwy rfl) h1
    have key : CodeOk P ε w0 (.block id body) pc st nid { r1 with tr := unExit id r1.tr } := by
     refine ⟨a1, fun hobs => ⟨fun hd => by dsimp only; rw [unExit_sel]; exact (a2 hobs).1 hd, fun hpc hd d ρ a w hr Q hQ => wp_block ((a2 hobs).2 hpc hd d ρ a w hr _ fun ρ' a' w' h1 h2 => ?_)⟩⟩
     dsimp only at hQ
     rw [unExit_sel] at hQ
     have := hQ ρ' a' w' h1 h2
     cases hk : (r1.tr.sel ε).1 with
     | normal => rw [hk] at this; exact this
     | ret => rw [hk] at this; exact this
     | exit i =>
      rw [hk] at this
      dsimp only at this
      simp only [Ex.to, Exit.inBlock]
      by_cases hi : i = id
      ·rw [if_pos hi] at this; rw [if_pos hi]; exact this
      ·rw [if_neg hi] at this; rw [if_neg hi]; exact this
    exact key.norm nm .normal
   ·-- loop
    split at h
    ·rename_i s ins tr hlp
     simp only [fLVs_eq, fTr_eq] at h
     split at h
     ·rename_i hdom
      cases h
      refine ⟨Nat.le_refl _, fun hobs => ⟨fun _ => domT_sel hdom, fun hpc hd d ρ a w hr Q hQ => wp_loop_of ?_⟩⟩
      have ho := hobs _ (List.mem_singleton.2 rfl)
      exact ho _ hwy hpc hd d ρ a w hr Q hQ
     ·cases h
    ·obtain ⟨a1, a2⟩ := ihL _ _ _ _ _ _ _ _ _ hsp (codeAt_child hwy rfl) h
     exact ⟨a1, fun hobs => ⟨(a2 hobs).1, fun hpc hd d ρ a w hr Q hQ => wp_loop_of ((a2 hobs).2 hpc hd d ρ a w hr Q hQ)⟩⟩
   ·cases h
    exact ⟨Nat.le_refl _, fun _ => ⟨id, fun _ _ d ρ a w hr Q hQ => wp_exit (hQ ρ a w hr (Aft.refl _ _ _ _))⟩⟩
   ·cases h
    exact ⟨Nat.le_refl _, fun _ => ⟨id, fun _ _ d ρ a w hr Q hQ => wp_ret (hQ ρ a w hr (Aft.refl _ _ _ _))⟩⟩
   ·-- scope
    obtain ⟨a1, a2⟩ := ihC _ _ _ _ _ _ _ _ _ hsp (codeAt_child hwy rfl) h
    refine ⟨a1, fun hobs => ⟨(a2 hobs).1, fun hpc hd d ρ a w hr Q hQ => wp_scope_straight ((a2 hobs).2 hpc hd d ρ a w hr _ fun ρ' a' w' h1 h2 => ?_)⟩⟩
    have := hQ ρ' a' w' h1 h2
    cases hk : (r.tr.sel ε).1 with
    | normal => rw [hk] at this; exact this
    | ret => rw [hk] at this; exact this
    | exit i => rw [hk] at this; exact this
   ·cases h
  ·-- loop
   unfold evLoop at h
   split at h
   ·rename_i r1 h1
    split at h
    ·rename_i q hq
     cases h
     obtain ⟨a1, a2⟩ := ihC _ _ _ _ _ _ _ _ _ hsp hwy h1
     have hf : ∀ pc s nv nid r, (fun pc s nv nid => evLoop P K n nm sp wy c pc s nv nid) pc s nv nid = some r → nid ≤ r.nid := fun pc s nv nid r h => (ihL _ _ _ _ _ _ _ _ _ hsp hwy h).1
     obtain ⟨b1, b2, b3⟩ := behind_spec (ε := ε) hf hq
     refine ⟨by dsimp only; omega, fun hobs => ?_⟩
     obtain ⟨a2, a3⟩ := a2 fun ob hb => hobs ob (List.mem_append_left _ hb)
     refine ⟨fun hd => ?_, fun hpc hd d ρ a w hr Q hQ => ?_⟩
     ·dsimp only
      by_cases hk : (r1.tr.sel ε).1 = .normal
      ·obtain ⟨pc', nv', nid', r, e1, e2, e3, e4, e5, e6⟩ := b3 hk
       rw [e2]
       exact (((ihL _ _ _ _ _ _ _ _ _ hsp hwy e1).2 fun ob hb => hobs ob (List.mem_append_right _ (e4 ob hb))).1 ((a2 hd).mono e5)).mono e6
      ·rw [b2 hk]; exact (a2 hd).mono b1
     ·refine loop_round (a3 hpc hd d ρ a w hr _ fun ρ1 a1' w1 hr1 ha1 => ?_)
      dsimp only at hQ
      by_cases hk : (r1.tr.sel ε).1 = .normal
      ·obtain ⟨pc', nv', nid', r, e1, e2, e3, e4, e5, e6⟩ := b3 hk
       rw [hk]
       have hd1 := (a2 hd).mono e5
       refine ((ihL _ _ _ _ _ _ _ _ _ hsp hwy e1).2 fun ob hb => hobs ob (List.mem_append_right _ (e4 ob hb))).2 (e3 hpc) hd1 d ρ1 a1' w1 hr1 Q fun ρ2 a2' w2 hr2 ha2 => ?_
       rw [← e2] at hr2 ha2 ⊢
       exact hQ ρ2 a2' w2 hr2 (ha1.trans hd hd1 (by omega) ha2)
      ·rw [b2 hk] at hQ
       have := hQ ρ1 a1' w1 hr1 ha1
       cases hkk : (r1.tr.sel ε).1 with
       | normal => exact absurd hkk hk
       | exit i => rw [hkk] at this; exact this
       | ret => rw [hkk] at this; exact this
    ·cases h
   ·cases h
  ·-- function
   unfold evFn at h
   split at h
   ·cases h
   ·rename_i fn hfn
    split at h
    ·cases h
    ·rename_i c hc
     split at h
     ·cases h
     ·rename_i r hr
      obtain ⟨a1, a2⟩ := ihC _ _ _ _ _ _ _ _ _ hsp (show codeAt P [f] = some c by simp [codeAt, hfn, hc]) hr
      split at h
      ·rename_i s hs
       intro hobs hpc hdom hargs w ρ hw hblk hinj
       have n1 := norm_spec ε .ret (toRet r.tr)
       rw [hs] at n1
       rw [toRet_sel] at n1
       simp only [Tr.sel] at n1
       obtain ⟨n1, n2⟩ := n1
       have fin : ∀ vs, resultsOf P s fn.results.toList = some vs → (∀ ob ∈ r.obs, ob.ok P ε w0) →
         Calls P f (args.map (LV.den ε ρ)).toArray w (fun e w' => ∃ ρ', e = .returned (if h : (vs.map (V1.den ε ρ')).toArray.size = 1 then (vs.map (V1.den ε ρ')).toArray[0] else .tuple (vs.map (V1.den ε ρ')).toArray) ∧ (∀ b, b < nid → ρ' b = ρ b) ∧ (∀ b cs, s.at b = some cs → Blk ε ρ' w0.heap.size w' b cs) ∧
          (∀ b b', (s.at b).isSome = true → (s.at b').isSome = true → ρ' b = ρ' b' → b = b') ∧ (∀ b, (s.at b).isSome = true → (mem.lookup b).isSome = true ∨ w.heap.size ≤ ρ' b ∨ ∃ k, k ∈ s.wr ∧ (mem.lookup k).isSome = true ∧ s.at k = none ∧ ρ k = ρ' b) ∧
          Ext w w' (fun x => ∃ b, b ∈ s.wr ∧ (mem.lookup b).isSome = true ∧ ρ b = x)) := by
        intro vs hvs hobs'
        refine calls_of_wp hfn hc ((a2 hobs').2 hpc (fun b hb => hdom b (at_some hb)) [] ρ _ w ⟨?_, rfl, ?_, fun b cs hb => hblk b cs (at_look hb).1, fun b b' hb hb' => hinj b b' (at_some hb) (at_some hb'), hw⟩ _ fun ρ' a' w' h1 h2 => ?_)
        ·simp
        ·intro t
         refine .inr ?_
         unfold St.look
         simp only [Array.getD_eq_getD_getElem?, List.getD_eq_getElem?_getD]
         rw [Array.getElem?_append]
         simp only [List.size_toArray, List.length_map]
         by_cases ht : t < args.length
         ·rw [if_pos ht, List.getElem?_append_left ht]
          simp [List.getElem?_eq_getElem ht]
         ·rw [if_neg ht, List.getElem?_append_right (by omega)]
          rw [Array.getElem?_replicate, List.getElem?_replicate]
          split <;> rfl
        ·have h3 := h1.weak n2
         have h4 := h2.weak n2
         have hbp : bodyPost P fn (fun e w' => ∃ ρ', e = .returned (if h : (vs.map (V1.den ε ρ')).toArray.size = 1 then (vs.map (V1.den ε ρ')).toArray[0] else .tuple (vs.map (V1.den ε ρ')).toArray) ∧ (∀ b, b < nid → ρ' b = ρ b) ∧ (∀ b cs, s.at b = some cs → Blk ε ρ' w0.heap.size w' b cs) ∧
           (∀ b b', (s.at b).isSome = true → (s.at b').isSome = true → ρ' b = ρ' b' → b = b') ∧ (∀ b, (s.at b).isSome = true → (mem.lookup b).isSome = true ∨ w.heap.size ≤ ρ' b ∨ ∃ k, k ∈ s.wr ∧ (mem.lookup k).isSome = true ∧ s.at k = none ∧ ρ k = ρ' b) ∧
           Ext w w' (fun x => ∃ b, b ∈ s.wr ∧ (mem.lookup b).isSome = true ∧ ρ b = x)) .ret a' w' := by
          refine ⟨h3.defers, _, ?_, ρ', rfl, h4.agree, h3.blocks, h3.inj, fun b hb => (h4.fresh b hb).imp (fun h => at_some h) fun h => h.imp id fun ⟨k, k1, k2, k3, k4⟩ => ⟨k, k1, at_some k2, k3, k4⟩, h4.ext.mono fun x _ ⟨b, hb1, hb2, hb3⟩ => ⟨b, hb1, at_some hb2, hb3⟩⟩
          have hm := resultsOf_spec h3 hvs
          have hm2 : (fn.results.mapM (resVar a'.tmps)).run P w' = .ok (vs.map (V1.den ε ρ')).toArray w' := by
           rw [← Array.toList_mapM] at hm
           simp only [Sem.run_map] at hm
           generalize (fn.results.mapM (resVar a'.tmps)).run P w' = rr at hm ⊢
           cases rr with
           | ok x w2 =>
            simp only [Result.andThen, Result.ok.injEq] at hm
            obtain ⟨hm1, rfl⟩ := hm
            rw [← hm1]
           | halt x w2 => simp only [Result.andThen] at hm; cases hm
          rw [results_eq]
          simp only [Sem.run_bind, hm2, Result.andThen, Sem.run_pure]
         cases hk : (r.tr.sel ε).1 with
         | normal => exact hbp
         | ret => exact hbp
         | exit i => rw [hk] at n1; cases n1
       split at h
       ·rename_i x hvs
        cases h
        refine (fin _ hvs hobs).mono fun e w' ⟨ρ', e1, e2⟩ => ⟨ρ', by rw [e1]; simp [LV.den], e2⟩
       ·rename_i vs hne hvs
        cases h
        refine (fin _ hvs hobs).mono fun e w' ⟨ρ', e1, e2⟩ => ⟨ρ', ?_, e2⟩
        rw [e1]
        have : ¬ (vs.map (V1.den ε ρ')).toArray.size = 1 := fun h1 => by
         simp at h1
         obtain ⟨x, hx⟩ := List.length_eq_one_iff.1 h1
         exact hne x hx
        rw [dif_neg this]
        rfl
       ·cases h
      ·cases h
  ·-- calls
   unfold evSub at h
   simp only [fNs_eq, fM_eq, fLV_eq] at h
   have hbs := reach_some (mem := mem) 100 (args.flatMap LV.ids) [] (by simp)
   generalize reach mem 100 (args.flatMap LV.ids) [] = bs at h hbs
   split at h
   ·split at h
    ·cases h
    ·rename_i hsp'
     have hsp2 : 0 < sp / 1048576 := Nat.pos_of_ne_zero fun e => hsp' (by rw [e]; rfl)
     split at h
     ·cases h
     ·rename_i v s nv' obs hev
      have hall := reach_some (mem := s.at) 100 (v.ids ++ (bs.filter s.wr.contains).flatMap fun b => Cells.ids ((s.at b).getD [])) [] (by simp)
      generalize reach s.at 100 (v.ids ++ (bs.filter s.wr.contains).flatMap fun b => Cells.ids ((s.at b).getD [])) [] = rs at h hall
      generalize hold : bs.filter s.wr.contains = old at h
      generalize hnew : (rs.filter fun b => !bs.contains b) = new at h
      split at h
      ·rename_i hc
       simp only [Bool.and_eq_true, List.all_eq_true, decide_eq_true_eq, beq_iff_eq] at hc
       obtain ⟨⟨⟨⟨c1, c2⟩, c3⟩, c4⟩, c5⟩ := hc
       have hupd : ∀ u, u ∈ (old.map fun b => (b, (s.at b).getD [])) ++ (new.filterMap fun b => (s.at b).map fun c => (b, c)) ↔ (u.1 ∈ old ∧ u.2 = (s.at u.1).getD []) ∨ (u.1 ∈ new ∧ s.at u.1 = some u.2) := fun u => by
        rw [List.mem_append, mem_fM, List.mem_map]
        constructor
        ·rintro (⟨b, hb, rfl⟩ | h)
         ·exact .inl ⟨hb, rfl⟩
         ·exact .inr h
        ·rintro (⟨h1, h2⟩ | h)
         ·exact .inl ⟨u.1, h1, by rw [← h2]⟩
         ·exact .inr h
       have hlkUpd : ∀ b, b ∈ old → ((old.map fun b => (b, (s.at b).getD [])) ++ (new.filterMap fun b => (s.at b).map fun c => (b, c))).lookup b = some ((s.at b).getD []) := fun b hb => by
        rw [lookup_append]
        have : ∀ l : List Nat, b ∈ l → (l.map fun b => (b, (s.at b).getD [])).lookup b = some ((s.at b).getD []) := by
         intro l
         induction l with
         | nil => intro h; cases h
         | cons x l ih =>
          intro h
          simp only [List.map_cons, List.lookup]
          split
          ·rename_i hx; rw [eq_of_beq hx]
          ·rename_i hx
           rcases List.mem_cons.1 h with rfl | h
           ·simp at hx
           ·exact ih h
        rw [this old hb]
       generalize hup : (old.map fun b => (b, (s.at b).getD [])) ++ (new.filterMap fun b => (s.at b).map fun c => (b, c)) = upd at h c5 hupd hlkUpd
       have hlk : ∀ b, (bs.filterMap fun b => (mem b).map fun c => (b, c)).lookup b = if b ∈ bs then mem b else none := fun b => lookup_filterMap b bs
       have hinS : ∀ b, ((bs.filterMap fun b => (mem b).map fun c => (b, c)).lookup b).isSome = true → b ∈ bs := fun b hb => by
        rw [hlk] at hb
        split at hb
        ·assumption
        ·cases hb
       have old_in : ∀ b ∈ old, b ∈ bs := fun b hb => by rw [← hold] at hb; exact (List.mem_filter.1 hb).1
       have new_out : ∀ b ∈ new, b ∉ bs := fun b hb hb' => by
        rw [← hnew] at hb
        have := (List.mem_filter.1 hb).2
        simp only [Bool.not_eq_true'] at this
        rw [List.contains_iff_mem.2 hb'] at this
        cases this
       have new_NW : ∀ b ∈ new, NW id sp b := fun b hb => by
        have := c2 b hb
        simpa [NW] using this
       have old_NW : ∀ b ∈ bs, ¬ NW id sp b := fun b hb e => by
        have := c1 b hb; obtain ⟨e1, _⟩ := e; omega
       have updIn : ∀ u ∈ upd, NW id sp u.1 ∨ (u.1 ∈ bs ∧ (mem u.1).isSome = true) := fun u hu => by
        rcases (hupd u).1 hu with h | h
        ·exact .inr ⟨old_in _ h.1, hbs _ (old_in _ h.1)⟩
        ·exact .inl (new_NW _ h.1)
       have allIds : ∀ b, b < id + sp → b < id ∨ NW id sp b := fun b hb => by
        rcases Nat.lt_or_ge b id with h | h
        ·exact .inl h
        ·exact .inr ⟨h, hb⟩
       have main : (∀ ob ∈ obs, ob.ok P ε w0) → ∀ (w : World) (ρ : Nat → Nat), Below w0.heap.size w0 w → (∀ b ∈ bs, ∀ cs, mem b = some cs → Blk ε ρ w0.heap.size w b cs) →
         (∀ b ∈ bs, ∀ b' ∈ bs, (mem b).isSome = true → (mem b').isSome = true → ρ b = ρ b' → b = b') →
         Calls P f (args.map (LV.den ε ρ)).toArray w (fun e w' => ∃ vv, e = .returned vv ∧ Out1 ε ρ w0.heap.size id sp w v upd vv w') := by
        intro hobs w ρ hw hblk hinj
        refine (ihF _ _ _ _ _ _ _ _ _ _ _ hsp2 hev hobs hpc (fun b hb => c1 b (hinS b hb)) hargs w ρ hw (fun b cs hb => ?_) (fun b b' hb hb' => ?_)).mono fun e w' => ?_
        ·obtain ⟨h1, h2⟩ := lookup_fM hb
         exact hblk b h1 cs h2
        ·exact hinj b (hinS b hb) b' (hinS b' hb') (hbs _ (hinS b hb)) (hbs _ (hinS b' hb'))
        ·rintro ⟨ρ', e1, e2, e3, e4, e5, e6⟩
         have hr : ∀ b, b < id ∨ NW id sp b → (fun b => if id ≤ b ∧ b < id + sp then ρ' b else ρ b) b = ρ' b := fun b hb => by
          dsimp only
          split
          ·rfl
          ·rename_i hn
           rcases hb with h | h
           ·exact (e2 b h).symm
           ·exact absurd h hn
         refine ⟨_, e1, fun b => if id ≤ b ∧ b < id + sp then ρ' b else ρ b, fun b hb => if_neg hb, ?_, fun u hu => ?_, fun u hu hn => ?_, fun u hu u' hu' hn hn' he => ?_, e6.mono ?_⟩
         ·exact LV.den_congr fun b hb => (hr b (allIds b (c4 b hb))).symm
         ·have hB : Blk ε ρ' w0.heap.size w' u.1 u.2 := by
           rcases (hupd u).1 hu with ⟨h1, h2⟩ | ⟨h1, h2⟩
           ·cases hs : s.at u.1 with
            | some c => rw [hs] at h2; rw [h2]; exact e3 _ _ hs
            | none =>
             rw [hs] at h2
             rw [h2]
             have hb1 := old_in _ h1
             obtain ⟨c, hc⟩ := Option.isSome_iff_exists.1 (hbs _ hb1)
             have := hblk _ hb1 c hc
             have er := e2 _ (c1 _ hb1)
             exact ⟨by rw [er]; exact this.1, by rw [er]; exact Nat.lt_of_lt_of_le this.2.1 e6.size, fun j c hj => by simp at hj⟩
           ·exact e3 _ _ h2
          refine hB.congr (hr _ ?_).symm fun k hk => (hr k ?_).symm
          ·rcases updIn u hu with h | h
           ·exact .inr h
           ·exact .inl (c1 _ h.1)
          ·exact allIds k (c5 u hu k hk)
         ·rw [hr _ (.inr hn)]
          rcases (hupd u).1 hu with ⟨h1, h2⟩ | ⟨h1, h2⟩
          ·exact absurd hn (old_NW _ (old_in _ h1))
          ·rcases e5 u.1 (by rw [h2]; rfl) with h | h | ⟨k, k1, k2, k3, k4⟩
           ·exact absurd hn (old_NW _ (hinS _ h))
           ·exact .inl h
           ·have hkb := hinS _ k2
            have hko : k ∈ old := by rw [← hold]; exact List.mem_filter.2 ⟨hkb, List.contains_iff_mem.2 k1⟩
            exact .inr ⟨k, old_NW k hkb, by rw [hlkUpd k hko, k3]; rfl, k4⟩
         ·rw [hr _ (.inr hn), hr _ (.inr hn')] at he
          have inNew : ∀ u ∈ upd, NW id sp u.1 → s.at u.1 = some u.2 := fun u hu hn => by
           rcases (hupd u).1 hu with ⟨h1, h2⟩ | ⟨h1, h2⟩
           ·exact absurd hn (old_NW _ (old_in _ h1))
           ·exact h2
          exact e4 _ _ (by rw [inNew u hu hn]; rfl) (by rw [inNew u' hu' hn']; rfl) he
         ·rintro x hx ⟨b, hb, hb', rfl⟩
          have hbb := hinS b hb'
          have ho : b ∈ old := by rw [← hold]; exact List.mem_filter.2 ⟨hbb, List.contains_iff_mem.2 hb⟩
          exact ⟨(b, (s.at b).getD []), (hupd _).2 (.inl ⟨ho, rfl⟩), old_NW b hbb, rfl⟩
       split at h
       ·-- with names
        cases h
        dsimp only at hobs ⊢
        have nmU := nameM_mem (ε := ε) (o := errOf v upd) (m := upd) fun ob hb => (hobs ob (List.mem_append_right _ hb)).nm
        have nmV := fun ρ => (nameLV_den (ε := ε) (ρ := ρ) (o := errOf v upd) (x := v) fun ob hb => (hobs ob (List.mem_append_left _ (List.mem_append_right _ hb))).nm).1
        refine ⟨fun u hu => ?_, fun w ρ hw hblk hinj => ?_⟩
        ·obtain ⟨c, h1, _⟩ := nmU u hu
         exact updIn (u.1, c) h1
        ·refine (main (fun ob hb => hobs ob (List.mem_append_left _ (List.mem_append_left _ hb))) w ρ hw hblk hinj).mono fun e w' => ?_
         rintro ⟨vv, e1, ρ', f1, f2, f3, f4, f5, f6⟩
         refine ⟨vv, e1, ρ', f1, by rw [nmV]; exact f2, fun u hu => ?_, fun u hu hn => ?_, fun u hu u' hu' hn hn' he => ?_, f6.mono ?_⟩
         ·obtain ⟨c, h1, h2, _⟩ := nmU u hu
          exact (f3 _ h1).ceq h2
         ·obtain ⟨c, h1, _⟩ := nmU u hu
          rcases f4 (u.1, c) h1 hn with h | ⟨k, k1, k2, k3⟩
          ·exact .inl h
          ·exact .inr ⟨k, k1, nameM_nil k2, k3⟩
         ·obtain ⟨c, h1, _⟩ := nmU u hu
          obtain ⟨c', h1', _⟩ := nmU u' hu'
          exact f5 (u.1, c) h1 (u'.1, c') h1' hn hn' he
         ·rintro x hx ⟨u, hu, hn, rfl⟩
          have : u.1 ∈ (nameM (errOf v upd) upd).1.map (·.1) := by rw [nameM_keys]; exact List.mem_map.2 ⟨u, hu, rfl⟩
          obtain ⟨u', hu', he⟩ := List.mem_map.1 this
          exact ⟨u', hu', by rw [he]; exact hn, by rw [he]⟩
       ·cases h
        exact ⟨updIn, main hobs⟩
      ·cases h
   ·split at h
    ·rename_i hc
     simp only [Bool.and_eq_true, List.all_eq_true, decide_eq_true_eq] at hc
     obtain ⟨c1, c2⟩ := hc
     split at h
     ·rename_i v upd hv
      split at h
      ·rename_i hu
       simp only [Bool.and_eq_true, List.all_eq_true] at hu
       cases h
       dsimp only at hobs ⊢
       have hob := hobs _ (List.mem_singleton.2 rfl) rfl
       have inBs : ∀ u ∈ upd, u.1 ∈ bs := fun u h => List.contains_iff_mem.1 (hu.2 u h)
       have notNW : ∀ u ∈ upd, ¬ NW id sp u.1 := fun u h e => by
        have := c1 _ (inBs u h); obtain ⟨e1, _⟩ := e; omega
       refine ⟨fun u h => .inr ⟨inBs u h, hbs _ (inBs u h)⟩, fun w ρ hw hblk hinj => ?_⟩
       refine (hob w ρ hw (fun b cs hb => ?_) (fun b b' hb hb' => ?_)).mono fun e w' ⟨e1, e2, e3⟩ => ⟨_, e1, ρ, fun _ _ => rfl, (underLV_den hpc v).symm, e2, fun u hu hn => absurd hn (notNW u hu), fun u hu _ _ hn => absurd hn (notNW u hu), e3.mono ?_⟩
       ·obtain ⟨h1, h2⟩ := lookup_fM hb
        exact hblk b h1 cs h2
       ·have hin : ∀ b, ((bs.filterMap fun b => (mem b).map fun c => (b, c)).lookup b).isSome = true → b ∈ bs := fun b hb => by
         rw [lookup_filterMap] at hb
         split at hb
         ·assumption
         ·cases hb
        exact hinj b (hin b hb) b' (hin b' hb') (hbs _ (hin b hb)) (hbs _ (hin b' hb'))
       ·rintro x hx ⟨u, hu, rfl⟩
        exact ⟨u, hu, notNW u hu, rfl⟩
      ·cases h
     ·cases h
    ·cases h
end SX
end
section
namespace SX
open Go.RowKit
variable {P : Program}
theorem reads_ob (hmix : P.follows .mixedOrders = true) {K : Cfg} {n sp : Nat} (hsp : 0 < sp) {f : FuncId} {args : List LV} {mem : List (Nat × Cells)} {nv nid : Nat} {v : LV} {s : St} {nv' : Nat} {obs : List Ob}
  (h : evFn P K n sp f args mem (.blit true) nv nid = some (v, s, nv', obs)) (ha : args.all notBad = true) (hm : mem.all (fun u => u.1 < nid) = true) (hv : v.ids.all (· < nid) = true)
  {upd : List (Nat × Cells)} (hu : s.wr.all (fun b => !(mem.lookup b).isSome || (upd.map (·.1)).contains b) = true) (hu2 : upd.all (fun u => u.1 < nid && (Cells.ids u.2).all (· < nid) && s.at u.1 == some u.2) = true)
  (ε : Env) (w0 : World) (hobs : ∀ ob ∈ obs, ob.ok P ε w0) : (Ob.call (.blit true) f args mem v upd).ok P ε w0 := by
 intro _ w ρ hw hblk hinj
 have hm' : ∀ b, (mem.lookup b).isSome = true → b < nid := fun b hb => by
  obtain ⟨c, hc⟩ := Option.isSome_iff_exists.1 hb
  have := List.all_eq_true.1 hm _ (lookup_mem hc)
  simpa using this
 refine ((sound (ε := ε) hmix K w0 n).2.2.1 _ _ _ _ _ _ _ _ _ _ _ hsp h hobs rfl hm' (fun x hx e => by
  have := List.all_eq_true.1 ha x hx
  subst e; cases this) w ρ hw hblk hinj).mono fun e w' ⟨ρ', h1, h2, h3, _, _, h4⟩ => ⟨?_, fun u hu' => ?_, h4.mono ?_⟩
 ·rw [h1]
  congr 1
  exact LV.den_congr fun b hb => h2 b (by simpa using List.all_eq_true.1 hv b hb)
 ·have := List.all_eq_true.1 hu2 u hu'
  simp only [Bool.and_eq_true, decide_eq_true_eq, beq_iff_eq, List.all_eq_true] at this
  exact (h3 _ _ this.2).congr (h2 _ this.1.1) fun k hk => h2 k (this.1.2 k hk)
 ·rintro x hx ⟨b, hb, hb', rfl⟩
  have := List.all_eq_true.1 hu b hb
  simp only [hb', Bool.not_true, Bool.false_or, List.contains_iff_mem, List.mem_map] at this
  obtain ⟨u, hu', rfl⟩ := this
  exact ⟨u, hu', rfl⟩
def SV.ints (ε : Env) : SV → List Int
 | .a (.int _ e) => [(e.den ε).1]
 | .a (.bool e) => [if (e.den ε).2 then 1 else 0]
 | .a (.fsl i) => [(i : Int)]
 | .a (.str i) => [(i : Int)]
 | _ => []
def cellsInts (ε : Env) (l : Cells) : List Int := l.flatMap fun | some s => s.ints ε | none => []
def argInts (ε : Env) (mem : List (Nat × Cells)) : LV → List Int
 | .v (.s (.a (.sl b off _ _))) => cellsInts ε (((mem.lookup b).getD []).drop off)
 | .v x => x.cells.flatMap (SV.ints ε)
 | _ => []
structure Sig where
 sym : FuncId → Option (Nat × Nat)
 val : Nat → List Int → Nat → Int
def callArgs (z : Nat) (args : List LV) (mem : List (Nat × Cells)) : List LV := if z == 3 then match args with
 | .v (.s (.a (.ptr b 0))) :: rest => match mem.lookup b with
  | some [some (.a (.int k e))] => .v (.s (.a (.int k e))) :: rest
  | _ => args
 | _ => args
 else args
def Env.setI (ε : Env) (v : Nat) (n : Int) : Env := { ε with i := fun j => if j = v then n else ε.i j }
def Env.setB (ε : Env) (v : Nat) (b : Bool) : Env := { ε with b := fun j => if j = v then b else ε.b j }
def Env.setC (ε : Env) (base : Nat) (g : Nat → Int) : Env :=
 { ε with i := fun j => if j / 32 = base then g (j % 32) else ε.i j, b := fun j => if j / 32 = base then decide (g (j % 32) ≠ 0) else ε.b j }
def callNo (S : Sig) (f : FuncId) (args : List LV) (mem : List (Nat × Cells)) : Option (Nat × Nat × List LV) := match S.sym f with
 | some (s, z) => some (callBase s (callArgs z args mem) mem / 32, s, callArgs z args mem)
 | none => none
def Env.step (S : Sig) (ε : Env) : Ob → Env
 | .eq v e => ε.setI v (e.den ε).1
 | .eqb v e => ε.setB v (e.den ε).2
 | .call _ f args mem _ _ => match callNo S f args mem with
  | some (base, s, l) => ε.setC base (S.val s (l.flatMap (argInts ε mem)))
  | none => ε
 | .loop s ins _ _ _ _ _ => ε.setC (callBase s ins [] / 32) (S.val s (ins.flatMap (argInts ε [])))
 | .req _ _ => ε
 | .lst _ _ _ _ => ε
def Env.steps (S : Sig) (ε : Env) (l : List Ob) : Env := l.foldl (Env.step S) ε
structure Kn where
 i : List Nat
 b : List Nat
 c : List Nat
def Kn.hasI (k : Kn) (v : Nat) : Bool := v < top || (if v < 2 * top then k.i.contains v else k.c.contains (v / 32))
def Kn.hasB (k : Kn) (v : Nat) : Bool := v < top || (if v < 2 * top then k.b.contains v else k.c.contains (v / 32))
def Kn.okE (k : Kn) : E → Bool
 | .lit _ => true
 | .var i => k.hasI i
 | .slen _ => true
 | .el _ _ _ x => k.okE x
 | .ar _ _ x y => k.okE x && k.okE y
 | .cv _ x => k.okE x
 | .mx x y => k.okE x && k.okE y
 | .mn x y => k.okE x && k.okE y
 | .ite c x y => k.okE c && k.okE x && k.okE y
 | .blit _ => true
 | .bvar i => k.hasB i
 | .cmp _ x y => k.okE x && k.okE y
 | .not x => k.okE x
 | .same x y => k.okE x && k.okE y
def Kn.okSV (k : Kn) : SV → Bool
 | .a (.int _ e) => k.okE e
 | .a (.bool e) => k.okE e
 | _ => true
def Kn.okLV (k : Kn) : LV → Bool
 | .v x => x.cells.all k.okSV
 | _ => false
def Kn.okC (k : Kn) (l : Cells) : Bool := l.all fun | some s => k.okSV s | none => true
def Kn.okOb (S : Sig) (k : Kn) : Ob → Bool
 | .eq v e => top ≤ v && v < 2 * top && !k.i.contains v && k.okE e
 | .eqb v e => top ≤ v && v < 2 * top && !k.b.contains v && k.okE e
 | .call _ f args mem _ _ => match callNo S f args mem with
  | some (base, s, l) => 2 * top ≤ base * 32 && !k.c.contains base && l.all k.okLV && mem.all fun u => k.okC u.2
  | none => true
 | .loop s ins _ _ _ _ _ => 2 * top ≤ callBase s ins [] / 32 * 32 && !k.c.contains (callBase s ins [] / 32) && ins.all k.okLV
 | .req _ _ => true
 | .lst _ _ _ _ => true
def Kn.add (S : Sig) (k : Kn) : Ob → Kn
 | .eq v _ => { k with i := v :: k.i }
 | .eqb v _ => { k with b := v :: k.b }
 | .call _ f args mem _ _ => match callNo S f args mem with
  | some (base, _, _) => { k with c := base :: k.c }
  | none => k
 | .loop s ins _ _ _ _ _ => { k with c := callBase s ins [] / 32 :: k.c }
 | .req _ _ => k
 | .lst _ _ _ _ => k
def okObs (S : Sig) : Kn → List Ob → Bool
 | _, [] => true
 | k, ob :: rest => k.okOb S ob && okObs S (k.add S ob) rest
def Ob.sat (S : Sig) (ε : Env) : Ob → Prop
 | .eq v e => (e.den ε).1 = ε.i v
 | .eqb v e => (e.den ε).2 = ε.b v
 | .call _ f args mem _ _ => ∀ base s l, callNo S f args mem = some (base, s, l) → ∀ j, j < 32 → ε.i (base * 32 + j) = S.val s (l.flatMap (argInts ε mem)) j ∧ ε.b (base * 32 + j) = decide (S.val s (l.flatMap (argInts ε mem)) j ≠ 0)
 | .loop s ins _ _ _ _ _ => ∀ j, j < 32 → ε.i (callBase s ins [] / 32 * 32 + j) = S.val s (ins.flatMap (argInts ε [])) j ∧ ε.b (callBase s ins [] / 32 * 32 + j) = decide (S.val s (ins.flatMap (argInts ε [])) j ≠ 0)
 | .req _ _ => True
 | .lst _ _ _ _ => True
structure Agree (k : Kn) (ε ε' : Env) : Prop where
 i : ∀ v, k.hasI v = true → ε'.i v = ε.i v
 b : ∀ v, k.hasB v = true → ε'.b v = ε.b v
 sa : ε'.sa = ε.sa
 sn : ε'.sn = ε.sn
 sc : ε'.sc = ε.sc
 st : ε'.st = ε.st
 el : ε'.el = ε.el
theorem Agree.refl (k : Kn) (ε : Env) : Agree k ε ε := ⟨fun _ _ => rfl, fun _ _ => rfl, rfl, rfl, rfl, rfl, rfl⟩
theorem Agree.trans {k : Kn} {ε ε' ε'' : Env} (h : Agree k ε ε') (g : Agree k ε' ε'') : Agree k ε ε'' :=
 ⟨fun v hv => (g.i v hv).trans (h.i v hv), fun v hv => (g.b v hv).trans (h.b v hv), g.sa.trans h.sa, g.sn.trans h.sn, g.sc.trans h.sc, g.st.trans h.st, g.el.trans h.el⟩
theorem Agree.den {k : Kn} {ε ε' : Env} (h : Agree k ε ε') : ∀ {e : E}, k.okE e = true → e.den ε' = e.den ε := by
 intro e
 induction e with
 | lit n => intro _; rfl
 | var i => intro hk; simp only [E.den, h.i i hk]
 | slen i => intro _; simp only [E.den, h.sn]
 | el i m o x hx => intro hk; simp only [E.den, h.el, hx hk]
 | ar op q x y hx hy => intro hk; simp only [Kn.okE, Bool.and_eq_true] at hk; simp only [E.den, hx hk.1, hy hk.2]
 | cv q x hx => intro hk; simp only [E.den, hx hk]
 | mx x y hx hy => intro hk; simp only [Kn.okE, Bool.and_eq_true] at hk; simp only [E.den, hx hk.1, hy hk.2]
 | mn x y hx hy => intro hk; simp only [Kn.okE, Bool.and_eq_true] at hk; simp only [E.den, hx hk.1, hy hk.2]
 | ite c x y hc hx hy => intro hk; simp only [Kn.okE, Bool.and_eq_true] at hk; simp only [E.den, hc hk.1.1, hx hk.1.2, hy hk.2]
 | blit b => intro _; rfl
 | bvar i => intro hk; simp only [E.den, h.b i hk]
 | cmp op x y hx hy => intro hk; simp only [Kn.okE, Bool.and_eq_true] at hk; simp only [E.den, hx hk.1, hy hk.2]
 | not x hx => intro hk; simp only [E.den, hx hk]
 | same x y hx hy => intro hk; simp only [Kn.okE, Bool.and_eq_true] at hk; simp only [E.den, hx hk.1, hy hk.2]
theorem Agree.ints {k : Kn} {ε ε' : Env} (h : Agree k ε ε') {s : SV} (hs : k.okSV s = true) : s.ints ε' = s.ints ε := by
 cases s with
 | a x => cases x <;> first | rfl | (simp only [SV.ints, h.den hs])
 | fn _ _ _ => rfl
 | nilf => rfl
 | row _ _ => rfl
theorem Agree.cells {k : Kn} {ε ε' : Env} (h : Agree k ε ε') : ∀ {l : Cells}, k.okC l = true → cellsInts ε' l = cellsInts ε l
 | [], _ => rfl
 | some s :: l, hl => by
  simp only [Kn.okC, List.all_cons, Bool.and_eq_true] at hl
  have := h.cells (l := l) hl.2
  unfold cellsInts at this ⊢
  simp only [List.flatMap_cons, h.ints hl.1, this]
 | none :: l, hl => by
  simp only [Kn.okC, List.all_cons, Bool.and_eq_true] at hl
  have := h.cells (l := l) hl.2
  unfold cellsInts at this ⊢
  simp only [List.flatMap_cons, this]
theorem okC_drop {k : Kn} {l : Cells} (h : k.okC l = true) (n : Nat) : k.okC (l.drop n) = true := by
 unfold Kn.okC at h ⊢
 rw [List.all_eq_true] at h ⊢
 exact fun x hx => h x (List.mem_of_mem_drop hx)
theorem Agree.arg {k : Kn} {ε ε' : Env} (h : Agree k ε ε') {mem : List (Nat × Cells)} (hm : mem.all (fun u => k.okC u.2) = true) {x : LV} (hx : k.okLV x = true) : argInts ε' mem x = argInts ε mem x := by
 have hl : ∀ l : List SV, l.all k.okSV = true → l.flatMap (SV.ints ε') = l.flatMap (SV.ints ε) := by
  intro l
  induction l with
  | nil => intro _; rfl
  | cons y l ih =>
   intro hy
   simp only [List.all_cons, Bool.and_eq_true] at hy
   simp only [List.flatMap_cons, h.ints hy.1, ih hy.2]
 unfold argInts
 split
 ·rename_i b off _ _
  apply h.cells
  apply okC_drop
  cases hb : mem.lookup b with
  | none => rfl
  | some c => exact List.all_eq_true.1 hm _ (lookup_mem hb)
 ·rename_i v _
  exact hl _ hx
 ·rfl
theorem Agree.args {k : Kn} {ε ε' : Env} (h : Agree k ε ε') {mem : List (Nat × Cells)} (hm : mem.all (fun u => k.okC u.2) = true) : ∀ {l : List LV}, l.all k.okLV = true → l.flatMap (argInts ε' mem) = l.flatMap (argInts ε mem)
 | [], _ => rfl
 | x :: l, hl => by
  simp only [List.all_cons, Bool.and_eq_true] at hl
  simp only [List.flatMap_cons, h.arg hm hl.1, h.args hm hl.2]
def Kn.le (k k' : Kn) : Prop := (∀ v, k.hasI v = true → k'.hasI v = true) ∧ (∀ v, k.hasB v = true → k'.hasB v = true)
theorem contains_cons {a b : Nat} {l : List Nat} (h : l.contains a = true) : (b :: l).contains a = true := by
 simp only [List.contains_cons, Bool.or_eq_true]; exact .inr h
theorem Kn.le_add (S : Sig) (k : Kn) (ob : Ob) : k.le (k.add S ob) := by
 have key : ∀ k' : Kn, (∀ v, k.i.contains v = true → k'.i.contains v = true) → (∀ v, k.b.contains v = true → k'.b.contains v = true) → (∀ v, k.c.contains v = true → k'.c.contains v = true) → k.le k' := fun k' h1 h2 h3 => by
  refine ⟨fun v hv => ?_, fun v hv => ?_⟩
  ·unfold Kn.hasI at hv ⊢
   simp only [Bool.or_eq_true] at hv ⊢
   refine hv.imp id fun hv => ?_
   split at hv <;> rename_i hh
   ·rw [if_pos hh]; exact h1 v hv
   ·rw [if_neg hh]; exact h3 _ hv
  ·unfold Kn.hasB at hv ⊢
   simp only [Bool.or_eq_true] at hv ⊢
   refine hv.imp id fun hv => ?_
   split at hv <;> rename_i hh
   ·rw [if_pos hh]; exact h2 v hv
   ·rw [if_neg hh]; exact h3 _ hv
 cases ob with
 | eq v e => exact key _ (fun _ h => contains_cons h) (fun _ h => h) (fun _ h => h)
 | eqb v e => exact key _ (fun _ h => h) (fun _ h => contains_cons h) (fun _ h => h)
 | req _ _ => exact key _ (fun _ h => h) (fun _ h => h) (fun _ h => h)
 | lst _ _ _ _ => exact key _ (fun _ h => h) (fun _ h => h) (fun _ h => h)
 | loop s ins _ _ _ _ _ => exact key _ (fun _ h => h) (fun _ h => h) (fun _ h => contains_cons h)
 | call pc f args mem res upd =>
  simp only [Kn.add]
  split
  ·exact key _ (fun _ h => h) (fun _ h => h) (fun _ h => contains_cons h)
  ·exact key _ (fun _ h => h) (fun _ h => h) (fun _ h => h)
theorem Agree.mono {k k' : Kn} (h : k.le k') {ε ε' : Env} (g : Agree k' ε ε') : Agree k ε ε' := ⟨fun v hv => g.i v (h.1 v hv), fun v hv => g.b v (h.2 v hv), g.sa, g.sn, g.sc, g.st, g.el⟩
theorem setC_agree {k : Kn} {base : Nat} (h1 : 2 * top ≤ base * 32) (h2 : k.c.contains base = false) (ε : Env) (g : Nat → Int) : Agree k ε (ε.setC base g) := by
 have big : ∀ j, j / 32 = base → 2 * top ≤ j := fun j hj => by have := Nat.div_mul_le_self j 32; rw [hj] at this; omega
 refine ⟨fun j hj => ?_, fun j hj => ?_, rfl, rfl, rfl, rfl, rfl⟩
 ·simp only [Env.setC]
  rw [if_neg]
  intro hb
  have := big j hb
  unfold Kn.hasI at hj
  rw [if_neg (by omega), hb, h2] at hj
  simp only [Bool.or_false, decide_eq_true_eq] at hj
  omega
 ·simp only [Env.setC]
  rw [if_neg]
  intro hb
  have := big j hb
  unfold Kn.hasB at hj
  rw [if_neg (by omega), hb, h2] at hj
  simp only [Bool.or_false, decide_eq_true_eq] at hj
  omega
theorem step_agree {S : Sig} {k : Kn} {ob : Ob} (h : k.okOb S ob = true) (ε : Env) : Agree k ε (ε.step S ob) := by
 cases ob with
 | eq v e =>
  simp only [Kn.okOb, Bool.and_eq_true, decide_eq_true_eq, Bool.not_eq_true'] at h
  refine ⟨fun j hj => ?_, fun _ _ => rfl, rfl, rfl, rfl, rfl, rfl⟩
  simp only [Env.step, Env.setI]
  rw [if_neg]
  rintro rfl
  unfold Kn.hasI at hj
  rw [if_pos h.1.1.2, h.1.2] at hj
  simp only [Bool.or_false, decide_eq_true_eq] at hj
  omega
 | eqb v e =>
  simp only [Kn.okOb, Bool.and_eq_true, decide_eq_true_eq, Bool.not_eq_true'] at h
  refine ⟨fun _ _ => rfl, fun j hj => ?_, rfl, rfl, rfl, rfl, rfl⟩
  simp only [Env.step, Env.setB]
  rw [if_neg]
  rintro rfl
  unfold Kn.hasB at hj
  rw [if_pos h.1.1.2, h.1.2] at hj
  simp only [Bool.or_false, decide_eq_true_eq] at hj
  omega
 | req _ _ => exact Agree.refl _ _
 | lst _ _ _ _ => exact Agree.refl _ _
 | loop s ins _ _ _ _ _ =>
  simp only [Kn.okOb, Bool.and_eq_true, decide_eq_true_eq, Bool.not_eq_true'] at h
  exact setC_agree h.1.1 h.1.2 _ _
 | call pc f args mem res upd =>
  simp only [Kn.okOb] at h
  simp only [Env.step]
  split
  ·rename_i base s l hc
   rw [hc] at h
   simp only [Bool.and_eq_true, decide_eq_true_eq, Bool.not_eq_true'] at h
   obtain ⟨⟨⟨h1, h2⟩, h3⟩, h4⟩ := h
   exact setC_agree h1 h2 _ _
  ·exact Agree.refl _ _
theorem steps_agree {S : Sig} : ∀ {l : List Ob} {k : Kn}, okObs S k l = true → ∀ ε : Env, Agree k ε (ε.steps S l)
 | [], k, _, ε => Agree.refl _ _
 | ob :: l, k, h, ε => by
  simp only [okObs, Bool.and_eq_true] at h
  exact (step_agree h.1 ε).trans ((steps_agree h.2 _).mono (Kn.le_add S k ob))
theorem steps_sat {S : Sig} : ∀ {l : List Ob} {k : Kn}, okObs S k l = true → ∀ (ε : Env), ∀ ob ∈ l, ob.sat S (ε.steps S l)
 | [], _, _, _, ob, h => by cases h
 | ob0 :: l, k, h, ε, ob, hob => by
  simp only [okObs, Bool.and_eq_true] at h
  rcases List.mem_cons.1 hob with rfl | hob
  ·have a1 := step_agree h.1 ε
   have a2 := steps_agree h.2 (ε.step S ob)
   show ob.sat S ((ε.step S ob).steps S l)
   generalize (ε.step S ob).steps S l = ε' at a2
   have a3 := a1.trans (a2.mono (Kn.le_add S k ob))
   cases ob with
   | eq v e =>
    simp only [Kn.okOb, Bool.and_eq_true, decide_eq_true_eq, Bool.not_eq_true'] at h
    have e1 := a2.i v (by unfold Kn.hasI; simp only [Kn.add]; rw [if_pos h.1.1.1.2]; simp)
    simp only [Ob.sat, e1, a3.den h.1.2]
    simp [Env.step, Env.setI]
   | eqb v e =>
    simp only [Kn.okOb, Bool.and_eq_true, decide_eq_true_eq, Bool.not_eq_true'] at h
    have e1 := a2.b v (by unfold Kn.hasB; simp only [Kn.add]; rw [if_pos h.1.1.1.2]; simp)
    simp only [Ob.sat, e1, a3.den h.1.2]
    simp [Env.step, Env.setB]
   | req _ _ => trivial
   | lst _ _ _ _ => trivial
   | loop s ins wy pc st nid tr =>
    intro j hj
    simp only [Kn.okOb, Bool.and_eq_true, decide_eq_true_eq, Bool.not_eq_true'] at h
    obtain ⟨⟨⟨h1, h2⟩, h3⟩, h5⟩ := h
    generalize hbase : callBase s ins [] / 32 = base at h1 h2
    have hd : (base * 32 + j) / 32 = base := by omega
    have hm : (base * 32 + j) % 32 = j := by omega
    have hk : (k.add S (.loop s ins wy pc st nid tr)).c.contains base = true := by simp [Kn.add, hbase]
    have e1 := a2.i (base * 32 + j) (by unfold Kn.hasI; rw [if_neg (by omega), hd, hk]; simp)
    have e2 := a2.b (base * 32 + j) (by unfold Kn.hasB; rw [if_neg (by omega), hd, hk]; simp)
    rw [e1, e2, a3.args (mem := []) rfl h3]
    simp [Env.step, hbase, Env.setC, hd, hm]
   | call pc f args mem res upd =>
    intro base s l' hc j hj
    simp only [Kn.okOb, hc, Bool.and_eq_true, decide_eq_true_eq, Bool.not_eq_true'] at h
    obtain ⟨⟨⟨⟨h1, h2⟩, h3⟩, h4⟩, h5⟩ := h
    have hd : (base * 32 + j) / 32 = base := by omega
    have hm : (base * 32 + j) % 32 = j := by omega
    have hk : (k.add S (.call pc f args mem res upd)).c.contains base = true := by simp [Kn.add, hc]
    have e1 := a2.i (base * 32 + j) (by unfold Kn.hasI; rw [if_neg (by omega), hd, hk]; simp)
    have e2 := a2.b (base * 32 + j) (by unfold Kn.hasB; rw [if_neg (by omega), hd, hk]; simp)
    rw [e1, e2, a3.args h4 h3]
    simp [Env.step, hc, Env.setC, hd, hm]
  ·exact steps_sat h.2 _ ob hob
def Ob.key (S : Sig) : Ob → Nat
 | .eq v _ => 3 * v
 | .eqb v _ => 3 * v + 1
 | .call _ f args mem _ _ => match callNo S f args mem with
  | some (base, _, _) => 3 * base + 2
  | none => 2
 | .loop s ins _ _ _ _ _ => 3 * (callBase s ins [] / 32) + 2
 | .req _ _ => 2
 | .lst _ _ _ _ => 2
def Ob.isQ : Ob → Bool
 | .req _ _ => true
 | .lst _ _ _ _ => true
 | _ => false
def Ob.isM : Ob → Bool
 | .loop _ _ _ _ _ _ _ => true
 | ob => ob.isQ
theorem isQ_sat {S : Sig} {ε : Env} {ob : Ob} (h : ob.isQ = true) : ob.sat S ε := by cases ob <;> first | trivial | cases h
def flatArg (mem : List (Nat × Cells)) : LV → Cells
 | .v (.s (.a (.sl b off _ _))) => ((mem.lookup b).getD []).drop off
 | .v x => x.cells.map some
 | _ => []
theorem argInts_flat (ε : Env) (mem : List (Nat × Cells)) (x : LV) : argInts ε mem x = cellsInts ε (flatArg mem x) := by
 have h : ∀ l : List SV, l.flatMap (SV.ints ε) = cellsInts ε (l.map some) := by
  intro l
  induction l with
  | nil => rfl
  | cons y l ih => simp only [List.flatMap_cons, List.map_cons, ih]; rfl
 unfold argInts flatArg
 split
 ·rfl
 ·exact h _
 ·rfl
def twin (S : Sig) : Ob → Ob → Bool
 | .call _ f args mem _ _, .call _ f' args' mem' _ _ => match callNo S f args mem, callNo S f' args' mem' with
  | some (b, s, l), some (b', s', l') => b == b' && s == s' && l.map (flatArg mem) == l'.map (flatArg mem')
  | _, _ => false
 | .loop s ins _ _ _ _ _, .loop s' ins' _ _ _ _ _ => callBase s ins [] == callBase s' ins' [] && s == s' && ins.map (flatArg []) == ins'.map (flatArg [])
 | _, _ => false
theorem twin_sat {S : Sig} {ε : Env} {x y : Ob} (h : twin S x y = true) (hs : y.sat S ε) : x.sat S ε := by
 unfold twin at h
 split at h
 ·rename_i f args mem _ _ _ f' args' mem' _ _
  split at h
  ·rename_i b s l b' s' l' h1 h2
   simp only [Bool.and_eq_true, beq_iff_eq] at h
   obtain ⟨⟨rfl, rfl⟩, h3⟩ := h
   intro base s0 l0 hc j hj
   rw [h1] at hc
   cases hc
   have e : l.flatMap (argInts ε mem) = l'.flatMap (argInts ε mem') := by
    have h4 := congrArg (fun x => List.flatMap (cellsInts ε) x) h3
    simp only [List.flatMap_map] at h4
    rw [show argInts ε mem = fun x => cellsInts ε (flatArg mem x) from funext fun x => argInts_flat ε mem x, show argInts ε mem' = fun x => cellsInts ε (flatArg mem' x) from funext fun x => argInts_flat ε mem' x]
    exact h4
   rw [e]
   exact hs _ _ _ h2 j hj
  ·cases h
 ·rename_i s ins _ _ _ _ _ s' ins' _ _ _ _ _
  simp only [Bool.and_eq_true, beq_iff_eq] at h
  obtain ⟨⟨h1, rfl⟩, h3⟩ := h
  intro j hj
  have e : ins.flatMap (argInts ε []) = ins'.flatMap (argInts ε []) := by
   have h4 := congrArg (fun x => List.flatMap (cellsInts ε) x) h3
   simp only [List.flatMap_map] at h4
   rw [show argInts ε [] = fun x => cellsInts ε (flatArg [] x) from funext fun x => argInts_flat ε [] x]
   exact h4
  rw [e, h1]
  exact hs j hj
 ·cases h
def nub (S : Sig) : List Ob → List (Nat × Ob) → Option (List (Nat × Ob))
 | [], acc => some acc
 | ob :: rest, acc => if ob.isQ then nub S rest acc else match acc.lookup (ob.key S) with
  | some ob' => if ob == ob' || twin S ob ob' then nub S rest acc else none
  | none => nub S rest ((ob.key S, ob) :: acc)
theorem nub_acc {S : Sig} : ∀ {l : List Ob} {acc r : List (Nat × Ob)}, nub S l acc = some r → (∀ x ∈ acc, x ∈ r) ∧ ∀ ob ∈ l, ob.isQ = true ∨ ∃ ob' ∈ r.map (·.2), ob = ob' ∨ twin S ob ob' = true
 | [], acc, r, h => by cases h; exact ⟨fun _ h => h, fun _ h => by cases h⟩
 | ob :: l, acc, r, h => by
  simp only [nub] at h
  split at h
  ·rename_i hq
   obtain ⟨h1, h2⟩ := nub_acc h
   refine ⟨h1, fun x hx => ?_⟩
   rcases List.mem_cons.1 hx with rfl | hx
   ·exact .inl hq
   ·exact h2 x hx
  split at h
  ·rename_i ob' hl
   split at h
   ·rename_i he
    obtain ⟨h1, h2⟩ := nub_acc h
    refine ⟨h1, fun x hx => ?_⟩
    rcases List.mem_cons.1 hx with rfl | hx
    ·refine .inr ⟨ob', List.mem_map.2 ⟨_, h1 _ (lookup_mem hl), rfl⟩, ?_⟩
     simp only [Bool.or_eq_true, beq_iff_eq] at he
     exact he
    ·exact h2 x hx
   ·cases h
  ·obtain ⟨h1, h2⟩ := nub_acc h
   refine ⟨fun x hx => h1 x (List.mem_cons_of_mem _ hx), fun x hx => ?_⟩
   rcases List.mem_cons.1 hx with rfl | hx
   ·exact .inr ⟨_, List.mem_map.2 ⟨_, h1 _ List.mem_cons_self, rfl⟩, .inl rfl⟩
   ·exact h2 x hx
def rngE : E → Bool
 | .lit n => -9223372036854775808 ≤ n && n ≤ 9223372036854775807
 | .var _ => true
 | .ar .add .i64 _ _ => true
 | .ar .sub .i64 _ _ => true
 | .ar .mul .i64 _ _ => true
 | .ar .quo .i64 _ _ => true
 | .cv .i64 _ => true
 | .mx x y => rngE x && rngE y
 | .mn x y => rngE x && rngE y
 | .ite _ x y => rngE x && rngE y
 | .el _ _ _ _ => true
 | _ => false
def R64 (n : Int) : Prop := -9223372036854775808 ≤ n ∧ n ≤ 9223372036854775807
theorem wrap_R64 (n : Int) : R64 (IntKind.i64.wrap n) := by
 unfold R64
 rw [IntKind.wrap_i64]
 omega
theorem rngE_spec {ε : Env} (hε : ∀ i, R64 (ε.i i)) : ∀ {e : E}, rngE e = true → R64 (e.den ε).1 := by
 intro e
 induction e with
 | lit n => intro h; simpa [rngE, R64, E.den] using h
 | var i => intro _; exact hε i
 | slen i => intro h; cases h
 | el i m o x hx => intro _; unfold R64; simp only [E.den, clmp]; split <;> omega
 | ar op q x y hx hy => intro h; cases op <;> cases q <;> first | (cases h; done) | exact wrap_R64 _
 | cv q x hx => intro h; cases q <;> first | (cases h; done) | exact wrap_R64 _
 | mx x y hx hy => intro h; simp only [rngE, Bool.and_eq_true] at h; have := hx h.1; have := hy h.2; simp only [E.den]; split <;> assumption
 | mn x y hx hy => intro h; simp only [rngE, Bool.and_eq_true] at h; have := hx h.1; have := hy h.2; simp only [E.den]; split <;> assumption
 | ite c x y hc hx hy => intro h; simp only [rngE, Bool.and_eq_true] at h; have := hx h.1; have := hy h.2; simp only [E.den]; split <;> assumption
 | blit b => intro h; cases h
 | bvar i => intro h; cases h
 | cmp op x y hx hy => intro h; cases h
 | not x hx => intro h; cases h
 | same x y hx hy => intro h; cases h
def rngSV : SV → Bool
 | .a (.int _ e) => rngE e
 | _ => true
def rngOb : Ob → Bool
 | .eq _ e => rngE e
 | .eqb _ _ => true
 | .call _ _ args mem _ _ => args.all (fun x => match x with | .v v => v.cells.all rngSV | _ => false) && mem.all fun u => u.2.all fun c => match c with | some s => rngSV s | none => true
 | .loop _ ins _ _ _ _ _ => ins.all (fun x => match x with | .v v => v.cells.all rngSV | _ => false)
 | .req _ _ => true
 | .lst _ _ _ _ => true
theorem steps_R64 {S : Sig} (hS : ∀ s l k, R64 (S.val s l k)) : ∀ {l : List Ob} {ε : Env}, l.all rngOb = true → (∀ i, R64 (ε.i i)) → ∀ i, R64 ((ε.steps S l).i i)
 | [], ε, _, h => h
 | ob :: l, ε, hr, h => by
  simp only [List.all_cons, Bool.and_eq_true] at hr
  refine steps_R64 hS (l := l) (ε := ε.step S ob) hr.2 fun i => ?_
  cases ob with
  | eq v e =>
   simp only [Env.step, Env.setI]
   split
   ·exact rngE_spec h hr.1
   ·exact h i
  | eqb v e => exact h i
  | req _ _ => exact h i
  | lst _ _ _ _ => exact h i
  | loop s ins _ _ _ _ _ =>
   simp only [Env.step, Env.setC]
   split
   ·exact hS _ _ _
   ·exact h i
  | call pc f args mem res upd =>
   simp only [Env.step]
   split
   ·simp only [Env.setC]
    split
    ·exact hS _ _ _
    ·exact h i
   ·exact h i
def goodL (P : Program) (S : Sig) (shp : FuncId → List LV → List (Nat × Cells) → Bool) (obs : List Ob) : Bool := match nub S obs [] with
 | some r => okObs S ⟨[], [], []⟩ (r.reverse.map (·.2)) && obs.all rngOb && obs.all fun ob => match ob with
  | .call pc f args mem res upd => pc == .blit true && shp f args mem && stdRes P S.sym f args mem == some (res, upd)
  | _ => true
 | none => false
def goodB (P : Program) (S : Sig) (shp : FuncId → List LV → List (Nat × Cells) → Bool) (obs : List Ob) : Bool := goodL P S shp obs && obs.all fun ob => !ob.isM
def Env.solve (S : Sig) (obs : List Ob) (ε0 : Env) : Env := match nub S obs [] with
 | some r => ε0.steps S (r.reverse.map (·.2))
 | none => ε0
theorem good_okL {S : Sig} {shp : FuncId → List LV → List (Nat × Cells) → Bool} {obs : List Ob} (h : goodL P S shp obs = true) (hS : ∀ s l k, R64 (S.val s l k)) (ε0 : Env) (h0 : ∀ i, R64 (ε0.i i)) :
  (∀ v, v < top → (ε0.solve S obs).i v = ε0.i v) ∧ (ε0.solve S obs).sa = ε0.sa ∧ (ε0.solve S obs).sn = ε0.sn ∧ (ε0.solve S obs).sc = ε0.sc ∧ (ε0.solve S obs).el = ε0.el ∧ (∀ i, R64 ((ε0.solve S obs).i i)) ∧
   ∀ w0 : World, (∀ f args mem res upd, shp f args mem = true → stdRes P S.sym f args mem = some (res, upd) → rngOb (.call (.blit true) f args mem res upd) = true → Ob.sat S (ε0.solve S obs) (.call (.blit true) f args mem res upd) → Ob.ok P (ε0.solve S obs) w0 (.call (.blit true) f args mem res upd)) →
    (∀ ob ∈ obs, ob.isM = true → ob.sat S (ε0.solve S obs) → ob.ok P (ε0.solve S obs) w0) → ∀ ob ∈ obs, ob.ok P (ε0.solve S obs) w0 := by
 unfold goodL at h
 unfold Env.solve
 split at h
 ·rename_i r hr
  simp only [Bool.and_eq_true] at h
  obtain ⟨⟨h1, h2⟩, h3⟩ := h
  obtain ⟨_, hn⟩ := nub_acc hr
  have ha := steps_agree h1 ε0
  have hs := steps_sat h1 ε0
  have hrl : (r.reverse.map (·.2)).all rngOb = true := by
   -- each of them is one of the obligations
   have key : ∀ (l : List Ob) (acc r : List (Nat × Ob)), nub S l acc = some r → ∀ x ∈ r, x ∈ acc ∨ x.2 ∈ l := by
    intro l
    induction l with
    | nil => intro acc r h x hx; cases h; exact .inl hx
    | cons ob l ih =>
     intro acc r h x hx
     simp only [nub] at h
     split at h
     ·rcases ih _ _ h x hx with h' | h'
      ·exact .inl h'
      ·exact .inr (List.mem_cons_of_mem _ h')
     split at h
     ·split at h
      ·rcases ih _ _ h x hx with h' | h'
       ·exact .inl h'
       ·exact .inr (List.mem_cons_of_mem _ h')
      ·cases h
     ·rcases ih _ _ h x hx with h' | h'
      ·rcases List.mem_cons.1 h' with rfl | h'
       ·exact .inr List.mem_cons_self
       ·exact .inl h'
      ·exact .inr (List.mem_cons_of_mem _ h')
   rw [List.all_eq_true]
   intro ob hob
   obtain ⟨x, hx, rfl⟩ := List.mem_map.1 hob
   rcases key obs [] r hr x (List.mem_reverse.1 hx) with h' | h'
   ·cases h'
   ·exact List.all_eq_true.1 h2 _ h'
  have hR := steps_R64 hS hrl h0
  refine ⟨fun v hv => ha.i v (by unfold Kn.hasI; simp [hv]), ha.sa, ha.sn, ha.sc, ha.el, hR, fun w0 hcon hmem ob hob => ?_⟩
  have sat : ob.sat S (ε0.steps S (r.reverse.map (·.2))) := by
   rcases hn ob hob with hq | ⟨ob', hob', he⟩
   ·exact isQ_sat hq
   have := hs ob' (by rw [List.map_reverse]; exact List.mem_reverse.2 hob')
   rcases he with rfl | he
   ·exact this
   ·exact twin_sat he this
  cases ob with
  | eq v e => exact sat
  | eqb v e => exact sat
  | req _ _ => exact hmem _ hob rfl sat
  | lst _ _ _ _ => exact hmem _ hob rfl sat
  | loop _ _ _ _ _ _ _ => exact hmem _ hob rfl sat
  | call pc f args mem res upd =>
   have := List.all_eq_true.1 h3 _ hob
   simp only [Bool.and_eq_true, beq_iff_eq] at this
   obtain ⟨⟨rfl, g1⟩, g2⟩ := this
   exact hcon f args mem res upd g1 g2 (List.all_eq_true.1 h2 _ hob) sat
 ·cases h
theorem good_ok {S : Sig} {shp : FuncId → List LV → List (Nat × Cells) → Bool} {obs : List Ob} (h : goodB P S shp obs = true) (hS : ∀ s l k, R64 (S.val s l k)) (ε0 : Env) (h0 : ∀ i, R64 (ε0.i i)) :
  (∀ v, v < top → (ε0.solve S obs).i v = ε0.i v) ∧ (ε0.solve S obs).sa = ε0.sa ∧ (ε0.solve S obs).sn = ε0.sn ∧ (ε0.solve S obs).sc = ε0.sc ∧ (∀ i, R64 ((ε0.solve S obs).i i)) ∧
   ∀ w0 : World, (∀ f args mem res upd, shp f args mem = true → stdRes P S.sym f args mem = some (res, upd) → rngOb (.call (.blit true) f args mem res upd) = true → Ob.sat S (ε0.solve S obs) (.call (.blit true) f args mem res upd) → Ob.ok P (ε0.solve S obs) w0 (.call (.blit true) f args mem res upd)) →
    ∀ ob ∈ obs, ob.ok P (ε0.solve S obs) w0 := by
 unfold goodB at h
 simp only [Bool.and_eq_true] at h
 obtain ⟨g1, g2, g3, g4, g5, g6, g7⟩ := good_okL h.1 hS ε0 h0
 refine ⟨g1, g2, g3, g4, g6, fun w0 hc => g7 w0 hc fun ob hob hm _ => ?_⟩
 have := List.all_eq_true.1 h.2 ob hob
 rw [hm] at this
 cases this
end SX
end
section
namespace SX
open Go.RowKit
variable {P : Program}
def matchSV (p a : SV) (k : Nat) : Bool := match p, a with
 | .a (.int q (.var i)), .a (.int q' _) => i == k && q == q'
 | .a (.fsl i), .a (.fsl j) => i == j
 | _, _ => false
def matchSVs : List SV → List SV → Nat → Bool
 | [], [], _ => true
 | p :: ps, a :: as, k => matchSV p a k && matchSVs ps as (k + 1)
 | _, _, _ => false
def matchLV (p a : LV) (k : Nat) : Bool := match p, a with
 | .v (.agg l), .v (.agg m) => matchSVs l m k
 | .v (.s x), .v (.s y) => matchSV x y k
 | _, _ => false
def sizeLV : LV → Nat
 | .v x => x.cells.length
 | _ => 0
def matchLVs : List LV → List LV → Nat → Bool
 | [], [], _ => true
 | p :: ps, a :: as, k => matchLV p a k && matchLVs ps as (k + sizeLV p)
 | _, _, _ => false
def envL (T : Env) (l : List Int) : Env := { i := fun v => l.getD v 0, b := fun _ => false, sa := T.sa, sn := T.sn, sc := T.sc, st := T.st, el := T.el }
theorem matchSV_ints {p a : SV} {k : Nat} (h : matchSV p a k = true) (ε : Env) : ∃ x, a.ints ε = [x] := by
 unfold matchSV at h
 split at h
 ·exact ⟨_, rfl⟩
 ·exact ⟨_, rfl⟩
 ·cases h
theorem matchSV_den {p a : SV} {k : Nat} (h : matchSV p a k = true) {ε ε' : Env} {ρ ρ' : Nat → Nat} (hs : ε'.sa = ε.sa ∧ ε'.sn = ε.sn ∧ ε'.sc = ε.sc) (hk : ∀ x, a.ints ε = [x] → ε'.i k = x) : p.den ε' ρ' = a.den ε ρ := by
 unfold matchSV at h
 split at h
 ·rename_i q i q' e
  simp only [Bool.and_eq_true, beq_iff_eq] at h
  obtain ⟨rfl, rfl⟩ := h
  simp only [SV.den, AV.den, E.den, hk _ rfl]
 ·simp only [beq_iff_eq] at h
  subst h
  simp only [SV.den, AV.den, hs]
 ·cases h
theorem matchSVs_den {ε ε' : Env} {ρ ρ' : Nat → Nat} (hs : ε'.sa = ε.sa ∧ ε'.sn = ε.sn ∧ ε'.sc = ε.sc) : ∀ {ps as : List SV} {k : Nat} {L : List Int}, matchSVs ps as k = true → (∀ j x, (as.flatMap (SV.ints ε))[j]? = some x → ε'.i (k + j) = x) →
  ps.map (SV.den ε' ρ') = as.map (SV.den ε ρ) ∧ (as.flatMap (SV.ints ε)).length = ps.length
 | [], [], _, _, _, _ => ⟨rfl, rfl⟩
 | p :: ps, a :: as, k, L, h, hk => by
  simp only [matchSVs, Bool.and_eq_true] at h
  obtain ⟨x, hx⟩ := matchSV_ints h.1 ε
  have e1 : p.den ε' ρ' = a.den ε ρ := matchSV_den h.1 hs fun y hy => by
   rw [hx] at hy; cases hy
   have := hk 0 x (by simp [hx])
   simpa using this
  obtain ⟨e2, e3⟩ := matchSVs_den (ρ := ρ) (ρ' := ρ') hs (L := L) h.2 fun j y hj => by
   have := hk (j + 1) y (by simp only [List.flatMap_cons, hx, List.singleton_append, List.getElem?_cons_succ]; exact hj)
   rw [← this]; congr 1; omega
  exact ⟨by simp only [List.map_cons, e1, e2], by simp only [List.flatMap_cons, hx, List.singleton_append, List.length_cons, e3]⟩
 | [], _ :: _, _, _, h, _ => by simp [matchSVs] at h
 | _ :: _, [], _, _, h, _ => by simp [matchSVs] at h
theorem matchLV_den {ε ε' : Env} {ρ ρ' : Nat → Nat} (hs : ε'.sa = ε.sa ∧ ε'.sn = ε.sn ∧ ε'.sc = ε.sc) {p a : LV} {k : Nat} {mem : List (Nat × Cells)} (h : matchLV p a k = true) (hk : ∀ j x, (argInts ε mem a)[j]? = some x → ε'.i (k + j) = x) :
  p.den ε' ρ' = a.den ε ρ ∧ (argInts ε mem a).length = sizeLV p := by
 unfold matchLV at h
 split at h
 ·rename_i l m
  have hk' : ∀ j x, (m.flatMap (SV.ints ε))[j]? = some x → ε'.i (k + j) = x := hk
  obtain ⟨e1, e2⟩ := matchSVs_den (ρ := ρ) (ρ' := ρ') hs (L := []) h hk'
  refine ⟨?_, e2⟩
  simp only [LV.den, V1.den, e1]
 ·rename_i x y
  obtain ⟨n, hn⟩ := matchSV_ints h ε
  have hy : argInts ε mem (.v (.s y)) = y.ints ε := by
   unfold matchSV at h
   split at h
   ·rfl
   ·rfl
   ·cases h
  rw [hy] at hk ⊢
  refine ⟨?_, by rw [hn]; rfl⟩
  simp only [LV.den, V1.den]
  exact matchSV_den h hs fun z hz => by
   have := hk 0 z (by rw [hz]; rfl)
   simpa using this
 ·cases h
theorem matchLVs_den {ε ε' : Env} {ρ ρ' : Nat → Nat} (hs : ε'.sa = ε.sa ∧ ε'.sn = ε.sn ∧ ε'.sc = ε.sc) {mem : List (Nat × Cells)} : ∀ {ps as : List LV} {k : Nat}, matchLVs ps as k = true → (∀ j x, (as.flatMap (argInts ε mem))[j]? = some x → ε'.i (k + j) = x) →
  ps.map (LV.den ε' ρ') = as.map (LV.den ε ρ)
 | [], [], _, _, _ => rfl
 | p :: ps, a :: as, k, h, hk => by
  simp only [matchLVs, Bool.and_eq_true] at h
  have hk1 : ∀ j x, (argInts ε mem a)[j]? = some x → ε'.i (k + j) = x := fun j x hj => hk j x (by
   rw [List.flatMap_cons, List.getElem?_append_left (List.getElem?_eq_some_iff.1 hj).1]; exact hj)
  obtain ⟨e1, e2⟩ := matchLV_den (ρ := ρ) (ρ' := ρ') hs h.1 hk1
  simp only [List.map_cons, e1]
  rw [matchLVs_den (ρ := ρ) (ρ' := ρ') hs (mem := mem) h.2 fun j x hj => by
   have := hk (sizeLV p + j) x (by
    rw [List.flatMap_cons, List.getElem?_append_right (by omega), e2, show sizeLV p + j - sizeLV p = j by omega]; exact hj)
   rw [← this]; congr 1; omega]
 | [], _ :: _, _, h, _ => by simp [matchLVs] at h
 | _ :: _, [], _, h, _ => by simp [matchLVs] at h
def sizeLVs : List LV → Nat
 | [] => 0
 | p :: ps => sizeLV p + sizeLVs ps
theorem matchSVs_len (ε : Env) : ∀ {ps as : List SV} {k : Nat}, matchSVs ps as k = true → (as.flatMap (SV.ints ε)).length = ps.length
 | [], [], _, _ => rfl
 | p :: ps, a :: as, k, h => by
  simp only [matchSVs, Bool.and_eq_true] at h
  obtain ⟨x, hx⟩ := matchSV_ints h.1 ε
  simp only [List.flatMap_cons, hx, List.singleton_append, List.length_cons, matchSVs_len ε h.2]
 | [], _ :: _, _, h => by simp [matchSVs] at h
 | _ :: _, [], _, h => by simp [matchSVs] at h
theorem matchLV_len (ε : Env) {mem : List (Nat × Cells)} {p a : LV} {k : Nat} (h : matchLV p a k = true) : (argInts ε mem a).length = sizeLV p ∧ argInts ε mem a = argInts ε [] a := by
 unfold matchLV at h
 split at h
 ·rename_i l m
  exact ⟨matchSVs_len ε h, rfl⟩
 ·rename_i x y
  obtain ⟨n, hn⟩ := matchSV_ints h ε
  have hy : ∀ mem, argInts ε mem (.v (.s y)) = y.ints ε := fun mem => by
   unfold matchSV at h
   split at h
   ·rfl
   ·rfl
   ·cases h
  rw [hy, hy]
  exact ⟨by rw [hn]; rfl, rfl⟩
 ·cases h
theorem matchLVs_len (ε : Env) {mem : List (Nat × Cells)} : ∀ {ps as : List LV} {k : Nat}, matchLVs ps as k = true → (as.flatMap (argInts ε mem)).length = sizeLVs ps ∧ as.flatMap (argInts ε mem) = as.flatMap (argInts ε [])
 | [], [], _, _ => ⟨rfl, rfl⟩
 | p :: ps, a :: as, k, h => by
  simp only [matchLVs, Bool.and_eq_true] at h
  obtain ⟨e1, e2⟩ := matchLV_len ε (mem := mem) h.1
  obtain ⟨e3, e4⟩ := matchLVs_len ε (mem := mem) h.2
  exact ⟨by simp only [List.flatMap_cons, List.length_append, e1, e3, sizeLVs], by simp only [List.flatMap_cons, e2, e4]⟩
 | [], _ :: _, _, h => by simp [matchLVs] at h
 | _ :: _, [], _, h => by simp [matchLVs] at h
def Con (P : Program) (S : Sig) (shp : FuncId → List LV → List (Nat × Cells) → Bool) (T : Env) (w0 : World) : Prop :=
 ∀ (ε : Env), ε.sa = T.sa → ε.sn = T.sn → ε.sc = T.sc → (∀ i, R64 (ε.i i)) → ∀ w, Below w0.heap.size w0 w → ∀ f args mem res upd, shp f args mem = true → stdRes P S.sym f args mem = some (res, upd) →
  rngOb (.call (.blit true) f args mem res upd) = true → Ob.sat S ε (.call (.blit true) f args mem res upd) → Ob.ok P ε w (.call (.blit true) f args mem res upd)
theorem R64_0 : R64 0 := by unfold R64; omega
theorem envL_R64 {T : Env} {l : List Int} (h : ∀ x ∈ l, R64 x) (i : Nat) : R64 ((envL T l).i i) := by
 show R64 (l.getD i 0)
 rw [List.getD_eq_getElem?_getD]
 cases hi : l[i]? with
 | none => exact R64_0
 | some x => exact h x (List.mem_of_getElem? hi)
def rd (P : Program) (K : Cfg) (n sp : Nat) (f : FuncId) (pat : List LV) (mem : List (Nat × Cells)) : LV × St × List Ob := match evFn P K n sp f pat mem (.blit true) 0 1 with
 | some (v, s, _, obs) => (v, s, obs)
 | none => (.bad, ⟨[], [], []⟩, [])
theorem rd_some {K : Cfg} {n sp : Nat} {f : FuncId} {pat : List LV} {mem : List (Nat × Cells)} (h : (rd P K n sp f pat mem).1 ≠ .bad) : ∃ nv', evFn P K n sp f pat mem (.blit true) 0 1 = some ((rd P K n sp f pat mem).1, (rd P K n sp f pat mem).2.1, nv', (rd P K n sp f pat mem).2.2) := by
 unfold rd at h ⊢
 split
 ·rename_i v s nv obs he
  exact ⟨nv, he⟩
 ·rename_i he
  rw [he] at h
  exact absurd rfl h
def clampI (n : Int) : Int := if -9223372036854775808 ≤ n ∧ n ≤ 9223372036854775807 then n else 0
theorem clampI_R64 (n : Int) : R64 (clampI n) := by unfold clampI R64; split <;> omega
theorem clampI_eq {n : Int} (h : R64 n) : clampI n = n := if_pos h
theorem base32 (s : Nat) (args : List LV) (mem : List (Nat × Cells)) : callBase s args mem / 32 * 32 = callBase s args mem := by
 unfold callBase; omega
end SX
end
section
namespace SX
open Go.RowKit
variable {P : Program}
def fsl0 : SV → Bool
 | .a (.fsl i) => i == 0
 | _ => true
theorem matchSV_R64 {ε : Env} (hε : ∀ i, R64 (ε.i i)) {p a : SV} {k : Nat} (h : matchSV p a k = true) (hr : rngSV a = true) (hp : fsl0 p = true) : ∀ x ∈ a.ints ε, R64 x := by
 unfold matchSV at h
 split at h
 ·intro x hx
  simp only [SV.ints, List.mem_singleton] at hx
  subst hx
  exact rngE_spec hε hr
 ·simp only [beq_iff_eq] at h
  subst h
  intro x hx
  simp only [fsl0, beq_iff_eq] at hp
  subst hp
  simp only [SV.ints, List.mem_singleton] at hx
  subst hx
  exact R64_0
 ·cases h
theorem matchSVs_R64 {ε : Env} (hε : ∀ i, R64 (ε.i i)) : ∀ {ps as : List SV} {k : Nat}, matchSVs ps as k = true → as.all rngSV = true → ps.all fsl0 = true → ∀ x ∈ as.flatMap (SV.ints ε), R64 x
 | [], [], _, _, _, _, x, hx => by simp at hx
 | p :: ps, a :: as, k, h, hr, hp, x, hx => by
  simp only [matchSVs, Bool.and_eq_true] at h
  simp only [List.all_cons, Bool.and_eq_true] at hr hp
  rw [List.flatMap_cons] at hx
  rcases List.mem_append.1 hx with hx | hx
  ·exact matchSV_R64 hε h.1 hr.1 hp.1 x hx
  ·exact matchSVs_R64 hε h.2 hr.2 hp.2 x hx
 | [], _ :: _, _, h, _, _, _, _ => by simp [matchSVs] at h
 | _ :: _, [], _, h, _, _, _, _ => by simp [matchSVs] at h
def fsl0LV : LV → Bool
 | .v x => x.cells.all fsl0
 | _ => false
def rngLV : LV → Bool := fun x => match x with | .v v => v.cells.all rngSV | _ => false
theorem matchLVs_R64 {ε : Env} (hε : ∀ i, R64 (ε.i i)) : ∀ {ps as : List LV} {k : Nat}, matchLVs ps as k = true → as.all rngLV = true → ps.all fsl0LV = true → ∀ x ∈ as.flatMap (argInts ε []), R64 x
 | [], [], _, _, _, _, x, hx => by simp at hx
 | p :: ps, a :: as, k, h, hr, hp, x, hx => by
  simp only [matchLVs, Bool.and_eq_true] at h
  simp only [List.all_cons, Bool.and_eq_true] at hr hp
  rw [List.flatMap_cons] at hx
  rcases List.mem_append.1 hx with hx1 | hx1
  ·have h1 := h.1
   unfold matchLV at h1
   split at h1
   ·exact matchSVs_R64 hε h1 hr.1 hp.1 x hx1
   ·rename_i y z
    have hz : argInts ε [] (.v (.s z)) = z.ints ε := by
     unfold matchSV at h1
     split at h1
     ·rfl
     ·rfl
     ·cases h1
    rw [hz] at hx1
    have hr1 : rngSV z = true := by have := hr.1; simpa [rngLV, V1.cells] using this
    have hp1 : fsl0 y = true := by have := hp.1; simpa [fsl0LV, V1.cells] using this
    exact matchSV_R64 hε h1 hr1 hp1 x hx1
   ·cases h1
  ·exact matchLVs_R64 hε h.2 hr.2 hp.2 x hx1
 | [], _ :: _, _, h, _, _, _, _ => by simp [matchLVs] at h
 | _ :: _, [], _, h, _, _, _, _ => by simp [matchLVs] at h
theorem rngOb_args {pc : E} {f : FuncId} {args : List LV} {mem : List (Nat × Cells)} {res : LV} {upd : List (Nat × Cells)} (h : rngOb (.call pc f args mem res upd) = true) : args.all rngLV = true := by
 simp only [rngOb, Bool.and_eq_true] at h
 exact h.1
theorem base_common {S : Sig} {pat : List LV} {q s z : Nat} (hz3 : (z == 3) = false) (hs : S.sym q = some (s, z)) {T ε : Env} (ht : ε.sa = T.sa ∧ ε.sn = T.sn ∧ ε.sc = T.sc) {args : List LV} {mem : List (Nat × Cells)} {pc : E} {res : LV} {upd : List (Nat × Cells)} (hm : matchLVs pat args 0 = true)
  (hsat : Ob.sat S ε (.call pc q args mem res upd)) :
  ∃ L, args.flatMap (argInts ε []) = L ∧ L.length = sizeLVs pat ∧ (∀ j, j < 32 → ε.i (callBase s args mem + j) = S.val s L j ∧ ε.b (callBase s args mem + j) = decide (S.val s L j ≠ 0)) ∧ ∀ ρ : Nat → Nat, pat.map (LV.den (envL T L) fun _ => 0) = args.map (LV.den ε ρ) := by
 obtain ⟨l1, l2⟩ := matchLVs_len ε (mem := mem) hm
 refine ⟨_, rfl, by rw [← l2]; exact l1, fun j hj => ?_, fun ρ => ?_⟩
 ·have hcn : callNo S q args mem = some (callBase s args mem / 32, s, args) := by
   unfold callNo
   rw [hs]
   simp only [callArgs, hz3, Bool.false_eq_true, if_false]
  have := hsat _ _ _ hcn j hj
  rw [base32, l2] at this
  exact this
 ·exact matchLVs_den (ε' := envL T (args.flatMap (argInts ε []))) ⟨ht.1.symm, ht.2.1.symm, ht.2.2.symm⟩ (mem := []) hm fun j x hj => by
   show (args.flatMap (argInts ε [])).getD (0 + j) 0 = x
   rw [Nat.zero_add, List.getD_eq_getElem?_getD, hj]; rfl
theorem base_sp {S : Sig} {pat : List LV} {q s : Nat} (hs : S.sym q = some (s, 1)) {fn : Func} (hfn : P.funcs[q]? = some fn)
  (hres : ∀ base, ∃ m, nameRes P fn base = some (.tup [.agg [.a (.int .i64 (.var base)), .a (.int .i64 (.var (base + 1)))], .s (.a (.int .i64 (.var (base + 2))))], m)) {T : Env} {w0 : World}
  (hz : ∀ L, S.val s L 2 ≠ 0 → S.val s L 0 = 0 ∧ S.val s L 1 = 0) (hp : pat.all fsl0LV = true)
  (hC : ∀ L : List Int, (∀ x ∈ L, R64 x) → L.length = sizeLVs pat → ∀ w, Below w0.heap.size w0 w → Calls P q ((pat.map (LV.den (envL T L) fun _ => 0)).toArray) w (fun e w' => e = .returned (.tuple #[.agg #[.int .i64 (S.val s L 0), .int .i64 (S.val s L 1)], .int .i64 (S.val s L 2)]) ∧ Below w.heap.size w w'))
  {ε : Env} (ht : ε.sa = T.sa ∧ ε.sn = T.sn ∧ ε.sc = T.sc) (hε : ∀ i, R64 (ε.i i)) {w : World} (hw : Below w0.heap.size w0 w) {args : List LV} {mem : List (Nat × Cells)} {res : LV} {upd : List (Nat × Cells)} (hm : matchLVs pat args 0 = true) (hr : rngOb (.call (.blit true) q args mem res upd) = true)
  (hstd : stdRes P S.sym q args mem = some (res, upd)) (hsat : Ob.sat S ε (.call (.blit true) q args mem res upd)) : Ob.ok P ε w (.call (.blit true) q args mem res upd) := by
 obtain ⟨L, hL, l1, hv, hden⟩ := base_common rfl hs ht hm hsat
 have hR : ∀ x ∈ L, R64 x := by rw [← hL]; exact matchLVs_R64 hε hm (rngOb_args hr) hp
 obtain ⟨base, hbase⟩ : ∃ base, callBase s args mem = base := ⟨_, rfl⟩
 rw [hbase] at hv
 have hres' : res = .tup [zeroLess1 (.var (base + 2)) (.agg [.a (.int .i64 (.var base)), .a (.int .i64 (.var (base + 1)))]), .s (.a (.int .i64 (.var (base + 2))))] ∧ upd = [] := by
  unfold stdRes at hstd
  rw [hs, hfn] at hstd
  obtain ⟨m, hm⟩ := hres base
  simp [stdVal, hbase, hm, zeroLess1, zeroLess, mkIte] at hstd
  simp [zeroLess1, zeroLess, hstd]
 obtain ⟨rfl, rfl⟩ := hres'
 intro _ w2 ρ hw2 _ _
 have := hC L hR l1 w2 (hw.trans (hw2.mono hw.size))
 rw [hden ρ] at this
 have v0 := (hv 0 (by omega)).1
 have v1 := (hv 1 (by omega)).1
 have v2 := (hv 2 (by omega)).1
 rw [Nat.add_zero] at v0
 refine this.mono fun e w' ⟨h1, h2⟩ => ⟨?_, by simp, Ext.of_below h2 _⟩
 rw [h1]
 congr 1
 show _ = Value.tuple #[.agg #[.int .i64 ((mkIte (mkEq 200 (.var (base + 2)) (.lit 0)) (.var base) (.lit 0)).den ε).1, .int .i64 ((mkIte (mkEq 200 (.var (base + 2)) (.lit 0)) (.var (base + 1)) (.lit 0)).den ε).1], .int .i64 (ε.i (base + 2))]
 simp only [mkIte_den, mkEq_den, E.den, v0, v1, v2, beq_iff_eq]
 by_cases h : S.val s L 2 = 0
 ·simp only [h, if_true]
 ·obtain ⟨k0, k1⟩ := hz L h
  simp only [h, if_false, k0, k1]
theorem base_i {S : Sig} {pat : List LV} {q s : Nat} (hs : S.sym q = some (s, 0)) {fn : Func} (hfn : P.funcs[q]? = some fn)
  (hres : ∀ base, ∃ m, nameRes P fn base = some (.v (.s (.a (.int .i64 (.var base)))), m)) {T : Env} {w0 : World} (hp : pat.all fsl0LV = true)
  (hC : ∀ L : List Int, (∀ x ∈ L, R64 x) → L.length = sizeLVs pat → ∀ w, Below w0.heap.size w0 w → Calls P q ((pat.map (LV.den (envL T L) fun _ => 0)).toArray) w (fun e w' => e = .returned (.int .i64 (S.val s L 0)) ∧ Below w.heap.size w w'))
  {ε : Env} (ht : ε.sa = T.sa ∧ ε.sn = T.sn ∧ ε.sc = T.sc) (hε : ∀ i, R64 (ε.i i)) {w : World} (hw : Below w0.heap.size w0 w) {args : List LV} {mem : List (Nat × Cells)} {res : LV} {upd : List (Nat × Cells)} (hm : matchLVs pat args 0 = true) (hr : rngOb (.call (.blit true) q args mem res upd) = true)
  (hstd : stdRes P S.sym q args mem = some (res, upd)) (hsat : Ob.sat S ε (.call (.blit true) q args mem res upd)) : Ob.ok P ε w (.call (.blit true) q args mem res upd) := by
 obtain ⟨L, hL, l1, hv, hden⟩ := base_common rfl hs ht hm hsat
 have hR : ∀ x ∈ L, R64 x := by rw [← hL]; exact matchLVs_R64 hε hm (rngOb_args hr) hp
 obtain ⟨base, hbase⟩ : ∃ base, callBase s args mem = base := ⟨_, rfl⟩
 rw [hbase] at hv
 have hres' : res = .v (.s (.a (.int .i64 (.var base)))) ∧ upd = [] := by
  unfold stdRes at hstd
  rw [hs, hfn] at hstd
  obtain ⟨m, hm⟩ := hres base
  simp [stdVal, hbase, hm] at hstd
  exact ⟨hstd.1.symm, hstd.2⟩
 obtain ⟨rfl, rfl⟩ := hres'
 intro _ w2 ρ hw2 _ _
 have := hC L hR l1 w2 (hw.trans (hw2.mono hw.size))
 rw [hden ρ] at this
 have v0 := (hv 0 (by omega)).1
 rw [Nat.add_zero] at v0
 refine this.mono fun e w' ⟨h1, h2⟩ => ⟨?_, by simp, Ext.of_below h2 _⟩
 rw [h1, ← v0]; rfl
end SX
end
section
namespace SX
open Go.RowKit
variable {P : Program}
theorem good_satL {S : Sig} {shp : FuncId → List LV → List (Nat × Cells) → Bool} {obs : List Ob} (h : goodL P S shp obs = true) (ε0 : Env) : ∀ ob ∈ obs, ob.sat S (ε0.solve S obs) := by
 unfold goodL at h
 unfold Env.solve
 split at h
 ·rename_i r hr
  simp only [Bool.and_eq_true] at h
  obtain ⟨⟨h1, h2⟩, h3⟩ := h
  obtain ⟨_, hn⟩ := nub_acc hr
  have hs := steps_sat h1 ε0
  intro ob hob
  rcases hn ob hob with hq | ⟨ob', hob', he⟩
  ·exact isQ_sat hq
  have := hs ob' (by rw [List.map_reverse]; exact List.mem_reverse.2 hob')
  rcases he with rfl | he
  ·exact this
  ·exact twin_sat he this
 ·cases h
theorem good_sat {S : Sig} {shp : FuncId → List LV → List (Nat × Cells) → Bool} {obs : List Ob} (h : goodB P S shp obs = true) (ε0 : Env) : ∀ ob ∈ obs, ob.sat S (ε0.solve S obs) := by
 unfold goodB at h
 simp only [Bool.and_eq_true] at h
 exact good_satL h.1 ε0
def isCall (S : Sig) (s : Nat) (args : List LV) (base : Nat) : Ob → Bool
 | .call _ f a m _ _ => callNo S f a m == some (base / 32, s, args) && base / 32 * 32 == base
 | _ => false
theorem sat_call {S : Sig} {ε : Env} {obs : List Ob} (h : ∀ ob ∈ obs, ob.sat S ε) {s base : Nat} {args : List LV} (hc : obs.any (isCall S s args base) = true) : ∃ mem, ∀ j, j < 32 → ε.i (base + j) = S.val s (args.flatMap (argInts ε mem)) j := by
 obtain ⟨ob, hob, hi⟩ := List.any_eq_true.1 hc
 unfold isCall at hi
 split at hi
 ·rename_i f a m _ _
  simp only [Bool.and_eq_true, beq_iff_eq] at hi
  refine ⟨m, fun j hj => ?_⟩
  have := (h _ hob _ _ _ hi.1 j hj).1
  rwa [hi.2] at this
 ·cases hi
def readB (P : Program) (S : Sig) (shp : FuncId → List LV → List (Nat × Cells) → Bool) (K : Cfg) (n sp : Nat) (f : FuncId) (pat : List LV) (mem : List (Nat × Cells)) : Bool :=
 goodB P S shp (rd P K n sp f pat mem).2.2 && !((rd P K n sp f pat mem).1 == .bad) && pat.all notBad && mem.all (fun u => decide (u.1 < 1)) && (rd P K n sp f pat mem).1.ids.all (fun b => decide (b < 1)) &&
  (rd P K n sp f pat mem).2.1.wr.all (fun b => !(mem.lookup b).isSome || (([] : List (Nat × Cells)).map (·.1)).contains b)
theorem read_ob (hmix : P.follows .mixedOrders = true) {S : Sig} {shp : FuncId → List LV → List (Nat × Cells) → Bool} {K : Cfg} {n sp : Nat} (hsp : 0 < sp) {f : FuncId} {pat : List LV} {mem : List (Nat × Cells)} (h : readB P S shp K n sp f pat mem = true)
  (hS : ∀ s l k, R64 (S.val s l k)) (T : Env) {w : World} {L : List Int} (hL : ∀ x ∈ L, R64 x)
  (hc : ∀ ε : Env, (∀ v, v < top → ε.i v = L.getD v 0) → ε.sa = T.sa → ε.sn = T.sn → ε.sc = T.sc → (∀ i, R64 (ε.i i)) → ∀ f args mem res upd, shp f args mem = true → stdRes P S.sym f args mem = some (res, upd) → rngOb (.call (.blit true) f args mem res upd) = true → Ob.sat S ε (.call (.blit true) f args mem res upd) → Ob.ok P ε w (.call (.blit true) f args mem res upd)) :
  ∃ ε : Env, (∀ v, v < top → ε.i v = L.getD v 0) ∧ ε.sa = T.sa ∧ ε.sn = T.sn ∧ ε.sc = T.sc ∧ (∀ i, R64 (ε.i i)) ∧ (∀ ob ∈ (rd P K n sp f pat mem).2.2, ob.sat S ε) ∧ (Ob.call (.blit true) f pat mem (rd P K n sp f pat mem).1 []).ok P ε w := by
 unfold readB at h
 simp only [Bool.and_eq_true, Bool.not_eq_true'] at h
 obtain ⟨⟨⟨⟨⟨g1, g2⟩, g3⟩, g4⟩, g5⟩, g6⟩ := h
 obtain ⟨e1, e2, e3, e4, e5, e6⟩ := good_ok g1 hS (envL T L) (envL_R64 hL)
 have hst := good_sat g1 (envL T L)
 obtain ⟨nv', hev⟩ := rd_some (fun e => by rw [e] at g2; simp at g2)
 refine ⟨_, e1, e2, e3, e4, e5, hst, ?_⟩
 exact reads_ob hmix hsp hev g3 g4 g5 (upd := []) g6 rfl _ w (e6 w (hc _ e1 e2 e3 e4 e5))
end SX
end
section
namespace SX
open Go.RowKit
variable {P : Program}
end SX
end
section
namespace SX
open Go.RowKit
variable {P : Program}
section
variable {ε ε' : Env} {ρ : Nat → Nat}
end
end SX
end
section
namespace SX
open Go.RowKit
variable {P : Program}
end SX
end
section
namespace SX
open Go.RowKit
variable {P : Program}
end SX
end
section
namespace SX
open Go.RowKit
variable {P : Program}
end SX
end
end Go.Proofs.Ytdcolicajjmffaa
