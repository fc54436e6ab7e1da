/- Packed: SxK SxN. -/
import Derived.Test.YtdoigcpcponnhaaP5
set_option linter.unusedVariables false
set_option linter.unusedSimpArgs false
section
namespace Go.Proofs.Ytdoigcpcponnhaa
namespace SX
open Go.RowKit
variable {P : Program}
inductive LT
 | next (es bs : List E)
 | out (k : Ex) (es bs : List E)
 | node (c : E) (x y : LT)
 deriving Repr, BEq, ReflBEq, LawfulBEq
def LT.sel (ε : Env) : LT → LT
 | .node c x y => if (c.den ε).2 then x.sel ε else y.sel ε
 | l => l
def toLT (kill keep : List Nat) (H : St) : Tr → Option LT
 | .leaf k s =>
  let g := gS (cutS kill keep s)
  if okS (cutS kill keep s) && g.1 == (gS H).1 && s.wr.all (fun b => H.wr.contains b || !(H.at b).isSome) && g.2.1.length == (gS H).2.1.length && g.2.2.length == (gS H).2.2.length then some (if k == .normal then .next g.2.1 g.2.2 else .out k g.2.1 g.2.2) else none
 | .node c x y => match toLT kill keep H x, toLT kill keep H y with
  | some x, some y => some (.node c x y)
  | _, _ => none
def toMT (H : St) : Tr → Option LT
 | .leaf k s => if okS s && (gS s).1 == (gS H).1 && H.wr.all s.wr.contains && !(k == .normal) then some (.out k (gS s).2.1 (gS s).2.2) else none
 | .node c x y => match toMT H x, toMT H y with
  | some x, some y => some (.node c x y)
  | _, _ => none
def rdL (P : Program) (K : Cfg) (n sp : Nat) (wy : Way) (pcH : E) (H : St) (nid : Nat) : Option Res := match codeAt P wy with
 | some (.loop c) => evCode P K n true sp (0 :: wy) c pcH H 0 nid
 | _ => none
def rdObs : Option Res → List Ob
 | some r => r.obs
 | none => []
def rdT (kill keep : List Nat) (H : St) : Option Res → Option LT
 | some r => toLT kill keep H r.tr
 | none => none
def loopB (P : Program) (S : Sig) (shp : FuncId → List LV → List (Nat × Cells) → Bool) (K : Cfg) (n sp : Nat) (kill keep W : List Nat) (pcH : E) (wy : Way) (st : St) (nid : Nat) (tr : Tr) : Bool :=
 let H := hdr kill keep W st
 okS (cutS kill keep st) && okS H && (gS H).1 == (gS (cutS kill keep st)).1 && (gS H).2.1 == (List.range (gS (cutS kill keep st)).2.1.length).map .var && (gS H).2.2 == (List.range (gS (cutS kill keep st)).2.2.length).map .bvar &&
 H.mem.all (fun u => decide (u.1 < nid)) && decide ((gS H).2.1.length < top) && decide ((gS H).2.2.length < top) && goodL P S shp (rdObs (rdL P K n sp wy pcH H nid)) && (rdT kill keep H (rdL P K n sp wy pcH H nid)).isSome && (toMT H tr).isSome
theorem toLT_sel {kill keep : List Nat} {H : St} {ε : Env} : ∀ {t : Tr} {L : LT}, toLT kill keep H t = some L → okS (cutS kill keep (t.sel ε).2) = true ∧ (gS (cutS kill keep (t.sel ε).2)).1 = (gS H).1 ∧ (∀ b ∈ (t.sel ε).2.wr, (H.at b).isSome = true → b ∈ H.wr) ∧ (gS (cutS kill keep (t.sel ε).2)).2.1.length = (gS H).2.1.length ∧ (gS (cutS kill keep (t.sel ε).2)).2.2.length = (gS H).2.2.length ∧
  L.sel ε = (if (t.sel ε).1 == .normal then .next (gS (cutS kill keep (t.sel ε).2)).2.1 (gS (cutS kill keep (t.sel ε).2)).2.2 else .out (t.sel ε).1 (gS (cutS kill keep (t.sel ε).2)).2.1 (gS (cutS kill keep (t.sel ε).2)).2.2)
 | .leaf k s, L, h => by
  simp only [toLT] at h
  split at h
  ·rename_i hc
   simp only [Bool.and_eq_true, beq_iff_eq, List.all_eq_true, Bool.or_eq_true, List.contains_iff_mem, Bool.not_eq_true'] at hc
   simp only [Option.some.injEq] at h
   subst h
   refine ⟨hc.1.1.1.1, hc.1.1.1.2, fun b hb hs => (hc.1.1.2 b hb).resolve_right (by rw [hs]; simp), hc.1.2, hc.2, ?_⟩
   simp only [Tr.sel]
   split
   ·rename_i hk; simp only [LT.sel, hk, if_true]
   ·rename_i hk; simp only [LT.sel, hk, Bool.false_eq_true, if_false]
  ·cases h
 | .node c x y, L, h => by
  simp only [toLT] at h
  split at h
  ·rename_i a b ha hb
   cases h
   simp only [Tr.sel, LT.sel]
   split
   ·exact toLT_sel ha
   ·exact toLT_sel hb
  ·cases h
theorem toMT_sel {H : St} {ε : Env} : ∀ {t : Tr} {M : LT}, toMT H t = some M → okS (t.sel ε).2 = true ∧ (gS (t.sel ε).2).1 = (gS H).1 ∧ (∀ b ∈ H.wr, b ∈ (t.sel ε).2.wr) ∧ M.sel ε = .out (t.sel ε).1 (gS (t.sel ε).2).2.1 (gS (t.sel ε).2).2.2 ∧ (t.sel ε).1 ≠ .normal
 | .leaf k s, M, h => by
  simp only [toMT] at h
  split at h
  ·rename_i hc
   simp only [Bool.and_eq_true, beq_iff_eq, List.all_eq_true, List.contains_iff_mem, Bool.not_eq_true', beq_eq_false_iff_ne] at hc
   simp only [Option.some.injEq] at h
   subst h
   exact ⟨hc.1.1.1, hc.1.1.2, hc.1.2, rfl, hc.2⟩
  ·cases h
 | .node c x y, M, h => by
  simp only [toMT] at h
  split at h
  ·rename_i a b ha hb
   cases h
   simp only [Tr.sel, LT.sel]
   split
   ·exact toMT_sel ha
   ·exact toMT_sel hb
  ·cases h
def envR (S : Sig) (ε : Env) (obs : List Ob) (l : List Int) (b : List Bool) : Env := (ε.vec l b).solve S obs
theorem getD_range {α : Type} (l : List α) (d : α) : (List.range l.length).map (fun v => l.getD v d) = l := by
 apply List.ext_getElem
 ·simp
 ·intro i h1 h2; simp [List.getD_eq_getElem?_getD, List.getElem?_eq_getElem h2]
theorem loop_ok (hmix : P.follows .mixedOrders = true) {S : Sig} {shp : FuncId → List LV → List (Nat × Cells) → Bool} {K : Cfg} {n sp : Nat} (hsp : 0 < sp) {kill keep W : List Nat} {pcH : E} {wy : Way} {st : St} {nid : Nat} {tr : Tr}
  (h : loopB P S shp K n sp kill keep W pcH wy st nid tr = true) (hS : ∀ s l k, R64 (S.val s l k)) {T : Env} {w0 : World} (hc : Con P S shp T w0) {ε : Env} (hT : ε.sa = T.sa ∧ ε.sn = T.sn ∧ ε.sc = T.sc)
  {s : Nat} {ins : List LV} {pc : E} (Inv : List Int → List Bool → Prop) (μ : List Int → List Bool → Nat) {L M : LT}
  (hL : rdT kill keep (hdr kill keep W st) (rdL P K n sp wy pcH (hdr kill keep W st) nid) = some L) (hM : toMT (hdr kill keep W st) tr = some M)
  (hR : ∀ l b, Inv l b → ∀ x ∈ l, R64 x)
  (hpc : ∀ l b, Inv l b → (pcH.den (envR S ε (rdObs (rdL P K n sp wy pcH (hdr kill keep W st) nid)) l b)).2 = true)
  (hq : ∀ l b, Inv l b → ∀ ob ∈ rdObs (rdL P K n sp wy pcH (hdr kill keep W st) nid), ob.isM = true → ob.sat S (envR S ε (rdObs (rdL P K n sp wy pcH (hdr kill keep W st) nid)) l b) → ob.ok P (envR S ε (rdObs (rdL P K n sp wy pcH (hdr kill keep W st) nid)) l b) w0)
  (h0 : (pc.den ε).2 = true → Inv (dI ε (gS (cutS kill keep st)).2.1) (dB ε (gS (cutS kill keep st)).2.2))
  (hstep : ∀ l b, Inv l b → ∀ E', E' = envR S ε (rdObs (rdL P K n sp wy pcH (hdr kill keep W st) nid)) l b → (∀ v, v < top → E'.i v = l.getD v 0) → (∀ v, v < top → E'.b v = b.getD v false) → E'.sn = ε.sn → E'.el = ε.el → (∀ ob ∈ rdObs (rdL P K n sp wy pcH (hdr kill keep W st) nid), ob.sat S E') →
   (∃ es bs, L.sel E' = .next es bs ∧ Inv (dI E' es) (dB E' bs) ∧ μ (dI E' es) (dB E' bs) < μ l b) ∨
   (∃ k es bs es' bs', L.sel E' = .out k es bs ∧ M.sel ε = .out k es' bs' ∧ dI E' es = dI ε es' ∧ dB E' bs = dB ε bs')) :
  (Ob.loop s ins wy pc st nid tr).ok P ε w0 := by
 unfold loopB at h
 obtain ⟨H, hH⟩ : ∃ H, hdr kill keep W st = H := ⟨_, rfl⟩
 simp only [hH] at h hL hM hpc hq hstep
 simp only [Bool.and_eq_true, beq_iff_eq, List.all_eq_true, decide_eq_true_eq] at h
 obtain ⟨⟨⟨⟨⟨⟨⟨⟨⟨⟨g1, g2⟩, g3⟩, g4⟩, g5⟩, g6⟩, g7⟩, g7b⟩, g8⟩, g9⟩, g10⟩ := h
 have hwr : ∀ b ∈ st.wr, b ∈ H.wr := fun b hb => by
  rw [← hH]
  show b ∈ addL W st.wr
  have key : ∀ (m l : List Nat), b ∈ l → b ∈ addL m l := by
   intro m
   induction m with
   | nil => intro l h; exact h
   | cons x m ih =>
    intro l h
    show b ∈ insL x (addL m l)
    unfold insL
    split
    ·exact ih l h
    ·exact List.mem_cons_of_mem _ (ih l h)
  exact key _ _ hb
 intro c hcode hpc0 hdom d ρ a w hr Q hQ
 obtain ⟨r, hrd⟩ : ∃ r, rdL P K n sp wy pcH H nid = some r := by
  cases hrl : rdL P K n sp wy pcH H nid with
  | none => rw [hrl] at hL; cases hL
  | some r => exact ⟨r, rfl⟩
 rw [hrd] at hL g8 hpc hq hstep
 simp only [rdT, rdObs] at hL g8 hpc hq hstep
 have hev : evCode P K n true sp (0 :: wy) c pcH H 0 nid = some r := by
  unfold rdL at hrd
  rw [hcode] at hrd
  exact hrd
 have hway : codeAt P (0 :: wy) = some c := codeAt_child hcode rfl
 have hR0 : ∀ l b, Inv l b → ∀ i, R64 ((ε.vec l b).i i) := fun l b hI i => by
  show R64 (l.getD i 0)
  rw [List.getD_eq_getElem?_getD]
  cases hi : l[i]? with
  | none => exact R64_0
  | some x => exact hR l b hI x (List.mem_of_getElem? hi)
 have gd := fun l b (hI : Inv l b) => good_okL (P := P) (shp := shp) g8 hS (ε.vec l b) (hR0 l b hI)
 have sat := fun l b => good_satL g8 (ε.vec l b)
 have hlowB : ∀ l b, Inv l b → ∀ v, v < top → ((ε.vec l b).solve S r.obs).b v = b.getD v false := fun l b hI v hv => by
  unfold goodL at g8
  unfold Env.solve
  split at g8
  ·rename_i r' hr'
   simp only [Bool.and_eq_true] at g8
   exact (steps_agree g8.1.1 (ε.vec l b)).b v (by unfold Kn.hasB; simp [hv])
  ·cases g8
 have vecI : ∀ l b, Inv l b → l.length = (gS (cutS kill keep st)).2.1.length → dI (envR S ε r.obs l b) (gS H).2.1 = l := fun l b hI hl => by
  rw [g4, ← hl]
  unfold dI
  rw [List.map_map, List.map_congr_left (g := fun v => l.getD v 0) (fun v hv => by
   simp only [Function.comp_apply, E.den]
   have : v < top := by rw [List.mem_range] at hv; rw [g4, List.length_map, List.length_range, ← hl] at g7; omega
   exact (gd l b hI).1 v this)]
  exact getD_range l 0
 have vecB : ∀ l b, Inv l b → b.length = (gS (cutS kill keep st)).2.2.length → dB (envR S ε r.obs l b) (gS H).2.2 = b := fun l b hI hl => by
  rw [g5, ← hl]
  unfold dB
  rw [List.map_map, List.map_congr_left (g := fun v => b.getD v false) (fun v hv => by
   simp only [Function.comp_apply, E.den]
   have : v < top := by rw [List.mem_range] at hv; rw [g5, List.length_map, List.length_range, ← hl] at g7b; omega
   exact hlowB l b hI v this)]
  exact getD_range b false
 have n1 : (gS H).2.1.length = (gS (cutS kill keep st)).2.1.length := by rw [g4]; simp
 have n2 : (gS H).2.2.length = (gS (cutS kill keep st)).2.2.length := by rw [g5]; simp
 have hdH : Dom H nid := fun b hb => by
  unfold St.at at hb
  obtain ⟨cs, hcs⟩ := Option.isSome_iff_exists.1 hb
  exact g6 _ (lookup_mem hcs)
 have main := loop_rule (P := P) (w0 := w0) (c := c) (pcH := pcH) (H := H) (nid := nid) (r := r) (fun x : List Int × List Bool => envR S ε r.obs x.1 x.2)
  (fun x => Inv x.1 x.2 ∧ x.1.length = (gS (cutS kill keep st)).2.1.length ∧ x.2.length = (gS (cutS kill keep st)).2.2.length) (fun x => μ x.1 x.2)
  (fun x hx => (sound (ε := envR S ε r.obs x.1 x.2) hmix K w0 n).1 true sp (0 :: wy) c pcH H 0 nid r hsp hway hev)
  (fun x hx => by
   obtain ⟨e1, e2, e3, e4, e5, e6, e7⟩ := gd x.1 x.2 hx.1
   exact e7 w0 (fun f args mem res upd k1 k2 k3 k4 => hc _ (e2.trans hT.1) (e3.trans hT.2.1) (e4.trans hT.2.2) e6 w0 (Below.refl _ _) f args mem res upd k1 k2 k3 k4) (hq x.1 x.2 hx.1))
  (fun x hx => hpc x.1 x.2 hx.1) hdH (ε := ε) (tr := tr) (fun x hx => by
   obtain ⟨hI, hl1, hl2⟩ := hx
   obtain ⟨e1, e2, e3, e4, e5, e6, e7⟩ := gd x.1 x.2 hI
   have e8 : (envR S ε r.obs x.1 x.2).st = ε.st := by
    unfold goodL at g8
    unfold envR Env.solve
    split at g8
    ·rename_i r' hr'
     simp only [Bool.and_eq_true] at g8
     exact (steps_agree g8.1.1 (ε.vec x.1 x.2)).st
    ·cases g8
   obtain ⟨t1, t2, t3, t4, t5, t6⟩ := toLT_sel (ε := envR S ε r.obs x.1 x.2) hL
   rcases hstep x.1 x.2 hI _ rfl e1 (hlowB x.1 x.2 hI) e3 e5 (sat x.1 x.2) with ⟨es, bs, hs, hI', hμ⟩ | ⟨k, es, bs, es', bs', hs, hm, hi, hb⟩
   ·rw [t6] at hs
    by_cases hk : ((r.tr.sel (envR S ε r.obs x.1 x.2)).1 == Ex.normal) = true
    ·rw [if_pos hk] at hs
     simp only [LT.next.injEq] at hs
     obtain ⟨rfl, rfl⟩ := hs
     refine .inl ⟨by simpa using hk, (_, _), ⟨hI', by simp [dI, t4, n1], by simp [dB, t5, n2]⟩, hμ, ?_, t3⟩
     obtain ⟨d1, d2, d3, d4, -, -, -⟩ := gd _ _ hI'
     have d8 : ∀ l b, (envR S ε r.obs l b).st = ε.st := fun l b => by
      unfold goodL at g8
      unfold envR Env.solve
      split at g8
      ·rename_i r' hr'
       simp only [Bool.and_eq_true] at g8
       exact (steps_agree g8.1.1 (ε.vec l b)).st
      ·cases g8
     exact weak2_of (kill := kill) (keep := keep) (d2.trans e2.symm) (d3.trans e3.symm) (d4.trans e4.symm) ((d8 _ _).trans e8.symm) t1 g2 t2
      (vecI _ _ hI' (by simp [dI, t4, n1])).symm (vecB _ _ hI' (by simp [dB, t5, n2])).symm
    ·rw [if_neg hk] at hs; cases hs
   ·rw [t6] at hs
    by_cases hk : ((r.tr.sel (envR S ε r.obs x.1 x.2)).1 == Ex.normal) = true
    ·rw [if_pos hk] at hs; cases hs
    ·rw [if_neg hk] at hs
     simp only [LT.out.injEq] at hs
     obtain ⟨rfl, rfl, rfl⟩ := hs
     obtain ⟨m1, m2, m3, m4, m5⟩ := toMT_sel (ε := ε) hM
     rw [m4] at hm
     simp only [LT.out.injEq] at hm
     obtain ⟨hm1, rfl, rfl⟩ := hm
     refine .inr ⟨by simpa using hk, hm1.symm, ?_, fun b hb hs => m3 b (t3 b hb hs), m3⟩
     exact weak2_of (kill := kill) (keep := keep) e2.symm e3.symm e4.symm e8.symm t1 m1 (t2.trans m2.symm) hi hb)
 have hI0 := h0 hpc0
 have hl1 : (dI ε (gS (cutS kill keep st)).2.1).length = (gS (cutS kill keep st)).2.1.length := by simp [dI]
 have hl2 : (dB ε (gS (cutS kill keep st)).2.2).length = (gS (cutS kill keep st)).2.2.length := by simp [dB]
 obtain ⟨d1, d2, d3, d4, -, -, -⟩ := gd _ _ hI0
 have d8 : ∀ l b, (envR S ε r.obs l b).st = ε.st := fun l b => by
  unfold goodL at g8
  unfold envR Env.solve
  split at g8
  ·rename_i r' hr'
   simp only [Bool.and_eq_true] at g8
   exact (steps_agree g8.1.1 (ε.vec l b)).st
  ·cases g8
 have w00 : Weak2 ε st (envR S ε r.obs (dI ε (gS (cutS kill keep st)).2.1) (dB ε (gS (cutS kill keep st)).2.2)) H :=
  weak2_of (kill := kill) (keep := keep) d2 d3 d4 (d8 _ _) g1 g2 g3.symm (vecI _ _ hI0 hl1).symm (vecB _ _ hI0 hl2).symm
 refine main _ (dI ε (gS (cutS kill keep st)).2.1, dB ε (gS (cutS kill keep st)).2.2) (Nat.lt_succ_self _) ⟨hI0, hl1, hl2⟩ d ρ a w (hr.weak2 w00) Q fun ρ' a' w' hr' ha' => hQ ρ' a' w' hr' ?_
 exact ⟨ha'.agree, ha'.ext.mono fun x _ ⟨b, hb, h1, h2⟩ => ⟨b, hb, w00.some h1, h2⟩, fun b hb => ha'.sub b (hwr b hb), fun b hb => (ha'.fresh b hb).imp w00.some id⟩
def chkLoop (P : Program) (S : Sig) (shp : FuncId → List LV → List (Nat × Cells) → Bool) (K : Cfg) (n sp : Nat) (kill : List Nat) (pcH : E) (L M : LT) (e0 : List E) (q : Ob → Bool) (cl : List (Nat × Nat × List LV)) (el : List (Nat × E)) : Ob → Bool
 | .loop s ins wy pc st nid tr =>
  let keep := keepOf kill st
  let H := hdr kill keep [] st
  let o := rdObs (rdL P K n sp wy pcH H nid)
  loopB P S shp K n sp kill keep [] pcH wy st nid tr && rdT kill keep H (rdL P K n sp wy pcH H nid) == some L && toMT H tr == some M && (gS (cutS kill keep st)).2.1 == e0 && (gS (cutS kill keep st)).2.2.isEmpty &&
   o.all (fun ob => !ob.isM || q ob) && cl.all (fun c => o.any (isCall S c.1 c.2.2 c.2.1)) && el.all (fun c => o.any (isEq c.1 c.2))
 | _ => false
theorem loop_use (hmix : P.follows .mixedOrders = true) {S : Sig} {shp : FuncId → List LV → List (Nat × Cells) → Bool} {K : Cfg} {n sp : Nat} (hsp : 0 < sp) {kill : List Nat} {pcH : E} {L M : LT} {e0 : List E} {q : Ob → Bool} {cl : List (Nat × Nat × List LV)} {el : List (Nat × E)} {ob : Ob}
  (h : chkLoop P S shp K n sp kill pcH L M e0 q cl el ob = true) (hS : ∀ s l k, R64 (S.val s l k)) {T : Env} {w0 : World} (hc : Con P S shp T w0) {ε : Env} (hT : ε.sa = T.sa ∧ ε.sn = T.sn ∧ ε.sc = T.sc)
  (Inv : List Int → Prop) (μ : List Int → Nat) (hR : ∀ l, Inv l → ∀ x ∈ l, R64 x)
  (hpc : ∀ l, Inv l → ∀ E' : Env, (∀ v, v < top → E'.i v = l.getD v 0) → (pcH.den E').2 = true)
  (hq : ∀ ob', q ob' = true → ∀ E' : Env, E'.sa = ε.sa → E'.sn = ε.sn → E'.el = ε.el → ob'.ok P E' w0)
  (h0 : Inv (dI ε e0))
  (hstep : ∀ l, Inv l → ∀ E' : Env, (∀ v, v < top → E'.i v = l.getD v 0) → E'.sn = ε.sn → E'.el = ε.el → (∀ c ∈ cl, ∃ mem, ∀ j, j < 32 → E'.i (c.2.1 + j) = S.val c.1 (c.2.2.flatMap (argInts E' mem)) j) → (∀ c ∈ el, E'.i c.1 = (c.2.den E').1) →
   (∃ es, L.sel E' = .next es [] ∧ Inv (dI E' es) ∧ μ (dI E' es) < μ l) ∨ (∃ k es es', L.sel E' = .out k es [] ∧ M.sel ε = .out k es' [] ∧ dI E' es = dI ε es')) : ob.ok P ε w0 := by
 cases ob with
 | loop s ins wy pc st nid tr =>
  simp only [chkLoop, Bool.and_eq_true, beq_iff_eq, List.all_eq_true, List.isEmpty_iff] at h
  obtain ⟨⟨⟨⟨⟨⟨⟨g1, g2⟩, g3⟩, g4⟩, g5⟩, g6⟩, g7⟩, g8⟩ := h
  have snel : ∀ l b, (∀ x ∈ l, R64 x) → (envR S ε (rdObs (rdL P K n sp wy pcH (hdr kill (keepOf kill st) [] st) nid)) l b).sa = ε.sa ∧ (envR S ε (rdObs (rdL P K n sp wy pcH (hdr kill (keepOf kill st) [] st) nid)) l b).sn = ε.sn ∧ (envR S ε (rdObs (rdL P K n sp wy pcH (hdr kill (keepOf kill st) [] st) nid)) l b).el = ε.el ∧ ∀ v, v < top → (envR S ε (rdObs (rdL P K n sp wy pcH (hdr kill (keepOf kill st) [] st) nid)) l b).i v = l.getD v 0 := fun l b hl => by
   have g1' := g1
   unfold loopB at g1'
   simp only [Bool.and_eq_true] at g1'
   obtain ⟨a1, a2, a3, a4, a5, a6, a7⟩ := good_okL (P := P) (shp := shp) g1'.1.1.2 hS (ε.vec l b) (fun i => by
    show R64 (l.getD i 0)
    rw [List.getD_eq_getElem?_getD]
    cases hi : l[i]? with
    | none => exact R64_0
    | some x => exact hl x (List.mem_of_getElem? hi))
   exact ⟨a2, a3, a5, a1⟩
  refine loop_ok hmix hsp g1 hS hc hT (fun l b => Inv l ∧ b = []) (fun l _ => μ l) g2 g3 (fun l b hI => hR l hI.1) (fun l b hI => hpc l hI.1 _ (snel l b (hR l hI.1)).2.2.2)
   (fun l b hI ob' hb hm _ => hq ob' (by have := g6 ob' hb; rw [hm] at this; simpa using this) _ (snel l b (hR l hI.1)).1 (snel l b (hR l hI.1)).2.1 (snel l b (hR l hI.1)).2.2.1) (fun _ => ?_) (fun l b hI E' hE' hlow hlowB hsn hel hsat => ?_)
  ·rw [g4, g5]; exact ⟨h0, rfl⟩
  ·rcases hstep l hI.1 E' hlow hsn hel (fun c hc => sat_call hsat (g7 c hc)) (fun c hc => sat_eq hsat (g8 c hc)) with ⟨es, h1, h2, h3⟩ | ⟨k, es, es', h1, h2, h3⟩
   ·exact .inl ⟨es, [], h1, ⟨h2, rfl⟩, h3⟩
   ·exact .inr ⟨k, es, [], es', [], h1, h2, h3, rfl⟩
 | req _ _ => cases h
 | call _ _ _ _ _ _ => cases h
 | eq _ _ => cases h
 | eqb _ _ => cases h
 | lst _ _ _ _ => cases h
end SX
end Go.Proofs.Ytdoigcpcponnhaa
end
section
namespace Go.Proofs.Ytdoigcpcponnhaa
namespace SX
open Go.RowKit
variable {P : Program}
theorem sat_to {S' S : Sig} {f : FuncId} (hsym : S'.sym f = S.sym f) (hval : ∀ s z, S.sym f = some (s, z) → ∀ L k, S'.val s L k = S.val s L k) {ε : Env} {pc : E} {args : List LV} {mem : List (Nat × Cells)} {res : LV} {upd : List (Nat × Cells)} (h : Ob.sat S' ε (.call pc f args mem res upd)) : Ob.sat S ε (.call pc f args mem res upd) := by
 intro base s l hc j hj
 have hc' : callNo S' f args mem = some (base, s, l) := by rw [← hc]; unfold callNo; rw [hsym]
 have := h base s l hc' j hj
 have hz : ∃ z, S.sym f = some (s, z) := by
  unfold callNo at hc
  split at hc
  ·rename_i s' z hs
   simp only [Option.some.injEq, Prod.mk.injEq] at hc
   exact ⟨z, by rw [hs, hc.2.1]⟩
  ·cases hc
 obtain ⟨z, hz⟩ := hz
 rwa [hval s z hz] at this
theorem con_ext {S S' : Sig} {shp shp' : FuncId → List LV → List (Nat × Cells) → Bool} {T : Env} {w0 : World} (new : FuncId → Bool) (hsym : ∀ f, S'.sym f = S.sym f)
  (hshp : ∀ f args mem, new f = false → shp' f args mem = true → shp f args mem = true) (hval : ∀ f args mem s z, shp f args mem = true → S.sym f = some (s, z) → ∀ L k, S'.val s L k = S.val s L k) (hc : Con P S shp T w0)
  (hn : ∀ (ε : Env), ε.sa = T.sa ∧ ε.sn = T.sn ∧ ε.sc = T.sc → (∀ i, R64 (ε.i i)) → ∀ w, Below w0.heap.size w0 w → ∀ f args mem res upd, new f = true → shp' f args mem = true → stdRes P S'.sym f args mem = some (res, upd) →
   rngOb (.call (.blit true) f args mem res upd) = true → Ob.sat S' ε (.call (.blit true) f args mem res upd) → Ob.ok P ε w (.call (.blit true) f args mem res upd)) : Con P S' shp' T w0 := by
 intro ε h1 h2 h3 hε w hw f args mem res upd hsh hstd hr hsat
 cases hf : new f
 ·have ho := hshp f args mem hf hsh
  refine hc ε h1 h2 h3 hε w hw f args mem res upd ho ?_ hr (sat_to (hsym f) (fun s z hs => hval f args mem s z ho hs) hsat)
  rw [← hstd]
  unfold stdRes
  rw [hsym f]
 ·exact hn ε ⟨h1, h2, h3⟩ hε w hw f args mem res upd hf hsh hstd hr hsat
def mkShape (F : Nat → E) : List (Option Nat) → Nat → List V1
 | [], _ => []
 | none :: rest, n => .s (.a (.int .i64 (F n))) :: mkShape F rest (n + 1)
 | some m :: rest, n => .agg ((List.range m).map fun j => .a (.int .i64 (F (n + j)))) :: mkShape F rest (n + m)
def sizeSh : List (Option Nat) → Nat
 | [] => 0
 | none :: rest => sizeSh rest + 1
 | some m :: rest => sizeSh rest + m
theorem mkShape_den {ε ε' : Env} {ρ ρ' : Nat → Nat} {F G : Nat → E} : ∀ (sz : List (Option Nat)) (n : Nat), (∀ k, n ≤ k → k < n + sizeSh sz → ((F k).den ε).1 = ((G k).den ε').1) → (mkShape F sz n).map (V1.den ε ρ) = (mkShape G sz n).map (V1.den ε' ρ')
 | [], _, _ => rfl
 | none :: rest, n, h => by
  simp only [mkShape, List.map_cons, sizeSh] at h ⊢
  rw [mkShape_den (ρ := ρ) (ρ' := ρ') rest (n + 1) fun k h1 h2 => h k (by omega) (by omega)]
  simp only [V1.den, SV.den, AV.den, h n (Nat.le_refl _) (by omega)]
 | some m :: rest, n, h => by
  simp only [mkShape, List.map_cons, sizeSh] at h ⊢
  rw [mkShape_den (ρ := ρ) (ρ' := ρ') rest (n + m) fun k h1 h2 => h k (by omega) (by omega)]
  simp only [V1.den, List.map_map]
  rw [List.map_congr_left fun j hj => ?_]
  rw [List.mem_range] at hj
  simp only [Function.comp_apply, SV.den, AV.den, h (n + j) (by omega) (by omega)]
def flatLV : LV → List E
 | .tup l => l.flatMap fun v => v.cells.filterMap fun | .a (.int _ e) => some e | _ => none
 | _ => []
def resE (v : LV) (k : Nat) : E := (flatLV v).getD k (.lit 0)
def isShape (sz : List (Option Nat)) (v : LV) : Bool := v == .tup (mkShape (resE v) sz 0)
def pairG (P : Program) (S : Sig) (shp : FuncId → List LV → List (Nat × Cells) → Bool) (K : Cfg) (n sp : Nat) (f g : FuncId) (pat : List LV) (sz : List (Option Nat)) : Bool :=
 goodL P S shp ((rd P K n sp f pat []).2.2 ++ (rd P K n sp g pat []).2.2) && isShape sz (rd P K n sp f pat []).1 && isShape sz (rd P K n sp g pat []).1 && noIds pat && decide (sizeSh sz ≤ 32) &&
  (List.range (sizeSh sz)).all (fun k => rngE (resE (rd P K n sp f pat []).1 k))
theorem shape_ids {sz : List (Option Nat)} {F : Nat → E} : ∀ n, (mkShape F sz n).flatMap V1.ids = [] := by
 induction sz with
 | nil => intro n; rfl
 | cons o rest ih =>
  intro n
  cases o with
  | none => simp only [mkShape, List.flatMap_cons, ih]; rfl
  | some m =>
   simp only [mkShape, List.flatMap_cons, ih, List.append_nil, V1.ids]
   rw [List.flatMap_eq_nil_iff]
   intro x hx
   obtain ⟨j, _, rfl⟩ := List.mem_map.1 hx
   rfl
theorem pairG_con {S0 S : Sig} {shp0 : FuncId → List LV → List (Nat × Cells) → Bool} {K : Cfg} {n sp : Nat} (hmix : P.follows .mixedOrders = true) (hsp : 0 < sp) {f g : FuncId} {pat : List LV} {sz : List (Option Nat)} (h : pairG P S0 shp0 K n sp f g pat sz = true) (hsz : sizeLVs pat < top)
  (hS0 : ∀ s l k, R64 (S0.val s l k)) {T : Env} {w0 : World} (hc : Con P S0 shp0 T w0) {s : Nat}
  (hmem : ∀ (ε : Env) (w : World), Below w0.heap.size w0 w → ε.sa = T.sa → ε.sn = T.sn → ε.sc = T.sc → ε.el = T.el → (∀ i, R64 (ε.i i)) → (∀ ob ∈ (rd P K n sp f pat []).2.2 ++ (rd P K n sp g pat []).2.2, ob.sat S0 ε) → ∀ ob ∈ (rd P K n sp f pat []).2.2 ++ (rd P K n sp g pat []).2.2, ob.isM = true → ob.ok P ε w)
  (heq : ∀ ε : Env, ε.sn = T.sn → (∀ i, R64 (ε.i i)) → (∀ ob ∈ (rd P K n sp f pat []).2.2 ++ (rd P K n sp g pat []).2.2, ob.sat S0 ε) → ∀ k, k < sizeSh sz → ((resE (rd P K n sp g pat []).1 k).den ε).1 = ((resE (rd P K n sp f pat []).1 k).den ε).1)
  (hval : ∀ L k, k < sizeSh sz → S.val s L k = clampI ((resE (rd P K n sp f pat []).1 k).den ((envL T (L.map clampI)).solve S0 ((rd P K n sp f pat []).2.2 ++ (rd P K n sp g pat []).2.2))).1)
  {q : FuncId} (hq : q = f ∨ q = g) (hs : S.sym q = some (s, 0)) {fn : Func} (hfn : P.funcs[q]? = some fn)
  (hres : ∀ base, ∃ m, nameRes P fn base = some (.tup (mkShape (fun k => .var (base + k)) sz 0), m))
  (ε : Env) (ht : ε.sa = T.sa ∧ ε.sn = T.sn ∧ ε.sc = T.sc) {w : World} (hw : Below w0.heap.size w0 w) {args : List LV} {mem : List (Nat × Cells)} {res : LV} {upd : List (Nat × Cells)} (hm : matchLVs pat args 0 = true) (hR : ∀ x ∈ args.flatMap (argInts ε []), R64 x)
  (hstd : stdRes P S.sym q args mem = some (res, upd)) (hsat : Ob.sat S ε (.call (.blit true) q args mem res upd)) : Ob.ok P ε w (.call (.blit true) q args mem res upd) := by
 unfold pairG at h
 simp only [Bool.and_eq_true, decide_eq_true_eq] at h
 obtain ⟨⟨⟨⟨⟨g1, g2⟩, g3⟩, g4⟩, g5⟩, g6⟩ := h
 obtain ⟨base, hbase⟩ : ∃ base, callBase s args mem = base := ⟨_, rfl⟩
 have hres' : res = .tup (mkShape (fun k => .var (base + k)) sz 0) ∧ upd = [] := by
  unfold stdRes at hstd
  rw [hs, hfn] at hstd
  obtain ⟨m, hm⟩ := hres base
  simp [stdVal, hbase, hm] at hstd
  exact ⟨hstd.1.symm, hstd.2⟩
 obtain ⟨rfl, rfl⟩ := hres'
 obtain ⟨l1, l2⟩ := matchLVs_len ε (mem := mem) hm
 obtain ⟨L, hL⟩ : ∃ L, args.flatMap (argInts ε mem) = L := ⟨_, rfl⟩
 rw [hL] at l1 l2
 have hclamp : L.map clampI = L := by
  conv => rhs; rw [← List.map_id L]
  exact List.map_congr_left fun x hx => clampI_eq (hR x (l2 ▸ hx))
 have hcn : callNo S q args mem = some (base / 32, s, args) := by
  unfold callNo
  rw [hs, ← hbase]
  rfl
 have hb32 : base / 32 * 32 = base := by rw [← hbase]; exact base32 _ _ _
 have hE : ∀ i, R64 ((envL T L).i i) := envL_R64 fun x hx => hR x (l2 ▸ hx)
 have hv : ∀ k, k < sizeSh sz → ε.i (base + k) = clampI ((resE (rd P K n sp f pat []).1 k).den ((envL T L).solve S0 ((rd P K n sp f pat []).2.2 ++ (rd P K n sp g pat []).2.2))).1 := fun k hk => by
  have := (hsat _ _ _ hcn k (by omega)).1
  rw [hb32, hL, hval L k hk, hclamp] at this
  exact this
 obtain ⟨e1, e2, e3, e4, e4', e5, e6⟩ := good_okL g1 hS0 (envL T L) hE
 have hst := good_satL g1 (envL T L)
 generalize (envL T L).solve S0 ((rd P K n sp f pat []).2.2 ++ (rd P K n sp g pat []).2.2) = εs at hv e1 e2 e3 e4 e4' e5 e6 hst
 have hob := fun w hw => e6 w (hc εs e2 e3 e4 e5 w hw) (fun ob hb hm _ => hmem εs w hw e2 e3 e4 e4' e5 hst ob hb hm)
 have hden : ∀ ρ : Nat → Nat, pat.map (LV.den εs fun _ => 0) = args.map (LV.den ε ρ) := fun ρ =>
  matchLVs_den ⟨e2.trans ht.1.symm, e3.trans ht.2.1.symm, e4.trans ht.2.2.symm⟩ (mem := mem) hm fun j x hj => by
   rw [hL] at hj
   have hlt := (List.getElem?_eq_some_iff.1 hj).1
   rw [Nat.zero_add, e1 j (by omega)]
   show L.getD j 0 = x
   rw [List.getD_eq_getElem?_getD, hj]; rfl
 have hkey : ∀ k, k < sizeSh sz → ((resE (rd P K n sp f pat []).1 k).den εs).1 = ε.i (base + k) := fun k hk => by
  rw [hv k hk, clampI_eq]
  exact rngE_spec e5 (List.all_eq_true.1 g6 k (List.mem_range.2 hk))
 have hkey2 : ∀ k, k < sizeSh sz → ((resE (rd P K n sp g pat []).1 k).den εs).1 = ε.i (base + k) := fun k hk => by
  rw [heq εs e3 e5 hst k hk, hkey k hk]
 intro _ w2 ρ hw2 _ _
 have hb2 : Below w0.heap.size w0 w2 := hw.trans (hw2.mono hw.size)
 have go : ∀ v : LV, isShape sz v = true → (∀ k, k < sizeSh sz → ((resE v k).den εs).1 = ε.i (base + k)) → v ≠ .bad ∧ v.ids = [] ∧ v.den εs (fun _ => 0) = (LV.tup (mkShape (fun k => .var (base + k)) sz 0)).den ε ρ := fun v hv hk => by
  unfold isShape at hv
  have hv := eq_of_beq hv
  refine ⟨by rw [hv]; simp, by rw [hv]; exact shape_ids 0, ?_⟩
  rw [hv]
  simp only [LV.den]
  rw [mkShape_den (ε := εs) (ε' := ε) (ρ := fun _ => 0) (ρ' := ρ) (F := resE v) (G := fun k => .var (base + k)) sz 0 fun k _ h2 => hk k (by omega)]
 have fin : ∀ {e : Ending} {w' : World} {v : LV}, isShape sz v = true → (∀ k, k < sizeSh sz → ((resE v k).den εs).1 = ε.i (base + k)) → e = .returned (v.den εs fun _ => 0) ∧ Below w2.heap.size w2 w' →
   e = .returned ((LV.tup (mkShape (fun k => .var (base + k)) sz 0)).den ε ρ) ∧ (∀ u ∈ ([] : List (Nat × Cells)), Blk ε ρ w.heap.size w' u.1 u.2) ∧ Ext w2 w' (fun x => ∃ u ∈ ([] : List (Nat × Cells)), ρ u.1 = x) := by
  intro e w' v hv hk ⟨h1, h2⟩
  refine ⟨?_, by simp, Ext.of_below h2 _⟩
  rw [h1, (go v hv hk).2.2]
 rcases hq with rfl | rfl
 ·obtain ⟨i1, i2, i3⟩ := go _ g2 hkey
  obtain ⟨nv', hev⟩ := rd_some i1
  have := reads4 hmix hsp hev g4 (by rw [i2]; rfl) εs w2 (fun ob hb => hob w2 hb2 ob (List.mem_append_left _ hb))
  rw [hden ρ] at this
  exact this.mono fun e w' h => fin g2 hkey h
 ·obtain ⟨i1, i2, i3⟩ := go _ g3 hkey2
  obtain ⟨nv', hev⟩ := rd_some i1
  have := reads4 hmix hsp hev g4 (by rw [i2]; rfl) εs w2 (fun ob hb => hob w2 hb2 ob (List.mem_append_right _ hb))
  rw [hden ρ] at this
  exact this.mono fun e w' h => fin g3 hkey2 h
end SX
end Go.Proofs.Ytdoigcpcponnhaa
end
