/- Packed: SxA ClK FnT. -/
import Derived.KernelRfl
import Derived.Test.YtopdikifgbdnoaaGreatP7
set_option linter.unusedVariables false
set_option linter.unusedSimpArgs false
namespace Go.Proofs.YtopdikifgbdnoaaGreat
section
namespace SX
open Go.RowKit
variable {P : Program}
def freeAV : AV → Bool
 | .int _ (.lit _) => true
 | .bool (.blit _) => true
 | .ptr _ _ => true
 | .nilp => true
 | .sl _ _ _ _ => true
 | .gsl _ _ _ _ _ _ => true
 | .nils => true
 | _ => false
def freeSV : SV → Bool
 | .a x => freeAV x
 | .fn _ fi cap => fi.all freeAV && cap.all freeAV
 | .nilf => true
 | .row _ _ => true
def freeLV : LV → Bool
 | .v x => x.cells.all freeSV
 | .tup l => l.all fun x => x.cells.all freeSV
 | .bad => false
def freeC (c : Cells) : Bool := c.all fun | some s => freeSV s | none => true
theorem freeAV_den {x : AV} (h : freeAV x = true) (ε ε' : Env) (ρ : Nat → Nat) : x.den ε ρ = x.den ε' ρ := by
 cases x with
 | int k e => cases e <;> first | rfl | cases h
 | bool e => cases e <;> first | rfl | cases h
 | _ => first | rfl | cases h
theorem freeSV_den {x : SV} (h : freeSV x = true) (ε ε' : Env) (ρ : Nat → Nat) : x.den ε ρ = x.den ε' ρ := by
 cases x with
 | a x => exact freeAV_den h ε ε' ρ
 | fn f fi cap =>
  simp only [freeSV, Bool.and_eq_true, List.all_eq_true] at h
  simp only [SV.den]
  rw [List.map_congr_left fun x hx => freeAV_den (h.1 x hx) ε ε' ρ, List.map_congr_left fun x hx => freeAV_den (h.2 x hx) ε ε' ρ]
 | nilf => rfl
 | row _ _ => rfl
theorem freeV1_den {x : V1} (h : x.cells.all freeSV = true) (ε ε' : Env) (ρ : Nat → Nat) : x.den ε ρ = x.den ε' ρ := by
 cases x with
 | s x =>
  simp only [V1.cells, List.all_cons, List.all_nil, Bool.and_true] at h
  exact freeSV_den h ε ε' ρ
 | agg l =>
  simp only [V1.cells, List.all_eq_true] at h
  simp only [V1.den]
  rw [List.map_congr_left fun x hx => freeSV_den (h x hx) ε ε' ρ]
theorem freeLV_den {x : LV} (h : freeLV x = true) (ε ε' : Env) (ρ : Nat → Nat) : x.den ε ρ = x.den ε' ρ := by
 cases x with
 | v x => exact freeV1_den h ε ε' ρ
 | tup l =>
  simp only [freeLV, List.all_eq_true] at h
  simp only [LV.den]
  rw [List.map_congr_left fun x hx => freeV1_den (by simpa using h x hx) ε ε' ρ]
 | bad => cases h
theorem freeC_blk {c : Cells} (h : freeC c = true) {ε ε' : Env} {ρ : Nat → Nat} {base b : Nat} {w : World} (hb : Blk ε ρ base w b c) : Blk ε' ρ base w b c := by
 obtain ⟨h1, h2, h3⟩ := hb
 refine ⟨h1, h2, fun j x hj => (h3 j x hj).of2 (fun _ => rfl) fun s hs => ⟨s, hs, ?_⟩⟩
 subst hs
 have := List.all_eq_true.1 h _ (List.mem_of_getElem? hj)
 exact freeSV_den this _ _ _
theorem litInt_ints {s : SV} {n : Int} (h : litInt s = some n) (ε : Env) : s.ints ε = [n] := by
 unfold litInt at h
 split at h
 ·cases h; rfl
 ·cases h; rfl
 ·cases h
theorem litInts_ints : ∀ {l : List SV} {m : List Int}, litInts l = some m → ∀ ε : Env, l.flatMap (SV.ints ε) = m
 | [], m, h, ε => by simp [litInts] at h; subst h; rfl
 | x :: xs, m, h, ε => by
  simp only [litInts] at h
  split at h
  ·rename_i n l h1 h2
   cases h
   simp only [List.flatMap_cons, litInt_ints h1, litInts_ints h2, List.singleton_append]
  ·cases h
theorem litArg_ints {mem : List (Nat × Cells)} {x : LV} {m : List Int} (h : litArg mem x = some m) (hg : ∀ b off len c d o, x ≠ .v (.s (.a (.gsl b off len c d o)))) (ε : Env) : argInts ε mem x = m := by
 have hc : ∀ (l : List SV), cellsInts ε (l.map some) = l.flatMap (SV.ints ε) := by
  intro l
  induction l with
  | nil => rfl
  | cons y l ih =>
   unfold cellsInts at ih ⊢
   simp only [List.map_cons, List.flatMap_cons, ih]
 unfold litArg at h
 split at h
 ·cases h; rfl
 ·rename_i b off len cap
  obtain ⟨l, h1, h2⟩ := Option.bind_eq_some_iff.1 h
  show cellsInts ε (((mem.lookup b).getD []).drop off) = m
  rw [allSome_spec h1, hc]
  exact litInts_ints h2 ε
 ·exact absurd rfl (hg _ _ _ _ _ _)
 ·rename_i v h1 h2 h3
  have hi := litInts_ints h ε
  unfold argInts
  split
  ·rename_i b off len cap he; exact (h2 _ _ _ _ (by simpa using he)).elim
  ·rename_i y hy he; cases he; exact hi
  ·rename_i h4 h5; exact absurd rfl (h5 _)
 ·cases h
def isGsl : LV → Bool
 | .v (.s (.a (.gsl _ _ _ _ _ _))) => true
 | _ => false
theorem litArgs_ints {mem : List (Nat × Cells)} : ∀ {l : List LV} {m : List Int}, litArgs mem l = some m → l.all (fun x => !isGsl x) = true → ∀ ε : Env, l.flatMap (argInts ε mem) = m
 | [], m, h, _, ε => by simp [litArgs] at h; subst h; rfl
 | x :: xs, m, h, hg, ε => by
  simp only [List.all_cons, Bool.and_eq_true] at hg
  simp only [litArgs] at h
  split at h
  ·rename_i l l' h1 h2
   cases h
   rw [List.flatMap_cons, litArg_ints h1 (fun b off len c d o e => by rw [e] at hg; cases hg.1) ε, litArgs_ints h2 hg.2 ε]
  ·cases h
def litVal (z : Nat) (g : Nat → Int) (r : LV) : LV := if z == 0 then numLV g r else match r with
 | .tup vs => match vs.getLast? with
  | some (.s (.a (.int k (.var e)))) => .tup (vs.dropLast.map (numV1 fun v => if g e = 0 then g v else 0) ++ [.s (.a (.int k (.lit (g e))))])
  | _ => .bad
 | _ => .bad
def onlyInts : LV → Bool
 | .tup l => l.all fun x => x.cells.all fun | .a (.int _ (.var _)) => true | _ => false
 | _ => false
def resL (P : Program) (S : Sig) (shp : FuncId → List LV → List (Nat × Cells) → Bool) (f : FuncId) (args : List LV) (mem : List (Nat × Cells)) : Option (LV × List (Nat × Cells)) := match S.sym f, P.funcs[f]?, litArgs mem args with
 | some (s, z), some fn, some l =>
  if (z == 0 || z == 1) && shp f args mem && args.all (fun x => freeLV x && !isGsl x) && mem.all (fun u => freeC u.2) && rngOb (.call (.blit true) f args mem .bad []) then
   match nameRes P fn 0 with
   | some (r, m) => if m ≤ 32 && (z == 0 || onlyInts r) then (if freeLV (litVal z (S.val s l) r) then some (litVal z (S.val s l) r, []) else none) else none
   | none => none
  else none
 | _, _, _ => none
def upSV (b : Nat) : SV → SV
 | .a (.int k (.var v)) => .a (.int k (.var (b + v)))
 | .a (.bool (.bvar v)) => .a (.bool (.bvar (b + v)))
 | .a (.str v) => .a (.str (b + v))
 | .a (.fsl v) => .a (.fsl (b + v))
 | x => x
def upV1 (b : Nat) : V1 → V1
 | .s x => .s (upSV b x)
 | .agg l => .agg (l.map (upSV b))
def upLV (b : Nat) : LV → LV
 | .v x => .v (upV1 b x)
 | .tup l => .tup (l.map (upV1 b))
 | .bad => .bad
def belowSV (n m : Nat) : SV → Prop
 | .a (.int _ (.var v)) => n ≤ v ∧ v < m
 | .a (.bool (.bvar v)) => n ≤ v ∧ v < m
 | .a (.str _) => True
 | .a (.fsl _) => True
 | _ => False
theorem belowSV.mono {n n' m m' : Nat} {x : SV} (h : belowSV n m x) (h1 : n' ≤ n) (h2 : m ≤ m') : belowSV n' m' x := by
 unfold belowSV at *
 split at h <;> first | exact ⟨by omega, by omega⟩ | trivial | exact h.elim
theorem nameCells_up (b : Nat) : ∀ (l : List Value) (n : Nat) (r : List SV) (m : Nat), nameCells l n = some (r, m) → nameCells l (b + n) = some (r.map (upSV b), b + m) ∧ n ≤ m ∧ ∀ x ∈ r, belowSV n m x
 | [], n, r, m, h => by simp [nameCells] at h; obtain ⟨rfl, rfl⟩ := h; simp [nameCells]
 | v :: rest, n, r, m, h => by
  have key : ∀ (x : SV), (nameCells rest (n + 1)).map (fun r => (x :: r.1, r.2)) = some (r, m) → belowSV n (n + 1) x → ∃ r', r = x :: r' ∧ nameCells rest (b + (n + 1)) = some (r'.map (upSV b), b + m) ∧ n ≤ m ∧ ∀ y ∈ r, belowSV n m y := fun x hx hb => by
   obtain ⟨⟨r', m'⟩, h1, h2⟩ := Option.map_eq_some_iff.1 hx
   cases h2
   obtain ⟨e1, e2, e3⟩ := nameCells_up b rest (n + 1) _ _ h1
   refine ⟨r', rfl, e1, by omega, fun y hy => ?_⟩
   rcases List.mem_cons.1 hy with rfl | hy
   ·exact hb.mono (Nat.le_refl _) e2
   ·exact (e3 y hy).mono (by omega) (Nat.le_refl _)
  cases v <;> simp only [nameCells, reduceCtorEq] at h ⊢
  all_goals
   obtain ⟨r', rfl, e1, e2, e3⟩ := key _ h (by first | exact ⟨Nat.le_refl _, Nat.lt_succ_self _⟩ | trivial)
   rw [show b + n + 1 = b + (n + 1) by omega, e1]
   exact ⟨rfl, e2, e3⟩
theorem nameT_up (b : Nat) {t : TypeId} {n : Nat} {r : V1} {m : Nat} (h : nameT P t n = some (r, m)) : nameT P t (b + n) = some (upV1 b r, b + m) ∧ n ≤ m ∧ ∀ x ∈ r.cells, belowSV n m x := by
 unfold nameT at h ⊢
 split at h
 ·rename_i cs hz
  obtain ⟨⟨r', m'⟩, h1, h2⟩ := Option.map_eq_some_iff.1 h
  cases h2
  obtain ⟨e1, e2, e3⟩ := nameCells_up b _ _ _ _ h1
  rw [e1]
  exact ⟨rfl, e2, e3⟩
 ·cases h; exact ⟨rfl, by omega, fun x hx => by rw [List.mem_singleton.1 hx]; exact ⟨Nat.le_refl _, by omega⟩⟩
 ·cases h; exact ⟨rfl, by omega, fun x hx => by rw [List.mem_singleton.1 hx]; exact ⟨Nat.le_refl _, by omega⟩⟩
 ·cases h; exact ⟨rfl, by omega, fun x hx => by rw [List.mem_singleton.1 hx]; trivial⟩
 ·cases h; exact ⟨rfl, by omega, fun x hx => by rw [List.mem_singleton.1 hx]; trivial⟩
 ·cases h
theorem nameTs_up (b : Nat) : ∀ {ts : List TypeId} {n : Nat} {r : List V1} {m : Nat}, nameTs P ts n = some (r, m) → nameTs P ts (b + n) = some (r.map (upV1 b), b + m) ∧ n ≤ m ∧ ∀ y ∈ r, ∀ x ∈ y.cells, belowSV n m x
 | [], n, r, m, h => by simp [nameTs] at h; obtain ⟨rfl, rfl⟩ := h; simp [nameTs]
 | t :: ts, n, r, m, h => by
  simp only [nameTs] at h ⊢
  split at h
  ·rename_i v n' hv
   obtain ⟨⟨r', m'⟩, h1, h2⟩ := Option.map_eq_some_iff.1 h
   cases h2
   obtain ⟨e1, e2, e3⟩ := nameT_up b hv
   obtain ⟨f1, f2, f3⟩ := nameTs_up b h1
   rw [e1]
   dsimp only
   rw [f1]
   refine ⟨rfl, by omega, fun y hy x hx => ?_⟩
   rcases List.mem_cons.1 hy with rfl | hy
   ·exact (e3 x hx).mono (Nat.le_refl _) f2
   ·exact (f3 y hy x hx).mono e2 (Nat.le_refl _)
  ·cases h
def cellsLV : LV → List SV
 | .v x => x.cells
 | .tup l => l.flatMap V1.cells
 | .bad => []
theorem nameRes_up (b : Nat) {fn : Func} {r : LV} {m : Nat} (h : nameRes P fn 0 = some (r, m)) : nameRes P fn b = some (upLV b r, b + m) ∧ r ≠ .bad ∧ ∀ x ∈ cellsLV r, belowSV 0 m x := by
 unfold nameRes at h ⊢
 split at h
 ·rename_i v n hv
  cases h
  obtain ⟨f1, f2, f3⟩ := nameTs_up b hv
  rw [Nat.add_zero] at f1
  rw [f1]
  exact ⟨rfl, by simp, fun x hx => f3 v (by simp) x hx⟩
 ·rename_i vs n hne hv
  cases h
  obtain ⟨f1, f2, f3⟩ := nameTs_up b hv
  rw [Nat.add_zero] at f1
  rw [f1]
  refine ⟨?_, by simp, fun x hx => ?_⟩
  ·cases vs with
   | nil => rfl
   | cons a l => cases l with
    | nil => exact absurd rfl (hne a)
    | cons c l => rfl
  ·obtain ⟨y, hy, hx⟩ := List.mem_flatMap.1 hx
   exact f3 y hy x hx
 ·cases h
theorem num_den {g : Nat → Int} {ε ε' : Env} {b m : Nat} (h1 : ∀ j, j < m → ε.i (b + j) = g j) (h2 : ∀ j, j < m → ε.b (b + j) = decide (g j ≠ 0)) {x : SV} (hx : belowSV 0 m x) (hn : freeSV (numSV g x) = true) (ρ : Nat → Nat) :
  (upSV b x).den ε ρ = (numSV g x).den ε' ρ := by
 unfold belowSV at hx
 split at hx
 ·rename_i k v
  simp only [upSV, numSV, SV.den, AV.den, E.den, h1 v hx.2]
 ·rename_i v
  simp only [upSV, numSV, SV.den, AV.den, E.den, h2 v hx.2]
 ·cases hn
 ·cases hn
 ·exact hx.elim
theorem numV1_den {g : Nat → Int} {ε ε' : Env} {b m : Nat} (h1 : ∀ j, j < m → ε.i (b + j) = g j) (h2 : ∀ j, j < m → ε.b (b + j) = decide (g j ≠ 0)) {x : V1} (hx : ∀ y ∈ x.cells, belowSV 0 m y) (hn : (numV1 g x).cells.all freeSV = true) (ρ : Nat → Nat) :
  (upV1 b x).den ε ρ = (numV1 g x).den ε' ρ := by
 cases x with
 | s x =>
  simp only [numV1, V1.cells, List.all_cons, List.all_nil, Bool.and_true] at hn
  exact num_den h1 h2 (hx x (by simp [V1.cells])) hn ρ
 | agg l =>
  simp only [numV1, V1.cells, List.all_eq_true, List.mem_map, forall_exists_index, and_imp, forall_apply_eq_imp_iff₂] at hn
  simp only [upV1, numV1, V1.den, List.map_map]
  exact congrArg (fun l : List Value => Value.agg l.toArray) (List.map_congr_left fun y hy => num_den h1 h2 (hx y hy) (hn y hy) ρ)
theorem up_last {b : Nat} {vs : List V1} {k : IntKind} {e : Nat} (h : vs.getLast? = some (.s (.a (.int k (.var e))))) : (vs.map (upV1 b)).getLast? = some (.s (.a (.int k (.var (b + e))))) := by
 rw [List.getLast?_map, h]; rfl
theorem zero_den {g : Nat → Int} {ε ε' : Env} {b m e : Nat} (h1 : ∀ j, j < m → ε.i (b + j) = g j) (he : e < m) {x : V1} (hx : ∀ y ∈ x.cells, belowSV 0 m y) (hn : x.cells.all (fun | .a (.int _ (.var _)) => true | _ => false) = true) (ρ : Nat → Nat) :
  (zeroLess1 (.var (b + e)) (upV1 b x)).den ε ρ = (numV1 (fun v => if g e = 0 then g v else 0) x).den ε' ρ := by
 have one : ∀ y : SV, belowSV 0 m y → (match y with | .a (.int _ (.var _)) => true | _ => false) = true → (zeroLess (.var (b + e)) (upSV b y)).den ε ρ = (numSV (fun v => if g e = 0 then g v else 0) y).den ε' ρ := by
  intro y hy hk
  split at hk
  ·rename_i k v
   simp only [upSV, zeroLess, numSV, SV.den, AV.den, mkIte_den, mkEq_den, E.den, h1 e he, h1 v hy.2, beq_iff_eq]
  ·cases hk
 cases x with
 | s x =>
  simp only [V1.cells, List.all_cons, List.all_nil, Bool.and_true] at hn
  exact one x (hx x (by simp [V1.cells])) hn
 | agg l =>
  simp only [V1.cells, List.all_eq_true] at hn
  simp only [upV1, zeroLess1, numV1, V1.den, List.map_map]
  exact congrArg (fun l : List Value => Value.agg l.toArray) (List.map_congr_left fun y hy => one y (hx y hy) (hn y hy))
theorem lit_ok {S : Sig} {shp : FuncId → List LV → List (Nat × Cells) → Bool} {T : Env} {w0 : World} (hS : ∀ s l k, R64 (S.val s l k)) (hc : Con P S shp T w0) {f : FuncId} {args : List LV} {mem : List (Nat × Cells)} {res : LV} {upd : List (Nat × Cells)}
  (h : resL P S shp f args mem = some (res, upd)) {w : World} (hw : Below w0.heap.size w0 w) (ε : Env) : Ob.ok P ε w (.call (.blit true) f args mem res upd) := by
 unfold resL at h
 split at h
 ·rename_i s z fn l hs hfn hl
  split at h
  ·rename_i hcond
   simp only [Bool.and_eq_true, Bool.or_eq_true, beq_iff_eq] at hcond
   obtain ⟨⟨⟨⟨hz, hshp⟩, hargs⟩, hmem⟩, hrng⟩ := hcond
   split at h
   ·rename_i r m hr
    split at h
    ·rename_i hm
     simp only [Bool.and_eq_true, decide_eq_true_eq, Bool.or_eq_true, beq_iff_eq] at hm
     obtain ⟨hm, honly⟩ := hm
     split at h
     ·rename_i hfree
      cases h
      obtain ⟨b, hb⟩ : ∃ b, callBase s args mem = b := ⟨_, rfl⟩
      have hb32 : b / 32 * 32 = b := by rw [← hb]; exact base32 s args mem
      obtain ⟨u1, u2, u3⟩ := nameRes_up b hr
      obtain ⟨εs, hεs⟩ : ∃ εs, εs = ({ i := fun _ => 0, b := fun _ => false, sa := T.sa, sn := T.sn, sc := T.sc, st := T.st, el := T.el } : Env).setC (b / 32) (S.val s l) := ⟨_, rfl⟩
      have i1 : ∀ j, j < 32 → εs.i (b + j) = S.val s l j := fun j hj => by
       rw [hεs]
       have e1 : (b + j) / 32 = b / 32 := by omega
       have e2 : (b + j) % 32 = j := by omega
       simp [Env.setC, e1, e2]
      have i2 : ∀ j, j < 32 → εs.b (b + j) = decide (S.val s l j ≠ 0) := fun j hj => by
       rw [hεs]
       have e1 : (b + j) / 32 = b / 32 := by omega
       have e2 : (b + j) % 32 = j := by omega
       simp [Env.setC, e1, e2]
      have hR : ∀ i, R64 (εs.i i) := fun i => by
       rw [hεs]
       simp only [Env.setC]
       split
       ·exact hS _ _ _
       ·exact R64_0
      have hgs : args.all (fun x => !isGsl x) = true := by
       rw [List.all_eq_true] at hargs ⊢
       exact fun x hx => (by have := hargs x hx; simp only [Bool.and_eq_true] at this; exact this.2)
      have hfr : ∀ x ∈ args, freeLV x = true := fun x hx => by have := List.all_eq_true.1 hargs x hx; simp only [Bool.and_eq_true] at this; exact this.1
      have h3 : (z == 3) = false := by rcases hz with rfl | rfl <;> rfl
      have h4 : (z == 4) = false := by rcases hz with rfl | rfl <;> rfl
      have h2 : (z == 2) = false := by rcases hz with rfl | rfl <;> rfl
      have hno : callNo S f args mem = some (b / 32, s, args) := by
       unfold callNo
       rw [hs]
       simp only [callArgs, h3, Bool.false_eq_true, if_false, hb]
      have hsat : ∀ res', Ob.sat S εs (.call (.blit true) f args mem res' []) := fun res' b' s' l' hcn j hj => by
       rw [hno] at hcn
       cases hcn
       rw [litArgs_ints hl hgs εs, hb32]
       exact ⟨i1 j hj, i2 j hj⟩
      have fin : ∀ res', stdRes P S.sym f args mem = some (res', []) → (∀ ρ, res'.den εs ρ = (litVal z (S.val s l) r).den ε ρ) → Ob.ok P ε w (.call (.blit true) f args mem (litVal z (S.val s l) r) []) := by
       intro res' hstd hden _ w2 ρ hw2 hblk hinj
       have := hc εs (by rw [hεs]; rfl) (by rw [hεs]; rfl) (by rw [hεs]; rfl) hR w hw f args mem res' [] hshp hstd hrng (hsat res') rfl w2 ρ hw2 (fun b cs hbc => freeC_blk (List.all_eq_true.1 hmem _ (lookup_mem hbc)) (hblk b cs hbc)) hinj
       rw [List.map_congr_left fun x hx => freeLV_den (hfr x hx) εs ε ρ] at this
       exact this.mono fun e w' ⟨e1, e2, e3⟩ => ⟨by rw [e1, hden], by simp, e3⟩
      have hcells : ∀ {vs : List V1}, r = .tup vs → ∀ x ∈ vs, ∀ y ∈ x.cells, belowSV 0 m y := fun hrv x hx y hy => u3 y (by rw [hrv]; exact List.mem_flatMap.2 ⟨x, hx, hy⟩)
      have j1 : ∀ j, j < m → εs.i (b + j) = S.val s l j := fun j hj => i1 j (by omega)
      have j2 : ∀ j, j < m → εs.b (b + j) = decide (S.val s l j ≠ 0) := fun j hj => i2 j (by omega)
      rcases hz with rfl | rfl
      ·refine fin (upLV b r) ?_ fun ρ => ?_
       ·unfold stdRes
        rw [hs, hfn]
        simp only [h4, h3, Bool.false_eq_true, if_false, hb]
        unfold stdVal
        rw [u1]
        cases r with
        | v x => rfl
        | tup vs => rfl
        | bad => exact absurd rfl u2
       ·show (upLV b r).den εs ρ = (numLV (S.val s l) r).den ε ρ
        have hf0 : freeLV (numLV (S.val s l) r) = true := hfree
        cases r with
        | v x => exact numV1_den j1 j2 (fun y hy => u3 y hy) hf0 ρ
        | tup vs =>
         simp only [numLV, freeLV, List.all_eq_true, List.mem_map, forall_exists_index, and_imp, forall_apply_eq_imp_iff₂] at hf0
         simp only [upLV, numLV, LV.den, List.map_map]
         exact congrArg (fun l : List Value => Value.tuple l.toArray) (List.map_congr_left fun x hx => numV1_den (ε' := ε) j1 j2 (hcells rfl x hx) (List.all_eq_true.2 (hf0 x hx)) ρ)
        | bad => exact absurd rfl u2
      ·have honly' : onlyInts r = true := honly.resolve_left (by decide)
       cases r with
       | v x => cases honly'
       | bad => exact absurd rfl u2
       | tup vs =>
        have hlast : ∃ k e, vs.getLast? = some (.s (.a (.int k (.var e)))) := by
         unfold litVal at hfree
         rw [if_neg (by decide)] at hfree
         dsimp only at hfree
         split at hfree
         ·rename_i k e hl; exact ⟨k, e, hl⟩
         ·cases hfree
        obtain ⟨k, e, hlast⟩ := hlast
        have hem : e < m := by
         have := hcells rfl _ (List.mem_of_getLast? hlast) (.a (.int k (.var e))) (by simp [V1.cells])
         exact this.2
        refine fin (.tup (((vs.map (upV1 b)).dropLast).map (zeroLess1 (.var (b + e))) ++ [.s (.a (.int k (.var (b + e))))])) ?_ fun ρ => ?_
        ·unfold stdRes
         rw [hs, hfn]
         simp only [h4, h3, Bool.false_eq_true, if_false, hb]
         unfold stdVal
         rw [u1]
         dsimp only [upLV]
         rw [if_neg (by decide), up_last hlast]
         dsimp only
         rw [if_neg (by decide)]
         rfl
        ·unfold litVal
         rw [if_neg (by decide)]
         simp only [hlast, LV.den, List.map_append, List.map_cons, List.map_nil, ← List.map_dropLast, List.map_map]
         have hint : ∀ x ∈ vs.dropLast, x.cells.all (fun | .a (.int _ (.var _)) => true | _ => false) = true := fun x hx => by
          have := List.all_eq_true.1 (show vs.all _ = true from honly') x (List.dropLast_subset _ hx)
          exact this
         have e4 : vs.dropLast.map (V1.den εs ρ ∘ zeroLess1 (.var (b + e)) ∘ upV1 b) = vs.dropLast.map (V1.den ε ρ ∘ numV1 (fun v => if S.val s l e = 0 then S.val s l v else 0)) := List.map_congr_left fun x hx => zero_den (ε' := ε) j1 hem (hcells rfl x (List.dropLast_subset _ hx)) (hint x hx) ρ
         rw [e4]
         simp only [V1.den, SV.den, AV.den, E.den, j1 e hem]
     ·cases h
    ·cases h
   ·cases h
  ·cases h
 ·cases h
def closedOb (R : FuncId → List LV → List (Nat × Cells) → Option (LV × List (Nat × Cells))) : Ob → Bool
 | .call pc f args mem res upd => pc == .blit true && R f args mem == some (res, upd)
 | _ => false
def KL (isSym : FuncId → Bool) (R : FuncId → List LV → List (Nat × Cells) → Option (LV × List (Nat × Cells))) : Cfg := ⟨fun f => !isSym f, fun _ => false, R, fun _ _ => none⟩
end SX
end
section
namespace SX
open Go.RowKit
def forceN {α} (n : Nat) (k : Nat → α) : α := match n with | 0 => k 0 | m + 1 => k (m + 1)
def forceI {α} (n : Int) (k : Int → α) : α := match n with | .ofNat m => forceN m fun m => k (.ofNat m) | .negSucc m => forceN m fun m => k (.negSucc m)
def forceE {α} (e : E) (k : E → α) : α := match e with | .lit n => forceI n fun n => k (.lit n) | .blit true => k (.blit true) | .blit false => k (.blit false) | e => k e
def forceSV {α} (e : SV) (k : SV → α) : α := match e with | .a (.int ik e) => forceE e fun e => k (.a (.int ik e)) | .a (.bool e) => forceE e fun e => k (.a (.bool e)) | e => k e
def forceL {β α} (g : β → (β → α) → α) : List β → (List β → α) → α | [], k => k [] | x :: xs, k => g x fun x => forceL g xs fun xs => k (x :: xs)
def forceV1 {α} (e : V1) (k : V1 → α) : α := match e with | .s x => forceSV x fun x => k (.s x) | .agg l => forceL forceSV l fun l => k (.agg l)
def forceLV {α} (e : LV) (k : LV → α) : α := match e with | .v x => forceV1 x fun x => k (.v x) | .tup l => forceL forceV1 l fun l => k (.tup l) | .bad => k .bad
theorem forceN_eq {α} (n : Nat) (k : Nat → α) : forceN n k = k n := by cases n <;> rfl
theorem forceI_eq {α} (n : Int) (k : Int → α) : forceI n k = k n := by cases n <;> (simp only [forceI]; exact forceN_eq _ _)
theorem forceE_eq {α} (n : E) (k : E → α) : forceE n k = k n := by unfold forceE; split <;> first | exact forceI_eq _ _ | rfl
theorem forceSV_eq {α} (n : SV) (k : SV → α) : forceSV n k = k n := by unfold forceSV; split <;> first | exact forceE_eq _ _ | rfl
theorem forceL_eq {β α} (g : β → (β → α) → α) (hg : ∀ x k, g x k = k x) : ∀ (l : List β) (k : List β → α), forceL g l k = k l
 | [], k => rfl
 | x :: xs, k => by simp only [forceL, hg, forceL_eq g hg xs]
theorem forceV1_eq {α} (n : V1) (k : V1 → α) : forceV1 n k = k n := by unfold forceV1; split <;> first | exact forceSV_eq _ _ | exact forceL_eq _ (fun _ _ => forceSV_eq _ _) _ _
theorem forceLV_eq {α} (n : LV) (k : LV → α) : forceLV n k = k n := by unfold forceLV; split <;> first | exact forceV1_eq _ _ | exact forceL_eq _ (fun _ _ => forceV1_eq _ _) _ _ | rfl
abbrev RF := FuncId → List LV → List (Nat × Cells) → Option (LV × List (Nat × Cells))
noncomputable def forced (R : RF) : RF := fun f args mem => match R f args mem with
 | some (r, u) => forceLV r fun r => some (r, u)
 | none => none
theorem forced_eq (R : RF) : forced R = R := by
 funext f args mem
 unfold forced
 split
 ·rename_i r u h; rw [forceLV_eq, h]
 ·rename_i h; rw [h]
variable {P : Program}
structure Kwn where
 f : FuncId
 args : List LV
 res : LV
def εk : Env := ⟨fun _ => 0, fun _ => false, fun _ => none, fun _ => 0, fun _ => 0, fun _ => default, fun _ _ => 0⟩
def Kwn.free (e : Kwn) : Bool := noIds e.args && e.args.all freeLV && freeLV e.res && e.res.ids.isEmpty
def Kwn.ok (P : Program) (e : Kwn) : Prop := e.free = true ∧ ∀ w, Calls P e.f (e.args.map (LV.den εk fun _ => 0)).toArray w (fun x w' => x = .returned (e.res.den εk fun _ => 0) ∧ Below w.heap.size w w')
def closedK (P : Program) (isSym : FuncId → Bool) (R : RF) (n sp : Nat) (e : Kwn) : Bool := e.free && match evFn P (KL isSym R) n sp e.f e.args [] (.blit true) 0 2 with
 | some (v, _, _, obs) => v == e.res && obs.all (closedOb R)
 | none => false
def RF.right (P : Program) (R : RF) : Prop := ∀ f args mem res upd, R f args mem = some (res, upd) → ∀ (ε : Env) (w : World), Ob.ok P ε w (.call (.blit true) f args mem res upd)
theorem closedK_ok (hmix : P.follows .mixedOrders = true) {isSym : FuncId → Bool} {R : RF} {n sp : Nat} (hsp : 0 < sp) {e : Kwn} (h : closedK P isSym R n sp e = true) (hR : RF.right P R) : e.ok P := by
 unfold closedK at h
 rw [Bool.and_eq_true] at h
 obtain ⟨hf, h⟩ := h
 refine ⟨hf, fun w => ?_⟩
 simp only [Kwn.free, Bool.and_eq_true] at hf
 obtain ⟨⟨⟨f1, f2⟩, f3⟩, f4⟩ := hf
 split at h
 ·rename_i v s nv' obs he
  simp only [Bool.and_eq_true, beq_iff_eq] at h
  obtain ⟨rfl, ho⟩ := h
  exact reads4 hmix hsp he f1 f4 εk w fun ob hob => by
   have h1 := List.all_eq_true.1 ho ob hob
   cases ob with
   | call pc f args mem res upd =>
    simp only [closedOb, Bool.and_eq_true, beq_iff_eq] at h1
    obtain ⟨rfl, h1⟩ := h1
    exact hR f args mem res upd h1 _ _
   | _ => cases h1
 ·cases h
def resK (tab : List Kwn) (R : RF) : RF := fun f args mem => match tab.find? fun e => e.f == f && e.args == args with
 | some e => some (e.res, [])
 | none => R f args mem
def symK (tab : List Kwn) (isSym : FuncId → Bool) (f : FuncId) : Bool := isSym f || tab.any fun e => e.f == f
theorem resK_right {tab : List Kwn} {R : RF} (ht : ∀ e ∈ tab, e.ok P) (hR : RF.right P R) : RF.right P (resK tab R) := by
 intro f args mem res upd h ε w
 unfold resK at h
 split at h
 ·rename_i e he
  cases h
  have h1 := List.find?_some he
  simp only [Bool.and_eq_true, beq_iff_eq] at h1
  obtain ⟨rfl, rfl⟩ := h1
  obtain ⟨hf, hc⟩ := ht e (List.mem_of_find?_eq_some he)
  simp only [Kwn.free, Bool.and_eq_true] at hf
  obtain ⟨⟨⟨f1, f2⟩, f3⟩, f4⟩ := hf
  intro _ w2 ρ hw2 hblk hinj
  have ea : e.args.map (LV.den ε ρ) = e.args.map (LV.den εk fun _ => 0) := List.map_congr_left fun x hx => by
   have h2 := List.all_eq_true.1 f1 x hx
   simp only [Bool.and_eq_true] at h2
   rw [freeLV_den (List.all_eq_true.1 f2 x hx) ε εk ρ]
   exact LV.den_congr fun b hb => by rw [List.isEmpty_iff.1 h2.1] at hb; cases hb
  have er : e.res.den ε ρ = e.res.den εk fun _ => 0 := by
   rw [freeLV_den f3 ε εk ρ]
   exact LV.den_congr fun b hb => by rw [List.isEmpty_iff.1 f4] at hb; cases hb
  rw [ea, er]
  exact (hc w2).mono fun x w' ⟨q1, q2⟩ => ⟨q1, by simp, Ext.of_below q2 _⟩
 ·exact hR f args mem res upd h ε w
theorem forced_right {R : RF} (hR : RF.right P R) : RF.right P (forced R) := by rw [forced_eq]; exact hR
theorem true_of (hmix : P.follows .mixedOrders = true) {isSym : FuncId → Bool} {R : RF} {n sp : Nat} (hsp : 0 < sp) {f : FuncId} (h : closedK P isSym R n sp ⟨f, [], .v (.s (.a (.bool (.blit true))))⟩ = true) (hR : RF.right P R) (w : World) :
  Calls P f #[] w (fun e w' => e = .returned (.bool true) ∧ Below w.heap.size w w') := (closedK_ok hmix hsp h hR).2 w
end SX
end
section
set_option maxRecDepth 1000000
namespace SX
open Go.RowKit

def i (n : Int) : SV := .a (.int .i64 (.lit n))
def z : SV := i 0
def k1 : Kwn := ⟨4, [LV.v (V1.agg [z, z, z, z, i (-33554432), i (-33554432)])], LV.tup [V1.agg [z, z, z, z, z, z, z, z, z, z, z, z, i (-33554432), i (-33554432)], V1.agg [i 68719476736, i 68719476736, z, z, z, z, z, z, z, z, z, z, SV.a (AV.nils), z, z]]⟩
def k2 : Kwn := ⟨7, [LV.v (V1.agg [z, z, z, z, z, z, z, z, z, z, z, z, i (-33554432), i (-33554432)]), LV.v (V1.agg [i 68719476736, i 68719476736, z, z, z, z, z, z, z, z, z, z, SV.a (AV.nils), z, z]), LV.v (V1.agg [z, z, z, z, z, z, z, i 4294967296, i 4294967296, z, z, i 4294967296, i 4294967296, i 4294967296, i 4294967296])], LV.tup [V1.agg [z, z, z, z, i (-33554432), i (-33554432)], V1.s (z)]⟩
def k3 : Kwn := ⟨13, [LV.v (V1.agg [z, z, z, z, z, z, z, z, z, z, z, z, i (-33554432), i (-33554432)])], LV.v (V1.s (z))⟩
def k4 : Kwn := ⟨14, [LV.v (V1.agg [i 68719476736, i 68719476736, z, z, z, z, z, z, z, z, z, z, SV.a (AV.nils), z, z])], LV.v (V1.s (z))⟩
def k5 : Kwn := ⟨15, [LV.v (V1.agg [z, z, z, z, z, z, z, i 4294967296, i 4294967296, z, z, i 4294967296, i 4294967296, i 4294967296, i 4294967296])], LV.v (V1.s (z))⟩
def k6 : Kwn := ⟨8, [LV.v (V1.agg [i 21474836480, i 8589934592, z, z, z, z, z, z, z, z, z, z, SV.a (AV.nils), z, z])], LV.tup [V1.s (i 3), V1.s (z)]⟩
def k7 : Kwn := ⟨14, [LV.v (V1.agg [i 21474836480, i 8589934592, z, z, z, z, z, z, z, z, z, z, SV.a (AV.nils), z, z])], LV.v (V1.s (z))⟩
def k8 : Kwn := ⟨9, [LV.v (V1.agg [i 12884901888, i 12884901888, i 17179869184, i 17179869184, z, z]), LV.v (V1.agg [i 12884901888, i 12884901888, i 17179869184, i 17179869184, i 21474836480, i 21474836480])], LV.tup [V1.agg [i 21474836480, i 21474836480], V1.s (z)]⟩
def k9 : Kwn := ⟨10, [LV.v (V1.agg [z, z, z, z, z, z, z, z, z, z, z, z, i (-33554432), i (-33554432)]), LV.v (V1.agg [i 68719476736, i 68719476736, z, z, z, z, z, z, z, z, z, z, SV.a (AV.nils), z, z]), LV.v (V1.agg [z, z, z, z, z, z, z, i 4294967296, i 4294967296, z, z, i 4294967296, i 4294967296, i 4294967296, i 4294967296]), LV.v (V1.s (z))], LV.tup [V1.agg [z, z, z, z, z, z, z, z, z, z, z, z, z, z, z], V1.agg [z, z, z, z, z, z, z, z, z, z, z, z, z, z, z, z], V1.s (i 2)]⟩
def k10 : Kwn := ⟨10, [LV.v (V1.agg [z, z, z, z, z, z, z, z, z, z, z, z, i (-33554432), i (-33554432)]), LV.v (V1.agg [i 68719476736, i 68719476736, z, z, z, z, z, z, z, z, z, z, SV.a (AV.nils), z, z]), LV.v (V1.agg [z, z, z, z, z, z, z, z, z, z, z, z, z, z, z]), LV.v (V1.s (i 1))], LV.tup [V1.agg [z, z, z, z, z, z, z, z, z, z, z, z, z, z, z], V1.agg [z, z, z, z, z, z, z, z, z, z, z, z, z, z, z, z], V1.s (i 2)]⟩
def k11 : Kwn := ⟨15, [LV.v (V1.agg [z, z, z, z, z, z, z, z, z, z, z, z, z, z, z])], LV.v (V1.s (i 2))⟩
def k12 : Kwn := ⟨14, [LV.v (V1.agg [z, z, z, z, z, z, z, z, z, z, z, z, SV.a (AV.nils), z, z])], LV.v (V1.s (i 2))⟩
def k13 : Kwn := ⟨8, [LV.v (V1.agg [i 4097, i 1, z, z, z, z, z, z, z, z, z, z, SV.a (AV.nils), z, z])], LV.tup [V1.s (z), V1.s (i 3)]⟩
def k14 : Kwn := ⟨14, [LV.v (V1.agg [i 4097, i 1, z, z, z, z, z, z, z, z, z, z, SV.a (AV.nils), z, z])], LV.v (V1.s (z))⟩
def k15 : Kwn := ⟨9, [LV.v (V1.agg [z, z, z, z, z, z]), LV.v (V1.agg [i 1, i 1, z, z, z, z])], LV.tup [V1.agg [z, z], V1.s (i 10)]⟩
def k16 : Kwn := ⟨10, [LV.v (V1.agg [z, z, z, z, z, z, z, z, z, z, z, z, i (-33554432), i (-33554432)]), LV.v (V1.agg [i 68719476736, i 68719476736, z, z, i 4294967296, i 4294967296, z, z, z, z, z, z, SV.a (AV.nils), z, z]), LV.v (V1.agg [z, z, z, z, z, z, z, i 4294967296, i 4294967296, z, z, i 4294967296, i 4294967296, i 4294967296, i 4294967296]), LV.v (V1.s (i 4294967296))], LV.tup [V1.agg [z, z, z, z, z, z, z, z, z, z, z, z, z, z, z], V1.agg [z, z, z, z, z, z, z, z, z, z, z, z, z, z, z, z], V1.s (i 4)]⟩
def k17 : Kwn := ⟨14, [LV.v (V1.agg [i 68719476736, i 68719476736, z, z, i 4294967296, i 4294967296, z, z, z, z, z, z, SV.a (AV.nils), z, z])], LV.v (V1.s (z))⟩
def k18 : Kwn := ⟨23, [LV.v (V1.agg [z, z, z, z, z, z, z, z, z, z, z, z, i (-33554432), i (-33554432)]), LV.v (V1.agg [i 68719476736, i 68719476736, z, z, i 4294967296, i 4294967296, z, z, z, z, z, z, SV.a (AV.nils), z, z]), LV.v (V1.agg [z, z, z, z, z, z, z, i 4294967296, i 4294967296, z, z, i 4294967296, i 4294967296, i 4294967296, i 4294967296]), LV.v (V1.s (i 4294967296))], LV.tup [V1.agg [z, z, z, z, z, z, z, z, z, z, z, z, z, z, z], V1.agg [z, z, z, z, z, z, z, z, z, z, z, z, z, z, z, z], V1.s (i 4)]⟩
def k19 : Kwn := ⟨7, [LV.v (V1.agg [i 1, i 1, z, z, z, z, z, z, z, z, z, z, z, z]), LV.v (V1.agg [i 1, i 1, z, z, z, z, z, z, z, z, z, z, SV.a (AV.nils), z, z]), LV.v (V1.agg [z, z, z, z, z, z, z, i 4294967296, i 4294967296, z, z, i 4294967296, i 4294967296, i 4294967296, i 4294967296])], LV.tup [V1.agg [z, z, z, z, z, z], V1.s (i 10)]⟩
def k20 : Kwn := ⟨13, [LV.v (V1.agg [i 1, i 1, z, z, z, z, z, z, z, z, z, z, z, z])], LV.v (V1.s (z))⟩
def k21 : Kwn := ⟨14, [LV.v (V1.agg [i 1, i 1, z, z, z, z, z, z, z, z, z, z, SV.a (AV.nils), z, z])], LV.v (V1.s (z))⟩
def k22 : Kwn := ⟨12, [], LV.v (V1.s (SV.a (AV.bool (E.blit true))))⟩
def k23 : Kwn := ⟨10, [LV.v (V1.agg [z, z, z, z, z, z, z, z, z, z, z, z, i (-33554432), i (-33554432)]), LV.v (V1.agg [i 68719476736, i 68719476736, z, z, z, z, z, z, z, z, z, z, SV.a (AV.nils), z, z]), LV.v (V1.agg [z, z, z, z, z, z, z, i 4294967296, i 4294967296, z, z, i 4294967296, i 4294967296, i 4294967296, i 4294967296]), LV.v (V1.s (i 68719476736))], LV.tup [V1.agg [i 68719476736, i 68719476736, i 68719476736, z, z, i 64424509440, i 64424509440, i 4294967296, i 4294967296, z, z, i 3758096384, i 3758096384, i 4294967296, i 4294967296], V1.agg [z, i 68719476736, z, i 68719476736, z, z, z, i 69794267136, i 4294967296, i 4294967296, z, z, i 3758096384, i 4294967296, i 4294967296, i 4294967296], V1.s (z)]⟩
def k24 : Kwn := ⟨23, [LV.v (V1.agg [z, z, z, z, z, z, z, z, z, z, z, z, i (-33554432), i (-33554432)]), LV.v (V1.agg [i 68719476736, i 68719476736, z, z, z, z, z, z, z, z, z, z, SV.a (AV.nils), z, z]), LV.v (V1.agg [z, z, z, z, z, z, z, i 4294967296, i 4294967296, z, z, i 4294967296, i 4294967296, i 4294967296, i 4294967296]), LV.v (V1.s (i 68719476736))], LV.tup [V1.agg [i 68719476736, i 68719476736, i 68719476736, z, z, i 64424509440, i 64424509440, i 4294967296, i 4294967296, z, z, i 3758096384, i 3758096384, i 4294967296, i 4294967296], V1.agg [z, i 68719476736, z, i 68719476736, z, z, z, i 69794267136, i 4294967296, i 4294967296, z, z, i 3758096384, i 4294967296, i 4294967296, i 4294967296], V1.s (z)]⟩
def k25 : Kwn := ⟨29, [LV.v (V1.agg [z, z, i 25769803776, i 25769803776, z, z, z, z, z, z, z, z, z, z]), LV.v (V1.agg [i 12884901888, i 12884901888, i 17179869184, i 17179869184, i 51539607552, i 51539607552])], LV.tup [V1.agg [i 30064771072, i 30064771072], V1.s (z)]⟩
def k26 : Kwn := ⟨13, [LV.v (V1.agg [z, z, i 25769803776, i 25769803776, z, z, z, z, z, z, z, z, z, z])], LV.v (V1.s (z))⟩
end SX
end
end Go.Proofs.YtopdikifgbdnoaaGreat
