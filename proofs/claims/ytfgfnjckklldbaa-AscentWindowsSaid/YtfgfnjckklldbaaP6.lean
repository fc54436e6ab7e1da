/- Packed: SxO SxP SxM. -/
import Derived.Laws.Sem
import Derived.Laws.Cells
import Derived.Laws.World
import Derived.Laws.NewBlocks
import Derived.Test.YtfgfnjckklldbaaP5
set_option linter.unusedVariables false
set_option linter.unusedSimpArgs false
namespace Go.Proofs.Ytfgfnjckklldbaa
section
namespace SX
open Go.RowKit
variable {P : Program} {ε : Env} {ρ ρ' : Nat → Nat}
def CellOk (ε : Env) (ρ : Nat → Nat) (w : World) (a j : Nat) (x : Option SV) : Prop := match x with
 | some (.row c m) => j ≤ ρ c * m ∧ ∀ k, j ≤ k → k < ρ c * m → ∃ v, w.cell? ⟨a, k, none⟩ = some v ∧ w.frozen? ⟨a, k, none⟩ = false
 | x => ∃ v, w.cell? ⟨a, j, none⟩ = some v ∧ w.frozen? ⟨a, j, none⟩ = false ∧ ∀ s, x = some s → v = s.den ε ρ
theorem cell_plain {w : World} {a j : Nat} {x : Option SV} (h : isRowC x = false) : CellOk ε ρ w a j x ↔ ∃ v, w.cell? ⟨a, j, none⟩ = some v ∧ w.frozen? ⟨a, j, none⟩ = false ∧ ∀ s, x = some s → v = s.den ε ρ := by
 unfold CellOk
 split
 ·cases h
 ·rfl
theorem CellOk.of {w : World} {a j : Nat} {x y : Option SV} (h : CellOk ε ρ w a j x) (hr : isRowC x = true ∨ isRowC y = true → x = y) (hd : ∀ s, y = some s → ∃ s', x = some s' ∧ s.den ε ρ = s'.den ε ρ) : CellOk ε ρ w a j y := by
 cases hy : isRowC y with
 | true => rw [← hr (.inr hy)]; exact h
 | false =>
  have hx : isRowC x = false := by
   cases hx : isRowC x with
   | false => rfl
   | true => rw [hr (.inl hx), hy] at hx; cases hx
  obtain ⟨v, e1, e2, e3⟩ := (cell_plain hx).1 h
  refine (cell_plain hy).2 ⟨v, e1, e2, fun s hs => ?_⟩
  obtain ⟨s', h1, h2⟩ := hd s hs
  rw [h2]; exact e3 s' h1
theorem CellOk.same {w w' : World} {a j : Nat} {x : Option SV} (h : CellOk ε ρ w a j x) (h1 : ∀ k, w'.cell? ⟨a, k, none⟩ = w.cell? ⟨a, k, none⟩) (h2 : ∀ k, w'.frozen? ⟨a, k, none⟩ = w.frozen? ⟨a, k, none⟩) : CellOk ε ρ w' a j x := by
 unfold CellOk at *
 simp only [h1, h2]
 exact h
def Blk (ε : Env) (ρ : Nat → Nat) (base : Nat) (w : World) (b : Nat) (cs : Cells) : Prop :=
 base ≤ ρ b ∧ ρ b < w.heap.size ∧ ∀ (j : Nat) c, cs[j]? = some c → CellOk ε ρ w (ρ b) j c
structure Ext (w w' : World) (X : Nat → Prop) : Prop where
 os : w'.os = w.os
 tape : w'.tape = w.tape
 output : w'.output = w.output
 size : w.heap.size ≤ w'.heap.size
 block : ∀ b, b < w.heap.size → ¬ X b → w'.heap[b]? = w.heap[b]?
theorem Ext.refl (w : World) (X : Nat → Prop) : Ext w w X := ⟨rfl, rfl, rfl, Nat.le_refl _, fun _ _ _ => rfl⟩
theorem Ext.trans {w w' w'' : World} {X Y : Nat → Prop} (h : Ext w w' X) (k : Ext w' w'' Y) : Ext w w'' (fun b => X b ∨ Y b) :=
 ⟨k.os.trans h.os, k.tape.trans h.tape, k.output.trans h.output, Nat.le_trans h.size k.size, fun b hb hn =>
  (k.block b (Nat.lt_of_lt_of_le hb h.size) fun hy => hn (.inr hy)).trans (h.block b hb fun hx => hn (.inl hx))⟩
theorem Ext.mono {w w' : World} {X Y : Nat → Prop} (h : Ext w w' X) (hx : ∀ b, b < w.heap.size → X b → Y b) : Ext w w' Y :=
 ⟨h.os, h.tape, h.output, h.size, fun b hb hn => h.block b hb fun hX => hn (hx b hb hX)⟩
theorem Ext.below {w w' w0 : World} {X : Nat → Prop} {base : Nat} (h : Ext w w' X) (hx : ∀ b, X b → base ≤ b) (hs : base ≤ w.heap.size) (h0 : Below base w0 w) : Below base w0 w' :=
 ⟨h.os.trans h0.os, h.tape.trans h0.tape, h.output.trans h0.output, Nat.le_trans h0.size h.size, fun k hk =>
  (h.block k (Nat.lt_of_lt_of_le hk hs) fun hX => absurd (hx k hX) (by omega)).trans (h0.block k hk)⟩
theorem Blk.ext {base b : Nat} {w w' : World} {cs : Cells} {X : Nat → Prop} (h : Blk ε ρ base w b cs) (hx : Ext w w' X) (hn : ¬ X (ρ b)) : Blk ε ρ base w' b cs := by
 obtain ⟨h1, h2, h3⟩ := h
 have hb := hx.block _ h2 hn
 exact ⟨h1, Nat.lt_of_lt_of_le h2 hx.size, fun j c hj => (h3 j c hj).same (fun k => World.cell?_of_block (w := w) (a := ⟨ρ b, k, none⟩) hb) (fun k => World.frozen?_of_block (w := w) (a := ⟨ρ b, k, none⟩) hb)⟩
theorem Blk.congr {base b : Nat} {w : World} {cs : Cells} (h : Blk ε ρ base w b cs) (hb : ρ b = ρ' b) (hc : ∀ i ∈ Cells.ids cs, ρ i = ρ' i) : Blk ε ρ' base w b cs := by
 obtain ⟨h1, h2, h3⟩ := h
 refine ⟨hb ▸ h1, hb ▸ h2, fun j c hj => ?_⟩
 have hk := h3 j c hj
 rw [← hb]
 cases hr : isRowC c with
 | false =>
  obtain ⟨v, e1, e2, e3⟩ := (cell_plain hr).1 hk
  refine (cell_plain hr).2 ⟨v, e1, e2, fun s hs => (e3 s hs).trans (SV.den_congr fun i hi => hc i ?_)⟩
  subst hs
  exact List.mem_flatMap.2 ⟨some s, List.mem_of_getElem? hj, hi⟩
 | true =>
  unfold CellOk at hk ⊢
  split at hk
  ·rename_i c0 m
   have : ρ c0 = ρ' c0 := hc c0 (List.mem_flatMap.2 ⟨some (.row c0 m), List.mem_of_getElem? hj, by simp [SV.ids]⟩)
   simp only [← this]
   exact hk
  ·rename_i hn
   exfalso
   cases c with
   | none => cases hr
   | some s => cases s <;> first | (cases hr; done) | exact hn _ _ rfl
def OpOk (P : Program) (o : Oper) (a : Act) (w : World) (R : Value → World → Prop) : Prop :=
 ∀ (next : Act → World → Prop) (Q : Exit → Act → World → Prop), (∀ v w', R v w' → next (a.put o.dst v) w') → o.wp P a w next Q
section
variable {o : Oper} {a : Act} {w w' : World} {R : Value → World → Prop} {v : Value}
theorem OpOk.value (h : (execOp a.eval o).run P w = .ok (.value v) w') (hr : R v w') : OpOk P o a w R := fun next Q hn => by
 unfold Oper.wp; rw [h]; exact hn _ _ hr
theorem OpOk.skip (h : (execOp a.eval o).run P w = .ok .skip w') (hr : R undef w') : OpOk P o a w R := fun next Q hn => by
 unfold Oper.wp; rw [h]; exact hn _ _ hr
theorem OpOk.enter {f : FuncId} {args : Array Value} (h : (execOp a.eval o).run P w = .ok (.enter f args) w) (hc : Calls P f args w (fun e w' => ∃ v, e = .returned v ∧ R v w')) : OpOk P o a w R := fun next Q hn => by
 unfold Oper.wp; rw [h]
 exact hc.mono fun e w' ⟨v, he, hr⟩ => by subst he; exact hn _ _ hr
end
def NW (id sp b : Nat) : Prop := id ≤ b ∧ b < id + sp
def Out1 (ε : Env) (ρ : Nat → Nat) (base id sp : Nat) (w : World) (val : LV) (upd : List (Nat × Cells)) (v : Value) (w' : World) : Prop :=
 ∃ ρ', (∀ b, ¬ NW id sp b → ρ' b = ρ b) ∧ v = val.den ε ρ' ∧ (∀ u ∈ upd, Blk ε ρ' base w' u.1 u.2) ∧ (∀ u ∈ upd, NW id sp u.1 → w.heap.size ≤ ρ' u.1 ∨ ∃ k, ¬ NW id sp k ∧ upd.lookup k = some [] ∧ ρ k = ρ' u.1) ∧
  (∀ u ∈ upd, ∀ u' ∈ upd, NW id sp u.1 → NW id sp u'.1 → ρ' u.1 = ρ' u'.1 → u.1 = u'.1) ∧ Ext w w' (fun x => ∃ u ∈ upd, ¬ NW id sp u.1 ∧ ρ u.1 = x)
theorem Out1.pure {base id sp : Nat} {w : World} {val : LV} {v : Value} (h : v = val.den ε ρ) : Out1 ε ρ base id sp w val [] v w :=
 ⟨ρ, fun _ _ => rfl, h, by simp, by simp, by simp, Ext.refl _ _⟩
def Slots (ε : Env) (ρ : Nat → Nat) (look : Nat → LV) (o : Oper) (a : Act) : Prop := ∀ t, Operand.tmp t ∈ o.op.operands → RV ε ρ (look t) (a.tmps.getD t undef)
theorem opnd_den {look : Nat → LV} {a : Act} {x : Operand} (h : ∀ t, x = .tmp t → RV ε ρ (look t) (a.tmps.getD t undef)) (hb : opnd look x ≠ .bad) : a.eval x = (opnd look x).den ε ρ := by
 cases x with
 | tmp t => exact (h t rfl).get hb
 | const v => exact (ofVal_den hb).1.symm
 | global g => exact absurd rfl hb
 | func f => rfl
theorem opnd_eq {look : Nat → LV} {a : Act} {x : Operand} {y : LV} (h : ∀ t, x = .tmp t → RV ε ρ (look t) (a.tmps.getD t undef)) (hy : opnd look x = y) (hb : y ≠ .bad) : a.eval x = y.den ε ρ := by
 subst hy; exact opnd_den h hb
theorem V1.den_cells (v : V1) : (v.den ε ρ).cells = (v.cells.map (SV.den ε ρ)).toArray := by
 cases v with
 | s x =>
  have : ∀ x : SV, ∀ c, x.den ε ρ ≠ .agg c := by intro x c; cases x with
   | a y => cases y <;> simp [SV.den, AV.den]
   | fn f fi cap => simp [SV.den]
   | nilf => simp [SV.den]
   | row c m => simp [SV.den]
  simp only [V1.den, V1.cells, List.map_cons, List.map_nil, Value.cells]
  split
  ·rename_i c hc; exact absurd hc (this x c)
  ·rfl
 | agg l => simp [V1.den, V1.cells, Value.cells]
theorem oneCell_den (s : SV) : (s.den ε ρ).oneCell' = true := by
 cases s with
 | a y => cases y <;> rfl
 | fn f fi cap => rfl
 | nilf => rfl
 | row c m => rfl
theorem run_newRow (w : World) (t : TypeId) (cs : Array Value) : (newRow t cs).run P w = .ok ⟨w.heap.size, 0, none⟩ (w.alloc (.cells cs t)) := by
 simp [newRow, Result.andThen]
theorem ext_alloc (w : World) (o : Obj) (X : Nat → Prop) : Ext w (w.alloc o) X := ⟨rfl, rfl, rfl, by simp, fun b hb _ => Below.heap_alloc _ _ _ hb⟩
theorem out_new {base id sp nv : Nat} {w : World} {t : TypeId} {cs : List SV} {r : Op1} {val : LV} {f : Nat → Value} (h : newBlock id nv cs = some r) (hsp : 0 < sp) (hb : base ≤ w.heap.size)
  (hv : ∀ ρ' : Nat → Nat, ρ' id = w.heap.size → val.den ε ρ' = f w.heap.size) :
  Out1 ε ρ base id sp w val r.upd (f w.heap.size) (w.alloc (.cells (cs.map (SV.den ε ρ)).toArray t)) := by
 unfold newBlock at h
 split at h
 ·cases h
 ·rename_i hn
  cases h
  simp only [Bool.or_eq_true, not_or, Bool.not_eq_true, List.any_eq_false] at hn
  obtain ⟨hn, hnr⟩ := hn
  have hid : ∀ i ∈ cs.flatMap SV.ids, ρ i = (fun b => if b = id then w.heap.size else ρ b) i := fun i hi => by
   have : i ≠ id := fun e => by subst e; rw [List.contains_iff_mem.2 hi] at hn; cases hn
   simp [this]
  have hw : NW id sp id := ⟨Nat.le_refl _, by omega⟩
  refine ⟨fun b => if b = id then w.heap.size else ρ b, fun b hb => ?_, ?_, ?_, ?_, ?_, ?_⟩
  ·have : b ≠ id := fun e => hb (e ▸ hw)
   simp [this]
  ·exact (hv _ (by simp)).symm
  ·simp only [List.mem_singleton, forall_eq]
   refine ⟨by simpa using hb, by simp, fun j c hj => ?_⟩
   simp only [if_true, List.getElem?_map, Option.map_eq_some_iff] at hj ⊢
   obtain ⟨s, hs, rfl⟩ := hj
   have hrs : isRow s = false := by simpa using hnr s (List.mem_of_getElem? hs)
   refine (cell_plain (x := some s) hrs).2 ⟨s.den ε ρ, ?_, ?_, fun s' h' => ?_⟩
   ·rw [World.cell?_alloc_new]; simp [hs]
   ·rw [World.frozen?_alloc_new]
   ·cases h'
    exact SV.den_congr fun i hi => hid i (List.mem_flatMap.2 ⟨s, List.mem_of_getElem? hs, hi⟩)
  ·simp
  ·intro u hu u' hu' _ _ _
   rw [List.mem_singleton.1 hu, List.mem_singleton.1 hu']
  ·exact ext_alloc _ _ _
section
variable {ε : Env}
structure Rep (ε : Env) (w0 : World) (d : List Deferred) (st : St) (ρ : Nat → Nat) (a : Act) (w : World) : Prop where
 size : a.tmps.size = st.tmps.length
 defers : a.defers = d
 slots : ∀ t, RV ε ρ (st.look t) (a.tmps.getD t undef)
 blocks : ∀ b cs, st.at b = some cs → Blk ε ρ w0.heap.size w b cs
 inj : ∀ b b', (st.at b).isSome = true → (st.at b').isSome = true → ρ b = ρ b' → b = b'
 world : Below w0.heap.size w0 w
structure Aft (st : St) (ρ : Nat → Nat) (w : World) (nid : Nat) (st' : St) (ρ' : Nat → Nat) (w' : World) : Prop where
 agree : ∀ b, b < nid → ρ' b = ρ b
 ext : Ext w w' (fun x => ∃ b, b ∈ st'.wr ∧ (st.at b).isSome = true ∧ ρ b = x)
 sub : ∀ b ∈ st.wr, b ∈ st'.wr
 fresh : ∀ b, (st'.at b).isSome = true → (st.at b).isSome = true ∨ w.heap.size ≤ ρ' b ∨ ∃ k, k ∈ st'.wr ∧ (st.at k).isSome = true ∧ st'.at k = none ∧ ρ k = ρ' b
 keep : ∀ b, b < nid → (st'.at b).isSome = true → (st.at b).isSome = true
def Tr.sel (ε : Env) : Tr → Ex × St
 | .leaf k s => (k, s)
 | .node c x y => if (c.den ε).2 then x.sel ε else y.sel ε
def Ex.to : Ex → Exit
 | .normal => .normal
 | .exit id => .exit id
 | .ret => .ret
def Dom (st : St) (nid : Nat) : Prop := ∀ b, (st.at b).isSome = true → b < nid
def LoopWp (P : Program) (c : Code) (Q : Exit → Act → World → Prop) (a : Act) (w : World) : Prop :=
 ∀ (b : Frame) (k : List Item) (cs : List Frame), ∃ e a' w', Q e a' w' ∧ Arrives P (lone (b.at a (.code c :: .inLoop c :: k)) cs w) b k cs e a' w'
def LoopTo (P : Program) (ε : Env) (w0 : World) (c : Code) (pc : E) (st : St) (nid : Nat) (tr : Tr) : Prop :=
 (pc.den ε).2 = true → Dom st nid → ∀ (d : List Deferred) (ρ : Nat → Nat) (a : Act) (w : World), Rep ε w0 d st ρ a w → ∀ Q : Exit → Act → World → Prop,
  (∀ ρ' a' w', Rep ε w0 d (tr.sel ε).2 ρ' a' w' → Aft st ρ w nid (tr.sel ε).2 ρ' w' → Q (tr.sel ε).1.to a' w') → LoopWp P c Q a w
end
end SX
end
section
namespace SX
open Go.RowKit
variable {P : Program} {ε : Env} {ρ : Nat → Nat}
section
variable {w : World}
theorem run_underlying {t : TypeId} {d : TypeDesc} (h : P.underlying t = some d) : (underlying t).run P w = .ok d w := by
 simp [underlying, h, Result.andThen]
theorem run_typeInfo {t : TypeId} {i : TypeInfo} (h : P.info? t = some i) : (typeInfo t).run P w = .ok i w := by
 simp [typeInfo, h, Result.andThen]
theorem run_sizeOf {t : TypeId} {i : TypeInfo} (h : P.info? t = some i) : (sizeOf t).run P w = .ok i.size w := by
 simp [sizeOf, run_typeInfo h, Result.andThen]
theorem run_zeroValue {t : TypeId} {z : Value} (h : (P.info? t).bind (·.zero) = some z) : (zeroValue t).run P w = .ok z w := by
 obtain ⟨i, hi, hz⟩ := Option.bind_eq_some_iff.1 h
 simp [zeroValue, run_typeInfo hi, hz, Result.andThen]
theorem run_isAgg {t : TypeId} (h : (P.underlying t).isSome = true) : (isAgg t).run P w = .ok (aggT P t) w := by
 obtain ⟨d, hd⟩ := Option.isSome_iff_exists.1 h
 unfold isAgg aggT
 simp only [Sem.run_bind, run_underlying hd, Result.andThen, hd]
 cases d <;> rfl
theorem run_part {t : TypeId} {cs : List SV} {off : Nat} {v : V1} (h : getPart P t cs off = some v) : (part t (cs.map (SV.den ε ρ)).toArray off).run P w = .ok (v.den ε ρ) w := by
 unfold getPart at h
 split at h
 ·rename_i d i hd hi
  unfold part
  simp only [Sem.run_bind, run_isAgg (w := w) (show (P.underlying t).isSome = true by simp [hd]), Result.andThen, aggT, hd]
  split at h
  ·split at h
   ·cases h
    simp [run_sizeOf hi, Result.andThen, V1.den, List.map_take, List.map_drop]
   ·cases h
  ·split at h
   ·cases h
    simp [run_sizeOf hi, Result.andThen, V1.den, List.map_take, List.map_drop]
   ·cases h
  ·rename_i h1 h2
   obtain ⟨s, hs, rfl⟩ := Option.map_eq_some_iff.1 h
   have : aggT P t = false := by
    unfold aggT; rw [hd]
    split
    ·rename_i x hx; cases hx; exact absurd rfl (h1 _)
    ·rename_i x y hx; cases hx; exact absurd rfl (h2 _ _)
    ·rfl
   have e := this
   unfold aggT at e
   rw [hd] at e
   simp only [e]
   simp [hs, V1.den]
 ·cases h
end
end SX
end
section
namespace SX
open Go.RowKit
variable {P : Program} {ε : Env} {ρ : Nat → Nat}
theorem add_none (b off n : Nat) : (⟨b, off, none⟩ : Addr).add n = ⟨b, off + n, none⟩ := by
 unfold Addr.add; split
 ·rename_i h; subst h; rfl
 ·rfl
theorem allSome_spec : ∀ {cs : Cells} {l : List SV}, allSome cs = some l → cs = l.map some
 | [], l, h => by simp [allSome] at h; subst h; rfl
 | some x :: xs, l, h => by
  simp only [allSome] at h
  split at h
  ·cases h
  ·simp only [Option.map_eq_some_iff] at h
   obtain ⟨l', h', rfl⟩ := h
   rw [allSome_spec h']; rfl
 | none :: xs, l, h => by simp [allSome] at h
theorem allSome_row : ∀ {cs : Cells} {l : List SV}, allSome cs = some l → ∀ s ∈ l, isRow s = false
 | [], l, h, s, hs => by simp [allSome] at h; subst h; cases hs
 | some x :: xs, l, h, s, hs => by
  simp only [allSome] at h
  split at h
  ·cases h
  ·rename_i hx
   simp only [Option.map_eq_some_iff] at h
   obtain ⟨l', h', rfl⟩ := h
   rcases List.mem_cons.1 hs with rfl | hs
   ·simpa using hx
   ·exact allSome_row h' s hs
 | none :: xs, l, h, s, hs => by simp [allSome] at h
theorem load_out {base nv : Nat} {t : TypeId} {mem : Nat → Option Cells} {w : World} {r : Op1} {a : LV} (h : evLoad P mem nv t a = some r)
  (hm : ∀ b ∈ r.fp, ∀ cs, mem b = some cs → Blk ε ρ base w b cs) : r.upd = [] ∧ r.obs = [] ∧ (Instr.loadAt t (a.den ε ρ)).run P w = .ok (r.val.den ε ρ) w := by
 unfold evLoad at h
 split at h
 ·rename_i b off
  split at h
  ·rename_i cs i hcs hi
   split at h
   ·rename_i hu
    have run0 : (Instr.loadAt t ((LV.v (.s (.a (.ptr b off)))).den ε ρ)).run P w = (loadVar t ⟨ρ b, off, none⟩).run P w := by
     simp [Instr.loadAt, Instr.sureAddr, LV.den, V1.den, SV.den, AV.den, Result.andThen]
    split at h
    ·rename_i hag
     split at h
     ·rename_i hle
      obtain ⟨l, hl, rfl⟩ := Option.map_eq_some_iff.1 h
      refine ⟨rfl, rfl, ?_⟩
      obtain ⟨h1, h2, h3⟩ := hm b (by simp) cs hcs
      have hs := allSome_spec hl
      have hlen : l.length = i.size := by
       have := congrArg List.length hs
       simp at this
       omega
      have key : (loadCells ⟨ρ b, off, none⟩ i.size).run P w = .ok (l.map (SV.den ε ρ)).toArray w := by
       have := run_loadCells_list (P := P) (w := w) ⟨ρ b, off, none⟩ (l.map (SV.den ε ρ)) (fun j v hj => by
        simp only [List.getElem?_map, Option.map_eq_some_iff] at hj
        obtain ⟨s, hs', rfl⟩ := hj
        have hj2 : cs[off + j]? = some (some s) := by
         have hj3 : ((cs.drop off).take i.size)[j]? = some (some s) := by rw [hs]; simp [hs']
         have hlt : j < i.size := by
          have := (List.getElem?_eq_some_iff.1 hs').1
          omega
         rw [List.getElem?_take_of_lt hlt, List.getElem?_drop] at hj3
         exact hj3
        obtain ⟨v, e1, e2, e3⟩ := (cell_plain (x := some s) (allSome_row hl s (List.mem_of_getElem? hs'))).1 (h3 _ _ hj2)
        rw [add_none, e1, e3 s rfl])
       rw [List.length_map, hlen] at this
       exact this
      rw [run0]
      unfold loadVar
      simp only [Sem.run_bind, run_isAgg hu, Result.andThen, hag, if_true, run_sizeOf hi, key, Sem.run_pure]
      rfl
     ·cases h
    ·rename_i hag
     split at h
     ·rename_i x hx
      split at h
      ·cases h
      ·rename_i hr
       cases h
       refine ⟨rfl, rfl, ?_⟩
       obtain ⟨h1, h2, h3⟩ := hm b (by simp) cs hcs
       obtain ⟨v, e1, e2, e3⟩ := (cell_plain (x := some x) (by simpa [isRowC] using hr)).1 (h3 _ _ hx)
       rw [run0]
       unfold loadVar
       simp only [Sem.run_bind, run_isAgg hu, Result.andThen, hag, Bool.false_eq_true, if_false, run_load, e1, e3 x rfl]
       rfl
     ·cases h
   ·cases h
  ·cases h
 ·cases h
theorem setL_get : ∀ (xs : List SV) (cs : Cells) (off j : Nat), off + xs.length ≤ cs.length →
  (setL cs off xs)[j]? = if off ≤ j ∧ j < off + xs.length then (xs[j - off]?).map some else cs[j]?
 | [], cs, off, j, _ => by rw [if_neg (by simp only [List.length_nil]; omega)]; rfl
 | x :: xs, cs, off, j, h => by
  simp only [List.length_cons] at h
  rw [setL, setL_get xs _ _ j (by simp; omega)]
  by_cases h1 : off + 1 ≤ j ∧ j < off + 1 + xs.length
  ·rw [if_pos h1, if_pos (by simp only [List.length_cons]; omega)]
   rw [show j - off = (j - (off + 1)) + 1 by omega]; simp
  ·rw [if_neg h1]
   by_cases h2 : j = off
   ·subst h2
    rw [if_pos (by simp only [List.length_cons]; omega), List.getElem?_set_self (by omega)]
    simp
   ·rw [if_neg (by simp only [List.length_cons]; omega), List.getElem?_set_ne (by omega)]
theorem run_storeAt_ptr {t : TypeId} {a : Addr} {v : Value} {w : World} : (Instr.storeAt t (.pointer (some a)) v).run P w = (storeVar t a v).run P w := by
 simp [Instr.storeAt, Instr.sureAddr, Result.andThen]
theorem run_storeCells (b off : Nat) : ∀ (vs : List Value) (i : Nat) (w : World), (∀ v ∈ vs, v.oneCell' = true) →
  (∀ j, j < vs.length → ∃ v, w.cell? ⟨b, off + i + j, none⟩ = some v ∧ w.frozen? ⟨b, off + i + j, none⟩ = false) →
  ∃ w', (storeCells ⟨b, off, none⟩ vs i).run P w = .ok () w' ∧ Ext w w' (fun x => x = b) ∧ (∀ j, w'.frozen? ⟨b, j, none⟩ = w.frozen? ⟨b, j, none⟩) ∧
   ∀ j, w'.cell? ⟨b, j, none⟩ = if off + i ≤ j ∧ j < off + i + vs.length then vs[j - (off + i)]? else w.cell? ⟨b, j, none⟩
 | [], i, w, _, _ => ⟨w, by simp [storeCells], Ext.refl _ _, fun _ => rfl, fun j => by rw [if_neg (by simp only [List.length_nil]; omega)]⟩
 | v :: vs, i, w, hv, hc => by
  obtain ⟨u, hu, hf⟩ := hc 0 (by simp)
  simp only [Nat.add_zero] at hu hf
  let w1 := w.setCell ⟨b, off + i, none⟩ v
  have hc1 : ∀ j, w1.cell? ⟨b, j, none⟩ = if j = off + i then some v else w.cell? ⟨b, j, none⟩ := fun j => by
   by_cases h : j = off + i
   ·subst h; rw [if_pos rfl]; exact World.cell?_setCell_same _ _ _ hu
   ·rw [if_neg h]; exact World.cell?_setCell_other _ _ _ _ (by intro e; exact h (by simpa using (congrArg Addr.off e).symm))
  obtain ⟨w', h1, h2, h3, h4⟩ := run_storeCells b off vs (i + 1) w1 (fun x hx => hv x (by simp [hx])) (fun j hj => by
   obtain ⟨x, hx, hfx⟩ := hc (j + 1) (by simpa using hj)
   refine ⟨x, ?_, ?_⟩
   ·rw [hc1, if_neg (by omega)]; rw [← hx]; congr 2; omega
   ·rw [World.frozen?_setCell, ← hfx]; congr 2; omega)
  refine ⟨w', ?_, ?_, fun j => by rw [h3, World.frozen?_setCell], fun j => ?_⟩
  ·rw [storeCells, add_none]
   simp only [Sem.run_bind, run_store P w _ v _ (hv v (by simp)), hu, hf, Bool.false_eq_true, if_false, Result.andThen]
   exact h1
  ·have e0 : Ext w w1 (fun x => x = b) := ⟨rfl, rfl, rfl, by simp [w1], fun k hk hn => Below.heap_setCell _ _ _ _ (by simpa using hn)⟩
   exact (e0.trans h2).mono fun _ _ hx => hx.elim id id
  ·rw [h4, hc1]
   by_cases h : j = off + i
   ·subst h
    rw [if_neg (by omega), if_pos rfl, if_pos (by simp)]
    simp
   ·rw [if_neg h]
    by_cases h' : off + (i + 1) ≤ j ∧ j < off + (i + 1) + vs.length
    ·rw [if_pos h', if_pos (by simp only [List.length_cons]; omega), show j - (off + i) = (j - (off + (i + 1))) + 1 by omega]; simp
    ·rw [if_neg h', if_neg (by simp only [List.length_cons]; omega)]
theorem store_out {base id sp nv : Nat} {t : TypeId} {mem : Nat → Option Cells} {w : World} {r : Op1} {a x : LV} (h : evStore P mem nv t a x = some r) (hid : ∀ b, NW id sp b → mem b = none)
  (hm : ∀ b ∈ r.fp, ∀ cs, mem b = some cs → Blk ε ρ base w b cs) : r.obs = [] ∧ (∀ u ∈ r.upd, u.1 ∈ r.fp ∧ (mem u.1).isSome = true) ∧
   ∃ w', (Instr.storeAt t (a.den ε ρ) (x.den ε ρ)).run P w = .ok () w' ∧ Out1 ε ρ base id sp w r.val r.upd undef w' := by
 unfold evStore at h
 split at h
 ·rename_i b off v
  split at h
  ·rename_i cs i hcs hi
   split at h
   ·rename_i hsz
    simp only [Bool.and_eq_true, decide_eq_true_eq] at hsz
    obtain ⟨⟨hsz, hnr⟩, hsr0⟩ := hsz
    have hsr : ∀ s ∈ v.cells, isRow s = false := fun s hs => by simpa using List.all_eq_true.1 hsr0 s hs
    have notRow : ∀ j, off ≤ j → j < off + i.size → ∀ c, cs[j]? = some c → isRowC c = false := fun j h1 h2 c hc => by
     have hm : c ∈ (cs.drop off).take i.size := by
      refine List.mem_of_getElem? (i := j - off) ?_
      rw [List.getElem?_take_of_lt (by omega), List.getElem?_drop, show off + (j - off) = j by omega]; exact hc
     simpa using List.all_eq_true.1 hnr c hm
    cases h
    obtain ⟨h1, h2, h3⟩ := hm b (by simp) cs hcs
    have hne : ¬ NW id sp b := fun e => by have := hid b e; rw [hcs] at this; cases this
    refine ⟨rfl, by simp [hcs], ?_⟩
    obtain ⟨w', e1, e2, e3, e4⟩ := run_storeCells (P := P) (ρ b) off (v.cells.map (SV.den ε ρ)) 0 w (fun y hy => by
     obtain ⟨s, _, rfl⟩ := List.mem_map.1 hy; exact oneCell_den s) (fun j hj => by
     have hj' : off + j < cs.length := by simp at hj; omega
     obtain ⟨y, f1, f2, _⟩ := (cell_plain (notRow (off + j) (by omega) (by simp at hj; omega) _ (List.getElem?_eq_getElem hj'))).1 (h3 (off + j) _ (List.getElem?_eq_getElem hj'))
     exact ⟨y, by simpa using f1, by simpa using f2⟩)
    refine ⟨w', ?_, ρ, fun _ _ => rfl, rfl, ?_, ?_, ?_, ?_⟩
    ·show (Instr.storeAt t (.pointer (some ⟨ρ b, off, none⟩)) (v.den ε ρ)).run P w = _
     rw [run_storeAt_ptr]
     unfold storeVar
     have hcz : (v.den ε ρ).cells.size = i.size := by rw [V1.den_cells]; simp [hsz.1]
     simp only [Sem.run_bind, run_sizeOf hi, Result.andThen, hcz, ne_eq, not_true_eq_false, if_false, Sem.run_pure]
     rw [V1.den_cells]
     simpa using e1
    ·simp only [List.mem_singleton, forall_eq]
     refine ⟨h1, Nat.lt_of_lt_of_le h2 e2.size, fun j c hj => ?_⟩
     have stays : ∀ k, (∃ y, w.cell? ⟨ρ b, k, none⟩ = some y ∧ w.frozen? ⟨ρ b, k, none⟩ = false) → ∃ y, w'.cell? ⟨ρ b, k, none⟩ = some y ∧ w'.frozen? ⟨ρ b, k, none⟩ = false := fun k ⟨y, g1, g2⟩ => by
      rw [e3, e4]
      simp only [List.length_map, Nat.add_zero]
      by_cases hr : off ≤ k ∧ k < off + v.cells.length
      ·rw [if_pos hr]
       have : k - off < v.cells.length := by omega
       exact ⟨(v.cells[k - off]).den ε ρ, by simp [List.getElem?_eq_getElem this], g2⟩
      ·rw [if_neg hr]; exact ⟨y, g1, g2⟩
     rw [setL_get _ _ _ _ (by omega)] at hj
     by_cases hr : off ≤ j ∧ j < off + v.cells.length
     ·rw [if_pos hr] at hj
      obtain ⟨s, hs, rfl⟩ := Option.map_eq_some_iff.1 hj
      have hjl : j < cs.length := by omega
      obtain ⟨y, f1, f2, _⟩ := (cell_plain (notRow j (by omega) (by omega) _ (List.getElem?_eq_getElem hjl))).1 (h3 j _ (List.getElem?_eq_getElem hjl))
      cases hrow : isRow s with
      | true => rw [hsr s (List.mem_of_getElem? hs)] at hrow; cases hrow
      | false =>
       refine (cell_plain (x := some s) hrow).2 ?_
       rw [e3, e4]
       simp only [List.length_map, Nat.add_zero]
       rw [if_pos hr]
       exact ⟨s.den ε ρ, by simp [hs], f2, fun s' hs' => by cases hs'; rfl⟩
     ·rw [if_neg hr] at hj
      have hk := h3 j c hj
      cases hrow : isRowC c with
      | false =>
       obtain ⟨y, f1, f2, f3⟩ := (cell_plain hrow).1 hk
       refine (cell_plain hrow).2 ?_
       rw [e3, e4]
       simp only [List.length_map, Nat.add_zero]
       rw [if_neg hr]
       exact ⟨y, f1, f2, f3⟩
      | true =>
       unfold CellOk at hk ⊢
       split at hk
       ·exact ⟨hk.1, fun k h1 h2 => stays k (hk.2 k h1 h2)⟩
       ·rename_i hn
        exfalso
        cases c with
        | none => cases hrow
        | some s => cases s <;> first | (cases hrow; done) | exact hn _ _ rfl
    ·intro u hu hn
     rw [List.mem_singleton.1 hu] at hn
     exact absurd hn hne
    ·intro u hu u' hu' _ _ _
     rw [List.mem_singleton.1 hu, List.mem_singleton.1 hu']
    ·exact e2.mono fun x _ hx => ⟨_, List.mem_singleton.2 rfl, hne, hx.symm⟩
   ·cases h
  ·cases h
 ·cases h
end SX
end
end Go.Proofs.Ytfgfnjckklldbaa
