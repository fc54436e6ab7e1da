/- Packed: ClD ClF FnP FnQA FnQB FnS. -/
import Derived.KernelRfl
import Derived.Test.YtopdikifgbdnoaaGreatP8
import Derived.Test.YtopdikifgbdnoaaGreatP17
import Derived.Test.YtopdikifgbdnoaaGreatP19
set_option linter.unusedVariables false
set_option linter.unusedSimpArgs false
namespace Go.Proofs.YtopdikifgbdnoaaGreat
section
set_option maxRecDepth 1000000
open Go.RowKit
namespace SX
noncomputable def stepD (s : FD.Sp) (x : FP.Pr) : FD.Sp × Int :=
 if v0 3 [x.a.lo, x.a.hi, x.b.lo, x.b.hi] 2 = 0 then
  if v0 1 [s.lo, s.hi, v0 3 [x.a.lo, x.a.hi, x.b.lo, x.b.hi] 0, v0 3 [x.a.lo, x.a.hi, x.b.lo, x.b.hi] 1] 2 = 0 then (⟨v0 1 [s.lo, s.hi, v0 3 [x.a.lo, x.a.hi, x.b.lo, x.b.hi] 0, v0 3 [x.a.lo, x.a.hi, x.b.lo, x.b.hi] 1] 0, v0 1 [s.lo, s.hi, v0 3 [x.a.lo, x.a.hi, x.b.lo, x.b.hi] 0, v0 3 [x.a.lo, x.a.hi, x.b.lo, x.b.hi] 1] 1, v0_R64 _ _ _, v0_R64 _ _ _⟩, 0)
  else (.zero, v0 1 [s.lo, s.hi, v0 3 [x.a.lo, x.a.hi, x.b.lo, x.b.hi] 0, v0 3 [x.a.lo, x.a.hi, x.b.lo, x.b.hi] 1] 2)
 else (.zero, v0 3 [x.a.lo, x.a.hi, x.b.lo, x.b.hi] 2)
def patSD : List LV := [.v (.agg [.a (.int .i64 (.var 0)), .a (.int .i64 (.var 1))]), .v (.agg [.a (.int .i64 (.var 2)), .a (.int .i64 (.var 3)), .a (.int .i64 (.var 4)), .a (.int .i64 (.var 5))])]
theorem stepDB : readB Tryz.prog S00 shp0 KF 3000 (2^240) 73 patSD [] = true := by kernel_rfl
def litSD : LV := .tup [.agg [.a (.int .i64 (.ite (.cmp .eql (.var 169608831948245483906) (.lit 0)) (.ite (.cmp .eql (.var 197866436551650316066) (.lit 0)) (.var 197866436551650316064) (.lit 0)) (.lit 0))), .a (.int .i64 (.ite (.cmp .eql (.var 169608831948245483906) (.lit 0)) (.ite (.cmp .eql (.var 197866436551650316066) (.lit 0)) (.var 197866436551650316065) (.lit 0)) (.lit 0)))], .s (.a (.int .i64 (.ite (.cmp .eql (.var 169608831948245483906) (.lit 0)) (.var 197866436551650316066) (.var 169608831948245483906))))]
theorem stepD_lit : (rd Tryz.prog KF 3000 (2^240) 73 patSD []).1 = litSD := eq_of_beq (by kernel_rfl)
theorem stepD_in (s : FD.Sp) (x : FP.Pr) (W : World) : Calls Tryz.prog 73 #[FD.spv s, FP.prv x] W fun e W' => e = .returned (.tuple #[FD.spv (stepD s x).1, .int .i64 (stepD s x).2]) ∧ Below W.heap.size W W' := by
 obtain ⟨ε, h0, -, -, -, hR, hs, hok⟩ := read_ob hmix (by decide) stepDB (fun s L k => v0_R64 s L k) T0 (w := W) (L := [s.lo, s.hi, x.a.lo, x.a.hi, x.b.lo, x.b.hi]) (by
   intro y hy
   simp only [List.mem_cons, List.not_mem_nil, or_false] at hy
   rcases hy with rfl | rfl | rfl | rfl | rfl | rfl
   ·exact s.ok.1
   ·exact s.ok.2
   ·exact x.a.ok.1
   ·exact x.a.ok.2
   ·exact x.b.ok.1
   ·exact x.b.ok.2) (fun ε _ e1 e2 e3 e4 f args mem res upd k1 k2 k3 k4 => con00 W ε e1 e2 e3 e4 W (Below.refl _ _) f args mem res upd k1 k2 k3 k4)
 have i0 : ε.i 0 = s.lo := h0 0 (by decide)
 have i1 : ε.i 1 = s.hi := h0 1 (by decide)
 have i2 : ε.i 2 = x.a.lo := h0 2 (by decide)
 have i3 : ε.i 3 = x.a.hi := h0 3 (by decide)
 have i4 : ε.i 4 = x.b.lo := h0 4 (by decide)
 have i5 : ε.i 5 = x.b.hi := h0 5 (by decide)
 have run := hok rfl W (fun _ => 0) (Below.refl _ _) (by simp) (by simp)
 rw [stepD_lit] at run
 obtain ⟨m0, c0⟩ := sat_call hs (s := 3) (base := 169608831948245483904) (args := [.v (.agg [.a (.int .i64 (.var 2)), .a (.int .i64 (.var 3))]), .v (.agg [.a (.int .i64 (.var 4)), .a (.int .i64 (.var 5))])]) (by kernel_rfl)
 have c0_0 : ε.i 169608831948245483904 = _ := c0 0 (by omega)
 have c0_1 : ε.i 169608831948245483905 = _ := c0 1 (by omega)
 have c0_2 : ε.i 169608831948245483906 = _ := c0 2 (by omega)
 clear c0
 obtain ⟨m1, c1⟩ := sat_call hs (s := 1) (base := 197866436551650316064) (args := [.v (.agg [.a (.int .i64 (.var 0)), .a (.int .i64 (.var 1))]), .v (.agg [.a (.int .i64 (.ite (.cmp .eql (.var 169608831948245483906) (.lit 0)) (.var 169608831948245483904) (.lit 0))), .a (.int .i64 (.ite (.cmp .eql (.var 169608831948245483906) (.lit 0)) (.var 169608831948245483905) (.lit 0)))])]) (by kernel_rfl)
 have c1_0 : ε.i 197866436551650316064 = _ := c1 0 (by omega)
 have c1_1 : ε.i 197866436551650316065 = _ := c1 1 (by omega)
 have c1_2 : ε.i 197866436551650316066 = _ := c1 2 (by omega)
 clear c1
 have ea : (patSD.map (LV.den ε fun _ => 0)).toArray = #[FD.spv s, FP.prv x] := by
  show #[Value.agg #[.int .i64 (ε.i 0), .int .i64 (ε.i 1)], Value.agg #[.int .i64 (ε.i 2), .int .i64 (ε.i 3), .int .i64 (ε.i 4), .int .i64 (ε.i 5)]] = _
  rw [i0, i1, i2, i3, i4, i5]
  try rfl
 rw [ea] at run
 refine run.mono fun e w' ⟨q1, _, q3⟩ => ⟨q1.trans ?_, ⟨q3.os, q3.tape, q3.output, q3.size, fun k hk => q3.block k hk (by simp)⟩⟩
 clear run hok q1 q3
 simp only [List.flatMap_cons, List.flatMap_nil, argInts, V1.cells, SV.ints, E.den, List.append_nil, List.singleton_append, List.cons_append, List.nil_append, i0, i1, i2, i3, i4, i5] at c0_0 c0_1 c0_2 c1_0 c1_1 c1_2
 congr 1
 simp only [litSD, LV.den, V1.den, SV.den, AV.den, E.den, CO.den, List.map_cons, List.map_nil]
 have V : ∀ s L k, S00.val s L k = v0 s L k := fun _ _ _ => rfl
 simp only [CO.den, beq_iff_eq, V] at c0_0 c0_1 c0_2 c1_0 c1_1 c1_2 ⊢
 simp only [c0_0, c0_1, c0_2] at c1_0 c1_1 c1_2
 by_cases h2 : v0 3 [x.a.lo, x.a.hi, x.b.lo, x.b.hi] 2 = 0
 ·simp only [h2, if_true] at c1_0 c1_1 c1_2
  by_cases h3 : v0 1 [s.lo, s.hi, v0 3 [x.a.lo, x.a.hi, x.b.lo, x.b.hi] 0, v0 3 [x.a.lo, x.a.hi, x.b.lo, x.b.hi] 1] 2 = 0
  ·simp [stepD, h2, h3, c0_0, c0_1, c0_2, c1_0, c1_1, c1_2, FD.spv]
  ·simp [stepD, h2, h3, c0_0, c0_1, c0_2, c1_0, c1_1, c1_2, FD.spv, FD.Sp.zero]
 ·simp [stepD, h2, c0_0, c0_1, c0_2, FD.spv, FD.Sp.zero]
end SX
end
section
set_option maxRecDepth 1000000
open Go.RowKit
namespace SX
def i64s : Cells → Option (List Int)
 | [] => some []
 | some (.a (.int .i64 (.lit n))) :: xs => if -9223372036854775808 ≤ n ∧ n ≤ 9223372036854775807 then (i64s xs).map (n :: ·) else none
 | _ => none
theorem i64s_spec : ∀ {c : Cells} {L : List Int}, i64s c = some L → L.length = c.length ∧ ∀ (j : Nat), j < L.length → c[j]? = some (some (.a (.int .i64 (.lit (clampI (L.getD j 0))))))
 | [], L, h => by simp [i64s] at h; subst h; simp
 | some (.a (.int .i64 (.lit n))) :: xs, L, h => by
  simp only [i64s] at h
  split at h
  ·rename_i hn
   obtain ⟨L', h1, rfl⟩ := Option.map_eq_some_iff.1 h
   obtain ⟨e1, e2⟩ := i64s_spec h1
   refine ⟨by simp [e1], fun j hj => ?_⟩
   cases j with
   | zero => simp [clampI_eq (show R64 n from hn)]
   | succ j => simpa using e2 j (by simpa using hj)
  ·cases h
 | none :: _, _, h => by simp [i64s] at h
 | some (.fn _ _ _) :: _, _, h => by simp [i64s] at h
 | some .nilf :: _, _, h => by simp [i64s] at h
 | some (.row _ _) :: _, _, h => by simp [i64s] at h
 | some (.a (.bool _)) :: _, _, h => by simp [i64s] at h
 | some (.a (.ptr _ _)) :: _, _, h => by simp [i64s] at h
 | some (.a .nilp) :: _, _, h => by simp [i64s] at h
 | some (.a (.sl _ _ _ _)) :: _, _, h => by simp [i64s] at h
 | some (.a .nils) :: _, _, h => by simp [i64s] at h
 | some (.a (.fsl _)) :: _, _, h => by simp [i64s] at h
 | some (.a (.fptr _ _ _ _)) :: _, _, h => by simp [i64s] at h
 | some (.a (.str _)) :: _, _, h => by simp [i64s] at h
 | some (.a (.gsl _ _ _ _ _ _)) :: _, _, h => by simp [i64s] at h
 | some (.a (.int k e)) :: xs, L, h => by
  unfold i64s at h
  split at h
  ·rename_i heq; simp at heq
  ·rename_i n xs' heq
   simp only [List.cons.injEq, Option.some.injEq, SV.a.injEq, AV.int.injEq] at heq
   obtain ⟨⟨rfl, rfl⟩, rfl⟩ := heq
   split at h
   ·rename_i hn
    obtain ⟨L', h1, rfl⟩ := Option.map_eq_some_iff.1 h
    obtain ⟨e1, e2⟩ := i64s_spec h1
    refine ⟨by simp [e1], fun j hj => ?_⟩
    cases j with
    | zero => simp [clampI_eq (show R64 n from hn)]
    | succ j => simpa using e2 j (by simpa using hj)
   ·cases h
  ·cases h
def spanSl (mem : List (Nat × Cells)) : Option SV → Option (Nat × Nat × Nat × List Int)
 | some (.a (.sl b off n _)) => match mem.lookup b with
  | some c => if 0 < n && n ≤ 1000000 && off + n * 2 ≤ c.length then (i64s ((c.drop off).take (n * 2))).map fun L => (b, off, n, L) else none
  | none => none
 | some (.a (.gsl b off n _ _ _)) => match mem.lookup b with
  | some c => if 0 < n && n ≤ 1000000 && off + n * 2 ≤ c.length then (i64s ((c.drop off).take (n * 2))).map fun L => (b, off, n, L) else none
  | none => none
 | _ => none
def loE (L : List Int) (j : Nat) : Int := clampI (L.getD (j * 2) 0)
def hiE (L : List Int) (j : Nat) : Int := clampI (L.getD (j * 2 + 1) 0)
theorem spE (L : List Int) (j : Nat) : FD.In64 (loE L j) ∧ FD.In64 (hiE L j) := ⟨clampI_R64 _, clampI_R64 _⟩
theorem spanSl_spec {mem : List (Nat × Cells)} {x : Option SV} {b off n : Nat} {L : List Int} (h : spanSl mem x = some (b, off, n, L)) {ε : Env} {ρ : Nat → Nat} {base : Nat} {w : World} (hblk : ∀ b cs, mem.lookup b = some cs → Blk ε ρ base w b cs) :
  0 < n ∧ n ≤ 1000000 ∧ (∃ s cap, x = some s ∧ isRow s = false ∧ s.den ε ρ = .slice (some ⟨ρ b, off, none⟩) n cap) ∧ ρ b < w.heap.size ∧ FD.Elems w (ρ b) off n (loE L) (hiE L) := by
 have key : ∀ (b off n : Nat) (c : Cells) (L : List Int), mem.lookup b = some c → off + n * 2 ≤ c.length → i64s ((c.drop off).take (n * 2)) = some L → ρ b < w.heap.size ∧ FD.Elems w (ρ b) off n (loE L) (hiE L) := by
  intro b off n c L hb hle hL
  obtain ⟨h1, h2, h3⟩ := hblk b c hb
  obtain ⟨e1, e2⟩ := i64s_spec hL
  have hlen : L.length = n * 2 := by rw [e1]; simp; omega
  have cl : ∀ k, k < n * 2 → w.cell? ⟨ρ b, off + k, none⟩ = some (.int .i64 (clampI (L.getD k 0))) := fun k hk => by
   have := e2 k (by omega)
   rw [List.getElem?_take_of_lt hk, List.getElem?_drop] at this
   obtain ⟨v, c1, _, c3⟩ := (cell_plain (x := some (.a (.int .i64 (.lit (clampI (L.getD k 0)))))) rfl).1 (h3 _ _ this)
   rw [c1, c3 _ rfl]; rfl
  exact ⟨h2, fun j hj => ⟨cl (j * 2) (by omega), cl (j * 2 + 1) (by omega)⟩⟩
 unfold spanSl at h
 split at h
 ·rename_i b' off' n' cap
  split at h
  ·rename_i c hc
   split at h
   ·rename_i hcond
    simp only [Bool.and_eq_true, decide_eq_true_eq] at hcond
    obtain ⟨L', h1, h2⟩ := Option.map_eq_some_iff.1 h
    cases h2
    obtain ⟨k1, k2⟩ := key _ _ _ c _ hc hcond.2 h1
    exact ⟨hcond.1.1, hcond.1.2, ⟨_, _, rfl, rfl, rfl⟩, k1, k2⟩
   ·cases h
  ·cases h
 ·rename_i b' off' n' c' d o2
  split at h
  ·rename_i c hc
   split at h
   ·rename_i hcond
    simp only [Bool.and_eq_true, decide_eq_true_eq] at hcond
    obtain ⟨L', h1, h2⟩ := Option.map_eq_some_iff.1 h
    cases h2
    obtain ⟨k1, k2⟩ := key _ _ _ c _ hc hcond.2 h1
    refine ⟨hcond.1.1, hcond.1.2, ⟨_, ρ c' - d, rfl, rfl, ?_⟩, k1, k2⟩
    simp only [SV.den, AV.den]
    rw [if_neg (by omega)]
   ·cases h
  ·cases h
 ·cases h
noncomputable def foldVal (F : FD.Sp × Int) : LV := .tup [.agg [.a (.int .i64 (.lit F.1.lo)), .a (.int .i64 (.lit F.1.hi))], .s (.a (.int .i64 (.lit F.2)))]
noncomputable def foldRes1 (args : List LV) (mem : List (Nat × Cells)) : Option (LV × List (Nat × Cells)) := match args with
 | [.v (.s (.fn g [] [.ptr B 0])), .v (.agg [.a (.int .i64 (.lit a)), .a (.int .i64 (.lit b))]), .v (.s (.fn h [] []))] =>
  if g == 96 && h == 78 && a == 0 && b == 0 then match mem.lookup B with
   | some [x] => match spanSl mem x with
    | some (b, off, n, L) => some (foldVal (FD.foldS stepV .zero (FD.upto (FD.el (loE L) (hiE L) (spE L)) n)), [])
    | none => none
   | _ => none
  else none
 | _ => none
theorem foldRes1_ok {args : List LV} {mem : List (Nat × Cells)} {res : LV} {upd : List (Nat × Cells)} (h : foldRes1 args mem = some (res, upd)) (ε : Env) (w : World) : Ob.ok Tryz.prog ε w (.call (.blit true) 76 args mem res upd) := by
 unfold foldRes1 at h
 split at h
 ·rename_i g B a b hh
  split at h
  ·rename_i hc
   simp only [Bool.and_eq_true, beq_iff_eq] at hc
   obtain ⟨⟨⟨rfl, rfl⟩, rfl⟩, rfl⟩ := hc
   split at h
   ·rename_i x hB
    split at h
    ·rename_i b off n L hs
     cases h
     intro _ w2 ρ hw2 hblk hinj
     obtain ⟨n0, n1, ⟨s, cap, rfl, hrow, hden⟩, hb, hE⟩ := spanSl_spec hs hblk
     obtain ⟨_, d2, d3⟩ := hblk B [some s] hB
     obtain ⟨v, c1, _, c3⟩ := (cell_plain (x := some s) hrow).1 (d3 0 _ rfl)
     have csv : w2.cell? ⟨ρ B, 0, none⟩ = some (.slice (some ⟨ρ b, off, none⟩) n cap) := by rw [c1, c3 s rfl, hden]
     exact Calls.mono (FD.fold_any stepV step_in (ρ B) (.slice (some ⟨ρ b, off, none⟩) n cap) n (loE L) (hiE L) (spE L) (by omega) .zero w2 d2 csv (.inr ⟨ρ b, off, cap, rfl, hb, hE⟩)) fun e w' ⟨q1, q2⟩ => ⟨q1, by simp, Ext.of_below q2 _⟩
    ·cases h
   ·cases h
  ·cases h
 ·cases h
noncomputable def foldRes2 (args : List LV) (mem : List (Nat × Cells)) : Option (LV × List (Nat × Cells)) := match args with
 | [.v (.s (.fn g [] [.ptr A 0, .ptr B 0])), .v (.agg [.a (.int .i64 (.lit a)), .a (.int .i64 (.lit b))]), .v (.s (.fn h [] []))] =>
  if g == 91 && h == 73 && a == 0 && b == 0 then match mem.lookup A, mem.lookup B with
   | some [x], some [y] => match spanSl mem x, spanSl mem y with
    | some (b, off, n, L), some (b', off', n', L') => if n == n' then some (foldVal (FP.foldS stepD .zero (FD.upto (FP.elp (loE L) (hiE L) (loE L') (hiE L') (spE L) (spE L')) n)), []) else none
    | _, _ => none
   | _, _ => none
  else none
 | _ => none
theorem foldRes2_ok {args : List LV} {mem : List (Nat × Cells)} {res : LV} {upd : List (Nat × Cells)} (h : foldRes2 args mem = some (res, upd)) (ε : Env) (w : World) : Ob.ok Tryz.prog ε w (.call (.blit true) 71 args mem res upd) := by
 unfold foldRes2 at h
 split at h
 ·rename_i g A B a b hh
  split at h
  ·rename_i hc
   simp only [Bool.and_eq_true, beq_iff_eq] at hc
   obtain ⟨⟨⟨rfl, rfl⟩, rfl⟩, rfl⟩ := hc
   split at h
   ·rename_i x y hA hB
    split at h
    ·rename_i b off n L b' off' n' L' hs hs'
     split at h
     ·rename_i hn
      obtain rfl := eq_of_beq hn
      cases h
      intro _ w2 ρ hw2 hblk hinj
      obtain ⟨n0, n1, ⟨s, cap, rfl, hrow, hden⟩, hb, hE⟩ := spanSl_spec hs hblk
      obtain ⟨_, _, ⟨s', cap', rfl, hrow', hden'⟩, hb', hE'⟩ := spanSl_spec hs' hblk
      obtain ⟨_, d2, d3⟩ := hblk A [some s] hA
      obtain ⟨_, g2, g3⟩ := hblk B [some s'] hB
      obtain ⟨v, c1, _, c3⟩ := (cell_plain (x := some s) hrow).1 (d3 0 _ rfl)
      obtain ⟨v', c1', _, c3'⟩ := (cell_plain (x := some s') hrow').1 (g3 0 _ rfl)
      have csA : w2.cell? ⟨ρ A, 0, none⟩ = some (.slice (some ⟨ρ b, off, none⟩) n cap) := by rw [c1, c3 s rfl, hden]
      have csB : w2.cell? ⟨ρ B, 0, none⟩ = some (.slice (some ⟨ρ b', off', none⟩) n cap') := by rw [c1', c3' s' rfl, hden']
      exact Calls.mono (FP.foldp_any stepD stepD_in (ρ A) (ρ B) (ρ b) off cap (ρ b') off' cap' n (loE L) (hiE L) (loE L') (hiE L') (spE L) (spE L') (by omega) .zero w2 d2 g2 hb hb' csA csB hE hE') fun e w' ⟨q1, q2⟩ => ⟨q1, by simp, Ext.of_below q2 _⟩
     ·cases h
    ·cases h
   ·cases h
  ·cases h
 ·cases h
noncomputable def resC (f : FuncId) (args : List LV) (mem : List (Nat × Cells)) : Option (LV × List (Nat × Cells)) :=
 if f == 76 then foldRes1 args mem else if f == 71 then foldRes2 args mem else resL Tryz.prog S00 shp0 f args mem
def symC (f : FuncId) : Bool := f == 76 || f == 71 || sy.any fun x => x.1 == f
theorem resC_ok {f : FuncId} {args : List LV} {mem : List (Nat × Cells)} {res : LV} {upd : List (Nat × Cells)} (h : resC f args mem = some (res, upd)) (ε : Env) (w : World) : Ob.ok Tryz.prog ε w (.call (.blit true) f args mem res upd) := by
 unfold resC at h
 split at h
 ·rename_i hf; rw [eq_of_beq hf]; exact foldRes1_ok h ε w
 ·split at h
  ·rename_i hf; rw [eq_of_beq hf]; exact foldRes2_ok h ε w
  ·exact lit_ok v0_R64 (con00 w) h (Below.refl _ _) ε
end SX
end
section
set_option maxRecDepth 1000000
namespace SX
open Go.RowKit

noncomputable def R0 : RF := forced resC
theorem R0_right : RF.right Tryz.prog R0 := forced_right fun f args mem res upd h ε w => resC_ok h ε w
theorem k1_ok : k1.ok Tryz.prog := closedK_ok hmix (isSym := symC) (R := R0) (n := 3000) (sp := 2^240) (by decide) (by kernel_rfl) R0_right
theorem k3_ok : k3.ok Tryz.prog := closedK_ok hmix (isSym := symC) (R := R0) (n := 3000) (sp := 2^240) (by decide) (by kernel_rfl) R0_right
theorem k4_ok : k4.ok Tryz.prog := closedK_ok hmix (isSym := symC) (R := R0) (n := 3000) (sp := 2^240) (by decide) (by kernel_rfl) R0_right
theorem k5_ok : k5.ok Tryz.prog := closedK_ok hmix (isSym := symC) (R := R0) (n := 3000) (sp := 2^240) (by decide) (by kernel_rfl) R0_right
theorem k7_ok : k7.ok Tryz.prog := closedK_ok hmix (isSym := symC) (R := R0) (n := 3000) (sp := 2^240) (by decide) (by kernel_rfl) R0_right
theorem k8_ok : k8.ok Tryz.prog := closedK_ok hmix (isSym := symC) (R := R0) (n := 3000) (sp := 2^240) (by decide) (by kernel_rfl) R0_right
theorem k11_ok : k11.ok Tryz.prog := closedK_ok hmix (isSym := symC) (R := R0) (n := 3000) (sp := 2^240) (by decide) (by kernel_rfl) R0_right
theorem k12_ok : k12.ok Tryz.prog := closedK_ok hmix (isSym := symC) (R := R0) (n := 3000) (sp := 2^240) (by decide) (by kernel_rfl) R0_right
theorem k14_ok : k14.ok Tryz.prog := closedK_ok hmix (isSym := symC) (R := R0) (n := 3000) (sp := 2^240) (by decide) (by kernel_rfl) R0_right
theorem k15_ok : k15.ok Tryz.prog := closedK_ok hmix (isSym := symC) (R := R0) (n := 3000) (sp := 2^240) (by decide) (by kernel_rfl) R0_right
theorem k17_ok : k17.ok Tryz.prog := closedK_ok hmix (isSym := symC) (R := R0) (n := 3000) (sp := 2^240) (by decide) (by kernel_rfl) R0_right
theorem k20_ok : k20.ok Tryz.prog := closedK_ok hmix (isSym := symC) (R := R0) (n := 3000) (sp := 2^240) (by decide) (by kernel_rfl) R0_right
theorem k21_ok : k21.ok Tryz.prog := closedK_ok hmix (isSym := symC) (R := R0) (n := 3000) (sp := 2^240) (by decide) (by kernel_rfl) R0_right
theorem k26_ok : k26.ok Tryz.prog := closedK_ok hmix (isSym := symC) (R := R0) (n := 3000) (sp := 2^240) (by decide) (by kernel_rfl) R0_right
end SX
end
section
set_option maxRecDepth 1000000
namespace SX
open Go.RowKit

theorem k18_ok : k18.ok Tryz.prog := closedK_ok hmix (isSym := symC) (R := R0) (n := 3000) (sp := 2^240) (by decide) (by kernel_rfl) R0_right
end SX
end
section
set_option maxRecDepth 1000000
namespace SX
open Go.RowKit

theorem k24_ok : k24.ok Tryz.prog := closedK_ok hmix (isSym := symC) (R := R0) (n := 3000) (sp := 2^240) (by decide) (by kernel_rfl) R0_right
end SX
end
section
set_option maxRecDepth 1000000
namespace SX
open Go.RowKit

def tab1 : List Kwn := [k1, k3, k4, k5, k7, k8, k11, k12, k14, k15, k17, k18, k20, k21, k24, k26]
theorem tab1_ok : ∀ e ∈ tab1, e.ok Tryz.prog := by
  intro e he
  simp only [tab1, List.mem_cons, List.not_mem_nil, or_false] at he
  rcases he with rfl | rfl | rfl | rfl | rfl | rfl | rfl | rfl | rfl | rfl | rfl | rfl | rfl | rfl | rfl | rfl
  · exact k1_ok
  · exact k3_ok
  · exact k4_ok
  · exact k5_ok
  · exact k7_ok
  · exact k8_ok
  · exact k11_ok
  · exact k12_ok
  · exact k14_ok
  · exact k15_ok
  · exact k17_ok
  · exact k18_ok
  · exact k20_ok
  · exact k21_ok
  · exact k24_ok
  · exact k26_ok
noncomputable def R1 : RF := resK tab1 R0
theorem R1_right : RF.right Tryz.prog R1 := resK_right tab1_ok R0_right
theorem k2_ok : k2.ok Tryz.prog := closedK_ok hmix (isSym := symK tab1 symC) (R := R1) (n := 3000) (sp := 2^240) (by decide) (by kernel_rfl) R1_right
theorem k6_ok : k6.ok Tryz.prog := closedK_ok hmix (isSym := symK tab1 symC) (R := R1) (n := 3000) (sp := 2^240) (by decide) (by kernel_rfl) R1_right
theorem k9_ok : k9.ok Tryz.prog := closedK_ok hmix (isSym := symK tab1 symC) (R := R1) (n := 3000) (sp := 2^240) (by decide) (by kernel_rfl) R1_right
theorem k10_ok : k10.ok Tryz.prog := closedK_ok hmix (isSym := symK tab1 symC) (R := R1) (n := 3000) (sp := 2^240) (by decide) (by kernel_rfl) R1_right
theorem k13_ok : k13.ok Tryz.prog := closedK_ok hmix (isSym := symK tab1 symC) (R := R1) (n := 3000) (sp := 2^240) (by decide) (by kernel_rfl) R1_right
theorem k16_ok : k16.ok Tryz.prog := closedK_ok hmix (isSym := symK tab1 symC) (R := R1) (n := 3000) (sp := 2^240) (by decide) (by kernel_rfl) R1_right
theorem k19_ok : k19.ok Tryz.prog := closedK_ok hmix (isSym := symK tab1 symC) (R := R1) (n := 3000) (sp := 2^240) (by decide) (by kernel_rfl) R1_right
theorem k23_ok : k23.ok Tryz.prog := closedK_ok hmix (isSym := symK tab1 symC) (R := R1) (n := 3000) (sp := 2^240) (by decide) (by kernel_rfl) R1_right
theorem k25_ok : k25.ok Tryz.prog := closedK_ok hmix (isSym := symK tab1 symC) (R := R1) (n := 3000) (sp := 2^240) (by decide) (by kernel_rfl) R1_right
def tab2 : List Kwn := [k2, k6, k9, k10, k13, k16, k19, k23, k25] ++ tab1
theorem tab2_ok : ∀ e ∈ tab2, e.ok Tryz.prog := by
  intro e he
  rcases List.mem_append.1 he with he | he
  case inr => exact tab1_ok e he
  simp only [ List.mem_cons, List.not_mem_nil, or_false] at he
  rcases he with rfl | rfl | rfl | rfl | rfl | rfl | rfl | rfl | rfl
  · exact k2_ok
  · exact k6_ok
  · exact k9_ok
  · exact k10_ok
  · exact k13_ok
  · exact k16_ok
  · exact k19_ok
  · exact k23_ok
  · exact k25_ok
noncomputable def R2 : RF := resK tab2 R0
theorem R2_right : RF.right Tryz.prog R2 := resK_right tab2_ok R0_right
theorem k22_ok : k22.ok Tryz.prog := closedK_ok hmix (isSym := symK tab2 symC) (R := R2) (n := 3000) (sp := 2^240) (by decide) (by kernel_rfl) R2_right
def tab3 : List Kwn := [k22] ++ tab2
theorem tab3_ok : ∀ e ∈ tab3, e.ok Tryz.prog := by
  intro e he
  rcases List.mem_append.1 he with he | he
  case inr => exact tab2_ok e he
  simp only [ List.mem_cons, List.not_mem_nil, or_false] at he
  subst he; exact k22_ok
noncomputable def R3 : RF := resK tab3 R0
theorem R3_right : RF.right Tryz.prog R3 := resK_right tab3_ok R0_right
end SX
end
end Go.Proofs.YtopdikifgbdnoaaGreat
