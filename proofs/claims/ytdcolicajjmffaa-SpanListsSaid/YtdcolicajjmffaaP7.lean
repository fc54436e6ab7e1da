/- Packed: FoldQ LiA. -/
import Derived.RangeFuncNested
import Derived.RangeFuncBound
import Derived.RangeFuncCalls
import Derived.RangeFuncLeaves
import Derived.RangeFuncBox
import Derived.Shelf.Abstract
import Derived.Shelf.RegionOpen
import Derived.WalkKit
import Derived.OwnWalkIn
import Derived.TacticsInMore
import Derived.LoopNIn
import Derived.LoopIn
import Derived.Lib.Hide
import Derived.Test.YtdcolicajjmffaaProg
import Derived.BigQuiet
import Derived.Test.YtdcolicajjmffaaP1
import Derived.Test.YtdcolicajjmffaaP2
import Derived.Test.YtdcolicajjmffaaP3
import Derived.Test.YtdcolicajjmffaaP6
set_option linter.unusedVariables false
set_option linter.unusedSimpArgs false
namespace Go.Proofs.Ytdcolicajjmffaa
section
open Go.RowKit Go.Shelf
namespace FP
open FD
attribute [local go_sem] Oper.semAt_some
def ElemsA (W : World) (ad : Addr) (n : Nat) (lo hi : Nat → Int) : Prop := ∀ j, j < n → W.cell? (ad.add (j * 2)) = some (.int .i64 (lo j)) ∧ W.cell? ⟨ad.block, (ad.add (j * 2)).off + 1, none⟩ = some (.int .i64 (hi j))
def Other (n₀ : Nat) (W : World) (sv : Value) (len : Nat) (lo hi : Nat → Int) : Prop := 0 < len → ∃ (ad : Addr) (cap : Nat), sv = .slice (some ad) len cap ∧ ad.block < n₀ ∧ ElemsA W ad len lo hi
theorem Other.below {n₀ : Nat} {A B : World} {sv : Value} {len : Nat} {lo hi : Nat → Int} (h : Other n₀ A sv len lo hi) (hb : Below n₀ A B) : Other n₀ B sv len lo hi := fun h0 => by
  obtain ⟨ad, cap, e, hl, hE⟩ := h h0
  exact ⟨ad, cap, e, hl, fun j hj => ⟨(hb.cell (p := ad.add (j * 2)) (by rw [block_add]; exact hl)).trans (hE j hj).1, (hb.cell (p := ⟨ad.block, _, none⟩) hl).trans (hE j hj).2⟩⟩
set_option maxRecDepth 100000 in
set_option maxHeartbeats 2000000 in
theorem pairs1q_in (F : Fence) (n : Nat) (h7 : F.fn 35) (hro : F.round = none) (hn : 1 ≤ n) (l Ba Bb n₀ b off cap len : Nat) (sv' : Value) (lo hi lo' hi' : Nat → Int) (hE : ∀ j, In64 (lo j) ∧ In64 (hi j)) (hE' : ∀ j, In64 (lo' j) ∧ In64 (hi' j)) (hreach : len * 16 ≤ 140737488351232) (hb : b < n₀) (hBan : Ba < n₀) (hBbn : Bb < n₀) (J Jx : List Pr → World → Prop)
    (hJd : ∀ xs W, J xs W → J xs W.drew)
    (hY : ∀ pre x W, J pre W → pre.length < len → YieldAt F (n - 1) Try.prog l #[prv x] W fun e W' =>
      (e = .returned (.bool true) ∧ J (pre ++ [x]) W' ∧ Below n₀ W W') ∨ (e = .returned (.bool false) ∧ Jx (pre ++ [x]) W'))
    (W : World) (hsz : n₀ ≤ W.heap.size) (hBa : W.cell? ⟨Ba, 0, none⟩ = some (.slice (some ⟨b, off, none⟩) len cap)) (hBb : W.cell? ⟨Bb, 0, none⟩ = some sv') (hc : Elems W b off len lo hi) (hc' : Other n₀ W sv' len lo' hi') (h0 : J [] W) :
    CallsIn F n Try.prog 35 #[.func (.yield l) #[] #[], .pointer (some ⟨Ba, 0, none⟩), .pointer (some ⟨Bb, 0, none⟩)] W fun e W' => (∃ v, e = .returned v) ∧
      ((∃ ys, ys = upto (elp lo hi lo' hi' hE hE') len ∧ J ys W') ∨ (∃ pre, (∃ k, k ≤ len ∧ pre = upto (elp lo hi lo' hi' hE hE') k) ∧ Jx pre W')) := by
  have hmix : Try.prog.follows .mixedOrders = true := by kernel_rfl
  refine callsIn_of_wp Try.func35 rfl h7 ?_ hro
  simp only [Try.ntmps35, List.size_toArray, List.length_cons, List.length_nil, Nat.reduceAdd, Nat.reduceSub, Array.replicate_succ, Array.replicate_zero, List.push_toArray, List.append_toArray, List.nil_append, List.cons_append]
  gi_wp2
  gi_loopw [7] (fun i wr => ∃ k : Nat, k ≤ len ∧ i = .int .i64 k ∧ J (upto (elp lo hi lo' hi' hE hE') k) wr ∧ Below n₀ W wr)
    (fun i _ => len - (intOf i).toNat)
  case atStart => exact ⟨0, Nat.zero_le _, rfl, h0, Below.refl _ _⟩
  case round =>
    obtain ⟨k, hk, rfl, hJs', hnx⟩ := hrel
    by_cases hlt : k < len
    · have hc1 := (hnx.cell (p := ⟨b, off + k * 2, none⟩) hb).trans (hc k hlt).1
      have hc2 := (hnx.cell (p := ⟨b, off + k * 2 + 1, none⟩) hb).trans (hc k hlt).2
      obtain ⟨ad, cap', rfl, hb', hE2⟩ := hc' (by omega)
      have hc3 := (hnx.cell (p := ad.add (k * 2)) (by rw [block_add]; exact hb')).trans (hE2 k hlt).1
      have hc4 := (hnx.cell (p := ⟨ad.block, (ad.add (k * 2)).off + 1, none⟩) hb').trans (hE2 k hlt).2
      have hba := block_add ad
      clear hE2 hc'
      have hs1 := (hnx.cell (p := ⟨Ba, 0, none⟩) hBan).trans hBa
      have hs2 := (hnx.cell (p := ⟨Bb, 0, none⟩) hBbn).trans hBb
      have hJ2 := hJd _ _ hJs'
      obtain ⟨fn, tmps, assign, body, hy, hR0⟩ := hY _ (elp lo hi lo' hi' hE hE' k) _ hJ2 (by rw [upto_length]; exact hlt)
      have hR := hR0.mono (R' := fun e W' => ∃ bb : Bool, e = .returned (.bool bb) ∧ ((bb = true ∧ J (upto (elp lo hi lo' hi' hE hE') k ++ [elp lo hi lo' hi' hE hE' k]) W' ∧ Below n₀ wr.drew W') ∨ (bb = false ∧ Jx (upto (elp lo hi lo' hi' hE hE') k ++ [elp lo hi lo' hi' hE hE' k]) W'))) (by
        rintro e W3 (⟨rfl, h⟩ | ⟨rfl, h⟩)
        · exact ⟨true, rfl, .inl ⟨rfl, h⟩⟩
        · exact ⟨false, rfl, .inr ⟨rfl, h⟩⟩)
      clear hR0
      dsimp only [prv, elp, el] at hy hR
      gi_wp2
      refine QTI.region_tail_same 10 hro hmix (by kernel_rfl) ?_
      simp only [List.take_succ_cons, List.take_zero, List.drop_succ_cons, List.drop_zero]
      repeat (gi_big_quiet_step (first | rfl | (intro hC; subst hC; go_simp; done) | (intro hC; subst hC; go_simp; rfl)))
      refine wpQuietIn_nil ?_
      gi_wp2
      refine hR.mono ?_
      rintro e W3 ⟨bb, rfl, hP⟩
      rcases hP with ⟨rfl, hJ3, hk3⟩ | ⟨rfl, hJx3⟩
      · gi_wp2
        go_roundw
        case rel => exact ⟨k + 1, by omega, by simp, by rw [upto_succ]; exact hJ3, (below_drew hnx).trans hk3⟩
        case measure => simp [intOf]; omega
      · gi_wp2
        refine bodyPost_ret (results_none rfl _ _ _) rfl ?_
        exact ⟨⟨_, rfl⟩, .inr ⟨_, ⟨k + 1, by omega, (upto_succ _ _).symm⟩, hJx3⟩⟩
    · obtain rfl : k = len := by omega
      gi_wp2
      go_end0
      exact ⟨⟨_, rfl⟩, .inl ⟨_, rfl, hJs'⟩⟩
theorem pairsq_stops (F : Fence) (n : Nat) (h7 : F.fn 35) (hro : F.round = none) (hn : 1 ≤ n) (Ba Bb : Nat) (w₀ : World) (b off cap len : Nat) (sv' : Value) (lo hi lo' hi' : Nat → Int) (hE : ∀ j, In64 (lo j) ∧ In64 (hi j)) (hE' : ∀ j, In64 (lo' j) ∧ In64 (hi' j)) (hreach : len * 16 ≤ 140737488351232)
    (hb : b < w₀.heap.size) (hBan : Ba < w₀.heap.size) (hBbn : Bb < w₀.heap.size) (hBa : w₀.cell? ⟨Ba, 0, none⟩ = some (.slice (some ⟨b, off, none⟩) len cap)) (hBb : w₀.cell? ⟨Bb, 0, none⟩ = some sv') (hc : Elems w₀ b off len lo hi) (hc' : Other w₀.heap.size w₀ sv' len lo' hi') (w : World) (hw : Below w₀.heap.size w₀ w) :
    SeqStopsK F n Try.prog 35 #[.pointer (some ⟨Ba, 0, none⟩), .pointer (some ⟨Bb, 0, none⟩)] (fun x : Pr => #[prv x]) (Below w₀.heap.size) (fun ys => ys = upto (elp lo hi lo' hi' hE hE') len) (fun pre => pre <+: upto (elp lo hi lo' hi' hE hE') len) len w := fun l J Jx W hW hJ _ hY h0 => by
  have hB := hw.trans (hW.mono hw.size)
  have el1 : ∀ {b off : Nat} {lo hi : Nat → Int}, b < w₀.heap.size → Elems w₀ b off len lo hi → Elems W b off len lo hi := fun hb h j hj => ⟨(hB.cell (p := ⟨_, _, none⟩) hb).trans (h j hj).1, (hB.cell (p := ⟨_, _, none⟩) hb).trans (h j hj).2⟩
  refine (pairs1q_in F n h7 hro hn l Ba Bb w₀.heap.size b off cap len sv' lo hi lo' hi' hE hE' hreach hb hBan hBbn J Jx (fun xs W h => ?_) hY W hB.size ((hB.cell (p := ⟨Ba, 0, none⟩) hBan).trans hBa) ((hB.cell (p := ⟨Bb, 0, none⟩) hBbn).trans hBb) (el1 hb hc) (hc'.below hB) h0).mono ?_
  · exact hJ _ _ _ none h (grownBy_drew W) (fun r e => by cases e)
  · rintro e W' ⟨he, ⟨ys, rfl, hj⟩ | ⟨pre, ⟨k, hk, rfl⟩, hj⟩⟩
    · exact ⟨he, .inl ⟨_, rfl, hj⟩⟩
    · exact ⟨he, .inr ⟨_, by rw [upto_take _ hk]; exact List.take_prefix _ _, hj⟩⟩
set_option maxRecDepth 100000 in
set_option maxHeartbeats 4000000 in
theorem foldq_any (f : Sp → Pr → Sp × Int)
    (hstep : ∀ s x W, Calls Try.prog 19 #[spv s, prv x] W fun e W' => e = .returned (.tuple #[spv (f s x).1, .int .i64 (f s x).2]) ∧ Below W.heap.size W W')
    (Ba Bb b off cap len : Nat) (sv' : Value) (lo hi lo' hi' : Nat → Int) (hE : ∀ j, In64 (lo j) ∧ In64 (hi j)) (hE' : ∀ j, In64 (lo' j) ∧ In64 (hi' j)) (hreach : len * 16 ≤ 140737488351232) (s0 : Sp) (w : World) (hBan : Ba < w.heap.size) (hBbn : Bb < w.heap.size) (hb : b < w.heap.size) (hBa : w.cell? ⟨Ba, 0, none⟩ = some (.slice (some ⟨b, off, none⟩) len cap)) (hBb : w.cell? ⟨Bb, 0, none⟩ = some sv') (hc : Elems w b off len lo hi) (hc' : Other w.heap.size w sv' len lo' hi') :
    Calls Try.prog 17 #[.func (.func 35) #[] #[.pointer (some ⟨Ba, 0, none⟩), .pointer (some ⟨Bb, 0, none⟩)], spv s0, .func (.func 19) #[] #[]] w fun e w' =>
      e = .returned (.tuple #[spv (foldS f s0 (upto (elp lo hi lo' hi' hE hE') len)).1, .int .i64 (foldS f s0 (upto (elp lo hi lo' hi' hE hE') len)).2]) ∧ Below w.heap.size w w' := by
  refine (callsIn_wide (n := 4)).1 ?_
  refine callsIn_of_wp_marks Try.func17 rfl trivial ?_ rfl
  simp only [Try.ntmps17, List.size_toArray, List.length_cons, List.length_nil, Nat.reduceAdd, Nat.reduceSub, Array.replicate_succ, Array.replicate_zero, List.push_toArray, List.append_toArray, List.nil_append, List.cons_append]
  gi_wp2
  have z1 : ∀ (W : World) (a b : Int), (W.alloc (.cells #[.int .i64 a, .int .i64 b] 25)).heap.size = W.heap.size + 1 := fun _ _ _ => World.size_alloc _ _
  have hI0 : Inv f 19 s0 w [] ((((((w.alloc (Obj.cells #[Value.int IntKind.i64 s0.lo, Value.int IntKind.i64 s0.hi] 25)).alloc
                      (Obj.cells #[Value.func (Fn.func 19) #[] #[]] 48)).alloc
                  (Obj.cells #[Value.int IntKind.i64 0, Value.int IntKind.i64 0] 25)).alloc
              (Obj.cells #[Value.int IntKind.i64 0] 26)).alloc
          (Obj.cells #[Value.int IntKind.i64 0, Value.int IntKind.i64 0] 25)).alloc
      (Obj.cells #[Value.int IntKind.i64 s0.lo, Value.int IntKind.i64 s0.hi] 25)) := by
    refine ⟨⟨s0, rfl, ?_⟩, ?_, ?_, ?_, ?_, ?_, ?_⟩
    · have := Cells2.new (((((w.alloc (Obj.cells #[Value.int IntKind.i64 s0.lo, Value.int IntKind.i64 s0.hi] 25)).alloc (Obj.cells #[Value.func (Fn.func 19) #[] #[]] 48)).alloc (Obj.cells #[Value.int IntKind.i64 0, Value.int IntKind.i64 0] 25)).alloc (Obj.cells #[Value.int IntKind.i64 0] 26)).alloc (Obj.cells #[Value.int IntKind.i64 0, Value.int IntKind.i64 0] 25)) s0 25
      simpa [Sp.zero] using this
    · have := ((((Cell1.new (w.alloc (Obj.cells #[Value.int IntKind.i64 s0.lo, Value.int IntKind.i64 s0.hi] 25)) (Value.func (Fn.func 19) #[] #[]) 48).alloc (Obj.cells #[Value.int IntKind.i64 0, Value.int IntKind.i64 0] 25) (by simp)).alloc (Obj.cells #[Value.int IntKind.i64 0] 26) (by (simp <;> omega))).alloc (Obj.cells #[Value.int IntKind.i64 0, Value.int IntKind.i64 0] 25) (by (simp <;> omega))).alloc (Obj.cells #[Value.int IntKind.i64 s0.lo, Value.int IntKind.i64 s0.hi] 25) (by (simp <;> omega))
      simpa [Sp.zero] using this
    · have := (((Cells2.new ((w.alloc (Obj.cells #[Value.int IntKind.i64 s0.lo, Value.int IntKind.i64 s0.hi] 25)).alloc (Obj.cells #[Value.func (Fn.func 19) #[] #[]] 48)) .zero 25).alloc (Obj.cells #[Value.int IntKind.i64 0] 26) (by simp)).alloc (Obj.cells #[Value.int IntKind.i64 0, Value.int IntKind.i64 0] 25) (by (simp <;> omega))).alloc (Obj.cells #[Value.int IntKind.i64 s0.lo, Value.int IntKind.i64 s0.hi] 25) (by (simp <;> omega))
      simpa [Sp.zero] using this
    · have := ((Cell1.new (((w.alloc (Obj.cells #[Value.int IntKind.i64 s0.lo, Value.int IntKind.i64 s0.hi] 25)).alloc (Obj.cells #[Value.func (Fn.func 19) #[] #[]] 48)).alloc (Obj.cells #[Value.int IntKind.i64 0, Value.int IntKind.i64 0] 25)) (.int .i64 0) 26).alloc (Obj.cells #[Value.int IntKind.i64 0, Value.int IntKind.i64 0] 25) (by simp)).alloc (Obj.cells #[Value.int IntKind.i64 s0.lo, Value.int IntKind.i64 s0.hi] 25) (by (simp <;> omega))
      simpa [Sp.zero] using this
    · have := (Cells2.new ((((w.alloc (Obj.cells #[Value.int IntKind.i64 s0.lo, Value.int IntKind.i64 s0.hi] 25)).alloc (Obj.cells #[Value.func (Fn.func 19) #[] #[]] 48)).alloc (Obj.cells #[Value.int IntKind.i64 0, Value.int IntKind.i64 0] 25)).alloc (Obj.cells #[Value.int IntKind.i64 0] 26)) .zero 25).alloc (Obj.cells #[Value.int IntKind.i64 s0.lo, Value.int IntKind.i64 s0.hi] 25) (by simp)
      simpa [Sp.zero] using this
    · exact ((((((Below.refl _ w).alloc (Nat.le_refl _) _).alloc (by simp) _).alloc (by (simp <;> omega)) _).alloc (by (simp <;> omega)) _).alloc (by (simp <;> omega)) _).alloc (by (simp <;> omega)) _
    · simp
  have hszW := hI0.size
  have hB0 := hI0.below
  generalize ((((((w.alloc (Obj.cells #[Value.int IntKind.i64 s0.lo, Value.int IntKind.i64 s0.hi] 25)).alloc
                      (Obj.cells #[Value.func (Fn.func 19) #[] #[]] 48)).alloc
                  (Obj.cells #[Value.int IntKind.i64 0, Value.int IntKind.i64 0] 25)).alloc
              (Obj.cells #[Value.int IntKind.i64 0] 26)).alloc
          (Obj.cells #[Value.int IntKind.i64 0, Value.int IntKind.i64 0] 25)).alloc
      (Obj.cells #[Value.int IntKind.i64 s0.lo, Value.int IntKind.i64 s0.hi] 25)) = W0 at *
  clear z1
  refine wpIn_rangeFunc_ownH rfl (by omega) (gf := 35) (lb := #[.pointer (some ⟨Ba, 0, none⟩), .pointer (some ⟨Bb, 0, none⟩)]) rfl trivial (enters_of Try.func35 (by kernel_rfl) rfl)
    (pairsq_stops _ (4 - 1) trivial rfl (by omega) Ba Bb w b off cap len sv' lo hi lo' hi' hE hE' hreach hb hBan hBbn hBa hBb hc hc' W0 hB0) belowK_t (belowK_b (by omega)) (Below.refl _ _) (fun _ => rfl)
    (fun pre W => Inv f 19 s0 w pre W) (fun c pre W => Left f s0 w c pre W) ?_ ?_ hI0
    (fun x a' W => ∃ Bx, w.heap.size + 6 ≤ Bx ∧ Cells4 W Bx x ∧ a' = inLoop 19 Ba Bb s0 w.heap.size Bx x) ?_ ?assign ?body ?done ?stop
  · intro pre A B row hs hg hr
    have hr' := fun r e => (hr r e).2
    obtain ⟨⟨r, a1, a3⟩, b, c, d, e, fb, fz⟩ := hs
    exact ⟨⟨r, a1, a3.kept hg hr'⟩, b.kept hg hr', c.kept hg hr', d.kept hg hr', e.kept hg hr', ownFrom_below (β := Unit) (Nat.le_refl _) (by omega) () A B row fb hg hr, Nat.le_trans fz (grown_size hg)⟩
  · intro c pre A B row hs hg hr
    have hr' := fun r e => (hr r e).2
    obtain ⟨a, ⟨e, e0, e1, e2⟩, b, fb, fz⟩ := hs
    exact ⟨a, ⟨e, e0, e1, e2.kept hg hr'⟩, b.kept hg hr', ownFrom_below (β := Unit) (Nat.le_refl _) (by omega) () A B row fb hg hr, Nat.le_trans fz (grown_size hg)⟩
  · intro x a' u A B row ⟨Bx, h1, h2, h3⟩ hg hr
    exact ⟨Bx, h1, h2.kept hg fun r e => (hr r e).2, h3⟩
  case assign =>
    rintro l pre x W K hi hK
    gi_wp2
    have hB := hi.below
    have hz := hi.size
    refine hK _ _ ((KeepsOthers.alloc _ _).from _) ((Below.refl _ W).alloc (by omega) _) ?_ ⟨W.heap.size, by omega, Cells4.new W x 44, rfl⟩
    obtain ⟨⟨r, a1, a3⟩, b, c, d, e, fb, fz⟩ := hi
    exact ⟨⟨r, a1, a3.alloc _ (by omega)⟩, b.alloc _ (by omega), c.alloc _ (by omega), d.alloc _ (by omega), e.alloc _ (by omega), fb.alloc (by omega) _, by simp; omega⟩
  case body =>
    rintro l pre x a' W hl ⟨r0, hr0⟩ ⟨⟨r, a1, a3⟩, b, c, d, e, fb, fz⟩ ⟨Bx, hBx, hX, rfl⟩ hlt
    have hst := hstep r x
    have A3 := a3
    have E3 := e
    have C3 := c
    have D3 := d
    obtain ⟨⟨r00, r01⟩, r10, r11⟩ := a3
    obtain ⟨⟨x00, x01⟩, x10, x20, x30⟩ := hX
    obtain ⟨b0, b1⟩ := id b
    by_cases he : (f r x).2 = 0
    · have t0 : ((f r x).2 != 0) = false := by simp [he]
      have t1 : ((f r x).2 == 0) = true := by simp [he]
      have HE := Lib.hid he
      clear he
      gi_wp2_with (refine ⟨trivial, ?_⟩; gi_at_call 19; refine (CallsIn.inRound l (callsIn_wide.2 (hst _))).mono ?_; rintro e' w' ⟨rfl, hb'⟩; obtain ⟨⟨q00, q01⟩, q10, q11⟩ := A3.below hb' (by omega))
      have hW' : Below W.heap.size W w' := hb'
      have Q3 : Cells2 ((w'.setCell ⟨w.heap.size + 1 + 1 + 1 + 1 + 1, 0, none⟩ (Value.int IntKind.i64 (f r x).fst.lo)).setCell ⟨w.heap.size + 1 + 1 + 1 + 1 + 1, 1, none⟩ (Value.int IntKind.i64 (f r x).fst.hi)) (w.heap.size + 5) (f r x).1 := Cells2.put (A3.below hb' (by omega)) _
      have b' := ((b.below hb' (by omega)).set (c := w.heap.size + 1 + 1 + 1 + 1 + 1) (by omega) 0 (Value.int IntKind.i64 (f r x).fst.lo)).set (c := w.heap.size + 1 + 1 + 1 + 1 + 1) (by omega) 1 (Value.int IntKind.i64 (f r x).fst.hi)
      have c' := ((C3.below hb' (by omega)).set (c := w.heap.size + 1 + 1 + 1 + 1 + 1) (by omega) 0 (Value.int IntKind.i64 (f r x).fst.lo)).set (c := w.heap.size + 1 + 1 + 1 + 1 + 1) (by omega) 1 (Value.int IntKind.i64 (f r x).fst.hi)
      have d' := ((D3.below hb' (by omega)).set (c := w.heap.size + 1 + 1 + 1 + 1 + 1) (by omega) 0 (Value.int IntKind.i64 (f r x).fst.lo)).set (c := w.heap.size + 1 + 1 + 1 + 1 + 1) (by omega) 1 (Value.int IntKind.i64 (f r x).fst.hi)
      have e' := ((E3.below hb' (by omega)).set (c := w.heap.size + 1 + 1 + 1 + 1 + 1) (by omega) 0 (Value.int IntKind.i64 (f r x).fst.lo)).set (c := w.heap.size + 1 + 1 + 1 + 1 + 1) (by omega) 1 (Value.int IntKind.i64 (f r x).fst.hi)
      have B1 : Below w.heap.size W ((w'.setCell ⟨w.heap.size + 1 + 1 + 1 + 1 + 1, 0, none⟩ (Value.int IntKind.i64 (f r x).fst.lo)).setCell ⟨w.heap.size + 1 + 1 + 1 + 1 + 1, 1, none⟩ (Value.int IntKind.i64 (f r x).fst.hi)) :=
        ((hb'.mono (by omega)).setCell (p := ⟨w.heap.size + 1 + 1 + 1 + 1 + 1, 0, none⟩) (by dsimp only; omega) _).setCell (p := ⟨w.heap.size + 1 + 1 + 1 + 1 + 1, 1, none⟩) (by dsimp only; omega) _
      refine ⟨((keeps_below hb').trans ((KeepsOthers.setCell _ _ _).trans (KeepsOthers.setCell _ _ _))).from _, B1, ⟨⟨_, ?_, Q3⟩, b', c', d', e', fb.trans B1, ?_⟩⟩
      · rw [acc_snoc f pre s0 x r a1, if_pos HE.out]
      · have := hb'.size; simp; omega
    · have t0 : ((f r x).2 != 0) = true := by simp [he]
      have t1 : ((f r x).2 == 0) = false := by simp [he]
      have HE := Lib.hid he
      clear he
      gi_wp2_with (refine ⟨trivial, ?_⟩; gi_at_call 19; refine (CallsIn.inRound l (callsIn_wide.2 (hst _))).mono ?_; rintro e' w' ⟨rfl, hb'⟩; obtain ⟨⟨q00, q01⟩, q10, q11⟩ := A3.below hb' (by omega); obtain ⟨⟨n00, n01⟩, n10, n11⟩ := E3.below hb' (by omega); obtain ⟨⟨c00, c01⟩, c10, c11⟩ := C3.below hb' (by omega); obtain ⟨d00, d01⟩ := D3.below hb' (by omega))
      have C4 := (((C3.below hb' (by omega)).set (c := w.heap.size + 1 + 1 + 1 + 1 + 1) (by omega) 0 (Value.int IntKind.i64 (f r x).fst.lo)).set (c := w.heap.size + 1 + 1 + 1 + 1 + 1) (by omega) 1 (Value.int IntKind.i64 (f r x).fst.hi))
      have C5 := (Cells2.put C4 Sp.zero).set (c := w.heap.size + 1 + 1 + 1) (by omega) 0 (Value.int IntKind.i64 (f r x).snd)
      have D4 := (((((D3.below hb' (by omega)).set (c := w.heap.size + 1 + 1 + 1 + 1 + 1) (by omega) 0 (Value.int IntKind.i64 (f r x).fst.lo)).set (c := w.heap.size + 1 + 1 + 1 + 1 + 1) (by omega) 1 (Value.int IntKind.i64 (f r x).fst.hi)).set (c := w.heap.size + 1 + 1) (by omega) 0 (Value.int IntKind.i64 Sp.zero.lo)).set (c := w.heap.size + 1 + 1) (by omega) 1 (Value.int IntKind.i64 Sp.zero.hi))
      have D5 := Cell1.put D4 (Value.int IntKind.i64 (f r x).snd)
      refine ⟨((keeps_below hb').trans ((KeepsOthers.setCell _ _ _).trans ((KeepsOthers.setCell _ _ _).trans ((KeepsOthers.setCell _ _ _).trans ((KeepsOthers.setCell _ _ _).trans (KeepsOthers.setCell _ _ _)))))).from _, ⟨rfl, ⟨_, HE.out, fun ys => ?_, D5⟩, C5, ?_, ?_⟩⟩
      · rw [List.append_assoc]; exact foldS_bad f pre ys s0 x r a1 HE.out
      · exact fb.trans ((((((hb'.mono (by omega)).setCell (p := ⟨w.heap.size + 1 + 1 + 1 + 1 + 1, 0, none⟩) (by dsimp only; omega) _).setCell (p := ⟨w.heap.size + 1 + 1 + 1 + 1 + 1, 1, none⟩) (by dsimp only; omega) _).setCell (p := ⟨w.heap.size + 1 + 1, 0, none⟩) (by dsimp only; omega) _).setCell (p := ⟨w.heap.size + 1 + 1, 1, none⟩) (by dsimp only; omega) _).setCell (p := ⟨w.heap.size + 1 + 1 + 1, 0, none⟩) (by dsimp only; omega) _)
      · have := hb'.size; simp; omega
  case done =>
    rintro D xs W hD rfl ⟨⟨r, a1, a3⟩, b, c, d, e, fb, fz⟩ hK
    obtain ⟨⟨r00, r01⟩, r10, r11⟩ := id a3
    obtain ⟨⟨c00, c01⟩, c10, c11⟩ := id c
    obtain ⟨d00, d01⟩ := id d
    have hf := foldS_acc f _ _ _ a1
    have C4 := (Cells2.put c r).set (c := w.heap.size + 1 + 1 + 1) (by omega) 0 (Value.int IntKind.i64 0)
    have D4 := Cell1.put ((d.set (c := w.heap.size + 1 + 1) (by omega) 0 (Value.int IntKind.i64 r.lo)).set (c := w.heap.size + 1 + 1) (by omega) 1 (Value.int IntKind.i64 r.hi)) (Value.int IntKind.i64 0)
    have B4 := ((fb.setCell (p := ⟨w.heap.size + 1 + 1, 0, none⟩) (by dsimp only; omega) (Value.int IntKind.i64 r.lo)).setCell (p := ⟨w.heap.size + 1 + 1, 1, none⟩) (by dsimp only; omega) (Value.int IntKind.i64 r.hi)).setCell (p := ⟨w.heap.size + 1 + 1 + 1, 0, none⟩) (by dsimp only; omega) (Value.int IntKind.i64 0)
    have K4 := (KeepsOthers.trans (KeepsOthers.setCell W ⟨w.heap.size + 1 + 1, 0, none⟩ (Value.int IntKind.i64 r.lo)) ((KeepsOthers.setCell _ ⟨w.heap.size + 1 + 1, 1, none⟩ (Value.int IntKind.i64 r.hi)).trans (KeepsOthers.setCell _ ⟨w.heap.size + 1 + 1 + 1, 0, none⟩ (Value.int IntKind.i64 0)))).same D _ hK rfl
    gi_wp2
    exact fin_ret hf C4 D4 B4 K4 (by omega) rfl rfl
  case stop =>
    rintro D c pre W hD ⟨ys, hys⟩ ⟨rfl, ⟨e0, he0, hf, d⟩, c, fb, fz⟩ hK
    have hf' := hf ys
    rw [hys] at hf'
    obtain ⟨⟨c00, c01⟩, c10, c11⟩ := id c
    obtain ⟨d00, d01⟩ := id d
    gi_wp2
    exact fin_ret hf' c d fb hK (by omega) rfl rfl
end FP
end
section
set_option maxRecDepth 100000
open Go.RowKit
open FP
def SpL (w : World) (A : Option Addr) (n : Nat) (lo hi : Nat → Int) : Prop := 0 < n → ∃ ad, A = some ad ∧ ad.block < w.heap.size ∧ ElemsA w ad n lo hi
theorem elA_below {B : Nat} {w w' : World} {ad : Addr} {n : Nat} {lo hi : Nat → Int} (h : ElemsA w ad n lo hi) (hb : Below B w w') (hl : ad.block < B) : ElemsA w' ad n lo hi :=
 fun j hj => ⟨(hb.cell (p := ad.add (j * 2)) (by rw [block_add]; exact hl)).trans (h j hj).1, (hb.cell (p := ⟨ad.block, _, none⟩) hl).trans (h j hj).2⟩
theorem SpL.below {w w' : World} {A : Option Addr} {n : Nat} {lo hi : Nat → Int} (h : SpL w A n lo hi) (hb : Below w.heap.size w w') : SpL w' A n lo hi := fun h0 => by
 obtain ⟨ad, e, hl, hE⟩ := h h0
 exact ⟨ad, e, Nat.lt_of_lt_of_le hl hb.size, elA_below hE hb hl⟩
def lstB (n : Nat) (lo hi : Nat → Int) : Bool := (List.range n).all fun j => vB (lo j) (hi j)
theorem lst_no {n k : Nat} {lo hi : Nat → Int} (hk : k < n) (h : vB (lo k) (hi k) = false) : lstB n lo hi = false := all_no hk h
set_option maxHeartbeats 1000000 in
theorem invalid_list (A : Option Addr) (n cap : Nat) (lo hi : Nat → Int) (hm : n ≤ 64) (hI : ∀ j, FD.In64 (lo j) ∧ FD.In64 (hi j)) (w : World) (hS : SpL w A n lo hi) (res : Bool) (hr : (!lstB n lo hi) = res) :
  Calls Try.prog 27 #[.slice A n cap] w fun e w' => e = .returned (.bool res) ∧ Below w.heap.size w w' := by
 have HS := hide hS
 have HR := hide hr
 have HI := hide hI
 clear hS hr hI
 go_enter Try.func27, Try.ntmps27
 go_wp2
 go_loopw [7] (fun i wr => ∃ k : Nat, k ≤ n ∧ i = .int .i64 k ∧ lstB k lo hi = true ∧ Below w.heap.size w wr) (fun i _ => n - (intOf i).toNat)
 case atStart => exact ⟨0, Nat.zero_le _, rfl, rfl, Below.refl _ _⟩
 case round =>
  obtain ⟨k, hk, rfl, hV, hB⟩ := hrel
  have HV := hide hV
  clear hV
  by_cases hlt : k < n
  ·obtain ⟨ad, hA, hl, hE⟩ := HS.out (by omega)
   subst hA
   have hE' := elA_below hE hB hl
   have t0 := (hE' k hlt).1
   have t1 := (hE' k hlt).2
   have hbr : ad.block < wr.heap.size := Nat.lt_of_lt_of_le hl hB.size
   have hba := block_add ad
   have hi0 := (HI.out k).1.1
   have HI0 := hide hi0
   clear hE hE' hi0
   cases hv : vB (lo k) (hi k)
   ·have HF := hide (lst_no (lo := lo) (hi := hi) hlt hv)
    have HV1 := hide hv
    clear hv
    generalize lo k = x0 at *
    generalize hi k = x1 at *
    go_wp2_with (go_at_call 51; refine (check_no _ _ HI0.out HV1.out _).mono ?_; rintro e w1 ⟨rfl, hb1⟩)
    go_ret
    exact ⟨by rw [← HR.out, HF.out]; rfl, hB.trans (((Below.refl _ _).alloc (by have := hB.size; omega) _).trans (hb1.mono (by have := hB.size; simp; omega)))⟩
   ·have HF : Hid (lstB (k + 1) lo hi = true) := hide (all_more HV.out hv)
    have HV1 := hide hv
    clear hv
    generalize lo k = x0 at *
    generalize hi k = x1 at *
    go_wp2_with (go_at_call 51; refine (check_yes _ _ HV1.out _).mono ?_; rintro e w1 ⟨rfl, hb1⟩)
    go_roundw
    case rel => exact ⟨k + 1, by omega, by go_num, HF.out, hB.trans (((Below.refl _ _).alloc (by have := hB.size; omega) _).trans (hb1.mono (by have := hB.size; simp; omega)))⟩
    case measure => simp [intOf]; omega
  ·obtain rfl : k = n := by omega
   go_wp2
   go_ret
   exact ⟨by rw [← HR.out, HV.out]; rfl, hB⟩
def chk1 (n : Nat) (lo hi : Nat → Int) : Int := if 64 < n then 3 else if lstB n lo hi then 0 else 2
set_option maxHeartbeats 1000000 in
theorem rlist_any (A : Option Addr) (n cap : Nat) (lo hi : Nat → Int) (w : World) (hS : SpL w A n lo hi) (res : Int) (hr : chk1 n lo hi = res) :
  Calls Try.prog 15 #[.slice A n cap] w fun e w' => e = .returned (.int .i64 res) ∧ Below w.heap.size w w' := by
 unfold chk1 at hr
 by_cases h64 : 64 < n
 ·rw [if_pos h64] at hr
  subst hr
  have g : (64 : Int) < (n : Int) := by omega
  clear h64 hS
  go_enter Try.func15, Try.ntmps15
  go_wp2
  go_ret
  exact ⟨rfl, blw_⟩
 ·rw [if_neg h64] at hr
  have HS := hide hS
  have HR := hide hr
  clear hS hr
  have h64' : ¬ (64 : Int) < (n : Int) := by omega
  go_enter Try.func15, Try.ntmps15
  go_wp2
  go_loopw [3] (fun i wr => ∃ k : Nat, k ≤ n ∧ i = .int .i64 k ∧ lstB k lo hi = true ∧ Below w.heap.size w wr) (fun i _ => n - (intOf i).toNat)
  case atStart => exact ⟨0, Nat.zero_le _, rfl, rfl, Below.refl _ _⟩
  case round =>
   obtain ⟨k, hk, rfl, hV, hB⟩ := hrel
   have HV := hide hV
   clear hV
   by_cases hlt : k < n
   ·obtain ⟨ad, hA, hl, hE⟩ := HS.out (by omega)
    subst hA
    have hE' := elA_below hE hB hl
    have t0 := (hE' k hlt).1
    have t1 := (hE' k hlt).2
    have hbr : ad.block < wr.heap.size := Nat.lt_of_lt_of_le hl hB.size
    have hba := block_add ad
    clear hE hE'
    cases hv : vB (lo k) (hi k)
    ·have HF := hide (lst_no (lo := lo) (hi := hi) hlt hv)
     have HC := hide (rcheck (lo k) (hi k) 2 (by unfold chkI; rw [hv]; rfl))
     clear hv
     generalize lo k = x0 at *
     generalize hi k = x1 at *
     go_wp2_with (go_at_call 30; refine (HC.out _).mono ?_; rintro e w1 ⟨rfl, hb1⟩)
     go_ret
     exact ⟨by rw [← HR.out, HF.out]; rfl, hB.trans (hb1.mono hB.size)⟩
    ·have HF : Hid (lstB (k + 1) lo hi = true) := hide (all_more HV.out hv)
     have HC := hide (rcheck (lo k) (hi k) 0 (by unfold chkI; rw [hv]; rfl))
     clear hv
     generalize lo k = x0 at *
     generalize hi k = x1 at *
     go_wp2_with (go_at_call 30; refine (HC.out _).mono ?_; rintro e w1 ⟨rfl, hb1⟩)
     go_roundw
     case rel => exact ⟨k + 1, by omega, by go_num, HF.out, hB.trans (hb1.mono hB.size)⟩
     case measure => simp [intOf]; omega
   ·obtain rfl : k = n := by omega
    go_wp2
    go_ret
    exact ⟨by rw [← HR.out, HV.out]; rfl, hB⟩
def longB (c : Nat) (nn : Nat → Nat) : Bool := (List.range c).all fun i => decide (nn i ≤ 64)
def allB (c : Nat) (nn : Nat → Nat) (lo hi : Nat → Nat → Int) : Bool := (List.range c).all fun i => lstB (nn i) (lo i) (hi i)
def chkN (c : Nat) (nn : Nat → Nat) (lo hi : Nat → Nat → Int) : Int := if longB c nn then (if allB c nn lo hi then 0 else 2) else 3
set_option maxHeartbeats 1000000 in
theorem checkLists_any (c b cap : Nat) (A : Nat → Option Addr) (nn cc : Nat → Nat) (lo hi : Nat → Nat → Int) (hc : c ≤ 2) (hI : ∀ i j, FD.In64 (lo i j) ∧ FD.In64 (hi i j)) (w : World) (hbl : b < w.heap.size) (hcell : ∀ i, i < c → w.cell? ⟨b, i, none⟩ = some (.slice (A i) (nn i) (cc i)))
  (hS : ∀ i, i < c → SpL w (A i) (nn i) (lo i) (hi i)) (hcap : ∀ i, nn i ≤ 70) (res : Int) (hr : chkN c nn lo hi = res) :
  Calls Try.prog 11 #[.slice (some ⟨b, 0, none⟩) c cap] w fun e w' => e = .returned (.int .i64 res) ∧ Below w.heap.size w w' := by
 have HS := hide hS
 have HR := hide hr
 have HC := hide hcell
 have HI := hide hI
 clear hS hr hcell hI
 go_enter Try.func11, Try.ntmps11
 go_wp2
 go_loopw [9] (fun i wr => ∃ k : Nat, k ≤ c ∧ i = .int .i64 k ∧ longB k nn = true ∧ Below w.heap.size w wr) (fun i _ => c - (intOf i).toNat)
 case atStart => exact ⟨0, Nat.zero_le _, rfl, rfl, Below.refl _ _⟩
 case round =>
  obtain ⟨k, hk, rfl, hV, hB⟩ := hrel
  have HV := hide hV
  clear hV
  by_cases hlt : k < c
  ·have t0 := (hB.cell (p := ⟨b, k, none⟩) hbl).trans (HC.out k hlt)
   by_cases h64 : nn k ≤ 64
   ·have HF : Hid (longB (k + 1) nn = true) := hide (all_more HV.out (decide_eq_true h64))
    have g : ¬ (64 : Int) < (nn k : Int) := by omega
    generalize A k = a at *
    generalize nn k = m at *
    generalize cc k = m2 at *
    go_wp2
    go_roundw
    case rel => exact ⟨k + 1, by omega, by go_num, HF.out, hB⟩
    case measure => simp [intOf]; omega
   ·have HF : Hid (longB c nn = false) := hide (all_no hlt (decide_eq_false h64))
    have g : (64 : Int) < (nn k : Int) := by omega
    generalize A k = a at *
    generalize nn k = m at *
    generalize cc k = m2 at *
    go_wp2
    go_ret
    exact ⟨by rw [← HR.out]; unfold chkN; rw [HF.out]; rfl, hB⟩
  ·obtain rfl : k = c := by omega
   clear hlt
   go_wp2_with fail
   go_loopw [19] (fun i wr => ∃ j : Nat, j ≤ k ∧ i = .int .i64 j ∧ allB j nn lo hi = true ∧ Below w.heap.size w wr) (fun i _ => k - (intOf i).toNat)
   case atStart => exact ⟨0, Nat.zero_le _, rfl, rfl, hB⟩
   case round =>
    clear hB
    obtain ⟨j, hj, rfl, hU, hB⟩ := hrel
    have HU := hide hU
    clear hU
    by_cases hlt : j < k
    ·have t0 := (hB.cell (p := ⟨b, j, none⟩) hbl).trans (HC.out j hlt)
     have hn : nn j ≤ 64 := of_decide_eq_true (List.all_eq_true.1 HV.out j (List.mem_range.2 hlt))
     have hSj := (HS.out j hlt).below hB
     cases hv : lstB (nn j) (lo j) (hi j)
     ·have HF : Hid (allB k nn lo hi = false) := hide (all_no hlt hv)
      have IV := hide (fun cap => invalid_list (A j) (nn j) cap (lo j) (hi j) hn (HI.out j) wr hSj true (by rw [hv]; rfl))
      clear hv hSj hn
      generalize A j = a at *
      generalize nn j = m at *
      generalize cc j = m2 at *
      go_wp2_with (go_at_call 27; refine (IV.out _).mono ?_; rintro e w1 ⟨rfl, hb1⟩)
      go_ret
      exact ⟨by rw [← HR.out]; unfold chkN; rw [HV.out, HF.out]; rfl, hB.trans (hb1.mono hB.size)⟩
     ·have HF : Hid (allB (j + 1) nn lo hi = true) := hide (all_more HU.out hv)
      have IV := hide (fun cap => invalid_list (A j) (nn j) cap (lo j) (hi j) hn (HI.out j) wr hSj false (by rw [hv]; rfl))
      clear hv hSj hn
      generalize A j = a at *
      generalize nn j = m at *
      generalize cc j = m2 at *
      go_wp2_with (go_at_call 27; refine (IV.out _).mono ?_; rintro e w1 ⟨rfl, hb1⟩)
      go_roundw
      case rel => exact ⟨j + 1, by omega, by go_num, HF.out, hB.trans (hb1.mono hB.size)⟩
      case measure => simp [intOf]; omega
    ·obtain rfl : j = k := by omega
     go_wp2
     go_ret
     exact ⟨by rw [← HR.out]; unfold chkN; rw [HV.out, HU.out]; rfl, hB⟩
end
end Go.Proofs.Ytdcolicajjmffaa
