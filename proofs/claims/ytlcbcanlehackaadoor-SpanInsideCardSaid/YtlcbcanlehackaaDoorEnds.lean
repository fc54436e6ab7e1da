/- Values at both ends of a span, by a function that is handed in. -/
import Derived.Test.YtlcbcanlehackaaDoorShare
import Derived.Test.YtlcbcanlehackaaDoorSets
set_option linter.unusedVariables false
set_option linter.unusedSimpArgs false
namespace Go.Proofs.YtlcbcanlehackaaDoor
open Go.RowKit
def enL (l1 e1 l2 e2 : Int) (s : Bool) : Int := if e1 ≠ 0 ∨ s = true then l1 else if e2 ≠ 0 then 0 else mi l1 l2
def enH (h1 e1 h2 e2 : Int) (s : Bool) : Int := if e1 ≠ 0 ∨ s = true then h1 else if e2 ≠ 0 then 0 else mx h1 h2
def enE (e1 e2 : Int) (s : Bool) : Int := if e1 ≠ 0 ∨ s = true then e1 else e2
/-- What a function that is handed in answers, whatever the world has become. -/
def Answers (C : World → Prop) (g : FuncId) (caps : Array Value) (x l h e : Int) : Prop :=
  ∀ w, C w → Calls Tryd.prog g (#[.int .i64 x] ++ caps) w fun r w' => r = .returned (.tuple #[.agg #[.int .i64 (l), .int .i64 (h)], .int .i64 e]) ∧ Below w.heap.size w w'
structure Kept (C : World → Prop) : Prop where
  below : ∀ {w w'}, C w → Below w.heap.size w w' → C w'
set_option maxHeartbeats 1000000 in
theorem ends_1 (C : World → Prop) (hC : Kept C) (g : FuncId) (p : Value) (hent : ∀ args w, (callFunc g args).run Tryd.prog w = .ok (.enter g args) w)
    (al ah l1 h1 e1 l2 h2 e2 : Int) (A1 : Answers C g #[p] al l1 h1 e1) (A2 : Answers C g #[p] ah l2 h2 e2) (w : World) (hw : C w) :
    Calls Tryd.prog 55 #[.agg #[.int .i64 (al), .int .i64 (ah)], .func (Fn.func g) #[] #[p]] w fun e w' => e = .returned (.tuple #[.agg #[.int .i64 (enL l1 e1 l2 e2 (al == ah)), .int .i64 (enH h1 e1 h2 e2 (al == ah))], .int .i64 (enE e1 e2 (al == ah))]) ∧ Below w.heap.size w w' := by
  have A1' : ∀ w, C w → Calls Tryd.prog g #[.int .i64 al, p] w fun r w' => r = .returned (.tuple #[.agg #[.int .i64 (l1), .int .i64 (h1)], .int .i64 e1]) ∧ Below w.heap.size w w' := A1
  have A2' : ∀ w, C w → Calls Tryd.prog g #[.int .i64 ah, p] w fun r w' => r = .returned (.tuple #[.agg #[.int .i64 (l2), .int .i64 (h2)], .int .i64 e2]) ∧ Below w.heap.size w w' := A2
  clear A1 A2
  by_cases c1 : e1 = 0
  · subst c1
    by_cases c2 : al = ah
    · subst c2
      have E : enL l1 0 l2 e2 (al == al) = l1 ∧ enH h1 0 h2 e2 (al == al) = h1 ∧ enE 0 e2 (al == al) = 0 := by simp [enL, enH, enE]
      rw [E.1, E.2.1, E.2.2]
      clear E
      go_enter Tryd.func55, Tryd.ntmps55
      go_wp2_with fail
      refine (A1' _ (hC.below hw (by repeat (first | with_reducible exact Below.refl _ _ | with_reducible refine bdrew ?_ | ((with_reducible first | refine bset ?_ ?_ | refine ball ?_ ?_ | refine bth (by assumption) ?_ ?_); first | omega | (simp <;> omega)))))).mono ?_
      rintro e w1 ⟨rfl, hb1⟩
      obtain ⟨hc1, hf1⟩ := bcell hb1
      have hz1 := hb1.size
      try simp only [World.size_alloc, World.size_setCell] at hz1
      try have : w.heap.size < w1.heap.size := by omega
      try have : w.heap.size < w1.heap.size + 1 := by omega
      try have : w.heap.size ≤ w1.heap.size := by omega
      try have : w.heap.size + 1 < w1.heap.size := by omega
      try have : w.heap.size + 1 < w1.heap.size + 1 := by omega
      try have : w.heap.size + 1 ≤ w1.heap.size := by omega
      have c1_0_0 : w1.cell? ⟨w.heap.size, 0, none⟩ = some (.int .i64 (al)) := by go_simp
      have c1_0_1 : w1.cell? ⟨w.heap.size, 1, none⟩ = some (.int .i64 (al)) := by go_simp
      have c1_1_0 : w1.cell? ⟨w.heap.size + 1, 0, none⟩ = some (.int .i64 (0)) := by go_simp
      have g1_1_0 : w1.frozen? ⟨w.heap.size + 1, 0, none⟩ = false := by go_simp
      have c1_1_1 : w1.cell? ⟨w.heap.size + 1, 1, none⟩ = some (.int .i64 (0)) := by go_simp
      have g1_1_1 : w1.frozen? ⟨w.heap.size + 1, 1, none⟩ = false := by go_simp
      clear hc1 hf1
      go_wp2
      refine bodyPost_ret (v := .tuple #[.agg #[.int .i64 (l1), .int .i64 (h1)], .int .i64 0]) (by simp only [results, Tryd.results55]; go_simp) rfl ⟨rfl, (by repeat (first | with_reducible exact Below.refl _ _ | with_reducible refine bdrew ?_ | ((with_reducible first | refine bset ?_ ?_ | refine ball ?_ ?_ | refine bth (by assumption) ?_ ?_); first | omega | (simp <;> omega))))⟩
    · have c2' : (al == ah) = false := by simp [c2]
      by_cases c3 : e2 = 0
      · have E : enL l1 0 l2 e2 (al == ah) = mi l1 l2 ∧ enH h1 0 h2 e2 (al == ah) = mx h1 h2 ∧ enE 0 e2 (al == ah) = 0 := by simp [enL, enH, enE, c2, c3]
        rw [E.1, E.2.1, E.2.2]
        have SB := hide (sboth l1 h1 l2 h2)
        subst c3
        clear E
        go_enter Tryd.func55, Tryd.ntmps55
        go_wp2_with fail
        refine (A1' _ (hC.below hw (by repeat (first | with_reducible exact Below.refl _ _ | with_reducible refine bdrew ?_ | ((with_reducible first | refine bset ?_ ?_ | refine ball ?_ ?_ | refine bth (by assumption) ?_ ?_); first | omega | (simp <;> omega)))))).mono ?_
        rintro e w1 ⟨rfl, hb1⟩
        obtain ⟨hc1, hf1⟩ := bcell hb1
        have hz1 := hb1.size
        try simp only [World.size_alloc, World.size_setCell] at hz1
        try have : w.heap.size < w1.heap.size := by omega
        try have : w.heap.size < w1.heap.size + 1 := by omega
        try have : w.heap.size ≤ w1.heap.size := by omega
        try have : w.heap.size + 1 < w1.heap.size := by omega
        try have : w.heap.size + 1 < w1.heap.size + 1 := by omega
        try have : w.heap.size + 1 ≤ w1.heap.size := by omega
        have c1_0_0 : w1.cell? ⟨w.heap.size, 0, none⟩ = some (.int .i64 (al)) := by go_simp
        have c1_0_1 : w1.cell? ⟨w.heap.size, 1, none⟩ = some (.int .i64 (ah)) := by go_simp
        have c1_1_0 : w1.cell? ⟨w.heap.size + 1, 0, none⟩ = some (.int .i64 (0)) := by go_simp
        have g1_1_0 : w1.frozen? ⟨w.heap.size + 1, 0, none⟩ = false := by go_simp
        have c1_1_1 : w1.cell? ⟨w.heap.size + 1, 1, none⟩ = some (.int .i64 (0)) := by go_simp
        have g1_1_1 : w1.frozen? ⟨w.heap.size + 1, 1, none⟩ = false := by go_simp
        clear hc1 hf1
        go_wp2_with fail
        refine (A2' _ (hC.below hw (by repeat (first | with_reducible exact Below.refl _ _ | with_reducible refine bdrew ?_ | ((with_reducible first | refine bset ?_ ?_ | refine ball ?_ ?_ | refine bth (by assumption) ?_ ?_); first | omega | (simp <;> omega)))))).mono ?_
        rintro e w2 ⟨rfl, hb2⟩
        obtain ⟨hc2, hf2⟩ := bcell hb2
        have hz2 := hb2.size
        try simp only [World.size_alloc, World.size_setCell] at hz2
        try have : w.heap.size < w2.heap.size := by omega
        try have : w.heap.size < w2.heap.size + 1 := by omega
        try have : w.heap.size ≤ w2.heap.size := by omega
        try have : w.heap.size + 1 < w2.heap.size := by omega
        try have : w.heap.size + 1 < w2.heap.size + 1 := by omega
        try have : w.heap.size + 1 ≤ w2.heap.size := by omega
        try have : w1.heap.size < w2.heap.size := by omega
        try have : w1.heap.size < w2.heap.size + 1 := by omega
        try have : w1.heap.size ≤ w2.heap.size := by omega
        have c2_0_0 : w2.cell? ⟨w.heap.size, 0, none⟩ = some (.int .i64 (al)) := by go_simp
        have c2_0_1 : w2.cell? ⟨w.heap.size, 1, none⟩ = some (.int .i64 (ah)) := by go_simp
        have c2_1_0 : w2.cell? ⟨w.heap.size + 1, 0, none⟩ = some (.int .i64 (0)) := by go_simp
        have g2_1_0 : w2.frozen? ⟨w.heap.size + 1, 0, none⟩ = false := by go_simp
        have c2_1_1 : w2.cell? ⟨w.heap.size + 1, 1, none⟩ = some (.int .i64 (0)) := by go_simp
        have g2_1_1 : w2.frozen? ⟨w.heap.size + 1, 1, none⟩ = false := by go_simp
        have c2_2_0 : w2.cell? ⟨w1.heap.size, 0, none⟩ = some (.int .i64 (l1)) := by go_simp
        have c2_2_1 : w2.cell? ⟨w1.heap.size, 1, none⟩ = some (.int .i64 (h1)) := by go_simp
        clear hc2 hf2 c1_0_0 c1_0_1 c1_1_0 g1_1_0 c1_1_1 g1_1_1
        go_wp2_with fail
        refine (SB.out _).mono ?_
        rintro e w3 ⟨rfl, hb3⟩
        obtain ⟨hc3, hf3⟩ := bcell hb3
        have hz3 := hb3.size
        try simp only [World.size_alloc, World.size_setCell] at hz3
        try have : w.heap.size < w3.heap.size := by omega
        try have : w.heap.size ≤ w3.heap.size := by omega
        try have : w.heap.size + 1 < w3.heap.size := by omega
        try have : w.heap.size + 1 ≤ w3.heap.size := by omega
        try have : w1.heap.size < w3.heap.size := by omega
        try have : w1.heap.size ≤ w3.heap.size := by omega
        try have : w2.heap.size < w3.heap.size := by omega
        try have : w2.heap.size ≤ w3.heap.size := by omega
        have c3_0_0 : w3.cell? ⟨w.heap.size, 0, none⟩ = some (.int .i64 (al)) := by go_simp
        have c3_0_1 : w3.cell? ⟨w.heap.size, 1, none⟩ = some (.int .i64 (ah)) := by go_simp
        have c3_1_0 : w3.cell? ⟨w.heap.size + 1, 0, none⟩ = some (.int .i64 (0)) := by go_simp
        have g3_1_0 : w3.frozen? ⟨w.heap.size + 1, 0, none⟩ = false := by go_simp
        have c3_1_1 : w3.cell? ⟨w.heap.size + 1, 1, none⟩ = some (.int .i64 (0)) := by go_simp
        have g3_1_1 : w3.frozen? ⟨w.heap.size + 1, 1, none⟩ = false := by go_simp
        have c3_2_0 : w3.cell? ⟨w1.heap.size, 0, none⟩ = some (.int .i64 (l1)) := by go_simp
        have c3_2_1 : w3.cell? ⟨w1.heap.size, 1, none⟩ = some (.int .i64 (h1)) := by go_simp
        have c3_3_0 : w3.cell? ⟨w2.heap.size, 0, none⟩ = some (.int .i64 (l2)) := by go_simp
        have c3_3_1 : w3.cell? ⟨w2.heap.size, 1, none⟩ = some (.int .i64 (h2)) := by go_simp
        clear hc3 hf3 c2_0_0 c2_0_1 c2_1_0 g2_1_0 c2_1_1 g2_1_1 c2_2_0 c2_2_1
        go_wp2
        refine bodyPost_ret (v := .tuple #[.agg #[.int .i64 (mi l1 l2), .int .i64 (mx h1 h2)], .int .i64 0]) (by simp only [results, Tryd.results55]; go_simp) rfl ⟨rfl, (by repeat (first | with_reducible exact Below.refl _ _ | with_reducible refine bdrew ?_ | ((with_reducible first | refine bset ?_ ?_ | refine ball ?_ ?_ | refine bth (by assumption) ?_ ?_); first | omega | (simp <;> omega))))⟩
      · have E : enL l1 0 l2 e2 (al == ah) = 0 ∧ enH h1 0 h2 e2 (al == ah) = 0 ∧ enE 0 e2 (al == ah) = e2 := by simp [enL, enH, enE, c2, c3]
        rw [E.1, E.2.1, E.2.2]
        clear E
        go_enter Tryd.func55, Tryd.ntmps55
        go_wp2_with fail
        refine (A1' _ (hC.below hw (by repeat (first | with_reducible exact Below.refl _ _ | with_reducible refine bdrew ?_ | ((with_reducible first | refine bset ?_ ?_ | refine ball ?_ ?_ | refine bth (by assumption) ?_ ?_); first | omega | (simp <;> omega)))))).mono ?_
        rintro e w1 ⟨rfl, hb1⟩
        obtain ⟨hc1, hf1⟩ := bcell hb1
        have hz1 := hb1.size
        try simp only [World.size_alloc, World.size_setCell] at hz1
        try have : w.heap.size < w1.heap.size := by omega
        try have : w.heap.size < w1.heap.size + 1 := by omega
        try have : w.heap.size ≤ w1.heap.size := by omega
        try have : w.heap.size + 1 < w1.heap.size := by omega
        try have : w.heap.size + 1 < w1.heap.size + 1 := by omega
        try have : w.heap.size + 1 ≤ w1.heap.size := by omega
        have c1_0_0 : w1.cell? ⟨w.heap.size, 0, none⟩ = some (.int .i64 (al)) := by go_simp
        have c1_0_1 : w1.cell? ⟨w.heap.size, 1, none⟩ = some (.int .i64 (ah)) := by go_simp
        have c1_1_0 : w1.cell? ⟨w.heap.size + 1, 0, none⟩ = some (.int .i64 (0)) := by go_simp
        have g1_1_0 : w1.frozen? ⟨w.heap.size + 1, 0, none⟩ = false := by go_simp
        have c1_1_1 : w1.cell? ⟨w.heap.size + 1, 1, none⟩ = some (.int .i64 (0)) := by go_simp
        have g1_1_1 : w1.frozen? ⟨w.heap.size + 1, 1, none⟩ = false := by go_simp
        clear hc1 hf1
        go_wp2_with fail
        refine (A2' _ (hC.below hw (by repeat (first | with_reducible exact Below.refl _ _ | with_reducible refine bdrew ?_ | ((with_reducible first | refine bset ?_ ?_ | refine ball ?_ ?_ | refine bth (by assumption) ?_ ?_); first | omega | (simp <;> omega)))))).mono ?_
        rintro e w2 ⟨rfl, hb2⟩
        obtain ⟨hc2, hf2⟩ := bcell hb2
        have hz2 := hb2.size
        try simp only [World.size_alloc, World.size_setCell] at hz2
        try have : w.heap.size < w2.heap.size := by omega
        try have : w.heap.size < w2.heap.size + 1 := by omega
        try have : w.heap.size ≤ w2.heap.size := by omega
        try have : w.heap.size + 1 < w2.heap.size := by omega
        try have : w.heap.size + 1 < w2.heap.size + 1 := by omega
        try have : w.heap.size + 1 ≤ w2.heap.size := by omega
        try have : w1.heap.size < w2.heap.size := by omega
        try have : w1.heap.size < w2.heap.size + 1 := by omega
        try have : w1.heap.size ≤ w2.heap.size := by omega
        have c2_0_0 : w2.cell? ⟨w.heap.size, 0, none⟩ = some (.int .i64 (al)) := by go_simp
        have c2_0_1 : w2.cell? ⟨w.heap.size, 1, none⟩ = some (.int .i64 (ah)) := by go_simp
        have c2_1_0 : w2.cell? ⟨w.heap.size + 1, 0, none⟩ = some (.int .i64 (0)) := by go_simp
        have g2_1_0 : w2.frozen? ⟨w.heap.size + 1, 0, none⟩ = false := by go_simp
        have c2_1_1 : w2.cell? ⟨w.heap.size + 1, 1, none⟩ = some (.int .i64 (0)) := by go_simp
        have g2_1_1 : w2.frozen? ⟨w.heap.size + 1, 1, none⟩ = false := by go_simp
        have c2_2_0 : w2.cell? ⟨w1.heap.size, 0, none⟩ = some (.int .i64 (l1)) := by go_simp
        have c2_2_1 : w2.cell? ⟨w1.heap.size, 1, none⟩ = some (.int .i64 (h1)) := by go_simp
        clear hc2 hf2 c1_0_0 c1_0_1 c1_1_0 g1_1_0 c1_1_1 g1_1_1
        go_wp2
        refine bodyPost_ret (v := .tuple #[.agg #[.int .i64 (0), .int .i64 (0)], .int .i64 e2]) (by simp only [results, Tryd.results55]; go_simp) rfl ⟨rfl, (by repeat (first | with_reducible exact Below.refl _ _ | with_reducible refine bdrew ?_ | ((with_reducible first | refine bset ?_ ?_ | refine ball ?_ ?_ | refine bth (by assumption) ?_ ?_); first | omega | (simp <;> omega))))⟩
  · have E : enL l1 e1 l2 e2 (al == ah) = l1 ∧ enH h1 e1 h2 e2 (al == ah) = h1 ∧ enE e1 e2 (al == ah) = e1 := by simp [enL, enH, enE, c1]
    rw [E.1, E.2.1, E.2.2]
    clear E
    go_enter Tryd.func55, Tryd.ntmps55
    go_wp2_with fail
    refine (A1' _ (hC.below hw (by repeat (first | with_reducible exact Below.refl _ _ | with_reducible refine bdrew ?_ | ((with_reducible first | refine bset ?_ ?_ | refine ball ?_ ?_ | refine bth (by assumption) ?_ ?_); first | omega | (simp <;> omega)))))).mono ?_
    rintro e w1 ⟨rfl, hb1⟩
    obtain ⟨hc1, hf1⟩ := bcell hb1
    have hz1 := hb1.size
    try simp only [World.size_alloc, World.size_setCell] at hz1
    try have : w.heap.size < w1.heap.size := by omega
    try have : w.heap.size < w1.heap.size + 1 := by omega
    try have : w.heap.size ≤ w1.heap.size := by omega
    try have : w.heap.size + 1 < w1.heap.size := by omega
    try have : w.heap.size + 1 < w1.heap.size + 1 := by omega
    try have : w.heap.size + 1 ≤ w1.heap.size := by omega
    have c1_0_0 : w1.cell? ⟨w.heap.size, 0, none⟩ = some (.int .i64 (al)) := by go_simp
    have c1_0_1 : w1.cell? ⟨w.heap.size, 1, none⟩ = some (.int .i64 (ah)) := by go_simp
    have c1_1_0 : w1.cell? ⟨w.heap.size + 1, 0, none⟩ = some (.int .i64 (0)) := by go_simp
    have g1_1_0 : w1.frozen? ⟨w.heap.size + 1, 0, none⟩ = false := by go_simp
    have c1_1_1 : w1.cell? ⟨w.heap.size + 1, 1, none⟩ = some (.int .i64 (0)) := by go_simp
    have g1_1_1 : w1.frozen? ⟨w.heap.size + 1, 1, none⟩ = false := by go_simp
    clear hc1 hf1
    go_wp2
    refine bodyPost_ret (v := .tuple #[.agg #[.int .i64 (l1), .int .i64 (h1)], .int .i64 e1]) (by simp only [results, Tryd.results55]; go_simp) rfl ⟨rfl, (by repeat (first | with_reducible exact Below.refl _ _ | with_reducible refine bdrew ?_ | ((with_reducible first | refine bset ?_ ?_ | refine ball ?_ ?_ | refine bth (by assumption) ?_ ?_); first | omega | (simp <;> omega))))⟩
set_option maxHeartbeats 1000000 in
theorem ends_0 (C : World → Prop) (hC : Kept C) (g : FuncId) (hent : ∀ args w, (callFunc g args).run Tryd.prog w = .ok (.enter g args) w)
    (al ah l1 h1 e1 l2 h2 e2 : Int) (A1 : Answers C g #[] al l1 h1 e1) (A2 : Answers C g #[] ah l2 h2 e2) (w : World) (hw : C w) :
    Calls Tryd.prog 55 #[.agg #[.int .i64 (al), .int .i64 (ah)], .func (Fn.func g) #[] #[]] w fun e w' => e = .returned (.tuple #[.agg #[.int .i64 (enL l1 e1 l2 e2 (al == ah)), .int .i64 (enH h1 e1 h2 e2 (al == ah))], .int .i64 (enE e1 e2 (al == ah))]) ∧ Below w.heap.size w w' := by
  have A1' : ∀ w, C w → Calls Tryd.prog g #[.int .i64 al] w fun r w' => r = .returned (.tuple #[.agg #[.int .i64 (l1), .int .i64 (h1)], .int .i64 e1]) ∧ Below w.heap.size w w' := A1
  have A2' : ∀ w, C w → Calls Tryd.prog g #[.int .i64 ah] w fun r w' => r = .returned (.tuple #[.agg #[.int .i64 (l2), .int .i64 (h2)], .int .i64 e2]) ∧ Below w.heap.size w w' := A2
  clear A1 A2
  by_cases c1 : e1 = 0
  · subst c1
    by_cases c2 : al = ah
    · subst c2
      have E : enL l1 0 l2 e2 (al == al) = l1 ∧ enH h1 0 h2 e2 (al == al) = h1 ∧ enE 0 e2 (al == al) = 0 := by simp [enL, enH, enE]
      rw [E.1, E.2.1, E.2.2]
      clear E
      go_enter Tryd.func55, Tryd.ntmps55
      go_wp2_with fail
      refine (A1' _ (hC.below hw (by repeat (first | with_reducible exact Below.refl _ _ | with_reducible refine bdrew ?_ | ((with_reducible first | refine bset ?_ ?_ | refine ball ?_ ?_ | refine bth (by assumption) ?_ ?_); first | omega | (simp <;> omega)))))).mono ?_
      rintro e w1 ⟨rfl, hb1⟩
      obtain ⟨hc1, hf1⟩ := bcell hb1
      have hz1 := hb1.size
      try simp only [World.size_alloc, World.size_setCell] at hz1
      try have : w.heap.size < w1.heap.size := by omega
      try have : w.heap.size < w1.heap.size + 1 := by omega
      try have : w.heap.size ≤ w1.heap.size := by omega
      try have : w.heap.size + 1 < w1.heap.size := by omega
      try have : w.heap.size + 1 < w1.heap.size + 1 := by omega
      try have : w.heap.size + 1 ≤ w1.heap.size := by omega
      have c1_0_0 : w1.cell? ⟨w.heap.size, 0, none⟩ = some (.int .i64 (al)) := by go_simp
      have c1_0_1 : w1.cell? ⟨w.heap.size, 1, none⟩ = some (.int .i64 (al)) := by go_simp
      have c1_1_0 : w1.cell? ⟨w.heap.size + 1, 0, none⟩ = some (.int .i64 (0)) := by go_simp
      have g1_1_0 : w1.frozen? ⟨w.heap.size + 1, 0, none⟩ = false := by go_simp
      have c1_1_1 : w1.cell? ⟨w.heap.size + 1, 1, none⟩ = some (.int .i64 (0)) := by go_simp
      have g1_1_1 : w1.frozen? ⟨w.heap.size + 1, 1, none⟩ = false := by go_simp
      clear hc1 hf1
      go_wp2
      refine bodyPost_ret (v := .tuple #[.agg #[.int .i64 (l1), .int .i64 (h1)], .int .i64 0]) (by simp only [results, Tryd.results55]; go_simp) rfl ⟨rfl, (by repeat (first | with_reducible exact Below.refl _ _ | with_reducible refine bdrew ?_ | ((with_reducible first | refine bset ?_ ?_ | refine ball ?_ ?_ | refine bth (by assumption) ?_ ?_); first | omega | (simp <;> omega))))⟩
    · have c2' : (al == ah) = false := by simp [c2]
      by_cases c3 : e2 = 0
      · have E : enL l1 0 l2 e2 (al == ah) = mi l1 l2 ∧ enH h1 0 h2 e2 (al == ah) = mx h1 h2 ∧ enE 0 e2 (al == ah) = 0 := by simp [enL, enH, enE, c2, c3]
        rw [E.1, E.2.1, E.2.2]
        have SB := hide (sboth l1 h1 l2 h2)
        subst c3
        clear E
        go_enter Tryd.func55, Tryd.ntmps55
        go_wp2_with fail
        refine (A1' _ (hC.below hw (by repeat (first | with_reducible exact Below.refl _ _ | with_reducible refine bdrew ?_ | ((with_reducible first | refine bset ?_ ?_ | refine ball ?_ ?_ | refine bth (by assumption) ?_ ?_); first | omega | (simp <;> omega)))))).mono ?_
        rintro e w1 ⟨rfl, hb1⟩
        obtain ⟨hc1, hf1⟩ := bcell hb1
        have hz1 := hb1.size
        try simp only [World.size_alloc, World.size_setCell] at hz1
        try have : w.heap.size < w1.heap.size := by omega
        try have : w.heap.size < w1.heap.size + 1 := by omega
        try have : w.heap.size ≤ w1.heap.size := by omega
        try have : w.heap.size + 1 < w1.heap.size := by omega
        try have : w.heap.size + 1 < w1.heap.size + 1 := by omega
        try have : w.heap.size + 1 ≤ w1.heap.size := by omega
        have c1_0_0 : w1.cell? ⟨w.heap.size, 0, none⟩ = some (.int .i64 (al)) := by go_simp
        have c1_0_1 : w1.cell? ⟨w.heap.size, 1, none⟩ = some (.int .i64 (ah)) := by go_simp
        have c1_1_0 : w1.cell? ⟨w.heap.size + 1, 0, none⟩ = some (.int .i64 (0)) := by go_simp
        have g1_1_0 : w1.frozen? ⟨w.heap.size + 1, 0, none⟩ = false := by go_simp
        have c1_1_1 : w1.cell? ⟨w.heap.size + 1, 1, none⟩ = some (.int .i64 (0)) := by go_simp
        have g1_1_1 : w1.frozen? ⟨w.heap.size + 1, 1, none⟩ = false := by go_simp
        clear hc1 hf1
        go_wp2_with fail
        refine (A2' _ (hC.below hw (by repeat (first | with_reducible exact Below.refl _ _ | with_reducible refine bdrew ?_ | ((with_reducible first | refine bset ?_ ?_ | refine ball ?_ ?_ | refine bth (by assumption) ?_ ?_); first | omega | (simp <;> omega)))))).mono ?_
        rintro e w2 ⟨rfl, hb2⟩
        obtain ⟨hc2, hf2⟩ := bcell hb2
        have hz2 := hb2.size
        try simp only [World.size_alloc, World.size_setCell] at hz2
        try have : w.heap.size < w2.heap.size := by omega
        try have : w.heap.size < w2.heap.size + 1 := by omega
        try have : w.heap.size ≤ w2.heap.size := by omega
        try have : w.heap.size + 1 < w2.heap.size := by omega
        try have : w.heap.size + 1 < w2.heap.size + 1 := by omega
        try have : w.heap.size + 1 ≤ w2.heap.size := by omega
        try have : w1.heap.size < w2.heap.size := by omega
        try have : w1.heap.size < w2.heap.size + 1 := by omega
        try have : w1.heap.size ≤ w2.heap.size := by omega
        have c2_0_0 : w2.cell? ⟨w.heap.size, 0, none⟩ = some (.int .i64 (al)) := by go_simp
        have c2_0_1 : w2.cell? ⟨w.heap.size, 1, none⟩ = some (.int .i64 (ah)) := by go_simp
        have c2_1_0 : w2.cell? ⟨w.heap.size + 1, 0, none⟩ = some (.int .i64 (0)) := by go_simp
        have g2_1_0 : w2.frozen? ⟨w.heap.size + 1, 0, none⟩ = false := by go_simp
        have c2_1_1 : w2.cell? ⟨w.heap.size + 1, 1, none⟩ = some (.int .i64 (0)) := by go_simp
        have g2_1_1 : w2.frozen? ⟨w.heap.size + 1, 1, none⟩ = false := by go_simp
        have c2_2_0 : w2.cell? ⟨w1.heap.size, 0, none⟩ = some (.int .i64 (l1)) := by go_simp
        have c2_2_1 : w2.cell? ⟨w1.heap.size, 1, none⟩ = some (.int .i64 (h1)) := by go_simp
        clear hc2 hf2 c1_0_0 c1_0_1 c1_1_0 g1_1_0 c1_1_1 g1_1_1
        go_wp2_with fail
        refine (SB.out _).mono ?_
        rintro e w3 ⟨rfl, hb3⟩
        obtain ⟨hc3, hf3⟩ := bcell hb3
        have hz3 := hb3.size
        try simp only [World.size_alloc, World.size_setCell] at hz3
        try have : w.heap.size < w3.heap.size := by omega
        try have : w.heap.size ≤ w3.heap.size := by omega
        try have : w.heap.size + 1 < w3.heap.size := by omega
        try have : w.heap.size + 1 ≤ w3.heap.size := by omega
        try have : w1.heap.size < w3.heap.size := by omega
        try have : w1.heap.size ≤ w3.heap.size := by omega
        try have : w2.heap.size < w3.heap.size := by omega
        try have : w2.heap.size ≤ w3.heap.size := by omega
        have c3_0_0 : w3.cell? ⟨w.heap.size, 0, none⟩ = some (.int .i64 (al)) := by go_simp
        have c3_0_1 : w3.cell? ⟨w.heap.size, 1, none⟩ = some (.int .i64 (ah)) := by go_simp
        have c3_1_0 : w3.cell? ⟨w.heap.size + 1, 0, none⟩ = some (.int .i64 (0)) := by go_simp
        have g3_1_0 : w3.frozen? ⟨w.heap.size + 1, 0, none⟩ = false := by go_simp
        have c3_1_1 : w3.cell? ⟨w.heap.size + 1, 1, none⟩ = some (.int .i64 (0)) := by go_simp
        have g3_1_1 : w3.frozen? ⟨w.heap.size + 1, 1, none⟩ = false := by go_simp
        have c3_2_0 : w3.cell? ⟨w1.heap.size, 0, none⟩ = some (.int .i64 (l1)) := by go_simp
        have c3_2_1 : w3.cell? ⟨w1.heap.size, 1, none⟩ = some (.int .i64 (h1)) := by go_simp
        have c3_3_0 : w3.cell? ⟨w2.heap.size, 0, none⟩ = some (.int .i64 (l2)) := by go_simp
        have c3_3_1 : w3.cell? ⟨w2.heap.size, 1, none⟩ = some (.int .i64 (h2)) := by go_simp
        clear hc3 hf3 c2_0_0 c2_0_1 c2_1_0 g2_1_0 c2_1_1 g2_1_1 c2_2_0 c2_2_1
        go_wp2
        refine bodyPost_ret (v := .tuple #[.agg #[.int .i64 (mi l1 l2), .int .i64 (mx h1 h2)], .int .i64 0]) (by simp only [results, Tryd.results55]; go_simp) rfl ⟨rfl, (by repeat (first | with_reducible exact Below.refl _ _ | with_reducible refine bdrew ?_ | ((with_reducible first | refine bset ?_ ?_ | refine ball ?_ ?_ | refine bth (by assumption) ?_ ?_); first | omega | (simp <;> omega))))⟩
      · have E : enL l1 0 l2 e2 (al == ah) = 0 ∧ enH h1 0 h2 e2 (al == ah) = 0 ∧ enE 0 e2 (al == ah) = e2 := by simp [enL, enH, enE, c2, c3]
        rw [E.1, E.2.1, E.2.2]
        clear E
        go_enter Tryd.func55, Tryd.ntmps55
        go_wp2_with fail
        refine (A1' _ (hC.below hw (by repeat (first | with_reducible exact Below.refl _ _ | with_reducible refine bdrew ?_ | ((with_reducible first | refine bset ?_ ?_ | refine ball ?_ ?_ | refine bth (by assumption) ?_ ?_); first | omega | (simp <;> omega)))))).mono ?_
        rintro e w1 ⟨rfl, hb1⟩
        obtain ⟨hc1, hf1⟩ := bcell hb1
        have hz1 := hb1.size
        try simp only [World.size_alloc, World.size_setCell] at hz1
        try have : w.heap.size < w1.heap.size := by omega
        try have : w.heap.size < w1.heap.size + 1 := by omega
        try have : w.heap.size ≤ w1.heap.size := by omega
        try have : w.heap.size + 1 < w1.heap.size := by omega
        try have : w.heap.size + 1 < w1.heap.size + 1 := by omega
        try have : w.heap.size + 1 ≤ w1.heap.size := by omega
        have c1_0_0 : w1.cell? ⟨w.heap.size, 0, none⟩ = some (.int .i64 (al)) := by go_simp
        have c1_0_1 : w1.cell? ⟨w.heap.size, 1, none⟩ = some (.int .i64 (ah)) := by go_simp
        have c1_1_0 : w1.cell? ⟨w.heap.size + 1, 0, none⟩ = some (.int .i64 (0)) := by go_simp
        have g1_1_0 : w1.frozen? ⟨w.heap.size + 1, 0, none⟩ = false := by go_simp
        have c1_1_1 : w1.cell? ⟨w.heap.size + 1, 1, none⟩ = some (.int .i64 (0)) := by go_simp
        have g1_1_1 : w1.frozen? ⟨w.heap.size + 1, 1, none⟩ = false := by go_simp
        clear hc1 hf1
        go_wp2_with fail
        refine (A2' _ (hC.below hw (by repeat (first | with_reducible exact Below.refl _ _ | with_reducible refine bdrew ?_ | ((with_reducible first | refine bset ?_ ?_ | refine ball ?_ ?_ | refine bth (by assumption) ?_ ?_); first | omega | (simp <;> omega)))))).mono ?_
        rintro e w2 ⟨rfl, hb2⟩
        obtain ⟨hc2, hf2⟩ := bcell hb2
        have hz2 := hb2.size
        try simp only [World.size_alloc, World.size_setCell] at hz2
        try have : w.heap.size < w2.heap.size := by omega
        try have : w.heap.size < w2.heap.size + 1 := by omega
        try have : w.heap.size ≤ w2.heap.size := by omega
        try have : w.heap.size + 1 < w2.heap.size := by omega
        try have : w.heap.size + 1 < w2.heap.size + 1 := by omega
        try have : w.heap.size + 1 ≤ w2.heap.size := by omega
        try have : w1.heap.size < w2.heap.size := by omega
        try have : w1.heap.size < w2.heap.size + 1 := by omega
        try have : w1.heap.size ≤ w2.heap.size := by omega
        have c2_0_0 : w2.cell? ⟨w.heap.size, 0, none⟩ = some (.int .i64 (al)) := by go_simp
        have c2_0_1 : w2.cell? ⟨w.heap.size, 1, none⟩ = some (.int .i64 (ah)) := by go_simp
        have c2_1_0 : w2.cell? ⟨w.heap.size + 1, 0, none⟩ = some (.int .i64 (0)) := by go_simp
        have g2_1_0 : w2.frozen? ⟨w.heap.size + 1, 0, none⟩ = false := by go_simp
        have c2_1_1 : w2.cell? ⟨w.heap.size + 1, 1, none⟩ = some (.int .i64 (0)) := by go_simp
        have g2_1_1 : w2.frozen? ⟨w.heap.size + 1, 1, none⟩ = false := by go_simp
        have c2_2_0 : w2.cell? ⟨w1.heap.size, 0, none⟩ = some (.int .i64 (l1)) := by go_simp
        have c2_2_1 : w2.cell? ⟨w1.heap.size, 1, none⟩ = some (.int .i64 (h1)) := by go_simp
        clear hc2 hf2 c1_0_0 c1_0_1 c1_1_0 g1_1_0 c1_1_1 g1_1_1
        go_wp2
        refine bodyPost_ret (v := .tuple #[.agg #[.int .i64 (0), .int .i64 (0)], .int .i64 e2]) (by simp only [results, Tryd.results55]; go_simp) rfl ⟨rfl, (by repeat (first | with_reducible exact Below.refl _ _ | with_reducible refine bdrew ?_ | ((with_reducible first | refine bset ?_ ?_ | refine ball ?_ ?_ | refine bth (by assumption) ?_ ?_); first | omega | (simp <;> omega))))⟩
  · have E : enL l1 e1 l2 e2 (al == ah) = l1 ∧ enH h1 e1 h2 e2 (al == ah) = h1 ∧ enE e1 e2 (al == ah) = e1 := by simp [enL, enH, enE, c1]
    rw [E.1, E.2.1, E.2.2]
    clear E
    go_enter Tryd.func55, Tryd.ntmps55
    go_wp2_with fail
    refine (A1' _ (hC.below hw (by repeat (first | with_reducible exact Below.refl _ _ | with_reducible refine bdrew ?_ | ((with_reducible first | refine bset ?_ ?_ | refine ball ?_ ?_ | refine bth (by assumption) ?_ ?_); first | omega | (simp <;> omega)))))).mono ?_
    rintro e w1 ⟨rfl, hb1⟩
    obtain ⟨hc1, hf1⟩ := bcell hb1
    have hz1 := hb1.size
    try simp only [World.size_alloc, World.size_setCell] at hz1
    try have : w.heap.size < w1.heap.size := by omega
    try have : w.heap.size < w1.heap.size + 1 := by omega
    try have : w.heap.size ≤ w1.heap.size := by omega
    try have : w.heap.size + 1 < w1.heap.size := by omega
    try have : w.heap.size + 1 < w1.heap.size + 1 := by omega
    try have : w.heap.size + 1 ≤ w1.heap.size := by omega
    have c1_0_0 : w1.cell? ⟨w.heap.size, 0, none⟩ = some (.int .i64 (al)) := by go_simp
    have c1_0_1 : w1.cell? ⟨w.heap.size, 1, none⟩ = some (.int .i64 (ah)) := by go_simp
    have c1_1_0 : w1.cell? ⟨w.heap.size + 1, 0, none⟩ = some (.int .i64 (0)) := by go_simp
    have g1_1_0 : w1.frozen? ⟨w.heap.size + 1, 0, none⟩ = false := by go_simp
    have c1_1_1 : w1.cell? ⟨w.heap.size + 1, 1, none⟩ = some (.int .i64 (0)) := by go_simp
    have g1_1_1 : w1.frozen? ⟨w.heap.size + 1, 1, none⟩ = false := by go_simp
    clear hc1 hf1
    go_wp2
    refine bodyPost_ret (v := .tuple #[.agg #[.int .i64 (l1), .int .i64 (h1)], .int .i64 e1]) (by simp only [results, Tryd.results55]; go_simp) rfl ⟨rfl, (by repeat (first | with_reducible exact Below.refl _ _ | with_reducible refine bdrew ?_ | ((with_reducible first | refine bset ?_ ?_ | refine ball ?_ ?_ | refine bth (by assumption) ?_ ?_); first | omega | (simp <;> omega))))⟩
end Go.Proofs.YtlcbcanlehackaaDoor
