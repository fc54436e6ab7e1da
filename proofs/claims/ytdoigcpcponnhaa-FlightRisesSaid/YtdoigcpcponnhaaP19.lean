/- Packed: RsR RsC. -/
import Derived.Test.YtdoigcpcponnhaaP18
set_option linter.unusedVariables false
set_option linter.unusedSimpArgs false
section
set_option maxRecDepth 1000000
namespace Go.Proofs.Ytdoigcpcponnhaa
open Go.RowKit
namespace SX
def pat90 : List LV := [.v (.agg [.a (.int .i64 (.var 0)), .a (.int .i64 (.var 1)), .a (.int .i64 (.var 2)), .a (.int .i64 (.var 3)), .a (.int .i64 (.var 4)), .a (.int .i64 (.var 5)), .a (.int .i64 (.var 6)), .a (.int .i64 (.var 7)), .a (.int .i64 (.var 8)), .a (.int .i64 (.var 9)), .a (.int .i64 (.var 10)), .a (.int .i64 (.var 11)), .a (.int .i64 (.var 12)), .a (.int .i64 (.var 13))]), .v (.s (.a (.fsl 0))), .v (.s (.a (.int .i64 (.var 15))))]
def pat91 : List LV := [.v (.agg [.a (.int .i64 (.var 0)), .a (.int .i64 (.var 1)), .a (.int .i64 (.var 2)), .a (.int .i64 (.var 3)), .a (.int .i64 (.var 4)), .a (.int .i64 (.var 5)), .a (.int .i64 (.var 6)), .a (.int .i64 (.var 7)), .a (.int .i64 (.var 8)), .a (.int .i64 (.var 9)), .a (.int .i64 (.var 10)), .a (.int .i64 (.var 11)), .a (.int .i64 (.var 12)), .a (.int .i64 (.var 13)), .a (.int .i64 (.var 14))]), .v (.agg [.a (.int .i64 (.var 15)), .a (.int .i64 (.var 16)), .a (.int .i64 (.var 17)), .a (.int .i64 (.var 18)), .a (.int .i64 (.var 19)), .a (.int .i64 (.var 20)), .a (.int .i64 (.var 21)), .a (.int .i64 (.var 22)), .a (.int .i64 (.var 23)), .a (.int .i64 (.var 24)), .a (.int .i64 (.var 25)), .a (.int .i64 (.var 26)), .a (.int .i64 (.var 27)), .a (.int .i64 (.var 28)), .a (.int .i64 (.var 29))])]
def sz90 : List (Option Nat) := [none, none, none]
def sz91 : List (Option Nat) := [some 15, none]
def ins80 : List LV := [.v (.agg [.a (.fsl 0)])]
def ins81 : List LV := [.v (.agg [.a (.int .i64 (.var 0)), .a (.int .i64 (.var 1)), .a (.int .i64 (.var 2)), .a (.int .i64 (.var 3)), .a (.int .i64 (.var 4)), .a (.int .i64 (.var 5)), .a (.int .i64 (.var 6)), .a (.int .i64 (.var 7)), .a (.int .i64 (.var 8)), .a (.int .i64 (.var 9)), .a (.int .i64 (.var 10)), .a (.int .i64 (.var 11)), .a (.int .i64 (.var 12)), .a (.int .i64 (.var 13)), .a (.int .i64 (.var 15)), .a (.fsl 0)])]
noncomputable def obR (f g : FuncId) (pat : List LV) : List Ob := (rd Try.prog KL 3000 (2^240) f pat []).2.2 ++ (rd Try.prog KL 3000 (2^240) g pat []).2.2
noncomputable def chkR (T : Env) (ob : Ob) : Bool := (match ob with
 | .loop s ins _ _ _ _ _ => (s == 80 && ins == ins80) || (s == 81 && ins == ins81)
 | _ => false) &&
 ((match ob with | .loop s _ _ _ _ _ _ => s == 80 | _ => false) && (chkLoop Try.prog (S3 T) shp2 KF 3000 (2^240) [0, 9, 10, 11, 12, 13, 14, 15, 16, 17, 18, 19, 20, 21, 22, 23, 24, 28, 29, 30, 31, 32, 33, 34] pcA L80 M80 e80 qL [(34, 165037502958559574976, a34)] [] ob || chkLoop Try.prog (S3 T) shp2 KF 3000 (2^240) [0, 9, 11, 12, 13, 14, 15, 16, 17, 18, 19, 20, 21, 22, 23, 24, 25, 26, 27, 28, 29, 30, 31, 32, 33, 34, 35, 36] pcA L80 M80 e80 qL [(34, 165037502958559574976, a34)] [] ob) ||
  (match ob with | .loop s _ _ _ _ _ _ => s == 81 | _ => false) && (chkLoop Try.prog (S3 T) shp2 KF 3000 (2^240) [0, 9, 10, 11, 12, 13, 14, 15, 16, 17, 18, 19, 20, 21, 22, 23, 24, 25, 26, 27, 28, 29, 30, 31, 32, 33, 34, 38, 39, 40, 41, 42, 43, 44, 45, 46, 47, 48, 49, 50, 51, 52, 53, 54, 55, 56, 57, 58, 59, 60, 61, 62, 63, 64, 65, 66, 67, 68, 69, 70] pcA L81P M81P e81P qL [(35, 181152725441364257472, a35P)] [(5514792918101402668, k1P), (6457617870863010381, k2P)] ob || chkLoop Try.prog (S3 T) shp2 KF 3000 (2^240) [0, 9, 10, 14, 15, 16, 17, 18, 19, 20, 21, 22, 23, 24, 25, 26, 27, 28, 29, 30, 31, 32, 33, 34, 35, 36, 37, 38, 39, 40, 41, 42, 43, 44, 45, 46, 47, 48, 49, 50, 51, 52, 53, 54, 55, 56, 57, 58, 59, 60, 61, 62, 63, 64, 65, 66, 67, 68, 69, 70, 71, 72, 73, 74, 75, 76, 77, 78, 79, 80] pcB L81D M81D e81D qL [(35, 195575034490975600128, a35D)] [(6655776254981958207, k1D), (5292758198529871969, k2D)] ob))
theorem rises_loops (T : Env) : (obR 4 5 pat90).all (fun ob => !ob.isM || chkR T ob) = true := by kernel_rfl
theorem rises_mem {T : Env} {w : World} (hT : TubesIn w T) {ε : Env} (h1 : ε.sa = T.sa) (h2 : ε.sn = T.sn) (h3 : ε.sc = T.sc) (h4 : ε.el = T.el) (hR : ∀ i, R64 (ε.i i)) (hs : ∀ ob ∈ obR 4 5 pat90, ob.sat (S3 T) ε) : ∀ ob ∈ obR 4 5 pat90, ob.isM = true → ob.ok Try.prog ε w := by
 intro ob hob hm
 have h := List.all_eq_true.1 (rises_loops T) ob hob
 rw [hm] at h
 have hsat := hs ob hob
 have hc := con3 w T
 cases ob with
 | loop s ins wy pc st nid tr =>
  simp only [Bool.not_true, Bool.false_or, chkR, Bool.and_eq_true, Bool.or_eq_true, beq_iff_eq] at h
  obtain ⟨ha, hb⟩ := h
  rcases ha with ⟨rfl, rfl⟩ | ⟨rfl, rfl⟩
  ·have hv : ∀ j, j < 32 → ε.i (163118637007984319936 + j) = clampI (v80 T j) ∧ ε.b (163118637007984319936 + j) = decide (clampI (v80 T j) ≠ 0) := fun j hj => by
    have := hsat j hj
    rw [show callBase 80 ins80 [] / 32 * 32 = 163118637007984319936 by kernel_rfl] at this
    exact this
   rcases hb with ⟨_, hb⟩ | ⟨h0, _⟩
   ·rcases hb with hb | hb
    ·exact loop80 hT hc hb h1 h2 h3 h4 hR hv
    ·exact loop80 hT hc hb h1 h2 h3 h4 hR hv
   ·cases h0
  ·have hv : ∀ j, j < 32 → ε.i (207923683223659972704 + j) = clampI (v81 T ((List.range 14).map ε.i ++ [ε.i 15, 0]) j) ∧ ε.b (207923683223659972704 + j) = decide (clampI (v81 T ((List.range 14).map ε.i ++ [ε.i 15, 0]) j) ≠ 0) := fun j hj => by
    have := hsat j hj
    rw [show callBase 81 ins81 [] / 32 * 32 = 207923683223659972704 by kernel_rfl] at this
    exact this
   rcases hb with ⟨h0, _⟩ | ⟨_, hb⟩
   ·cases h0
   ·rcases hb with hb | hb
    ·exact loop81P hT hc hb h1 h2 h3 h4 hR hv
    ·exact loop81D hT hc hb h1 h2 h3 h4 hR hv
 | req _ _ => simp [chkR] at h
 | lst _ _ _ _ => simp [chkR] at h
 | call _ _ _ _ _ _ => cases hm
 | eq _ _ => cases hm
 | eqb _ _ => cases hm
theorem pair90 (T : Env) : pairG Try.prog (S3 T) shp2 KL 3000 (2^240) 4 5 pat90 sz90 = true := by kernel_rfl
theorem pair91 (T : Env) : pairG Try.prog (S3 T) shp2 KL 3000 (2^240) 6 7 pat91 sz91 = true := by kernel_rfl
def l_risesP : List E := [(E.ite (E.cmp (CO.eql) (E.var 212311224018084962752) (E.lit 0)) (E.ite (E.cmp (CO.eql) (E.var 207732489823053610592) (E.lit 0)) (E.ite (E.bvar 163118637007984319967) (E.ite (E.bvar 207923683223659972735) (E.ite (E.cmp (CO.lss) (E.var 207923683223659972704) (E.lit 0)) (E.lit 0) (E.var 207923683223659972704)) (E.lit 0)) (E.lit 0)) (E.lit 0)) (E.lit 0)),
 (E.ite (E.cmp (CO.eql) (E.var 212311224018084962752) (E.lit 0)) (E.ite (E.cmp (CO.eql) (E.var 207732489823053610592) (E.lit 0)) (E.ite (E.bvar 163118637007984319967) (E.ite (E.bvar 207923683223659972735) (E.ite (E.cmp (CO.lss) (E.var 207923683223659972704) (E.lit 0)) (E.lit 0) (E.var 207923683223659972705)) (E.lit 0)) (E.lit 0)) (E.lit 0)) (E.lit 0)),
 (E.ite (E.cmp (CO.eql) (E.var 212311224018084962752) (E.lit 0)) (E.ite (E.cmp (CO.eql) (E.var 207732489823053610592) (E.lit 0)) (E.ite (E.bvar 163118637007984319967) (E.ite (E.bvar 207923683223659972735) (E.ite (E.cmp (CO.lss) (E.var 207923683223659972704) (E.lit 0)) (E.lit 7) (E.lit 0)) (E.var 207923683223659972707)) (E.lit 2)) (E.lit 2)) (E.lit 2))]
theorem l_risesP_is : flatLV (rd Try.prog KL 3000 (2^240) 4 pat90 []).1 = l_risesP := eq_of_beq (by kernel_rfl)
def l_risesQ : List E := [(E.ite (E.cmp (CO.eql) (E.var 212311224018084962752) (E.lit 0)) (E.ite (E.cmp (CO.lss) (E.var 15) (E.lit (-9223372036854775807))) (E.lit 0) (E.ite (E.bvar 163118637007984319967) (E.ite (E.bvar 207923683223659972735) (E.ite (E.cmp (CO.lss) (E.var 207923683223659972704) (E.lit 0)) (E.lit 0) (E.var 207923683223659972704)) (E.lit 0)) (E.lit 0))) (E.lit 0)),
 (E.ite (E.cmp (CO.eql) (E.var 212311224018084962752) (E.lit 0)) (E.ite (E.cmp (CO.lss) (E.var 15) (E.lit (-9223372036854775807))) (E.lit 0) (E.ite (E.bvar 163118637007984319967) (E.ite (E.bvar 207923683223659972735) (E.ite (E.cmp (CO.lss) (E.var 207923683223659972704) (E.lit 0)) (E.lit 0) (E.var 207923683223659972705)) (E.lit 0)) (E.lit 0))) (E.lit 0)),
 (E.ite (E.cmp (CO.eql) (E.var 212311224018084962752) (E.lit 0)) (E.ite (E.cmp (CO.lss) (E.var 15) (E.lit (-9223372036854775807))) (E.lit 2) (E.ite (E.bvar 163118637007984319967) (E.ite (E.bvar 207923683223659972735) (E.ite (E.cmp (CO.lss) (E.var 207923683223659972704) (E.lit 0)) (E.lit 7) (E.lit 0)) (E.var 207923683223659972707)) (E.lit 2))) (E.lit 2))]
theorem l_risesQ_is : flatLV (rd Try.prog KL 3000 (2^240) 5 pat90 []).1 = l_risesQ := eq_of_beq (by kernel_rfl)
def l_joP : List E := [(E.ite (E.cmp (CO.eql) (E.var 163942006097017662976) (E.lit 0)) (E.ite (E.cmp (CO.eql) (E.var 221311408401022837216) (E.lit 0)) (E.ite (E.cmp (CO.eql) (E.var 148444031516666876704) (E.lit 0)) (E.ite (E.cmp (CO.eql) (E.var 149363630927149122624) (E.lit 0)) (E.ite (E.cmp (CO.eql) (E.var 150283230337631368544) (E.lit 0)) (E.ite (E.cmp (CO.eql) (E.var 151202829748113614464) (E.lit 0)) (E.ite (E.cmp (CO.eql) (E.var 152122429158595860384) (E.lit 0)) (E.ite (E.cmp (CO.eql) (E.var 153042028569078106304) (E.lit 0)) (E.ite (E.cmp (CO.lss) (E.lit 0) (E.var 13)) (E.ite (E.cmp (CO.eql) (E.var 207732489823053610592) (E.lit 0)) (E.ite (E.cmp (CO.eql) (E.var 191314915832220578400) (E.lit 0)) (E.ite (E.cmp (CO.eql) (E.var 192234515242702824320) (E.lit 0)) (E.ite (E.cmp (CO.eql) (E.var 193154114653185070240) (E.lit 0)) (E.ite (E.cmp (CO.eql) (E.var 194073714063667316160) (E.lit 0)) (E.ite (E.cmp (CO.eql) (E.var 194993313474149562080) (E.lit 0)) (E.ite (E.cmp (CO.eql) (E.var 195912912884631808000) (E.lit 0)) (E.ite (E.cmp (CO.eql) (E.var 196832512295114053920) (E.lit 0)) (E.ite (E.cmp (CO.lss) (E.lit 0) (E.var 28)) (E.ite (E.cmp (CO.eql) (E.var 0) (E.var 15)) (E.ite (E.cmp (CO.eql) (E.var 5749368795766126993) (E.lit 0)) (E.var 0) (E.lit 0)) (E.lit 0)) (E.lit 0)) (E.lit 0)) (E.lit 0)) (E.lit 0)) (E.lit 0)) (E.lit 0)) (E.lit 0)) (E.lit 0)) (E.lit 0)) (E.lit 0)) (E.lit 0)) (E.lit 0)) (E.lit 0)) (E.lit 0)) (E.lit 0)) (E.lit 0)) (E.lit 0)) (E.lit 0)),
 (E.ite (E.cmp (CO.eql) (E.var 163942006097017662976) (E.lit 0)) (E.ite (E.cmp (CO.eql) (E.var 221311408401022837216) (E.lit 0)) (E.ite (E.cmp (CO.eql) (E.var 148444031516666876704) (E.lit 0)) (E.ite (E.cmp (CO.eql) (E.var 149363630927149122624) (E.lit 0)) (E.ite (E.cmp (CO.eql) (E.var 150283230337631368544) (E.lit 0)) (E.ite (E.cmp (CO.eql) (E.var 151202829748113614464) (E.lit 0)) (E.ite (E.cmp (CO.eql) (E.var 152122429158595860384) (E.lit 0)) (E.ite (E.cmp (CO.eql) (E.var 153042028569078106304) (E.lit 0)) (E.ite (E.cmp (CO.lss) (E.lit 0) (E.var 13)) (E.ite (E.cmp (CO.eql) (E.var 207732489823053610592) (E.lit 0)) (E.ite (E.cmp (CO.eql) (E.var 191314915832220578400) (E.lit 0)) (E.ite (E.cmp (CO.eql) (E.var 192234515242702824320) (E.lit 0)) (E.ite (E.cmp (CO.eql) (E.var 193154114653185070240) (E.lit 0)) (E.ite (E.cmp (CO.eql) (E.var 194073714063667316160) (E.lit 0)) (E.ite (E.cmp (CO.eql) (E.var 194993313474149562080) (E.lit 0)) (E.ite (E.cmp (CO.eql) (E.var 195912912884631808000) (E.lit 0)) (E.ite (E.cmp (CO.eql) (E.var 196832512295114053920) (E.lit 0)) (E.ite (E.cmp (CO.lss) (E.lit 0) (E.var 28)) (E.ite (E.cmp (CO.eql) (E.var 0) (E.var 15)) (E.ite (E.cmp (CO.eql) (E.var 5749368795766126993) (E.lit 0)) (E.ite (E.cmp (CO.eql) (E.var 197556356487982983234) (E.lit 0)) (E.var 197556356487982983232) (E.lit 0)) (E.lit 0)) (E.lit 0)) (E.lit 0)) (E.lit 0)) (E.lit 0)) (E.lit 0)) (E.lit 0)) (E.lit 0)) (E.lit 0)) (E.lit 0)) (E.lit 0)) (E.lit 0)) (E.lit 0)) (E.lit 0)) (E.lit 0)) (E.lit 0)) (E.lit 0)) (E.lit 0)) (E.lit 0)) (E.lit 0)),
 (E.ite (E.cmp (CO.eql) (E.var 163942006097017662976) (E.lit 0)) (E.ite (E.cmp (CO.eql) (E.var 221311408401022837216) (E.lit 0)) (E.ite (E.cmp (CO.eql) (E.var 148444031516666876704) (E.lit 0)) (E.ite (E.cmp (CO.eql) (E.var 149363630927149122624) (E.lit 0)) (E.ite (E.cmp (CO.eql) (E.var 150283230337631368544) (E.lit 0)) (E.ite (E.cmp (CO.eql) (E.var 151202829748113614464) (E.lit 0)) (E.ite (E.cmp (CO.eql) (E.var 152122429158595860384) (E.lit 0)) (E.ite (E.cmp (CO.eql) (E.var 153042028569078106304) (E.lit 0)) (E.ite (E.cmp (CO.lss) (E.lit 0) (E.var 13)) (E.ite (E.cmp (CO.eql) (E.var 207732489823053610592) (E.lit 0)) (E.ite (E.cmp (CO.eql) (E.var 191314915832220578400) (E.lit 0)) (E.ite (E.cmp (CO.eql) (E.var 192234515242702824320) (E.lit 0)) (E.ite (E.cmp (CO.eql) (E.var 193154114653185070240) (E.lit 0)) (E.ite (E.cmp (CO.eql) (E.var 194073714063667316160) (E.lit 0)) (E.ite (E.cmp (CO.eql) (E.var 194993313474149562080) (E.lit 0)) (E.ite (E.cmp (CO.eql) (E.var 195912912884631808000) (E.lit 0)) (E.ite (E.cmp (CO.eql) (E.var 196832512295114053920) (E.lit 0)) (E.ite (E.cmp (CO.lss) (E.lit 0) (E.var 28)) (E.ite (E.cmp (CO.eql) (E.var 0) (E.var 15)) (E.ite (E.cmp (CO.eql) (E.var 5749368795766126993) (E.lit 0)) (E.ite (E.cmp (CO.eql) (E.var 197556356487982983234) (E.lit 0)) (E.var 197556356487982983233) (E.lit 0)) (E.lit 0)) (E.lit 0)) (E.lit 0)) (E.lit 0)) (E.lit 0)) (E.lit 0)) (E.lit 0)) (E.lit 0)) (E.lit 0)) (E.lit 0)) (E.lit 0)) (E.lit 0)) (E.lit 0)) (E.lit 0)) (E.lit 0)) (E.lit 0)) (E.lit 0)) (E.lit 0)) (E.lit 0)) (E.lit 0)),
 (E.ite (E.cmp (CO.eql) (E.var 163942006097017662976) (E.lit 0)) (E.ite (E.cmp (CO.eql) (E.var 221311408401022837216) (E.lit 0)) (E.ite (E.cmp (CO.eql) (E.var 148444031516666876704) (E.lit 0)) (E.ite (E.cmp (CO.eql) (E.var 149363630927149122624) (E.lit 0)) (E.ite (E.cmp (CO.eql) (E.var 150283230337631368544) (E.lit 0)) (E.ite (E.cmp (CO.eql) (E.var 151202829748113614464) (E.lit 0)) (E.ite (E.cmp (CO.eql) (E.var 152122429158595860384) (E.lit 0)) (E.ite (E.cmp (CO.eql) (E.var 153042028569078106304) (E.lit 0)) (E.ite (E.cmp (CO.lss) (E.lit 0) (E.var 13)) (E.ite (E.cmp (CO.eql) (E.var 207732489823053610592) (E.lit 0)) (E.ite (E.cmp (CO.eql) (E.var 191314915832220578400) (E.lit 0)) (E.ite (E.cmp (CO.eql) (E.var 192234515242702824320) (E.lit 0)) (E.ite (E.cmp (CO.eql) (E.var 193154114653185070240) (E.lit 0)) (E.ite (E.cmp (CO.eql) (E.var 194073714063667316160) (E.lit 0)) (E.ite (E.cmp (CO.eql) (E.var 194993313474149562080) (E.lit 0)) (E.ite (E.cmp (CO.eql) (E.var 195912912884631808000) (E.lit 0)) (E.ite (E.cmp (CO.eql) (E.var 196832512295114053920) (E.lit 0)) (E.ite (E.cmp (CO.lss) (E.lit 0) (E.var 28)) (E.ite (E.cmp (CO.eql) (E.var 0) (E.var 15)) (E.ite (E.cmp (CO.eql) (E.var 5749368795766126993) (E.lit 0)) (E.ite (E.cmp (CO.eql) (E.var 5482173342672377314) (E.lit 0)) (E.var 5924258581437347615) (E.lit 0)) (E.lit 0)) (E.lit 0)) (E.lit 0)) (E.lit 0)) (E.lit 0)) (E.lit 0)) (E.lit 0)) (E.lit 0)) (E.lit 0)) (E.lit 0)) (E.lit 0)) (E.lit 0)) (E.lit 0)) (E.lit 0)) (E.lit 0)) (E.lit 0)) (E.lit 0)) (E.lit 0)) (E.lit 0)) (E.lit 0)),
 (E.ite (E.cmp (CO.eql) (E.var 163942006097017662976) (E.lit 0)) (E.ite (E.cmp (CO.eql) (E.var 221311408401022837216) (E.lit 0)) (E.ite (E.cmp (CO.eql) (E.var 148444031516666876704) (E.lit 0)) (E.ite (E.cmp (CO.eql) (E.var 149363630927149122624) (E.lit 0)) (E.ite (E.cmp (CO.eql) (E.var 150283230337631368544) (E.lit 0)) (E.ite (E.cmp (CO.eql) (E.var 151202829748113614464) (E.lit 0)) (E.ite (E.cmp (CO.eql) (E.var 152122429158595860384) (E.lit 0)) (E.ite (E.cmp (CO.eql) (E.var 153042028569078106304) (E.lit 0)) (E.ite (E.cmp (CO.lss) (E.lit 0) (E.var 13)) (E.ite (E.cmp (CO.eql) (E.var 207732489823053610592) (E.lit 0)) (E.ite (E.cmp (CO.eql) (E.var 191314915832220578400) (E.lit 0)) (E.ite (E.cmp (CO.eql) (E.var 192234515242702824320) (E.lit 0)) (E.ite (E.cmp (CO.eql) (E.var 193154114653185070240) (E.lit 0)) (E.ite (E.cmp (CO.eql) (E.var 194073714063667316160) (E.lit 0)) (E.ite (E.cmp (CO.eql) (E.var 194993313474149562080) (E.lit 0)) (E.ite (E.cmp (CO.eql) (E.var 195912912884631808000) (E.lit 0)) (E.ite (E.cmp (CO.eql) (E.var 196832512295114053920) (E.lit 0)) (E.ite (E.cmp (CO.lss) (E.lit 0) (E.var 28)) (E.ite (E.cmp (CO.eql) (E.var 0) (E.var 15)) (E.ite (E.cmp (CO.eql) (E.var 5749368795766126993) (E.lit 0)) (E.ite (E.cmp (CO.eql) (E.var 5482173342672377314) (E.lit 0)) (E.var 6863287906227903723) (E.lit 0)) (E.lit 0)) (E.lit 0)) (E.lit 0)) (E.lit 0)) (E.lit 0)) (E.lit 0)) (E.lit 0)) (E.lit 0)) (E.lit 0)) (E.lit 0)) (E.lit 0)) (E.lit 0)) (E.lit 0)) (E.lit 0)) (E.lit 0)) (E.lit 0)) (E.lit 0)) (E.lit 0)) (E.lit 0)) (E.lit 0)),
 (E.ite (E.cmp (CO.eql) (E.var 163942006097017662976) (E.lit 0)) (E.ite (E.cmp (CO.eql) (E.var 221311408401022837216) (E.lit 0)) (E.ite (E.cmp (CO.eql) (E.var 148444031516666876704) (E.lit 0)) (E.ite (E.cmp (CO.eql) (E.var 149363630927149122624) (E.lit 0)) (E.ite (E.cmp (CO.eql) (E.var 150283230337631368544) (E.lit 0)) (E.ite (E.cmp (CO.eql) (E.var 151202829748113614464) (E.lit 0)) (E.ite (E.cmp (CO.eql) (E.var 152122429158595860384) (E.lit 0)) (E.ite (E.cmp (CO.eql) (E.var 153042028569078106304) (E.lit 0)) (E.ite (E.cmp (CO.lss) (E.lit 0) (E.var 13)) (E.ite (E.cmp (CO.eql) (E.var 207732489823053610592) (E.lit 0)) (E.ite (E.cmp (CO.eql) (E.var 191314915832220578400) (E.lit 0)) (E.ite (E.cmp (CO.eql) (E.var 192234515242702824320) (E.lit 0)) (E.ite (E.cmp (CO.eql) (E.var 193154114653185070240) (E.lit 0)) (E.ite (E.cmp (CO.eql) (E.var 194073714063667316160) (E.lit 0)) (E.ite (E.cmp (CO.eql) (E.var 194993313474149562080) (E.lit 0)) (E.ite (E.cmp (CO.eql) (E.var 195912912884631808000) (E.lit 0)) (E.ite (E.cmp (CO.eql) (E.var 196832512295114053920) (E.lit 0)) (E.ite (E.cmp (CO.lss) (E.lit 0) (E.var 28)) (E.ite (E.cmp (CO.eql) (E.var 0) (E.var 15)) (E.ite (E.cmp (CO.eql) (E.var 5749368795766126993) (E.lit 0)) (E.ite (E.cmp (CO.eql) (E.var 4921713171630820274) (E.lit 0)) (E.var 6038166850711309235) (E.lit 0)) (E.lit 0)) (E.lit 0)) (E.lit 0)) (E.lit 0)) (E.lit 0)) (E.lit 0)) (E.lit 0)) (E.lit 0)) (E.lit 0)) (E.lit 0)) (E.lit 0)) (E.lit 0)) (E.lit 0)) (E.lit 0)) (E.lit 0)) (E.lit 0)) (E.lit 0)) (E.lit 0)) (E.lit 0)) (E.lit 0)),
 (E.ite (E.cmp (CO.eql) (E.var 163942006097017662976) (E.lit 0)) (E.ite (E.cmp (CO.eql) (E.var 221311408401022837216) (E.lit 0)) (E.ite (E.cmp (CO.eql) (E.var 148444031516666876704) (E.lit 0)) (E.ite (E.cmp (CO.eql) (E.var 149363630927149122624) (E.lit 0)) (E.ite (E.cmp (CO.eql) (E.var 150283230337631368544) (E.lit 0)) (E.ite (E.cmp (CO.eql) (E.var 151202829748113614464) (E.lit 0)) (E.ite (E.cmp (CO.eql) (E.var 152122429158595860384) (E.lit 0)) (E.ite (E.cmp (CO.eql) (E.var 153042028569078106304) (E.lit 0)) (E.ite (E.cmp (CO.lss) (E.lit 0) (E.var 13)) (E.ite (E.cmp (CO.eql) (E.var 207732489823053610592) (E.lit 0)) (E.ite (E.cmp (CO.eql) (E.var 191314915832220578400) (E.lit 0)) (E.ite (E.cmp (CO.eql) (E.var 192234515242702824320) (E.lit 0)) (E.ite (E.cmp (CO.eql) (E.var 193154114653185070240) (E.lit 0)) (E.ite (E.cmp (CO.eql) (E.var 194073714063667316160) (E.lit 0)) (E.ite (E.cmp (CO.eql) (E.var 194993313474149562080) (E.lit 0)) (E.ite (E.cmp (CO.eql) (E.var 195912912884631808000) (E.lit 0)) (E.ite (E.cmp (CO.eql) (E.var 196832512295114053920) (E.lit 0)) (E.ite (E.cmp (CO.lss) (E.lit 0) (E.var 28)) (E.ite (E.cmp (CO.eql) (E.var 0) (E.var 15)) (E.ite (E.cmp (CO.eql) (E.var 5749368795766126993) (E.lit 0)) (E.ite (E.cmp (CO.eql) (E.var 4921713171630820274) (E.lit 0)) (E.var 4671353166288171392) (E.lit 0)) (E.lit 0)) (E.lit 0)) (E.lit 0)) (E.lit 0)) (E.lit 0)) (E.lit 0)) (E.lit 0)) (E.lit 0)) (E.lit 0)) (E.lit 0)) (E.lit 0)) (E.lit 0)) (E.lit 0)) (E.lit 0)) (E.lit 0)) (E.lit 0)) (E.lit 0)) (E.lit 0)) (E.lit 0)) (E.lit 0)),
 (E.ite (E.cmp (CO.eql) (E.var 163942006097017662976) (E.lit 0)) (E.ite (E.cmp (CO.eql) (E.var 221311408401022837216) (E.lit 0)) (E.ite (E.cmp (CO.eql) (E.var 148444031516666876704) (E.lit 0)) (E.ite (E.cmp (CO.eql) (E.var 149363630927149122624) (E.lit 0)) (E.ite (E.cmp (CO.eql) (E.var 150283230337631368544) (E.lit 0)) (E.ite (E.cmp (CO.eql) (E.var 151202829748113614464) (E.lit 0)) (E.ite (E.cmp (CO.eql) (E.var 152122429158595860384) (E.lit 0)) (E.ite (E.cmp (CO.eql) (E.var 153042028569078106304) (E.lit 0)) (E.ite (E.cmp (CO.lss) (E.lit 0) (E.var 13)) (E.ite (E.cmp (CO.eql) (E.var 207732489823053610592) (E.lit 0)) (E.ite (E.cmp (CO.eql) (E.var 191314915832220578400) (E.lit 0)) (E.ite (E.cmp (CO.eql) (E.var 192234515242702824320) (E.lit 0)) (E.ite (E.cmp (CO.eql) (E.var 193154114653185070240) (E.lit 0)) (E.ite (E.cmp (CO.eql) (E.var 194073714063667316160) (E.lit 0)) (E.ite (E.cmp (CO.eql) (E.var 194993313474149562080) (E.lit 0)) (E.ite (E.cmp (CO.eql) (E.var 195912912884631808000) (E.lit 0)) (E.ite (E.cmp (CO.eql) (E.var 196832512295114053920) (E.lit 0)) (E.ite (E.cmp (CO.lss) (E.lit 0) (E.var 28)) (E.ite (E.cmp (CO.eql) (E.var 0) (E.var 15)) (E.ite (E.cmp (CO.eql) (E.var 5749368795766126993) (E.lit 0)) (E.ite (E.cmp (CO.eql) (E.var 6867803370832214250) (E.lit 0)) (E.var 5522437132174327113) (E.lit 0)) (E.lit 0)) (E.lit 0)) (E.lit 0)) (E.lit 0)) (E.lit 0)) (E.lit 0)) (E.lit 0)) (E.lit 0)) (E.lit 0)) (E.lit 0)) (E.lit 0)) (E.lit 0)) (E.lit 0)) (E.lit 0)) (E.lit 0)) (E.lit 0)) (E.lit 0)) (E.lit 0)) (E.lit 0)) (E.lit 0)),
 (E.ite (E.cmp (CO.eql) (E.var 163942006097017662976) (E.lit 0)) (E.ite (E.cmp (CO.eql) (E.var 221311408401022837216) (E.lit 0)) (E.ite (E.cmp (CO.eql) (E.var 148444031516666876704) (E.lit 0)) (E.ite (E.cmp (CO.eql) (E.var 149363630927149122624) (E.lit 0)) (E.ite (E.cmp (CO.eql) (E.var 150283230337631368544) (E.lit 0)) (E.ite (E.cmp (CO.eql) (E.var 151202829748113614464) (E.lit 0)) (E.ite (E.cmp (CO.eql) (E.var 152122429158595860384) (E.lit 0)) (E.ite (E.cmp (CO.eql) (E.var 153042028569078106304) (E.lit 0)) (E.ite (E.cmp (CO.lss) (E.lit 0) (E.var 13)) (E.ite (E.cmp (CO.eql) (E.var 207732489823053610592) (E.lit 0)) (E.ite (E.cmp (CO.eql) (E.var 191314915832220578400) (E.lit 0)) (E.ite (E.cmp (CO.eql) (E.var 192234515242702824320) (E.lit 0)) (E.ite (E.cmp (CO.eql) (E.var 193154114653185070240) (E.lit 0)) (E.ite (E.cmp (CO.eql) (E.var 194073714063667316160) (E.lit 0)) (E.ite (E.cmp (CO.eql) (E.var 194993313474149562080) (E.lit 0)) (E.ite (E.cmp (CO.eql) (E.var 195912912884631808000) (E.lit 0)) (E.ite (E.cmp (CO.eql) (E.var 196832512295114053920) (E.lit 0)) (E.ite (E.cmp (CO.lss) (E.lit 0) (E.var 28)) (E.ite (E.cmp (CO.eql) (E.var 0) (E.var 15)) (E.ite (E.cmp (CO.eql) (E.var 5749368795766126993) (E.lit 0)) (E.ite (E.cmp (CO.eql) (E.var 6867803370832214250) (E.lit 0)) (E.var 6461466456964883221) (E.lit 0)) (E.lit 0)) (E.lit 0)) (E.lit 0)) (E.lit 0)) (E.lit 0)) (E.lit 0)) (E.lit 0)) (E.lit 0)) (E.lit 0)) (E.lit 0)) (E.lit 0)) (E.lit 0)) (E.lit 0)) (E.lit 0)) (E.lit 0)) (E.lit 0)) (E.lit 0)) (E.lit 0)) (E.lit 0)) (E.lit 0)),
 (E.ite (E.cmp (CO.eql) (E.var 163942006097017662976) (E.lit 0)) (E.ite (E.cmp (CO.eql) (E.var 221311408401022837216) (E.lit 0)) (E.ite (E.cmp (CO.eql) (E.var 148444031516666876704) (E.lit 0)) (E.ite (E.cmp (CO.eql) (E.var 149363630927149122624) (E.lit 0)) (E.ite (E.cmp (CO.eql) (E.var 150283230337631368544) (E.lit 0)) (E.ite (E.cmp (CO.eql) (E.var 151202829748113614464) (E.lit 0)) (E.ite (E.cmp (CO.eql) (E.var 152122429158595860384) (E.lit 0)) (E.ite (E.cmp (CO.eql) (E.var 153042028569078106304) (E.lit 0)) (E.ite (E.cmp (CO.lss) (E.lit 0) (E.var 13)) (E.ite (E.cmp (CO.eql) (E.var 207732489823053610592) (E.lit 0)) (E.ite (E.cmp (CO.eql) (E.var 191314915832220578400) (E.lit 0)) (E.ite (E.cmp (CO.eql) (E.var 192234515242702824320) (E.lit 0)) (E.ite (E.cmp (CO.eql) (E.var 193154114653185070240) (E.lit 0)) (E.ite (E.cmp (CO.eql) (E.var 194073714063667316160) (E.lit 0)) (E.ite (E.cmp (CO.eql) (E.var 194993313474149562080) (E.lit 0)) (E.ite (E.cmp (CO.eql) (E.var 195912912884631808000) (E.lit 0)) (E.ite (E.cmp (CO.eql) (E.var 196832512295114053920) (E.lit 0)) (E.ite (E.cmp (CO.lss) (E.lit 0) (E.var 28)) (E.ite (E.cmp (CO.eql) (E.var 0) (E.var 15)) (E.ite (E.cmp (CO.eql) (E.var 5749368795766126993) (E.lit 0)) (E.ite (E.cmp (CO.eql) (E.var 6110854844952730517) (E.lit 0)) (E.var 6533545385049861917) (E.lit 0)) (E.lit 0)) (E.lit 0)) (E.lit 0)) (E.lit 0)) (E.lit 0)) (E.lit 0)) (E.lit 0)) (E.lit 0)) (E.lit 0)) (E.lit 0)) (E.lit 0)) (E.lit 0)) (E.lit 0)) (E.lit 0)) (E.lit 0)) (E.lit 0)) (E.lit 0)) (E.lit 0)) (E.lit 0)) (E.lit 0)),
 (E.ite (E.cmp (CO.eql) (E.var 163942006097017662976) (E.lit 0)) (E.ite (E.cmp (CO.eql) (E.var 221311408401022837216) (E.lit 0)) (E.ite (E.cmp (CO.eql) (E.var 148444031516666876704) (E.lit 0)) (E.ite (E.cmp (CO.eql) (E.var 149363630927149122624) (E.lit 0)) (E.ite (E.cmp (CO.eql) (E.var 150283230337631368544) (E.lit 0)) (E.ite (E.cmp (CO.eql) (E.var 151202829748113614464) (E.lit 0)) (E.ite (E.cmp (CO.eql) (E.var 152122429158595860384) (E.lit 0)) (E.ite (E.cmp (CO.eql) (E.var 153042028569078106304) (E.lit 0)) (E.ite (E.cmp (CO.lss) (E.lit 0) (E.var 13)) (E.ite (E.cmp (CO.eql) (E.var 207732489823053610592) (E.lit 0)) (E.ite (E.cmp (CO.eql) (E.var 191314915832220578400) (E.lit 0)) (E.ite (E.cmp (CO.eql) (E.var 192234515242702824320) (E.lit 0)) (E.ite (E.cmp (CO.eql) (E.var 193154114653185070240) (E.lit 0)) (E.ite (E.cmp (CO.eql) (E.var 194073714063667316160) (E.lit 0)) (E.ite (E.cmp (CO.eql) (E.var 194993313474149562080) (E.lit 0)) (E.ite (E.cmp (CO.eql) (E.var 195912912884631808000) (E.lit 0)) (E.ite (E.cmp (CO.eql) (E.var 196832512295114053920) (E.lit 0)) (E.ite (E.cmp (CO.lss) (E.lit 0) (E.var 28)) (E.ite (E.cmp (CO.eql) (E.var 0) (E.var 15)) (E.ite (E.cmp (CO.eql) (E.var 5749368795766126993) (E.lit 0)) (E.ite (E.cmp (CO.eql) (E.var 6110854844952730517) (E.lit 0)) (E.var 5166731700626724074) (E.lit 0)) (E.lit 0)) (E.lit 0)) (E.lit 0)) (E.lit 0)) (E.lit 0)) (E.lit 0)) (E.lit 0)) (E.lit 0)) (E.lit 0)) (E.lit 0)) (E.lit 0)) (E.lit 0)) (E.lit 0)) (E.lit 0)) (E.lit 0)) (E.lit 0)) (E.lit 0)) (E.lit 0)) (E.lit 0)) (E.lit 0)),
 (E.ite (E.cmp (CO.eql) (E.var 163942006097017662976) (E.lit 0)) (E.ite (E.cmp (CO.eql) (E.var 221311408401022837216) (E.lit 0)) (E.ite (E.cmp (CO.eql) (E.var 148444031516666876704) (E.lit 0)) (E.ite (E.cmp (CO.eql) (E.var 149363630927149122624) (E.lit 0)) (E.ite (E.cmp (CO.eql) (E.var 150283230337631368544) (E.lit 0)) (E.ite (E.cmp (CO.eql) (E.var 151202829748113614464) (E.lit 0)) (E.ite (E.cmp (CO.eql) (E.var 152122429158595860384) (E.lit 0)) (E.ite (E.cmp (CO.eql) (E.var 153042028569078106304) (E.lit 0)) (E.ite (E.cmp (CO.lss) (E.lit 0) (E.var 13)) (E.ite (E.cmp (CO.eql) (E.var 207732489823053610592) (E.lit 0)) (E.ite (E.cmp (CO.eql) (E.var 191314915832220578400) (E.lit 0)) (E.ite (E.cmp (CO.eql) (E.var 192234515242702824320) (E.lit 0)) (E.ite (E.cmp (CO.eql) (E.var 193154114653185070240) (E.lit 0)) (E.ite (E.cmp (CO.eql) (E.var 194073714063667316160) (E.lit 0)) (E.ite (E.cmp (CO.eql) (E.var 194993313474149562080) (E.lit 0)) (E.ite (E.cmp (CO.eql) (E.var 195912912884631808000) (E.lit 0)) (E.ite (E.cmp (CO.eql) (E.var 196832512295114053920) (E.lit 0)) (E.ite (E.cmp (CO.lss) (E.lit 0) (E.var 28)) (E.ite (E.cmp (CO.eql) (E.var 0) (E.var 15)) (E.ite (E.cmp (CO.eql) (E.var 5749368795766126993) (E.lit 0)) (E.ite (E.cmp (CO.eql) (E.var 4944629843000125340) (E.lit 0)) (E.var 4703818443980797717) (E.lit 0)) (E.lit 0)) (E.lit 0)) (E.lit 0)) (E.lit 0)) (E.lit 0)) (E.lit 0)) (E.lit 0)) (E.lit 0)) (E.lit 0)) (E.lit 0)) (E.lit 0)) (E.lit 0)) (E.lit 0)) (E.lit 0)) (E.lit 0)) (E.lit 0)) (E.lit 0)) (E.lit 0)) (E.lit 0)) (E.lit 0)),
 (E.ite (E.cmp (CO.eql) (E.var 163942006097017662976) (E.lit 0)) (E.ite (E.cmp (CO.eql) (E.var 221311408401022837216) (E.lit 0)) (E.ite (E.cmp (CO.eql) (E.var 148444031516666876704) (E.lit 0)) (E.ite (E.cmp (CO.eql) (E.var 149363630927149122624) (E.lit 0)) (E.ite (E.cmp (CO.eql) (E.var 150283230337631368544) (E.lit 0)) (E.ite (E.cmp (CO.eql) (E.var 151202829748113614464) (E.lit 0)) (E.ite (E.cmp (CO.eql) (E.var 152122429158595860384) (E.lit 0)) (E.ite (E.cmp (CO.eql) (E.var 153042028569078106304) (E.lit 0)) (E.ite (E.cmp (CO.lss) (E.lit 0) (E.var 13)) (E.ite (E.cmp (CO.eql) (E.var 207732489823053610592) (E.lit 0)) (E.ite (E.cmp (CO.eql) (E.var 191314915832220578400) (E.lit 0)) (E.ite (E.cmp (CO.eql) (E.var 192234515242702824320) (E.lit 0)) (E.ite (E.cmp (CO.eql) (E.var 193154114653185070240) (E.lit 0)) (E.ite (E.cmp (CO.eql) (E.var 194073714063667316160) (E.lit 0)) (E.ite (E.cmp (CO.eql) (E.var 194993313474149562080) (E.lit 0)) (E.ite (E.cmp (CO.eql) (E.var 195912912884631808000) (E.lit 0)) (E.ite (E.cmp (CO.eql) (E.var 196832512295114053920) (E.lit 0)) (E.ite (E.cmp (CO.lss) (E.lit 0) (E.var 28)) (E.ite (E.cmp (CO.eql) (E.var 0) (E.var 15)) (E.ite (E.cmp (CO.eql) (E.var 5749368795766126993) (E.lit 0)) (E.ite (E.cmp (CO.eql) (E.var 4944629843000125340) (E.lit 0)) (E.var 5642847768771353825) (E.lit 0)) (E.lit 0)) (E.lit 0)) (E.lit 0)) (E.lit 0)) (E.lit 0)) (E.lit 0)) (E.lit 0)) (E.lit 0)) (E.lit 0)) (E.lit 0)) (E.lit 0)) (E.lit 0)) (E.lit 0)) (E.lit 0)) (E.lit 0)) (E.lit 0)) (E.lit 0)) (E.lit 0)) (E.lit 0)) (E.lit 0)),
 (E.ite (E.cmp (CO.eql) (E.var 163942006097017662976) (E.lit 0)) (E.ite (E.cmp (CO.eql) (E.var 221311408401022837216) (E.lit 0)) (E.ite (E.cmp (CO.eql) (E.var 148444031516666876704) (E.lit 0)) (E.ite (E.cmp (CO.eql) (E.var 149363630927149122624) (E.lit 0)) (E.ite (E.cmp (CO.eql) (E.var 150283230337631368544) (E.lit 0)) (E.ite (E.cmp (CO.eql) (E.var 151202829748113614464) (E.lit 0)) (E.ite (E.cmp (CO.eql) (E.var 152122429158595860384) (E.lit 0)) (E.ite (E.cmp (CO.eql) (E.var 153042028569078106304) (E.lit 0)) (E.ite (E.cmp (CO.lss) (E.lit 0) (E.var 13)) (E.ite (E.cmp (CO.eql) (E.var 207732489823053610592) (E.lit 0)) (E.ite (E.cmp (CO.eql) (E.var 191314915832220578400) (E.lit 0)) (E.ite (E.cmp (CO.eql) (E.var 192234515242702824320) (E.lit 0)) (E.ite (E.cmp (CO.eql) (E.var 193154114653185070240) (E.lit 0)) (E.ite (E.cmp (CO.eql) (E.var 194073714063667316160) (E.lit 0)) (E.ite (E.cmp (CO.eql) (E.var 194993313474149562080) (E.lit 0)) (E.ite (E.cmp (CO.eql) (E.var 195912912884631808000) (E.lit 0)) (E.ite (E.cmp (CO.eql) (E.var 196832512295114053920) (E.lit 0)) (E.ite (E.cmp (CO.lss) (E.lit 0) (E.var 28)) (E.ite (E.cmp (CO.eql) (E.var 0) (E.var 15)) (E.ite (E.cmp (CO.eql) (E.var 5749368795766126993) (E.lit 0)) (E.var 6138740112405261601) (E.lit 0)) (E.lit 0)) (E.lit 0)) (E.lit 0)) (E.lit 0)) (E.lit 0)) (E.lit 0)) (E.lit 0)) (E.lit 0)) (E.lit 0)) (E.lit 0)) (E.lit 0)) (E.lit 0)) (E.lit 0)) (E.lit 0)) (E.lit 0)) (E.lit 0)) (E.lit 0)) (E.lit 0)) (E.lit 0)),
 (E.ite (E.cmp (CO.eql) (E.var 163942006097017662976) (E.lit 0)) (E.ite (E.cmp (CO.eql) (E.var 221311408401022837216) (E.lit 0)) (E.ite (E.cmp (CO.eql) (E.var 148444031516666876704) (E.lit 0)) (E.ite (E.cmp (CO.eql) (E.var 149363630927149122624) (E.lit 0)) (E.ite (E.cmp (CO.eql) (E.var 150283230337631368544) (E.lit 0)) (E.ite (E.cmp (CO.eql) (E.var 151202829748113614464) (E.lit 0)) (E.ite (E.cmp (CO.eql) (E.var 152122429158595860384) (E.lit 0)) (E.ite (E.cmp (CO.eql) (E.var 153042028569078106304) (E.lit 0)) (E.ite (E.cmp (CO.lss) (E.lit 0) (E.var 13)) (E.ite (E.cmp (CO.eql) (E.var 207732489823053610592) (E.lit 0)) (E.ite (E.cmp (CO.eql) (E.var 191314915832220578400) (E.lit 0)) (E.ite (E.cmp (CO.eql) (E.var 192234515242702824320) (E.lit 0)) (E.ite (E.cmp (CO.eql) (E.var 193154114653185070240) (E.lit 0)) (E.ite (E.cmp (CO.eql) (E.var 194073714063667316160) (E.lit 0)) (E.ite (E.cmp (CO.eql) (E.var 194993313474149562080) (E.lit 0)) (E.ite (E.cmp (CO.eql) (E.var 195912912884631808000) (E.lit 0)) (E.ite (E.cmp (CO.eql) (E.var 196832512295114053920) (E.lit 0)) (E.ite (E.cmp (CO.lss) (E.lit 0) (E.var 28)) (E.ite (E.cmp (CO.eql) (E.var 0) (E.var 15)) (E.ite (E.cmp (CO.eql) (E.var 5749368795766126993) (E.lit 0)) (E.var 4771926427982123758) (E.lit 0)) (E.lit 0)) (E.lit 0)) (E.lit 0)) (E.lit 0)) (E.lit 0)) (E.lit 0)) (E.lit 0)) (E.lit 0)) (E.lit 0)) (E.lit 0)) (E.lit 0)) (E.lit 0)) (E.lit 0)) (E.lit 0)) (E.lit 0)) (E.lit 0)) (E.lit 0)) (E.lit 0)) (E.lit 0)),
 (E.ite (E.cmp (CO.eql) (E.var 163942006097017662976) (E.lit 0)) (E.ite (E.cmp (CO.eql) (E.var 221311408401022837216) (E.lit 0)) (E.ite (E.cmp (CO.eql) (E.var 148444031516666876704) (E.lit 0)) (E.ite (E.cmp (CO.eql) (E.var 149363630927149122624) (E.lit 0)) (E.ite (E.cmp (CO.eql) (E.var 150283230337631368544) (E.lit 0)) (E.ite (E.cmp (CO.eql) (E.var 151202829748113614464) (E.lit 0)) (E.ite (E.cmp (CO.eql) (E.var 152122429158595860384) (E.lit 0)) (E.ite (E.cmp (CO.eql) (E.var 153042028569078106304) (E.lit 0)) (E.ite (E.cmp (CO.lss) (E.lit 0) (E.var 13)) (E.ite (E.cmp (CO.eql) (E.var 207732489823053610592) (E.lit 0)) (E.ite (E.cmp (CO.eql) (E.var 191314915832220578400) (E.lit 0)) (E.ite (E.cmp (CO.eql) (E.var 192234515242702824320) (E.lit 0)) (E.ite (E.cmp (CO.eql) (E.var 193154114653185070240) (E.lit 0)) (E.ite (E.cmp (CO.eql) (E.var 194073714063667316160) (E.lit 0)) (E.ite (E.cmp (CO.eql) (E.var 194993313474149562080) (E.lit 0)) (E.ite (E.cmp (CO.eql) (E.var 195912912884631808000) (E.lit 0)) (E.ite (E.cmp (CO.eql) (E.var 196832512295114053920) (E.lit 0)) (E.ite (E.cmp (CO.lss) (E.lit 0) (E.var 28)) (E.ite (E.cmp (CO.eql) (E.var 0) (E.var 15)) (E.ite (E.cmp (CO.eql) (E.var 5749368795766126993) (E.lit 0)) (E.lit 0) (E.var 5749368795766126993)) (E.lit 9)) (E.lit 2)) (E.lit 2)) (E.lit 2)) (E.lit 2)) (E.lit 2)) (E.lit 2)) (E.lit 2)) (E.lit 2)) (E.lit 2)) (E.lit 2)) (E.lit 2)) (E.lit 2)) (E.lit 2)) (E.lit 2)) (E.lit 2)) (E.lit 2)) (E.lit 2)) (E.lit 2))]
theorem l_joP_is : flatLV (rd Try.prog KL 3000 (2^240) 6 pat91 []).1 = l_joP := eq_of_beq (by kernel_rfl)
def l_joQ : List E := [(E.ite (E.cmp (CO.lss) (E.var 0) (E.lit (-9223372036854775807))) (E.lit 0) (E.ite (E.cmp (CO.eql) (E.var 221311408401022837216) (E.lit 0)) (E.ite (E.cmp (CO.eql) (E.var 148444031516666876704) (E.lit 0)) (E.ite (E.cmp (CO.eql) (E.var 149363630927149122624) (E.lit 0)) (E.ite (E.cmp (CO.eql) (E.var 150283230337631368544) (E.lit 0)) (E.ite (E.cmp (CO.eql) (E.var 151202829748113614464) (E.lit 0)) (E.ite (E.cmp (CO.eql) (E.var 152122429158595860384) (E.lit 0)) (E.ite (E.cmp (CO.eql) (E.var 153042028569078106304) (E.lit 0)) (E.ite (E.cmp (CO.lss) (E.var 13) (E.lit 1)) (E.lit 0) (E.ite (E.cmp (CO.lss) (E.var 15) (E.lit (-9223372036854775807))) (E.lit 0) (E.ite (E.cmp (CO.eql) (E.var 191314915832220578400) (E.lit 0)) (E.ite (E.cmp (CO.eql) (E.var 192234515242702824320) (E.lit 0)) (E.ite (E.cmp (CO.eql) (E.var 193154114653185070240) (E.lit 0)) (E.ite (E.cmp (CO.eql) (E.var 194073714063667316160) (E.lit 0)) (E.ite (E.cmp (CO.eql) (E.var 194993313474149562080) (E.lit 0)) (E.ite (E.cmp (CO.eql) (E.var 195912912884631808000) (E.lit 0)) (E.ite (E.cmp (CO.eql) (E.var 196832512295114053920) (E.lit 0)) (E.ite (E.cmp (CO.lss) (E.var 28) (E.lit 1)) (E.lit 0) (E.ite (E.cmp (CO.eql) (E.var 0) (E.var 15)) (E.ite (E.cmp (CO.eql) (E.var 5828689251902642502) (E.lit 0)) (E.var 0) (E.lit 0)) (E.lit 0))) (E.lit 0)) (E.lit 0)) (E.lit 0)) (E.lit 0)) (E.lit 0)) (E.lit 0)) (E.lit 0)))) (E.lit 0)) (E.lit 0)) (E.lit 0)) (E.lit 0)) (E.lit 0)) (E.lit 0)) (E.lit 0))),
 (E.ite (E.cmp (CO.lss) (E.var 0) (E.lit (-9223372036854775807))) (E.lit 0) (E.ite (E.cmp (CO.eql) (E.var 221311408401022837216) (E.lit 0)) (E.ite (E.cmp (CO.eql) (E.var 148444031516666876704) (E.lit 0)) (E.ite (E.cmp (CO.eql) (E.var 149363630927149122624) (E.lit 0)) (E.ite (E.cmp (CO.eql) (E.var 150283230337631368544) (E.lit 0)) (E.ite (E.cmp (CO.eql) (E.var 151202829748113614464) (E.lit 0)) (E.ite (E.cmp (CO.eql) (E.var 152122429158595860384) (E.lit 0)) (E.ite (E.cmp (CO.eql) (E.var 153042028569078106304) (E.lit 0)) (E.ite (E.cmp (CO.lss) (E.var 13) (E.lit 1)) (E.lit 0) (E.ite (E.cmp (CO.lss) (E.var 15) (E.lit (-9223372036854775807))) (E.lit 0) (E.ite (E.cmp (CO.eql) (E.var 191314915832220578400) (E.lit 0)) (E.ite (E.cmp (CO.eql) (E.var 192234515242702824320) (E.lit 0)) (E.ite (E.cmp (CO.eql) (E.var 193154114653185070240) (E.lit 0)) (E.ite (E.cmp (CO.eql) (E.var 194073714063667316160) (E.lit 0)) (E.ite (E.cmp (CO.eql) (E.var 194993313474149562080) (E.lit 0)) (E.ite (E.cmp (CO.eql) (E.var 195912912884631808000) (E.lit 0)) (E.ite (E.cmp (CO.eql) (E.var 196832512295114053920) (E.lit 0)) (E.ite (E.cmp (CO.lss) (E.var 28) (E.lit 1)) (E.lit 0) (E.ite (E.cmp (CO.eql) (E.var 0) (E.var 15)) (E.ite (E.cmp (CO.eql) (E.var 5828689251902642502) (E.lit 0)) (E.ite (E.cmp (CO.eql) (E.var 197556356487982983234) (E.lit 0)) (E.var 197556356487982983232) (E.lit 0)) (E.lit 0)) (E.lit 0))) (E.lit 0)) (E.lit 0)) (E.lit 0)) (E.lit 0)) (E.lit 0)) (E.lit 0)) (E.lit 0)))) (E.lit 0)) (E.lit 0)) (E.lit 0)) (E.lit 0)) (E.lit 0)) (E.lit 0)) (E.lit 0))),
 (E.ite (E.cmp (CO.lss) (E.var 0) (E.lit (-9223372036854775807))) (E.lit 0) (E.ite (E.cmp (CO.eql) (E.var 221311408401022837216) (E.lit 0)) (E.ite (E.cmp (CO.eql) (E.var 148444031516666876704) (E.lit 0)) (E.ite (E.cmp (CO.eql) (E.var 149363630927149122624) (E.lit 0)) (E.ite (E.cmp (CO.eql) (E.var 150283230337631368544) (E.lit 0)) (E.ite (E.cmp (CO.eql) (E.var 151202829748113614464) (E.lit 0)) (E.ite (E.cmp (CO.eql) (E.var 152122429158595860384) (E.lit 0)) (E.ite (E.cmp (CO.eql) (E.var 153042028569078106304) (E.lit 0)) (E.ite (E.cmp (CO.lss) (E.var 13) (E.lit 1)) (E.lit 0) (E.ite (E.cmp (CO.lss) (E.var 15) (E.lit (-9223372036854775807))) (E.lit 0) (E.ite (E.cmp (CO.eql) (E.var 191314915832220578400) (E.lit 0)) (E.ite (E.cmp (CO.eql) (E.var 192234515242702824320) (E.lit 0)) (E.ite (E.cmp (CO.eql) (E.var 193154114653185070240) (E.lit 0)) (E.ite (E.cmp (CO.eql) (E.var 194073714063667316160) (E.lit 0)) (E.ite (E.cmp (CO.eql) (E.var 194993313474149562080) (E.lit 0)) (E.ite (E.cmp (CO.eql) (E.var 195912912884631808000) (E.lit 0)) (E.ite (E.cmp (CO.eql) (E.var 196832512295114053920) (E.lit 0)) (E.ite (E.cmp (CO.lss) (E.var 28) (E.lit 1)) (E.lit 0) (E.ite (E.cmp (CO.eql) (E.var 0) (E.var 15)) (E.ite (E.cmp (CO.eql) (E.var 5828689251902642502) (E.lit 0)) (E.ite (E.cmp (CO.eql) (E.var 197556356487982983234) (E.lit 0)) (E.var 197556356487982983233) (E.lit 0)) (E.lit 0)) (E.lit 0))) (E.lit 0)) (E.lit 0)) (E.lit 0)) (E.lit 0)) (E.lit 0)) (E.lit 0)) (E.lit 0)))) (E.lit 0)) (E.lit 0)) (E.lit 0)) (E.lit 0)) (E.lit 0)) (E.lit 0)) (E.lit 0))),
 (E.ite (E.cmp (CO.lss) (E.var 0) (E.lit (-9223372036854775807))) (E.lit 0) (E.ite (E.cmp (CO.eql) (E.var 221311408401022837216) (E.lit 0)) (E.ite (E.cmp (CO.eql) (E.var 148444031516666876704) (E.lit 0)) (E.ite (E.cmp (CO.eql) (E.var 149363630927149122624) (E.lit 0)) (E.ite (E.cmp (CO.eql) (E.var 150283230337631368544) (E.lit 0)) (E.ite (E.cmp (CO.eql) (E.var 151202829748113614464) (E.lit 0)) (E.ite (E.cmp (CO.eql) (E.var 152122429158595860384) (E.lit 0)) (E.ite (E.cmp (CO.eql) (E.var 153042028569078106304) (E.lit 0)) (E.ite (E.cmp (CO.lss) (E.var 13) (E.lit 1)) (E.lit 0) (E.ite (E.cmp (CO.lss) (E.var 15) (E.lit (-9223372036854775807))) (E.lit 0) (E.ite (E.cmp (CO.eql) (E.var 191314915832220578400) (E.lit 0)) (E.ite (E.cmp (CO.eql) (E.var 192234515242702824320) (E.lit 0)) (E.ite (E.cmp (CO.eql) (E.var 193154114653185070240) (E.lit 0)) (E.ite (E.cmp (CO.eql) (E.var 194073714063667316160) (E.lit 0)) (E.ite (E.cmp (CO.eql) (E.var 194993313474149562080) (E.lit 0)) (E.ite (E.cmp (CO.eql) (E.var 195912912884631808000) (E.lit 0)) (E.ite (E.cmp (CO.eql) (E.var 196832512295114053920) (E.lit 0)) (E.ite (E.cmp (CO.lss) (E.var 28) (E.lit 1)) (E.lit 0) (E.ite (E.cmp (CO.eql) (E.var 0) (E.var 15)) (E.ite (E.cmp (CO.eql) (E.var 5828689251902642502) (E.lit 0)) (E.ite (E.cmp (CO.eql) (E.var 5217907113935633157) (E.lit 0)) (E.var 5046971789792777604) (E.lit 0)) (E.lit 0)) (E.lit 0))) (E.lit 0)) (E.lit 0)) (E.lit 0)) (E.lit 0)) (E.lit 0)) (E.lit 0)) (E.lit 0)))) (E.lit 0)) (E.lit 0)) (E.lit 0)) (E.lit 0)) (E.lit 0)) (E.lit 0)) (E.lit 0))),
 (E.ite (E.cmp (CO.lss) (E.var 0) (E.lit (-9223372036854775807))) (E.lit 0) (E.ite (E.cmp (CO.eql) (E.var 221311408401022837216) (E.lit 0)) (E.ite (E.cmp (CO.eql) (E.var 148444031516666876704) (E.lit 0)) (E.ite (E.cmp (CO.eql) (E.var 149363630927149122624) (E.lit 0)) (E.ite (E.cmp (CO.eql) (E.var 150283230337631368544) (E.lit 0)) (E.ite (E.cmp (CO.eql) (E.var 151202829748113614464) (E.lit 0)) (E.ite (E.cmp (CO.eql) (E.var 152122429158595860384) (E.lit 0)) (E.ite (E.cmp (CO.eql) (E.var 153042028569078106304) (E.lit 0)) (E.ite (E.cmp (CO.lss) (E.var 13) (E.lit 1)) (E.lit 0) (E.ite (E.cmp (CO.lss) (E.var 15) (E.lit (-9223372036854775807))) (E.lit 0) (E.ite (E.cmp (CO.eql) (E.var 191314915832220578400) (E.lit 0)) (E.ite (E.cmp (CO.eql) (E.var 192234515242702824320) (E.lit 0)) (E.ite (E.cmp (CO.eql) (E.var 193154114653185070240) (E.lit 0)) (E.ite (E.cmp (CO.eql) (E.var 194073714063667316160) (E.lit 0)) (E.ite (E.cmp (CO.eql) (E.var 194993313474149562080) (E.lit 0)) (E.ite (E.cmp (CO.eql) (E.var 195912912884631808000) (E.lit 0)) (E.ite (E.cmp (CO.eql) (E.var 196832512295114053920) (E.lit 0)) (E.ite (E.cmp (CO.lss) (E.var 28) (E.lit 1)) (E.lit 0) (E.ite (E.cmp (CO.eql) (E.var 0) (E.var 15)) (E.ite (E.cmp (CO.eql) (E.var 5828689251902642502) (E.lit 0)) (E.ite (E.cmp (CO.eql) (E.var 5217907113935633157) (E.lit 0)) (E.var 5986001114583333712) (E.lit 0)) (E.lit 0)) (E.lit 0))) (E.lit 0)) (E.lit 0)) (E.lit 0)) (E.lit 0)) (E.lit 0)) (E.lit 0)) (E.lit 0)))) (E.lit 0)) (E.lit 0)) (E.lit 0)) (E.lit 0)) (E.lit 0)) (E.lit 0)) (E.lit 0))),
 (E.ite (E.cmp (CO.lss) (E.var 0) (E.lit (-9223372036854775807))) (E.lit 0) (E.ite (E.cmp (CO.eql) (E.var 221311408401022837216) (E.lit 0)) (E.ite (E.cmp (CO.eql) (E.var 148444031516666876704) (E.lit 0)) (E.ite (E.cmp (CO.eql) (E.var 149363630927149122624) (E.lit 0)) (E.ite (E.cmp (CO.eql) (E.var 150283230337631368544) (E.lit 0)) (E.ite (E.cmp (CO.eql) (E.var 151202829748113614464) (E.lit 0)) (E.ite (E.cmp (CO.eql) (E.var 152122429158595860384) (E.lit 0)) (E.ite (E.cmp (CO.eql) (E.var 153042028569078106304) (E.lit 0)) (E.ite (E.cmp (CO.lss) (E.var 13) (E.lit 1)) (E.lit 0) (E.ite (E.cmp (CO.lss) (E.var 15) (E.lit (-9223372036854775807))) (E.lit 0) (E.ite (E.cmp (CO.eql) (E.var 191314915832220578400) (E.lit 0)) (E.ite (E.cmp (CO.eql) (E.var 192234515242702824320) (E.lit 0)) (E.ite (E.cmp (CO.eql) (E.var 193154114653185070240) (E.lit 0)) (E.ite (E.cmp (CO.eql) (E.var 194073714063667316160) (E.lit 0)) (E.ite (E.cmp (CO.eql) (E.var 194993313474149562080) (E.lit 0)) (E.ite (E.cmp (CO.eql) (E.var 195912912884631808000) (E.lit 0)) (E.ite (E.cmp (CO.eql) (E.var 196832512295114053920) (E.lit 0)) (E.ite (E.cmp (CO.lss) (E.var 28) (E.lit 1)) (E.lit 0) (E.ite (E.cmp (CO.eql) (E.var 0) (E.var 15)) (E.ite (E.cmp (CO.eql) (E.var 5828689251902642502) (E.lit 0)) (E.ite (E.cmp (CO.eql) (E.var 5207089142170655883) (E.lit 0)) (E.var 6602253292301508864) (E.lit 0)) (E.lit 0)) (E.lit 0))) (E.lit 0)) (E.lit 0)) (E.lit 0)) (E.lit 0)) (E.lit 0)) (E.lit 0)) (E.lit 0)))) (E.lit 0)) (E.lit 0)) (E.lit 0)) (E.lit 0)) (E.lit 0)) (E.lit 0)) (E.lit 0))),
 (E.ite (E.cmp (CO.lss) (E.var 0) (E.lit (-9223372036854775807))) (E.lit 0) (E.ite (E.cmp (CO.eql) (E.var 221311408401022837216) (E.lit 0)) (E.ite (E.cmp (CO.eql) (E.var 148444031516666876704) (E.lit 0)) (E.ite (E.cmp (CO.eql) (E.var 149363630927149122624) (E.lit 0)) (E.ite (E.cmp (CO.eql) (E.var 150283230337631368544) (E.lit 0)) (E.ite (E.cmp (CO.eql) (E.var 151202829748113614464) (E.lit 0)) (E.ite (E.cmp (CO.eql) (E.var 152122429158595860384) (E.lit 0)) (E.ite (E.cmp (CO.eql) (E.var 153042028569078106304) (E.lit 0)) (E.ite (E.cmp (CO.lss) (E.var 13) (E.lit 1)) (E.lit 0) (E.ite (E.cmp (CO.lss) (E.var 15) (E.lit (-9223372036854775807))) (E.lit 0) (E.ite (E.cmp (CO.eql) (E.var 191314915832220578400) (E.lit 0)) (E.ite (E.cmp (CO.eql) (E.var 192234515242702824320) (E.lit 0)) (E.ite (E.cmp (CO.eql) (E.var 193154114653185070240) (E.lit 0)) (E.ite (E.cmp (CO.eql) (E.var 194073714063667316160) (E.lit 0)) (E.ite (E.cmp (CO.eql) (E.var 194993313474149562080) (E.lit 0)) (E.ite (E.cmp (CO.eql) (E.var 195912912884631808000) (E.lit 0)) (E.ite (E.cmp (CO.eql) (E.var 196832512295114053920) (E.lit 0)) (E.ite (E.cmp (CO.lss) (E.var 28) (E.lit 1)) (E.lit 0) (E.ite (E.cmp (CO.eql) (E.var 0) (E.var 15)) (E.ite (E.cmp (CO.eql) (E.var 5828689251902642502) (E.lit 0)) (E.ite (E.cmp (CO.eql) (E.var 5207089142170655883) (E.lit 0)) (E.var 5235439607878371021) (E.lit 0)) (E.lit 0)) (E.lit 0))) (E.lit 0)) (E.lit 0)) (E.lit 0)) (E.lit 0)) (E.lit 0)) (E.lit 0)) (E.lit 0)))) (E.lit 0)) (E.lit 0)) (E.lit 0)) (E.lit 0)) (E.lit 0)) (E.lit 0)) (E.lit 0))),
 (E.ite (E.cmp (CO.lss) (E.var 0) (E.lit (-9223372036854775807))) (E.lit 0) (E.ite (E.cmp (CO.eql) (E.var 221311408401022837216) (E.lit 0)) (E.ite (E.cmp (CO.eql) (E.var 148444031516666876704) (E.lit 0)) (E.ite (E.cmp (CO.eql) (E.var 149363630927149122624) (E.lit 0)) (E.ite (E.cmp (CO.eql) (E.var 150283230337631368544) (E.lit 0)) (E.ite (E.cmp (CO.eql) (E.var 151202829748113614464) (E.lit 0)) (E.ite (E.cmp (CO.eql) (E.var 152122429158595860384) (E.lit 0)) (E.ite (E.cmp (CO.eql) (E.var 153042028569078106304) (E.lit 0)) (E.ite (E.cmp (CO.lss) (E.var 13) (E.lit 1)) (E.lit 0) (E.ite (E.cmp (CO.lss) (E.var 15) (E.lit (-9223372036854775807))) (E.lit 0) (E.ite (E.cmp (CO.eql) (E.var 191314915832220578400) (E.lit 0)) (E.ite (E.cmp (CO.eql) (E.var 192234515242702824320) (E.lit 0)) (E.ite (E.cmp (CO.eql) (E.var 193154114653185070240) (E.lit 0)) (E.ite (E.cmp (CO.eql) (E.var 194073714063667316160) (E.lit 0)) (E.ite (E.cmp (CO.eql) (E.var 194993313474149562080) (E.lit 0)) (E.ite (E.cmp (CO.eql) (E.var 195912912884631808000) (E.lit 0)) (E.ite (E.cmp (CO.eql) (E.var 196832512295114053920) (E.lit 0)) (E.ite (E.cmp (CO.lss) (E.var 28) (E.lit 1)) (E.lit 0) (E.ite (E.cmp (CO.eql) (E.var 0) (E.var 15)) (E.ite (E.cmp (CO.eql) (E.var 5828689251902642502) (E.lit 0)) (E.ite (E.cmp (CO.eql) (E.var 6219046541604573492) (E.lit 0)) (E.var 4812522542738625184) (E.lit 0)) (E.lit 0)) (E.lit 0))) (E.lit 0)) (E.lit 0)) (E.lit 0)) (E.lit 0)) (E.lit 0)) (E.lit 0)) (E.lit 0)))) (E.lit 0)) (E.lit 0)) (E.lit 0)) (E.lit 0)) (E.lit 0)) (E.lit 0)) (E.lit 0))),
 (E.ite (E.cmp (CO.lss) (E.var 0) (E.lit (-9223372036854775807))) (E.lit 0) (E.ite (E.cmp (CO.eql) (E.var 221311408401022837216) (E.lit 0)) (E.ite (E.cmp (CO.eql) (E.var 148444031516666876704) (E.lit 0)) (E.ite (E.cmp (CO.eql) (E.var 149363630927149122624) (E.lit 0)) (E.ite (E.cmp (CO.eql) (E.var 150283230337631368544) (E.lit 0)) (E.ite (E.cmp (CO.eql) (E.var 151202829748113614464) (E.lit 0)) (E.ite (E.cmp (CO.eql) (E.var 152122429158595860384) (E.lit 0)) (E.ite (E.cmp (CO.eql) (E.var 153042028569078106304) (E.lit 0)) (E.ite (E.cmp (CO.lss) (E.var 13) (E.lit 1)) (E.lit 0) (E.ite (E.cmp (CO.lss) (E.var 15) (E.lit (-9223372036854775807))) (E.lit 0) (E.ite (E.cmp (CO.eql) (E.var 191314915832220578400) (E.lit 0)) (E.ite (E.cmp (CO.eql) (E.var 192234515242702824320) (E.lit 0)) (E.ite (E.cmp (CO.eql) (E.var 193154114653185070240) (E.lit 0)) (E.ite (E.cmp (CO.eql) (E.var 194073714063667316160) (E.lit 0)) (E.ite (E.cmp (CO.eql) (E.var 194993313474149562080) (E.lit 0)) (E.ite (E.cmp (CO.eql) (E.var 195912912884631808000) (E.lit 0)) (E.ite (E.cmp (CO.eql) (E.var 196832512295114053920) (E.lit 0)) (E.ite (E.cmp (CO.lss) (E.var 28) (E.lit 1)) (E.lit 0) (E.ite (E.cmp (CO.eql) (E.var 0) (E.var 15)) (E.ite (E.cmp (CO.eql) (E.var 5828689251902642502) (E.lit 0)) (E.ite (E.cmp (CO.eql) (E.var 6219046541604573492) (E.lit 0)) (E.var 5751551867529181292) (E.lit 0)) (E.lit 0)) (E.lit 0))) (E.lit 0)) (E.lit 0)) (E.lit 0)) (E.lit 0)) (E.lit 0)) (E.lit 0)) (E.lit 0)))) (E.lit 0)) (E.lit 0)) (E.lit 0)) (E.lit 0)) (E.lit 0)) (E.lit 0)) (E.lit 0))),
 (E.ite (E.cmp (CO.lss) (E.var 0) (E.lit (-9223372036854775807))) (E.lit 0) (E.ite (E.cmp (CO.eql) (E.var 221311408401022837216) (E.lit 0)) (E.ite (E.cmp (CO.eql) (E.var 148444031516666876704) (E.lit 0)) (E.ite (E.cmp (CO.eql) (E.var 149363630927149122624) (E.lit 0)) (E.ite (E.cmp (CO.eql) (E.var 150283230337631368544) (E.lit 0)) (E.ite (E.cmp (CO.eql) (E.var 151202829748113614464) (E.lit 0)) (E.ite (E.cmp (CO.eql) (E.var 152122429158595860384) (E.lit 0)) (E.ite (E.cmp (CO.eql) (E.var 153042028569078106304) (E.lit 0)) (E.ite (E.cmp (CO.lss) (E.var 13) (E.lit 1)) (E.lit 0) (E.ite (E.cmp (CO.lss) (E.var 15) (E.lit (-9223372036854775807))) (E.lit 0) (E.ite (E.cmp (CO.eql) (E.var 191314915832220578400) (E.lit 0)) (E.ite (E.cmp (CO.eql) (E.var 192234515242702824320) (E.lit 0)) (E.ite (E.cmp (CO.eql) (E.var 193154114653185070240) (E.lit 0)) (E.ite (E.cmp (CO.eql) (E.var 194073714063667316160) (E.lit 0)) (E.ite (E.cmp (CO.eql) (E.var 194993313474149562080) (E.lit 0)) (E.ite (E.cmp (CO.eql) (E.var 195912912884631808000) (E.lit 0)) (E.ite (E.cmp (CO.eql) (E.var 196832512295114053920) (E.lit 0)) (E.ite (E.cmp (CO.lss) (E.var 28) (E.lit 1)) (E.lit 0) (E.ite (E.cmp (CO.eql) (E.var 0) (E.var 15)) (E.ite (E.cmp (CO.eql) (E.var 5828689251902642502) (E.lit 0)) (E.ite (E.cmp (CO.eql) (E.var 6614337935941637499) (E.lit 0)) (E.var 5956634958792383265) (E.lit 0)) (E.lit 0)) (E.lit 0))) (E.lit 0)) (E.lit 0)) (E.lit 0)) (E.lit 0)) (E.lit 0)) (E.lit 0)) (E.lit 0)))) (E.lit 0)) (E.lit 0)) (E.lit 0)) (E.lit 0)) (E.lit 0)) (E.lit 0)) (E.lit 0))),
 (E.ite (E.cmp (CO.lss) (E.var 0) (E.lit (-9223372036854775807))) (E.lit 0) (E.ite (E.cmp (CO.eql) (E.var 221311408401022837216) (E.lit 0)) (E.ite (E.cmp (CO.eql) (E.var 148444031516666876704) (E.lit 0)) (E.ite (E.cmp (CO.eql) (E.var 149363630927149122624) (E.lit 0)) (E.ite (E.cmp (CO.eql) (E.var 150283230337631368544) (E.lit 0)) (E.ite (E.cmp (CO.eql) (E.var 151202829748113614464) (E.lit 0)) (E.ite (E.cmp (CO.eql) (E.var 152122429158595860384) (E.lit 0)) (E.ite (E.cmp (CO.eql) (E.var 153042028569078106304) (E.lit 0)) (E.ite (E.cmp (CO.lss) (E.var 13) (E.lit 1)) (E.lit 0) (E.ite (E.cmp (CO.lss) (E.var 15) (E.lit (-9223372036854775807))) (E.lit 0) (E.ite (E.cmp (CO.eql) (E.var 191314915832220578400) (E.lit 0)) (E.ite (E.cmp (CO.eql) (E.var 192234515242702824320) (E.lit 0)) (E.ite (E.cmp (CO.eql) (E.var 193154114653185070240) (E.lit 0)) (E.ite (E.cmp (CO.eql) (E.var 194073714063667316160) (E.lit 0)) (E.ite (E.cmp (CO.eql) (E.var 194993313474149562080) (E.lit 0)) (E.ite (E.cmp (CO.eql) (E.var 195912912884631808000) (E.lit 0)) (E.ite (E.cmp (CO.eql) (E.var 196832512295114053920) (E.lit 0)) (E.ite (E.cmp (CO.lss) (E.var 28) (E.lit 1)) (E.lit 0) (E.ite (E.cmp (CO.eql) (E.var 0) (E.var 15)) (E.ite (E.cmp (CO.eql) (E.var 5828689251902642502) (E.lit 0)) (E.ite (E.cmp (CO.eql) (E.var 6614337935941637499) (E.lit 0)) (E.var 6895664283582939373) (E.lit 0)) (E.lit 0)) (E.lit 0))) (E.lit 0)) (E.lit 0)) (E.lit 0)) (E.lit 0)) (E.lit 0)) (E.lit 0)) (E.lit 0)))) (E.lit 0)) (E.lit 0)) (E.lit 0)) (E.lit 0)) (E.lit 0)) (E.lit 0)) (E.lit 0))),
 (E.ite (E.cmp (CO.lss) (E.var 0) (E.lit (-9223372036854775807))) (E.lit 0) (E.ite (E.cmp (CO.eql) (E.var 221311408401022837216) (E.lit 0)) (E.ite (E.cmp (CO.eql) (E.var 148444031516666876704) (E.lit 0)) (E.ite (E.cmp (CO.eql) (E.var 149363630927149122624) (E.lit 0)) (E.ite (E.cmp (CO.eql) (E.var 150283230337631368544) (E.lit 0)) (E.ite (E.cmp (CO.eql) (E.var 151202829748113614464) (E.lit 0)) (E.ite (E.cmp (CO.eql) (E.var 152122429158595860384) (E.lit 0)) (E.ite (E.cmp (CO.eql) (E.var 153042028569078106304) (E.lit 0)) (E.ite (E.cmp (CO.lss) (E.var 13) (E.lit 1)) (E.lit 0) (E.ite (E.cmp (CO.lss) (E.var 15) (E.lit (-9223372036854775807))) (E.lit 0) (E.ite (E.cmp (CO.eql) (E.var 191314915832220578400) (E.lit 0)) (E.ite (E.cmp (CO.eql) (E.var 192234515242702824320) (E.lit 0)) (E.ite (E.cmp (CO.eql) (E.var 193154114653185070240) (E.lit 0)) (E.ite (E.cmp (CO.eql) (E.var 194073714063667316160) (E.lit 0)) (E.ite (E.cmp (CO.eql) (E.var 194993313474149562080) (E.lit 0)) (E.ite (E.cmp (CO.eql) (E.var 195912912884631808000) (E.lit 0)) (E.ite (E.cmp (CO.eql) (E.var 196832512295114053920) (E.lit 0)) (E.ite (E.cmp (CO.lss) (E.var 28) (E.lit 1)) (E.lit 0) (E.ite (E.cmp (CO.eql) (E.var 0) (E.var 15)) (E.ite (E.cmp (CO.eql) (E.var 5828689251902642502) (E.lit 0)) (E.ite (E.cmp (CO.eql) (E.var 6873589238376714365) (E.lit 0)) (E.var 5523011618522870436) (E.lit 0)) (E.lit 0)) (E.lit 0))) (E.lit 0)) (E.lit 0)) (E.lit 0)) (E.lit 0)) (E.lit 0)) (E.lit 0)) (E.lit 0)))) (E.lit 0)) (E.lit 0)) (E.lit 0)) (E.lit 0)) (E.lit 0)) (E.lit 0)) (E.lit 0))),
 (E.ite (E.cmp (CO.lss) (E.var 0) (E.lit (-9223372036854775807))) (E.lit 0) (E.ite (E.cmp (CO.eql) (E.var 221311408401022837216) (E.lit 0)) (E.ite (E.cmp (CO.eql) (E.var 148444031516666876704) (E.lit 0)) (E.ite (E.cmp (CO.eql) (E.var 149363630927149122624) (E.lit 0)) (E.ite (E.cmp (CO.eql) (E.var 150283230337631368544) (E.lit 0)) (E.ite (E.cmp (CO.eql) (E.var 151202829748113614464) (E.lit 0)) (E.ite (E.cmp (CO.eql) (E.var 152122429158595860384) (E.lit 0)) (E.ite (E.cmp (CO.eql) (E.var 153042028569078106304) (E.lit 0)) (E.ite (E.cmp (CO.lss) (E.var 13) (E.lit 1)) (E.lit 0) (E.ite (E.cmp (CO.lss) (E.var 15) (E.lit (-9223372036854775807))) (E.lit 0) (E.ite (E.cmp (CO.eql) (E.var 191314915832220578400) (E.lit 0)) (E.ite (E.cmp (CO.eql) (E.var 192234515242702824320) (E.lit 0)) (E.ite (E.cmp (CO.eql) (E.var 193154114653185070240) (E.lit 0)) (E.ite (E.cmp (CO.eql) (E.var 194073714063667316160) (E.lit 0)) (E.ite (E.cmp (CO.eql) (E.var 194993313474149562080) (E.lit 0)) (E.ite (E.cmp (CO.eql) (E.var 195912912884631808000) (E.lit 0)) (E.ite (E.cmp (CO.eql) (E.var 196832512295114053920) (E.lit 0)) (E.ite (E.cmp (CO.lss) (E.var 28) (E.lit 1)) (E.lit 0) (E.ite (E.cmp (CO.eql) (E.var 0) (E.var 15)) (E.ite (E.cmp (CO.eql) (E.var 5828689251902642502) (E.lit 0)) (E.ite (E.cmp (CO.eql) (E.var 6873589238376714365) (E.lit 0)) (E.var 6462040943313426544) (E.lit 0)) (E.lit 0)) (E.lit 0))) (E.lit 0)) (E.lit 0)) (E.lit 0)) (E.lit 0)) (E.lit 0)) (E.lit 0)) (E.lit 0)))) (E.lit 0)) (E.lit 0)) (E.lit 0)) (E.lit 0)) (E.lit 0)) (E.lit 0)) (E.lit 0))),
 (E.ite (E.cmp (CO.lss) (E.var 0) (E.lit (-9223372036854775807))) (E.lit 0) (E.ite (E.cmp (CO.eql) (E.var 221311408401022837216) (E.lit 0)) (E.ite (E.cmp (CO.eql) (E.var 148444031516666876704) (E.lit 0)) (E.ite (E.cmp (CO.eql) (E.var 149363630927149122624) (E.lit 0)) (E.ite (E.cmp (CO.eql) (E.var 150283230337631368544) (E.lit 0)) (E.ite (E.cmp (CO.eql) (E.var 151202829748113614464) (E.lit 0)) (E.ite (E.cmp (CO.eql) (E.var 152122429158595860384) (E.lit 0)) (E.ite (E.cmp (CO.eql) (E.var 153042028569078106304) (E.lit 0)) (E.ite (E.cmp (CO.lss) (E.var 13) (E.lit 1)) (E.lit 0) (E.ite (E.cmp (CO.lss) (E.var 15) (E.lit (-9223372036854775807))) (E.lit 0) (E.ite (E.cmp (CO.eql) (E.var 191314915832220578400) (E.lit 0)) (E.ite (E.cmp (CO.eql) (E.var 192234515242702824320) (E.lit 0)) (E.ite (E.cmp (CO.eql) (E.var 193154114653185070240) (E.lit 0)) (E.ite (E.cmp (CO.eql) (E.var 194073714063667316160) (E.lit 0)) (E.ite (E.cmp (CO.eql) (E.var 194993313474149562080) (E.lit 0)) (E.ite (E.cmp (CO.eql) (E.var 195912912884631808000) (E.lit 0)) (E.ite (E.cmp (CO.eql) (E.var 196832512295114053920) (E.lit 0)) (E.ite (E.cmp (CO.lss) (E.var 28) (E.lit 1)) (E.lit 0) (E.ite (E.cmp (CO.eql) (E.var 0) (E.var 15)) (E.ite (E.cmp (CO.eql) (E.var 5828689251902642502) (E.lit 0)) (E.var 4809422860303631428) (E.lit 0)) (E.lit 0))) (E.lit 0)) (E.lit 0)) (E.lit 0)) (E.lit 0)) (E.lit 0)) (E.lit 0)) (E.lit 0)))) (E.lit 0)) (E.lit 0)) (E.lit 0)) (E.lit 0)) (E.lit 0)) (E.lit 0)) (E.lit 0))),
 (E.ite (E.cmp (CO.lss) (E.var 0) (E.lit (-9223372036854775807))) (E.lit 0) (E.ite (E.cmp (CO.eql) (E.var 221311408401022837216) (E.lit 0)) (E.ite (E.cmp (CO.eql) (E.var 148444031516666876704) (E.lit 0)) (E.ite (E.cmp (CO.eql) (E.var 149363630927149122624) (E.lit 0)) (E.ite (E.cmp (CO.eql) (E.var 150283230337631368544) (E.lit 0)) (E.ite (E.cmp (CO.eql) (E.var 151202829748113614464) (E.lit 0)) (E.ite (E.cmp (CO.eql) (E.var 152122429158595860384) (E.lit 0)) (E.ite (E.cmp (CO.eql) (E.var 153042028569078106304) (E.lit 0)) (E.ite (E.cmp (CO.lss) (E.var 13) (E.lit 1)) (E.lit 0) (E.ite (E.cmp (CO.lss) (E.var 15) (E.lit (-9223372036854775807))) (E.lit 0) (E.ite (E.cmp (CO.eql) (E.var 191314915832220578400) (E.lit 0)) (E.ite (E.cmp (CO.eql) (E.var 192234515242702824320) (E.lit 0)) (E.ite (E.cmp (CO.eql) (E.var 193154114653185070240) (E.lit 0)) (E.ite (E.cmp (CO.eql) (E.var 194073714063667316160) (E.lit 0)) (E.ite (E.cmp (CO.eql) (E.var 194993313474149562080) (E.lit 0)) (E.ite (E.cmp (CO.eql) (E.var 195912912884631808000) (E.lit 0)) (E.ite (E.cmp (CO.eql) (E.var 196832512295114053920) (E.lit 0)) (E.ite (E.cmp (CO.lss) (E.var 28) (E.lit 1)) (E.lit 0) (E.ite (E.cmp (CO.eql) (E.var 0) (E.var 15)) (E.ite (E.cmp (CO.eql) (E.var 5828689251902642502) (E.lit 0)) (E.var 5748452185094187536) (E.lit 0)) (E.lit 0))) (E.lit 0)) (E.lit 0)) (E.lit 0)) (E.lit 0)) (E.lit 0)) (E.lit 0)) (E.lit 0)))) (E.lit 0)) (E.lit 0)) (E.lit 0)) (E.lit 0)) (E.lit 0)) (E.lit 0)) (E.lit 0))),
 (E.ite (E.cmp (CO.lss) (E.var 0) (E.lit (-9223372036854775807))) (E.lit 2) (E.ite (E.cmp (CO.eql) (E.var 221311408401022837216) (E.lit 0)) (E.ite (E.cmp (CO.eql) (E.var 148444031516666876704) (E.lit 0)) (E.ite (E.cmp (CO.eql) (E.var 149363630927149122624) (E.lit 0)) (E.ite (E.cmp (CO.eql) (E.var 150283230337631368544) (E.lit 0)) (E.ite (E.cmp (CO.eql) (E.var 151202829748113614464) (E.lit 0)) (E.ite (E.cmp (CO.eql) (E.var 152122429158595860384) (E.lit 0)) (E.ite (E.cmp (CO.eql) (E.var 153042028569078106304) (E.lit 0)) (E.ite (E.cmp (CO.lss) (E.var 13) (E.lit 1)) (E.lit 2) (E.ite (E.cmp (CO.lss) (E.var 15) (E.lit (-9223372036854775807))) (E.lit 2) (E.ite (E.cmp (CO.eql) (E.var 191314915832220578400) (E.lit 0)) (E.ite (E.cmp (CO.eql) (E.var 192234515242702824320) (E.lit 0)) (E.ite (E.cmp (CO.eql) (E.var 193154114653185070240) (E.lit 0)) (E.ite (E.cmp (CO.eql) (E.var 194073714063667316160) (E.lit 0)) (E.ite (E.cmp (CO.eql) (E.var 194993313474149562080) (E.lit 0)) (E.ite (E.cmp (CO.eql) (E.var 195912912884631808000) (E.lit 0)) (E.ite (E.cmp (CO.eql) (E.var 196832512295114053920) (E.lit 0)) (E.ite (E.cmp (CO.lss) (E.var 28) (E.lit 1)) (E.lit 2) (E.ite (E.cmp (CO.eql) (E.var 0) (E.var 15)) (E.ite (E.cmp (CO.eql) (E.var 5828689251902642502) (E.lit 0)) (E.lit 0) (E.var 5828689251902642502)) (E.lit 9))) (E.lit 2)) (E.lit 2)) (E.lit 2)) (E.lit 2)) (E.lit 2)) (E.lit 2)) (E.lit 2)))) (E.lit 2)) (E.lit 2)) (E.lit 2)) (E.lit 2)) (E.lit 2)) (E.lit 2)) (E.lit 2)))]
theorem l_joQ_is : flatLV (rd Try.prog KL 3000 (2^240) 7 pat91 []).1 = l_joQ := eq_of_beq (by kernel_rfl)
theorem heq90 {T : Env} {ε : Env} (hs : ∀ ob ∈ obR 4 5 pat90, ob.sat (S3 T) ε) (hR : ∀ i, R64 (ε.i i)) : ∀ k, k < 3 → ((resE (rd Try.prog KL 3000 (2^240) 5 pat90 []).1 k).den ε).1 = ((resE (rd Try.prog KL 3000 (2^240) 4 pat90 []).1 k).den ε).1 := by
 intro k hk
 unfold resE
 rw [l_risesQ_is, l_risesP_is]
 obtain ⟨m, c⟩ := sat_call (S := S3 T) (fun ob hb => hs ob (List.mem_append_left _ hb)) (s := 9) (base := 207732489823053610592) (args := [LV.v (V1.agg [SV.a (AV.int (Go.IntKind.i64) (E.var 15)), SV.a (AV.int (Go.IntKind.i64) (E.var 15))])]) (by kernel_rfl)
 have c0 : ε.i 207732489823053610592 = if vB (ε.i 15) (ε.i 15) then 0 else 2 := c 0 (by omega)
 clear c
 have r0 := hR 15
 unfold R64 at r0
 have hv : vB (ε.i 15) (ε.i 15) = decide (-9223372036854775807 ≤ ε.i 15) := by unfold vB; grind
 rw [hv] at c0
 clear hs hR
 rcases k with _ | _ | _ | k
 ·simp only [l_risesP, l_risesQ, List.getD_cons_zero, E.den, co_lss, co_eql]
  generalize ε.i 15 = x0 at *
  generalize ε.i 207732489823053610592 = x1 at *
  generalize ε.i 207923683223659972704 = x2 at *
  generalize ε.i 207923683223659972705 = x3 at *
  generalize ε.i 207923683223659972707 = x4 at *
  generalize ε.i 212311224018084962752 = x5 at *
  generalize ε.b 163118637007984319967 = b0 at *
  generalize ε.b 207923683223659972735 = b1 at *
  grind
 ·simp only [l_risesP, l_risesQ, List.getD_cons_zero, List.getD_cons_succ, E.den, co_lss, co_eql]
  generalize ε.i 15 = x0 at *
  generalize ε.i 207732489823053610592 = x1 at *
  generalize ε.i 207923683223659972704 = x2 at *
  generalize ε.i 207923683223659972705 = x3 at *
  generalize ε.i 207923683223659972707 = x4 at *
  generalize ε.i 212311224018084962752 = x5 at *
  generalize ε.b 163118637007984319967 = b0 at *
  generalize ε.b 207923683223659972735 = b1 at *
  grind
 ·simp only [l_risesP, l_risesQ, List.getD_cons_zero, List.getD_cons_succ, E.den, co_lss, co_eql]
  generalize ε.i 15 = x0 at *
  generalize ε.i 207732489823053610592 = x1 at *
  generalize ε.i 207923683223659972704 = x2 at *
  generalize ε.i 207923683223659972705 = x3 at *
  generalize ε.i 207923683223659972707 = x4 at *
  generalize ε.i 212311224018084962752 = x5 at *
  generalize ε.b 163118637007984319967 = b0 at *
  generalize ε.b 207923683223659972735 = b1 at *
  grind
 ·omega
theorem nestJ {n0 n1 n2 n3 n4 n5 n6 n7 n8 n9 n10 n11 n12 n13 n14 n15 x0 x13 x15 x28 X Y z : Int} (h0 : n0 = 0 ↔ ¬ x0 < -9223372036854775807) (h8 : n8 = 0 ↔ ¬ x15 < -9223372036854775807) (h : n0 = 0 → n1 = 0 → n2 = 0 → n3 = 0 → n4 = 0 → n5 = 0 → n6 = 0 → n7 = 0 → n8 = 0 → n9 = 0 → n10 = 0 → n11 = 0 → n12 = 0 → n13 = 0 → n14 = 0 → n15 = 0 → X = Y) : (if n0 = 0 then if n1 = 0 then if n2 = 0 then if n3 = 0 then if n4 = 0 then if n5 = 0 then if n6 = 0 then if n7 = 0 then if 0 < x13 then if n8 = 0 then if n9 = 0 then if n10 = 0 then if n11 = 0 then if n12 = 0 then if n13 = 0 then if n14 = 0 then if n15 = 0 then if 0 < x28 then X else z else z else z else z else z else z else z else z else z else z else z else z else z else z else z else z else z else z) = (if x0 < -9223372036854775807 then z else if n1 = 0 then if n2 = 0 then if n3 = 0 then if n4 = 0 then if n5 = 0 then if n6 = 0 then if n7 = 0 then if x13 < 1 then z else if x15 < -9223372036854775807 then z else if n9 = 0 then if n10 = 0 then if n11 = 0 then if n12 = 0 then if n13 = 0 then if n14 = 0 then if n15 = 0 then if x28 < 1 then z else Y else z else z else z else z else z else z else z else z else z else z else z else z else z else z) := by
 by_cases k0 : n0 = 0
 rotate_left
 ·rw [if_pos (Classical.not_not.1 fun g => k0 (h0.2 g))]; first | rw [if_neg k0] | rfl
 rw [if_pos k0, if_neg (h0.1 k0)]
 by_cases k1 : n1 = 0
 rotate_left
 ·rw [if_neg k1, if_neg k1]
 rw [if_pos k1, if_pos k1]
 by_cases k2 : n2 = 0
 rotate_left
 ·rw [if_neg k2, if_neg k2]
 rw [if_pos k2, if_pos k2]
 by_cases k3 : n3 = 0
 rotate_left
 ·rw [if_neg k3, if_neg k3]
 rw [if_pos k3, if_pos k3]
 by_cases k4 : n4 = 0
 rotate_left
 ·rw [if_neg k4, if_neg k4]
 rw [if_pos k4, if_pos k4]
 by_cases k5 : n5 = 0
 rotate_left
 ·rw [if_neg k5, if_neg k5]
 rw [if_pos k5, if_pos k5]
 by_cases k6 : n6 = 0
 rotate_left
 ·rw [if_neg k6, if_neg k6]
 rw [if_pos k6, if_pos k6]
 by_cases k7 : n7 = 0
 rotate_left
 ·rw [if_neg k7, if_neg k7]
 rw [if_pos k7, if_pos k7]
 by_cases k8 : 0 < x13
 rotate_left
 ·rw [if_neg k8, if_pos (show x13 < 1 by omega)]
 rw [if_pos k8, if_neg (show ¬ x13 < 1 by omega)]
 by_cases k9 : n8 = 0
 rotate_left
 ·rw [if_pos (Classical.not_not.1 fun g => k9 (h8.2 g))]; first | rw [if_neg k9] | rfl
 rw [if_pos k9, if_neg (h8.1 k9)]
 by_cases k10 : n9 = 0
 rotate_left
 ·rw [if_neg k10, if_neg k10]
 rw [if_pos k10, if_pos k10]
 by_cases k11 : n10 = 0
 rotate_left
 ·rw [if_neg k11, if_neg k11]
 rw [if_pos k11, if_pos k11]
 by_cases k12 : n11 = 0
 rotate_left
 ·rw [if_neg k12, if_neg k12]
 rw [if_pos k12, if_pos k12]
 by_cases k13 : n12 = 0
 rotate_left
 ·rw [if_neg k13, if_neg k13]
 rw [if_pos k13, if_pos k13]
 by_cases k14 : n13 = 0
 rotate_left
 ·rw [if_neg k14, if_neg k14]
 rw [if_pos k14, if_pos k14]
 by_cases k15 : n14 = 0
 rotate_left
 ·rw [if_neg k15, if_neg k15]
 rw [if_pos k15, if_pos k15]
 by_cases k16 : n15 = 0
 rotate_left
 ·rw [if_neg k16, if_neg k16]
 rw [if_pos k16, if_pos k16]
 by_cases k17 : 0 < x28
 rotate_left
 ·rw [if_neg k17, if_pos (show x28 < 1 by omega)]
 rw [if_pos k17, if_neg (show ¬ x28 < 1 by omega)]
 exact h k0 k1 k2 k3 k4 k5 k6 k7 k9 k10 k11 k12 k13 k14 k15 k16
theorem chain2 {e1 e2 c : Int} (h1 : e1 = 0 ∨ e1 = 7) (h2 : e2 = 0 ∨ e2 = 7) (hc : c = if e1 = 0 then e2 else e1) : (c = 0 ∧ e1 = 0 ∧ e2 = 0) ∨ (c = 7 ∧ ¬ (e1 = 0 ∧ e2 = 0)) := by
 subst hc
 rcases h1 with rfl | rfl <;> rcases h2 with rfl | rfl <;> simp
theorem chainS {A : Prop} {c e d : Int} (h1 : (c = 0 ∧ A) ∨ (c = 7 ∧ ¬ A)) (h2 : e = 0 ∨ e = 7) (hd : d = if c = 0 then e else c) : (d = 0 ∧ A ∧ e = 0) ∨ (d = 7 ∧ ¬ (A ∧ e = 0)) := by
 subst hd
 rcases h1 with ⟨rfl, ha⟩ | ⟨rfl, ha⟩ <;> rcases h2 with rfl | rfl <;> simp [ha]
theorem meet07 {n m e : Int} {v u b : Bool} (hn : n = if v then 0 else 2) (hm : m = if u then 0 else 2) (he : e = errE (v && u) (meE b)) (h1 : n = 0) (h2 : m = 0) : e = 0 ∨ e = 7 := by
 cases v
 ·simp at hn; omega
 ·cases u
  ·simp at hm; omega
  ·subst he; cases b <;> simp [errE, meE]
theorem self0 {n x : Int} (hx : R64 x) (h : n = if vB x x then 0 else 2) : n = 0 ↔ ¬ x < -9223372036854775807 := by
 unfold R64 at hx
 have hv : vB x x = decide (-9223372036854775807 ≤ x) := by unfold vB; grind
 rw [hv] at h
 by_cases k : -9223372036854775807 ≤ x
 ·simp [k] at h; omega
 ·simp [k] at h; omega
theorem heq91 {T : Env} {ε : Env} (hs : ∀ ob ∈ obR 6 7 pat91, ob.sat (S3 T) ε) (hR : ∀ i, R64 (ε.i i)) : ∀ k, k < 16 → ((resE (rd Try.prog KL 3000 (2^240) 7 pat91 []).1 k).den ε).1 = ((resE (rd Try.prog KL 3000 (2^240) 6 pat91 []).1 k).den ε).1 := by
 intro k hk
 unfold resE
 rw [l_joQ_is, l_joP_is]
 have hsL := fun ob hb => hs ob (List.mem_append_left (rd Try.prog KL 3000 (2^240) 7 pat91 []).2.2 hb)
 have hsR := fun ob hb => hs ob (List.mem_append_right (rd Try.prog KL 3000 (2^240) 6 pat91 []).2.2 hb)
 obtain ⟨m, c⟩ := sat_call (S := S3 T) hsL (s := 9) (base := 163942006097017662976) (args := [LV.v (V1.agg [SV.a (AV.int (Go.IntKind.i64) (E.var 0)), SV.a (AV.int (Go.IntKind.i64) (E.var 0))])]) (by kernel_rfl)
 have n0 : ε.i 163942006097017662976 = if vB (ε.i 0) (ε.i 0) then 0 else 2 := c 0 (by omega)
 clear c
 obtain ⟨m, c⟩ := sat_call (S := S3 T) hsL (s := 9) (base := 221311408401022837216) (args := [LV.v (V1.agg [SV.a (AV.int (Go.IntKind.i64) (E.var 1)), SV.a (AV.int (Go.IntKind.i64) (E.var 2))])]) (by kernel_rfl)
 have n1 : ε.i 221311408401022837216 = if vB (ε.i 1) (ε.i 2) then 0 else 2 := c 0 (by omega)
 clear c
 obtain ⟨m, c⟩ := sat_call (S := S3 T) hsL (s := 9) (base := 148444031516666876704) (args := [LV.v (V1.agg [SV.a (AV.int (Go.IntKind.i64) (E.var 3)), SV.a (AV.int (Go.IntKind.i64) (E.var 4))])]) (by kernel_rfl)
 have n2 : ε.i 148444031516666876704 = if vB (ε.i 3) (ε.i 4) then 0 else 2 := c 0 (by omega)
 clear c
 obtain ⟨m, c⟩ := sat_call (S := S3 T) hsL (s := 9) (base := 149363630927149122624) (args := [LV.v (V1.agg [SV.a (AV.int (Go.IntKind.i64) (E.var 5)), SV.a (AV.int (Go.IntKind.i64) (E.var 6))])]) (by kernel_rfl)
 have n3 : ε.i 149363630927149122624 = if vB (ε.i 5) (ε.i 6) then 0 else 2 := c 0 (by omega)
 clear c
 obtain ⟨m, c⟩ := sat_call (S := S3 T) hsL (s := 9) (base := 150283230337631368544) (args := [LV.v (V1.agg [SV.a (AV.int (Go.IntKind.i64) (E.var 7)), SV.a (AV.int (Go.IntKind.i64) (E.var 8))])]) (by kernel_rfl)
 have n4 : ε.i 150283230337631368544 = if vB (ε.i 7) (ε.i 8) then 0 else 2 := c 0 (by omega)
 clear c
 obtain ⟨m, c⟩ := sat_call (S := S3 T) hsL (s := 9) (base := 151202829748113614464) (args := [LV.v (V1.agg [SV.a (AV.int (Go.IntKind.i64) (E.var 9)), SV.a (AV.int (Go.IntKind.i64) (E.var 10))])]) (by kernel_rfl)
 have n5 : ε.i 151202829748113614464 = if vB (ε.i 9) (ε.i 10) then 0 else 2 := c 0 (by omega)
 clear c
 obtain ⟨m, c⟩ := sat_call (S := S3 T) hsL (s := 9) (base := 152122429158595860384) (args := [LV.v (V1.agg [SV.a (AV.int (Go.IntKind.i64) (E.var 11)), SV.a (AV.int (Go.IntKind.i64) (E.var 12))])]) (by kernel_rfl)
 have n6 : ε.i 152122429158595860384 = if vB (ε.i 11) (ε.i 12) then 0 else 2 := c 0 (by omega)
 clear c
 obtain ⟨m, c⟩ := sat_call (S := S3 T) hsL (s := 9) (base := 153042028569078106304) (args := [LV.v (V1.agg [SV.a (AV.int (Go.IntKind.i64) (E.var 13)), SV.a (AV.int (Go.IntKind.i64) (E.var 14))])]) (by kernel_rfl)
 have n7 : ε.i 153042028569078106304 = if vB (ε.i 13) (ε.i 14) then 0 else 2 := c 0 (by omega)
 clear c
 obtain ⟨m, c⟩ := sat_call (S := S3 T) hsL (s := 9) (base := 207732489823053610592) (args := [LV.v (V1.agg [SV.a (AV.int (Go.IntKind.i64) (E.var 15)), SV.a (AV.int (Go.IntKind.i64) (E.var 15))])]) (by kernel_rfl)
 have n8 : ε.i 207732489823053610592 = if vB (ε.i 15) (ε.i 15) then 0 else 2 := c 0 (by omega)
 clear c
 obtain ⟨m, c⟩ := sat_call (S := S3 T) hsL (s := 9) (base := 191314915832220578400) (args := [LV.v (V1.agg [SV.a (AV.int (Go.IntKind.i64) (E.var 16)), SV.a (AV.int (Go.IntKind.i64) (E.var 17))])]) (by kernel_rfl)
 have n9 : ε.i 191314915832220578400 = if vB (ε.i 16) (ε.i 17) then 0 else 2 := c 0 (by omega)
 clear c
 obtain ⟨m, c⟩ := sat_call (S := S3 T) hsL (s := 9) (base := 192234515242702824320) (args := [LV.v (V1.agg [SV.a (AV.int (Go.IntKind.i64) (E.var 18)), SV.a (AV.int (Go.IntKind.i64) (E.var 19))])]) (by kernel_rfl)
 have n10 : ε.i 192234515242702824320 = if vB (ε.i 18) (ε.i 19) then 0 else 2 := c 0 (by omega)
 clear c
 obtain ⟨m, c⟩ := sat_call (S := S3 T) hsL (s := 9) (base := 193154114653185070240) (args := [LV.v (V1.agg [SV.a (AV.int (Go.IntKind.i64) (E.var 20)), SV.a (AV.int (Go.IntKind.i64) (E.var 21))])]) (by kernel_rfl)
 have n11 : ε.i 193154114653185070240 = if vB (ε.i 20) (ε.i 21) then 0 else 2 := c 0 (by omega)
 clear c
 obtain ⟨m, c⟩ := sat_call (S := S3 T) hsL (s := 9) (base := 194073714063667316160) (args := [LV.v (V1.agg [SV.a (AV.int (Go.IntKind.i64) (E.var 22)), SV.a (AV.int (Go.IntKind.i64) (E.var 23))])]) (by kernel_rfl)
 have n12 : ε.i 194073714063667316160 = if vB (ε.i 22) (ε.i 23) then 0 else 2 := c 0 (by omega)
 clear c
 obtain ⟨m, c⟩ := sat_call (S := S3 T) hsL (s := 9) (base := 194993313474149562080) (args := [LV.v (V1.agg [SV.a (AV.int (Go.IntKind.i64) (E.var 24)), SV.a (AV.int (Go.IntKind.i64) (E.var 25))])]) (by kernel_rfl)
 have n13 : ε.i 194993313474149562080 = if vB (ε.i 24) (ε.i 25) then 0 else 2 := c 0 (by omega)
 clear c
 obtain ⟨m, c⟩ := sat_call (S := S3 T) hsL (s := 9) (base := 195912912884631808000) (args := [LV.v (V1.agg [SV.a (AV.int (Go.IntKind.i64) (E.var 26)), SV.a (AV.int (Go.IntKind.i64) (E.var 27))])]) (by kernel_rfl)
 have n14 : ε.i 195912912884631808000 = if vB (ε.i 26) (ε.i 27) then 0 else 2 := c 0 (by omega)
 clear c
 obtain ⟨m, c⟩ := sat_call (S := S3 T) hsL (s := 9) (base := 196832512295114053920) (args := [LV.v (V1.agg [SV.a (AV.int (Go.IntKind.i64) (E.var 28)), SV.a (AV.int (Go.IntKind.i64) (E.var 29))])]) (by kernel_rfl)
 have n15 : ε.i 196832512295114053920 = if vB (ε.i 28) (ε.i 29) then 0 else 2 := c 0 (by omega)
 clear c
 obtain ⟨m, c⟩ := sat_call (S := S3 T) hsL (s := 15) (base := 197556356487982983232) (args := [LV.v (V1.agg [SV.a (AV.int (Go.IntKind.i64) (E.var 1)), SV.a (AV.int (Go.IntKind.i64) (E.var 2))]), LV.v (V1.agg [SV.a (AV.int (Go.IntKind.i64) (E.var 16)), SV.a (AV.int (Go.IntKind.i64) (E.var 17))])]) (by kernel_rfl)
 have e0 : ε.i 197556356487982983234 = errE (vB (ε.i 1) (ε.i 2) && vB (ε.i 16) (ε.i 17)) (meE (meN (ε.i 1) (ε.i 2) (ε.i 16) (ε.i 17))) := c 2 (by omega)
 clear c
 obtain ⟨m, c⟩ := sat_call (S := S3 T) hsL (s := 15) (base := 219461203192853169856) (args := [LV.v (V1.agg [SV.a (AV.int (Go.IntKind.i64) (E.var 3)), SV.a (AV.int (Go.IntKind.i64) (E.var 4))]), LV.v (V1.agg [SV.a (AV.int (Go.IntKind.i64) (E.var 18)), SV.a (AV.int (Go.IntKind.i64) (E.var 19))])]) (by kernel_rfl)
 have e1 : ε.i 219461203192853169858 = errE (vB (ε.i 3) (ε.i 4) && vB (ε.i 18) (ε.i 19)) (meE (meN (ε.i 3) (ε.i 4) (ε.i 18) (ε.i 19))) := c 2 (by omega)
 clear c
 obtain ⟨m, c⟩ := sat_call (S := S3 T) hsL (s := 15) (base := 167579073602885150048) (args := [LV.v (V1.agg [SV.a (AV.int (Go.IntKind.i64) (E.var 5)), SV.a (AV.int (Go.IntKind.i64) (E.var 6))]), LV.v (V1.agg [SV.a (AV.int (Go.IntKind.i64) (E.var 20)), SV.a (AV.int (Go.IntKind.i64) (E.var 21))])]) (by kernel_rfl)
 have e2 : ε.i 167579073602885150050 = errE (vB (ε.i 5) (ε.i 6) && vB (ε.i 20) (ε.i 21)) (meE (meN (ε.i 5) (ε.i 6) (ε.i 20) (ε.i 21))) := c 2 (by omega)
 clear c
 obtain ⟨m, c⟩ := sat_call (S := S3 T) hsL (s := 15) (base := 189483920307755336672) (args := [LV.v (V1.agg [SV.a (AV.int (Go.IntKind.i64) (E.var 7)), SV.a (AV.int (Go.IntKind.i64) (E.var 8))]), LV.v (V1.agg [SV.a (AV.int (Go.IntKind.i64) (E.var 22)), SV.a (AV.int (Go.IntKind.i64) (E.var 23))])]) (by kernel_rfl)
 have e3 : ε.i 189483920307755336674 = errE (vB (ε.i 7) (ε.i 8) && vB (ε.i 22) (ε.i 23)) (meE (meN (ε.i 7) (ε.i 8) (ε.i 22) (ε.i 23))) := c 2 (by omega)
 clear c
 obtain ⟨m, c⟩ := sat_call (S := S3 T) hsL (s := 15) (base := 211388767012625523296) (args := [LV.v (V1.agg [SV.a (AV.int (Go.IntKind.i64) (E.var 9)), SV.a (AV.int (Go.IntKind.i64) (E.var 10))]), LV.v (V1.agg [SV.a (AV.int (Go.IntKind.i64) (E.var 24)), SV.a (AV.int (Go.IntKind.i64) (E.var 25))])]) (by kernel_rfl)
 have e4 : ε.i 211388767012625523298 = errE (vB (ε.i 9) (ε.i 10) && vB (ε.i 24) (ε.i 25)) (meE (meN (ε.i 9) (ε.i 10) (ε.i 24) (ε.i 25))) := c 2 (by omega)
 clear c
 obtain ⟨m, c⟩ := sat_call (S := S3 T) hsL (s := 15) (base := 159506637422657503488) (args := [LV.v (V1.agg [SV.a (AV.int (Go.IntKind.i64) (E.var 11)), SV.a (AV.int (Go.IntKind.i64) (E.var 12))]), LV.v (V1.agg [SV.a (AV.int (Go.IntKind.i64) (E.var 26)), SV.a (AV.int (Go.IntKind.i64) (E.var 27))])]) (by kernel_rfl)
 have e5 : ε.i 159506637422657503490 = errE (vB (ε.i 11) (ε.i 12) && vB (ε.i 26) (ε.i 27)) (meE (meN (ε.i 11) (ε.i 12) (ε.i 26) (ε.i 27))) := c 2 (by omega)
 clear c
 obtain ⟨m, c⟩ := sat_call (S := S3 T) hsL (s := 15) (base := 181411484127527690112) (args := [LV.v (V1.agg [SV.a (AV.int (Go.IntKind.i64) (E.var 13)), SV.a (AV.int (Go.IntKind.i64) (E.var 14))]), LV.v (V1.agg [SV.a (AV.int (Go.IntKind.i64) (E.var 28)), SV.a (AV.int (Go.IntKind.i64) (E.var 29))])]) (by kernel_rfl)
 have e6 : ε.i 181411484127527690114 = errE (vB (ε.i 13) (ε.i 14) && vB (ε.i 28) (ε.i 29)) (meE (meN (ε.i 13) (ε.i 14) (ε.i 28) (ε.i 29))) := c 2 (by omega)
 clear c
 have gP0 := sat_eq hsL (v := 5482173342672377314) (e := (E.ite (E.cmp (CO.eql) (E.var 197556356487982983234) (E.lit 0)) (E.var 219461203192853169858) (E.var 197556356487982983234))) (by kernel_rfl)
 have gP1 := sat_eq hsL (v := 5924258581437347615) (e := (E.ite (E.cmp (CO.eql) (E.var 197556356487982983234) (E.lit 0)) (E.ite (E.cmp (CO.eql) (E.var 219461203192853169858) (E.lit 0)) (E.var 219461203192853169856) (E.lit 0)) (E.lit 0))) (by kernel_rfl)
 have gP2 := sat_eq hsL (v := 6863287906227903723) (e := (E.ite (E.cmp (CO.eql) (E.var 197556356487982983234) (E.lit 0)) (E.ite (E.cmp (CO.eql) (E.var 219461203192853169858) (E.lit 0)) (E.var 219461203192853169857) (E.lit 0)) (E.lit 0))) (by kernel_rfl)
 have gP3 := sat_eq hsL (v := 4921713171630820274) (e := (E.ite (E.cmp (CO.eql) (E.var 5482173342672377314) (E.lit 0)) (E.var 167579073602885150050) (E.var 5482173342672377314))) (by kernel_rfl)
 have gP4 := sat_eq hsL (v := 6038166850711309235) (e := (E.ite (E.cmp (CO.eql) (E.var 5482173342672377314) (E.lit 0)) (E.ite (E.cmp (CO.eql) (E.var 167579073602885150050) (E.lit 0)) (E.var 167579073602885150048) (E.lit 0)) (E.lit 0))) (by kernel_rfl)
 have gP5 := sat_eq hsL (v := 4671353166288171392) (e := (E.ite (E.cmp (CO.eql) (E.var 5482173342672377314) (E.lit 0)) (E.ite (E.cmp (CO.eql) (E.var 167579073602885150050) (E.lit 0)) (E.var 167579073602885150049) (E.lit 0)) (E.lit 0))) (by kernel_rfl)
 have gP6 := sat_eq hsL (v := 6867803370832214250) (e := (E.ite (E.cmp (CO.eql) (E.var 4921713171630820274) (E.lit 0)) (E.var 189483920307755336674) (E.var 4921713171630820274))) (by kernel_rfl)
 have gP7 := sat_eq hsL (v := 5522437132174327113) (e := (E.ite (E.cmp (CO.eql) (E.var 4921713171630820274) (E.lit 0)) (E.ite (E.cmp (CO.eql) (E.var 189483920307755336674) (E.lit 0)) (E.var 189483920307755336672) (E.lit 0)) (E.lit 0))) (by kernel_rfl)
 have gP8 := sat_eq hsL (v := 6461466456964883221) (e := (E.ite (E.cmp (CO.eql) (E.var 4921713171630820274) (E.lit 0)) (E.ite (E.cmp (CO.eql) (E.var 189483920307755336674) (E.lit 0)) (E.var 189483920307755336673) (E.lit 0)) (E.lit 0))) (by kernel_rfl)
 have gP9 := sat_eq hsL (v := 6110854844952730517) (e := (E.ite (E.cmp (CO.eql) (E.var 6867803370832214250) (E.lit 0)) (E.var 211388767012625523298) (E.var 6867803370832214250))) (by kernel_rfl)
 have gP10 := sat_eq hsL (v := 6533545385049861917) (e := (E.ite (E.cmp (CO.eql) (E.var 6867803370832214250) (E.lit 0)) (E.ite (E.cmp (CO.eql) (E.var 211388767012625523298) (E.lit 0)) (E.var 211388767012625523296) (E.lit 0)) (E.lit 0))) (by kernel_rfl)
 have gP11 := sat_eq hsL (v := 5166731700626724074) (e := (E.ite (E.cmp (CO.eql) (E.var 6867803370832214250) (E.lit 0)) (E.ite (E.cmp (CO.eql) (E.var 211388767012625523298) (E.lit 0)) (E.var 211388767012625523297) (E.lit 0)) (E.lit 0))) (by kernel_rfl)
 have gP12 := sat_eq hsL (v := 4944629843000125340) (e := (E.ite (E.cmp (CO.eql) (E.var 6110854844952730517) (E.lit 0)) (E.var 159506637422657503490) (E.var 6110854844952730517))) (by kernel_rfl)
 have gP13 := sat_eq hsL (v := 4703818443980797717) (e := (E.ite (E.cmp (CO.eql) (E.var 6110854844952730517) (E.lit 0)) (E.ite (E.cmp (CO.eql) (E.var 159506637422657503490) (E.lit 0)) (E.var 159506637422657503488) (E.lit 0)) (E.lit 0))) (by kernel_rfl)
 have gP14 := sat_eq hsL (v := 5642847768771353825) (e := (E.ite (E.cmp (CO.eql) (E.var 6110854844952730517) (E.lit 0)) (E.ite (E.cmp (CO.eql) (E.var 159506637422657503490) (E.lit 0)) (E.var 159506637422657503489) (E.lit 0)) (E.lit 0))) (by kernel_rfl)
 have gP15 := sat_eq hsL (v := 5749368795766126993) (e := (E.ite (E.cmp (CO.eql) (E.var 4944629843000125340) (E.lit 0)) (E.var 181411484127527690114) (E.var 4944629843000125340))) (by kernel_rfl)
 have gP16 := sat_eq hsL (v := 6138740112405261601) (e := (E.ite (E.cmp (CO.eql) (E.var 4944629843000125340) (E.lit 0)) (E.ite (E.cmp (CO.eql) (E.var 181411484127527690114) (E.lit 0)) (E.var 181411484127527690112) (E.lit 0)) (E.lit 0))) (by kernel_rfl)
 have gP17 := sat_eq hsL (v := 4771926427982123758) (e := (E.ite (E.cmp (CO.eql) (E.var 4944629843000125340) (E.lit 0)) (E.ite (E.cmp (CO.eql) (E.var 181411484127527690114) (E.lit 0)) (E.var 181411484127527690113) (E.lit 0)) (E.lit 0))) (by kernel_rfl)
 have gQ0 := sat_eq hsR (v := 6219046541604573492) (e := (E.ite (E.cmp (CO.eql) (E.var 197556356487982983234) (E.lit 0)) (E.var 189483920307755336674) (E.var 197556356487982983234))) (by kernel_rfl)
 have gQ1 := sat_eq hsR (v := 4812522542738625184) (e := (E.ite (E.cmp (CO.eql) (E.var 197556356487982983234) (E.lit 0)) (E.ite (E.cmp (CO.eql) (E.var 189483920307755336674) (E.lit 0)) (E.var 189483920307755336672) (E.lit 0)) (E.lit 0))) (by kernel_rfl)
 have gQ2 := sat_eq hsR (v := 5751551867529181292) (e := (E.ite (E.cmp (CO.eql) (E.var 197556356487982983234) (E.lit 0)) (E.ite (E.cmp (CO.eql) (E.var 189483920307755336674) (E.lit 0)) (E.var 189483920307755336673) (E.lit 0)) (E.lit 0))) (by kernel_rfl)
 have gQ3 := sat_eq hsR (v := 5217907113935633157) (e := (E.ite (E.cmp (CO.eql) (E.var 6219046541604573492) (E.lit 0)) (E.var 219461203192853169858) (E.var 6219046541604573492))) (by kernel_rfl)
 have gQ4 := sat_eq hsR (v := 5046971789792777604) (e := (E.ite (E.cmp (CO.eql) (E.var 6219046541604573492) (E.lit 0)) (E.ite (E.cmp (CO.eql) (E.var 219461203192853169858) (E.lit 0)) (E.var 219461203192853169856) (E.lit 0)) (E.lit 0))) (by kernel_rfl)
 have gQ5 := sat_eq hsR (v := 5986001114583333712) (e := (E.ite (E.cmp (CO.eql) (E.var 6219046541604573492) (E.lit 0)) (E.ite (E.cmp (CO.eql) (E.var 219461203192853169858) (E.lit 0)) (E.var 219461203192853169857) (E.lit 0)) (E.lit 0))) (by kernel_rfl)
 have gQ6 := sat_eq hsR (v := 6614337935941637499) (e := (E.ite (E.cmp (CO.eql) (E.var 5217907113935633157) (E.lit 0)) (E.var 211388767012625523298) (E.var 5217907113935633157))) (by kernel_rfl)
 have gQ7 := sat_eq hsR (v := 5956634958792383265) (e := (E.ite (E.cmp (CO.eql) (E.var 5217907113935633157) (E.lit 0)) (E.ite (E.cmp (CO.eql) (E.var 211388767012625523298) (E.lit 0)) (E.var 211388767012625523296) (E.lit 0)) (E.lit 0))) (by kernel_rfl)
 have gQ8 := sat_eq hsR (v := 6895664283582939373) (e := (E.ite (E.cmp (CO.eql) (E.var 5217907113935633157) (E.lit 0)) (E.ite (E.cmp (CO.eql) (E.var 211388767012625523298) (E.lit 0)) (E.var 211388767012625523297) (E.lit 0)) (E.lit 0))) (by kernel_rfl)
 have gQ9 := sat_eq hsR (v := 5207089142170655883) (e := (E.ite (E.cmp (CO.eql) (E.var 6614337935941637499) (E.lit 0)) (E.var 167579073602885150050) (E.var 6614337935941637499))) (by kernel_rfl)
 have gQ10 := sat_eq hsR (v := 6602253292301508864) (e := (E.ite (E.cmp (CO.eql) (E.var 6614337935941637499) (E.lit 0)) (E.ite (E.cmp (CO.eql) (E.var 167579073602885150050) (E.lit 0)) (E.var 167579073602885150048) (E.lit 0)) (E.lit 0))) (by kernel_rfl)
 have gQ11 := sat_eq hsR (v := 5235439607878371021) (e := (E.ite (E.cmp (CO.eql) (E.var 6614337935941637499) (E.lit 0)) (E.ite (E.cmp (CO.eql) (E.var 167579073602885150050) (E.lit 0)) (E.var 167579073602885150049) (E.lit 0)) (E.lit 0))) (by kernel_rfl)
 have gQ12 := sat_eq hsR (v := 6873589238376714365) (e := (E.ite (E.cmp (CO.eql) (E.var 5207089142170655883) (E.lit 0)) (E.var 159506637422657503490) (E.var 5207089142170655883))) (by kernel_rfl)
 have gQ13 := sat_eq hsR (v := 5523011618522870436) (e := (E.ite (E.cmp (CO.eql) (E.var 5207089142170655883) (E.lit 0)) (E.ite (E.cmp (CO.eql) (E.var 159506637422657503490) (E.lit 0)) (E.var 159506637422657503488) (E.lit 0)) (E.lit 0))) (by kernel_rfl)
 have gQ14 := sat_eq hsR (v := 6462040943313426544) (e := (E.ite (E.cmp (CO.eql) (E.var 5207089142170655883) (E.lit 0)) (E.ite (E.cmp (CO.eql) (E.var 159506637422657503490) (E.lit 0)) (E.var 159506637422657503489) (E.lit 0)) (E.lit 0))) (by kernel_rfl)
 have gQ15 := sat_eq hsR (v := 5828689251902642502) (e := (E.ite (E.cmp (CO.eql) (E.var 6873589238376714365) (E.lit 0)) (E.var 181411484127527690114) (E.var 6873589238376714365))) (by kernel_rfl)
 have gQ16 := sat_eq hsR (v := 4809422860303631428) (e := (E.ite (E.cmp (CO.eql) (E.var 6873589238376714365) (E.lit 0)) (E.ite (E.cmp (CO.eql) (E.var 181411484127527690114) (E.lit 0)) (E.var 181411484127527690112) (E.lit 0)) (E.lit 0))) (by kernel_rfl)
 have gQ17 := sat_eq hsR (v := 5748452185094187536) (e := (E.ite (E.cmp (CO.eql) (E.var 6873589238376714365) (E.lit 0)) (E.ite (E.cmp (CO.eql) (E.var 181411484127527690114) (E.lit 0)) (E.var 181411484127527690113) (E.lit 0)) (E.lit 0))) (by kernel_rfl)
 have z0 := self0 (hR 0) n0
 have z8 := self0 (hR 15) n8
 clear hs hsL hsR hR
 simp only [E.den, co_lss, co_eql] at gP0 gP1 gP2 gP3 gP4 gP5 gP6 gP7 gP8 gP9 gP10 gP11 gP12 gP13 gP14 gP15 gP16 gP17 gQ0 gQ1 gQ2 gQ3 gQ4 gQ5 gQ6 gQ7 gQ8 gQ9 gQ10 gQ11 gQ12 gQ13 gQ14 gQ15 gQ16 gQ17
 have w0 := fun k1 k2 => meet07 n1 n9 e0 k1 k2
 have w1 := fun k1 k2 => meet07 n2 n10 e1 k1 k2
 have w2 := fun k1 k2 => meet07 n3 n11 e2 k1 k2
 have w3 := fun k1 k2 => meet07 n4 n12 e3 k1 k2
 have w4 := fun k1 k2 => meet07 n5 n13 e4 k1 k2
 have w5 := fun k1 k2 => meet07 n6 n14 e5 k1 k2
 have w6 := fun k1 k2 => meet07 n7 n15 e6 k1 k2
 clear n0 n1 n2 n3 n4 n5 n6 n7 n8 n9 n10 n11 n12 n13 n14 n15 e0 e1 e2 e3 e4 e5 e6
 have key : ε.i 163942006097017662976 = 0 → ε.i 221311408401022837216 = 0 → ε.i 148444031516666876704 = 0 → ε.i 149363630927149122624 = 0 → ε.i 150283230337631368544 = 0 → ε.i 151202829748113614464 = 0 → ε.i 152122429158595860384 = 0 → ε.i 153042028569078106304 = 0 → ε.i 207732489823053610592 = 0 → ε.i 191314915832220578400 = 0 → ε.i 192234515242702824320 = 0 → ε.i 193154114653185070240 = 0 → ε.i 194073714063667316160 = 0 → ε.i 194993313474149562080 = 0 → ε.i 195912912884631808000 = 0 → ε.i 196832512295114053920 = 0 → (ε.i 197556356487982983234 = 0 ∧ ε.i 219461203192853169858 = 0 ∧ ε.i 167579073602885150050 = 0 ∧ ε.i 189483920307755336674 = 0 ∧ ε.i 211388767012625523298 = 0 ∧ ε.i 159506637422657503490 = 0 ∧ ε.i 181411484127527690114 = 0) ∨ (ε.i 5749368795766126993 = 7 ∧ ε.i 5828689251902642502 = 7) := by
  intro k0 k1 k2 k3 k4 k5 k6 k7 k8 k9 k10 k11 k12 k13 k14 k15
  have o0 := w0 k1 k9
  have o1 := w1 k2 k10
  have o2 := w2 k3 k11
  have o3 := w3 k4 k12
  have o4 := w4 k5 k13
  have o5 := w5 k6 k14
  have o6 := w6 k7 k15
  have p0 := chain2 o0 o1 gP0
  have p1 := chainS p0 o2 gP3
  have p2 := chainS p1 o3 gP6
  have p3 := chainS p2 o4 gP9
  have p4 := chainS p3 o5 gP12
  have p5 := chainS p4 o6 gP15
  have q0 := chain2 o0 o3 gQ0
  have q1 := chainS q0 o1 gQ3
  have q2 := chainS q1 o4 gQ6
  have q3 := chainS q2 o2 gQ9
  have q4 := chainS q3 o5 gQ12
  have q5 := chainS q4 o6 gQ15
  rcases p5 with ⟨_, ⟨⟨⟨⟨⟨⟨a0, a1⟩, a2⟩, a3⟩, a4⟩, a5⟩, a6⟩⟩ | ⟨hp, hp'⟩
  ·exact .inl ⟨a0, a1, a2, a3, a4, a5, a6⟩
  rcases q5 with ⟨_, ⟨⟨⟨⟨⟨⟨a0, a3⟩, a1⟩, a4⟩, a2⟩, a5⟩, a6⟩⟩ | ⟨hq, hq'⟩
  ·exact .inl ⟨a0, a1, a2, a3, a4, a5, a6⟩
  ·exact .inr ⟨hp, hq⟩
 clear w0 w1 w2 w3 w4 w5 w6
 have h70 : ((7 : Int) = 0) = False := by simp
 rcases k with _ | _ | _ | _ | _ | _ | _ | _ | _ | _ | _ | _ | _ | _ | _ | _ | k
 ·simp only [l_joP, l_joQ, List.getD_cons_zero, List.getD_cons_succ, E.den, co_lss, co_eql]
  refine (nestJ z0 z8 fun k0 k1 k2 k3 k4 k5 k6 k7 k8 k9 k10 k11 k12 k13 k14 k15 => ?_).symm
  rcases key k0 k1 k2 k3 k4 k5 k6 k7 k8 k9 k10 k11 k12 k13 k14 k15 with ⟨a0, a1, a2, a3, a4, a5, a6⟩ | ⟨hp, hq⟩
  ·simp only [gP0, gP1, gP2, gP3, gP4, gP5, gP6, gP7, gP8, gP9, gP10, gP11, gP12, gP13, gP14, gP15, gP16, gP17, gQ0, gQ1, gQ2, gQ3, gQ4, gQ5, gQ6, gQ7, gQ8, gQ9, gQ10, gQ11, gQ12, gQ13, gQ14, gQ15, gQ16, gQ17, a0, a1, a2, a3, a4, a5, a6, if_true]
  ·simp only [hp, hq, h70, if_false]
 ·simp only [l_joP, l_joQ, List.getD_cons_zero, List.getD_cons_succ, E.den, co_lss, co_eql]
  refine (nestJ z0 z8 fun k0 k1 k2 k3 k4 k5 k6 k7 k8 k9 k10 k11 k12 k13 k14 k15 => ?_).symm
  rcases key k0 k1 k2 k3 k4 k5 k6 k7 k8 k9 k10 k11 k12 k13 k14 k15 with ⟨a0, a1, a2, a3, a4, a5, a6⟩ | ⟨hp, hq⟩
  ·simp only [gP0, gP1, gP2, gP3, gP4, gP5, gP6, gP7, gP8, gP9, gP10, gP11, gP12, gP13, gP14, gP15, gP16, gP17, gQ0, gQ1, gQ2, gQ3, gQ4, gQ5, gQ6, gQ7, gQ8, gQ9, gQ10, gQ11, gQ12, gQ13, gQ14, gQ15, gQ16, gQ17, a0, a1, a2, a3, a4, a5, a6, if_true]
  ·simp only [hp, hq, h70, if_false]
 ·simp only [l_joP, l_joQ, List.getD_cons_zero, List.getD_cons_succ, E.den, co_lss, co_eql]
  refine (nestJ z0 z8 fun k0 k1 k2 k3 k4 k5 k6 k7 k8 k9 k10 k11 k12 k13 k14 k15 => ?_).symm
  rcases key k0 k1 k2 k3 k4 k5 k6 k7 k8 k9 k10 k11 k12 k13 k14 k15 with ⟨a0, a1, a2, a3, a4, a5, a6⟩ | ⟨hp, hq⟩
  ·simp only [gP0, gP1, gP2, gP3, gP4, gP5, gP6, gP7, gP8, gP9, gP10, gP11, gP12, gP13, gP14, gP15, gP16, gP17, gQ0, gQ1, gQ2, gQ3, gQ4, gQ5, gQ6, gQ7, gQ8, gQ9, gQ10, gQ11, gQ12, gQ13, gQ14, gQ15, gQ16, gQ17, a0, a1, a2, a3, a4, a5, a6, if_true]
  ·simp only [hp, hq, h70, if_false]
 ·simp only [l_joP, l_joQ, List.getD_cons_zero, List.getD_cons_succ, E.den, co_lss, co_eql]
  refine (nestJ z0 z8 fun k0 k1 k2 k3 k4 k5 k6 k7 k8 k9 k10 k11 k12 k13 k14 k15 => ?_).symm
  rcases key k0 k1 k2 k3 k4 k5 k6 k7 k8 k9 k10 k11 k12 k13 k14 k15 with ⟨a0, a1, a2, a3, a4, a5, a6⟩ | ⟨hp, hq⟩
  ·simp only [gP0, gP1, gP2, gP3, gP4, gP5, gP6, gP7, gP8, gP9, gP10, gP11, gP12, gP13, gP14, gP15, gP16, gP17, gQ0, gQ1, gQ2, gQ3, gQ4, gQ5, gQ6, gQ7, gQ8, gQ9, gQ10, gQ11, gQ12, gQ13, gQ14, gQ15, gQ16, gQ17, a0, a1, a2, a3, a4, a5, a6, if_true]
  ·simp only [hp, hq, h70, if_false]
 ·simp only [l_joP, l_joQ, List.getD_cons_zero, List.getD_cons_succ, E.den, co_lss, co_eql]
  refine (nestJ z0 z8 fun k0 k1 k2 k3 k4 k5 k6 k7 k8 k9 k10 k11 k12 k13 k14 k15 => ?_).symm
  rcases key k0 k1 k2 k3 k4 k5 k6 k7 k8 k9 k10 k11 k12 k13 k14 k15 with ⟨a0, a1, a2, a3, a4, a5, a6⟩ | ⟨hp, hq⟩
  ·simp only [gP0, gP1, gP2, gP3, gP4, gP5, gP6, gP7, gP8, gP9, gP10, gP11, gP12, gP13, gP14, gP15, gP16, gP17, gQ0, gQ1, gQ2, gQ3, gQ4, gQ5, gQ6, gQ7, gQ8, gQ9, gQ10, gQ11, gQ12, gQ13, gQ14, gQ15, gQ16, gQ17, a0, a1, a2, a3, a4, a5, a6, if_true]
  ·simp only [hp, hq, h70, if_false]
 ·simp only [l_joP, l_joQ, List.getD_cons_zero, List.getD_cons_succ, E.den, co_lss, co_eql]
  refine (nestJ z0 z8 fun k0 k1 k2 k3 k4 k5 k6 k7 k8 k9 k10 k11 k12 k13 k14 k15 => ?_).symm
  rcases key k0 k1 k2 k3 k4 k5 k6 k7 k8 k9 k10 k11 k12 k13 k14 k15 with ⟨a0, a1, a2, a3, a4, a5, a6⟩ | ⟨hp, hq⟩
  ·simp only [gP0, gP1, gP2, gP3, gP4, gP5, gP6, gP7, gP8, gP9, gP10, gP11, gP12, gP13, gP14, gP15, gP16, gP17, gQ0, gQ1, gQ2, gQ3, gQ4, gQ5, gQ6, gQ7, gQ8, gQ9, gQ10, gQ11, gQ12, gQ13, gQ14, gQ15, gQ16, gQ17, a0, a1, a2, a3, a4, a5, a6, if_true]
  ·simp only [hp, hq, h70, if_false]
 ·simp only [l_joP, l_joQ, List.getD_cons_zero, List.getD_cons_succ, E.den, co_lss, co_eql]
  refine (nestJ z0 z8 fun k0 k1 k2 k3 k4 k5 k6 k7 k8 k9 k10 k11 k12 k13 k14 k15 => ?_).symm
  rcases key k0 k1 k2 k3 k4 k5 k6 k7 k8 k9 k10 k11 k12 k13 k14 k15 with ⟨a0, a1, a2, a3, a4, a5, a6⟩ | ⟨hp, hq⟩
  ·simp only [gP0, gP1, gP2, gP3, gP4, gP5, gP6, gP7, gP8, gP9, gP10, gP11, gP12, gP13, gP14, gP15, gP16, gP17, gQ0, gQ1, gQ2, gQ3, gQ4, gQ5, gQ6, gQ7, gQ8, gQ9, gQ10, gQ11, gQ12, gQ13, gQ14, gQ15, gQ16, gQ17, a0, a1, a2, a3, a4, a5, a6, if_true]
  ·simp only [hp, hq, h70, if_false]
 ·simp only [l_joP, l_joQ, List.getD_cons_zero, List.getD_cons_succ, E.den, co_lss, co_eql]
  refine (nestJ z0 z8 fun k0 k1 k2 k3 k4 k5 k6 k7 k8 k9 k10 k11 k12 k13 k14 k15 => ?_).symm
  rcases key k0 k1 k2 k3 k4 k5 k6 k7 k8 k9 k10 k11 k12 k13 k14 k15 with ⟨a0, a1, a2, a3, a4, a5, a6⟩ | ⟨hp, hq⟩
  ·simp only [gP0, gP1, gP2, gP3, gP4, gP5, gP6, gP7, gP8, gP9, gP10, gP11, gP12, gP13, gP14, gP15, gP16, gP17, gQ0, gQ1, gQ2, gQ3, gQ4, gQ5, gQ6, gQ7, gQ8, gQ9, gQ10, gQ11, gQ12, gQ13, gQ14, gQ15, gQ16, gQ17, a0, a1, a2, a3, a4, a5, a6, if_true]
  ·simp only [hp, hq, h70, if_false]
 ·simp only [l_joP, l_joQ, List.getD_cons_zero, List.getD_cons_succ, E.den, co_lss, co_eql]
  refine (nestJ z0 z8 fun k0 k1 k2 k3 k4 k5 k6 k7 k8 k9 k10 k11 k12 k13 k14 k15 => ?_).symm
  rcases key k0 k1 k2 k3 k4 k5 k6 k7 k8 k9 k10 k11 k12 k13 k14 k15 with ⟨a0, a1, a2, a3, a4, a5, a6⟩ | ⟨hp, hq⟩
  ·simp only [gP0, gP1, gP2, gP3, gP4, gP5, gP6, gP7, gP8, gP9, gP10, gP11, gP12, gP13, gP14, gP15, gP16, gP17, gQ0, gQ1, gQ2, gQ3, gQ4, gQ5, gQ6, gQ7, gQ8, gQ9, gQ10, gQ11, gQ12, gQ13, gQ14, gQ15, gQ16, gQ17, a0, a1, a2, a3, a4, a5, a6, if_true]
  ·simp only [hp, hq, h70, if_false]
 ·simp only [l_joP, l_joQ, List.getD_cons_zero, List.getD_cons_succ, E.den, co_lss, co_eql]
  refine (nestJ z0 z8 fun k0 k1 k2 k3 k4 k5 k6 k7 k8 k9 k10 k11 k12 k13 k14 k15 => ?_).symm
  rcases key k0 k1 k2 k3 k4 k5 k6 k7 k8 k9 k10 k11 k12 k13 k14 k15 with ⟨a0, a1, a2, a3, a4, a5, a6⟩ | ⟨hp, hq⟩
  ·simp only [gP0, gP1, gP2, gP3, gP4, gP5, gP6, gP7, gP8, gP9, gP10, gP11, gP12, gP13, gP14, gP15, gP16, gP17, gQ0, gQ1, gQ2, gQ3, gQ4, gQ5, gQ6, gQ7, gQ8, gQ9, gQ10, gQ11, gQ12, gQ13, gQ14, gQ15, gQ16, gQ17, a0, a1, a2, a3, a4, a5, a6, if_true]
  ·simp only [hp, hq, h70, if_false]
 ·simp only [l_joP, l_joQ, List.getD_cons_zero, List.getD_cons_succ, E.den, co_lss, co_eql]
  refine (nestJ z0 z8 fun k0 k1 k2 k3 k4 k5 k6 k7 k8 k9 k10 k11 k12 k13 k14 k15 => ?_).symm
  rcases key k0 k1 k2 k3 k4 k5 k6 k7 k8 k9 k10 k11 k12 k13 k14 k15 with ⟨a0, a1, a2, a3, a4, a5, a6⟩ | ⟨hp, hq⟩
  ·simp only [gP0, gP1, gP2, gP3, gP4, gP5, gP6, gP7, gP8, gP9, gP10, gP11, gP12, gP13, gP14, gP15, gP16, gP17, gQ0, gQ1, gQ2, gQ3, gQ4, gQ5, gQ6, gQ7, gQ8, gQ9, gQ10, gQ11, gQ12, gQ13, gQ14, gQ15, gQ16, gQ17, a0, a1, a2, a3, a4, a5, a6, if_true]
  ·simp only [hp, hq, h70, if_false]
 ·simp only [l_joP, l_joQ, List.getD_cons_zero, List.getD_cons_succ, E.den, co_lss, co_eql]
  refine (nestJ z0 z8 fun k0 k1 k2 k3 k4 k5 k6 k7 k8 k9 k10 k11 k12 k13 k14 k15 => ?_).symm
  rcases key k0 k1 k2 k3 k4 k5 k6 k7 k8 k9 k10 k11 k12 k13 k14 k15 with ⟨a0, a1, a2, a3, a4, a5, a6⟩ | ⟨hp, hq⟩
  ·simp only [gP0, gP1, gP2, gP3, gP4, gP5, gP6, gP7, gP8, gP9, gP10, gP11, gP12, gP13, gP14, gP15, gP16, gP17, gQ0, gQ1, gQ2, gQ3, gQ4, gQ5, gQ6, gQ7, gQ8, gQ9, gQ10, gQ11, gQ12, gQ13, gQ14, gQ15, gQ16, gQ17, a0, a1, a2, a3, a4, a5, a6, if_true]
  ·simp only [hp, hq, h70, if_false]
 ·simp only [l_joP, l_joQ, List.getD_cons_zero, List.getD_cons_succ, E.den, co_lss, co_eql]
  refine (nestJ z0 z8 fun k0 k1 k2 k3 k4 k5 k6 k7 k8 k9 k10 k11 k12 k13 k14 k15 => ?_).symm
  rcases key k0 k1 k2 k3 k4 k5 k6 k7 k8 k9 k10 k11 k12 k13 k14 k15 with ⟨a0, a1, a2, a3, a4, a5, a6⟩ | ⟨hp, hq⟩
  ·simp only [gP0, gP1, gP2, gP3, gP4, gP5, gP6, gP7, gP8, gP9, gP10, gP11, gP12, gP13, gP14, gP15, gP16, gP17, gQ0, gQ1, gQ2, gQ3, gQ4, gQ5, gQ6, gQ7, gQ8, gQ9, gQ10, gQ11, gQ12, gQ13, gQ14, gQ15, gQ16, gQ17, a0, a1, a2, a3, a4, a5, a6, if_true]
  ·simp only [hp, hq, h70, if_false]
 ·simp only [l_joP, l_joQ, List.getD_cons_zero, List.getD_cons_succ, E.den, co_lss, co_eql]
  refine (nestJ z0 z8 fun k0 k1 k2 k3 k4 k5 k6 k7 k8 k9 k10 k11 k12 k13 k14 k15 => ?_).symm
  rcases key k0 k1 k2 k3 k4 k5 k6 k7 k8 k9 k10 k11 k12 k13 k14 k15 with ⟨a0, a1, a2, a3, a4, a5, a6⟩ | ⟨hp, hq⟩
  ·simp only [gP0, gP1, gP2, gP3, gP4, gP5, gP6, gP7, gP8, gP9, gP10, gP11, gP12, gP13, gP14, gP15, gP16, gP17, gQ0, gQ1, gQ2, gQ3, gQ4, gQ5, gQ6, gQ7, gQ8, gQ9, gQ10, gQ11, gQ12, gQ13, gQ14, gQ15, gQ16, gQ17, a0, a1, a2, a3, a4, a5, a6, if_true]
  ·simp only [hp, hq, h70, if_false]
 ·simp only [l_joP, l_joQ, List.getD_cons_zero, List.getD_cons_succ, E.den, co_lss, co_eql]
  refine (nestJ z0 z8 fun k0 k1 k2 k3 k4 k5 k6 k7 k8 k9 k10 k11 k12 k13 k14 k15 => ?_).symm
  rcases key k0 k1 k2 k3 k4 k5 k6 k7 k8 k9 k10 k11 k12 k13 k14 k15 with ⟨a0, a1, a2, a3, a4, a5, a6⟩ | ⟨hp, hq⟩
  ·simp only [gP0, gP1, gP2, gP3, gP4, gP5, gP6, gP7, gP8, gP9, gP10, gP11, gP12, gP13, gP14, gP15, gP16, gP17, gQ0, gQ1, gQ2, gQ3, gQ4, gQ5, gQ6, gQ7, gQ8, gQ9, gQ10, gQ11, gQ12, gQ13, gQ14, gQ15, gQ16, gQ17, a0, a1, a2, a3, a4, a5, a6, if_true]
  ·simp only [hp, hq, h70, if_false]
 ·simp only [l_joP, l_joQ, List.getD_cons_zero, List.getD_cons_succ, E.den, co_lss, co_eql]
  refine (nestJ z0 z8 fun k0 k1 k2 k3 k4 k5 k6 k7 k8 k9 k10 k11 k12 k13 k14 k15 => ?_).symm
  rcases key k0 k1 k2 k3 k4 k5 k6 k7 k8 k9 k10 k11 k12 k13 k14 k15 with ⟨a0, a1, a2, a3, a4, a5, a6⟩ | ⟨hp, hq⟩
  ·simp only [gP0, gP1, gP2, gP3, gP4, gP5, gP6, gP7, gP8, gP9, gP10, gP11, gP12, gP13, gP14, gP15, gP16, gP17, gQ0, gQ1, gQ2, gQ3, gQ4, gQ5, gQ6, gQ7, gQ8, gQ9, gQ10, gQ11, gQ12, gQ13, gQ14, gQ15, gQ16, gQ17, a0, a1, a2, a3, a4, a5, a6, if_true]
  ·simp only [hp, hq, h70, if_false]
 ·omega
end SX
end Go.Proofs.Ytdoigcpcponnhaa
end
section
set_option maxRecDepth 1000000
namespace Go.Proofs.Ytdoigcpcponnhaa
open Go.RowKit
namespace SX
noncomputable def valG90 (T : Env) (L : List Int) (k : Nat) : Int := clampI ((resE (rd Try.prog KL 3000 (2^240) 4 pat90 []).1 k).den ((envL T (L.map clampI)).solve (S3 T) ((rd Try.prog KL 3000 (2^240) 4 pat90 []).2.2 ++ (rd Try.prog KL 3000 (2^240) 5 pat90 []).2.2))).1
noncomputable def valG91 (T : Env) (L : List Int) (k : Nat) : Int := clampI ((resE (rd Try.prog KL 3000 (2^240) 6 pat91 []).1 k).den ((envL T (L.map clampI)).solve (S3 T) ((rd Try.prog KL 3000 (2^240) 6 pat91 []).2.2 ++ (rd Try.prog KL 3000 (2^240) 7 pat91 []).2.2))).1
noncomputable def val4 (T : Env) (s : Nat) (L : List Int) (k : Nat) : Int := if s = 90 then valG90 T L k else if s = 91 then valG91 T L k else val3 T s L k
theorem val4_R64 (T : Env) (s : Nat) (L : List Int) (k : Nat) : R64 (val4 T s L k) := by
 unfold val4
 split
 ·exact clampI_R64 _
 ·split
  ·exact clampI_R64 _
  ·exact val3_R64 _ _ _ _
noncomputable def S4 (T : Env) : Sig := ⟨fun f => sy.lookup f, val4 T⟩
def new4 (f : FuncId) : Bool := f == 4 || f == 5 || (f == 6 || f == 7)
def shp4 (f : FuncId) (args : List LV) (mem : List (Nat × Cells)) : Bool := if f == 4 || f == 5 then matchLVs pat90 args 0 else if f == 6 || f == 7 then matchLVs pat91 args 0 else shp2 f args mem
theorem nom91 : ((rd Try.prog KL 3000 (2^240) 6 pat91 []).2.2 ++ (rd Try.prog KL 3000 (2^240) 7 pat91 []).2.2).all (fun ob => !ob.isM) = true := by kernel_rfl
theorem con4 (w0 : World) (T : Env) (hT : TubesIn w0 T) : Con Try.prog (S4 T) shp4 T w0 := by
 refine con_ext (S := S3 T) (shp := shp2) new4 (fun _ => rfl) (fun f args mem hf h => ?_) (fun f args mem s z h hs L k => ?_) (con3 w0 T) (fun ε ht hε w hw f args mem res upd hf hsh hstd hr hsat => ?_)
 ·simp only [new4, Bool.or_eq_false_iff] at hf
  simpa only [shp4, hf.1.1, hf.1.2, hf.2.1, hf.2.2, Bool.or_false, Bool.false_eq_true, if_false] using h
 ·have := shp2_s h hs
  show val4 T s L k = val3 T s L k
  unfold val4
  rw [if_neg (by omega), if_neg (by omega)]
 ·have hv90 : ∀ L k, k < sizeSh sz90 → (S4 T).val 90 L k = valG90 T L k := fun L k _ => by
   show val4 T 90 L k = _
   unfold val4
   rw [if_pos rfl]
  have hv91 : ∀ L k, k < sizeSh sz91 → (S4 T).val 91 L k = valG91 T L k := fun L k _ => by
   show val4 T 91 L k = _
   unfold val4
   rw [if_neg (by omega), if_pos rfl]
  simp only [new4, Bool.or_eq_true, beq_iff_eq] at hf
  rcases hf with (rfl | rfl) | (rfl | rfl)
  ·exact pairG_con hmix (by decide) (pair90 T) (of_decide_eq_true (by kernel_rfl)) (hS3 T) (con3 w0 T) (s := 90) (fun ε' w' hw' a1 a2 a3 a4 a5 a6 => rises_mem (hT.below hw') a1 a2 a3 a4 a5 a6) (fun ε' _ a5 a6 k hk => heq90 a6 a5 k hk) hv90 (.inl rfl) rfl Try.func4 (fun base => ⟨base + 3, by kernel_rfl⟩) ε ht hw hsh (matchLVs_R64 hε hsh (rngOb_args hr) (by kernel_rfl)) hstd hsat
  ·exact pairG_con hmix (by decide) (pair90 T) (of_decide_eq_true (by kernel_rfl)) (hS3 T) (con3 w0 T) (s := 90) (fun ε' w' hw' a1 a2 a3 a4 a5 a6 => rises_mem (hT.below hw') a1 a2 a3 a4 a5 a6) (fun ε' _ a5 a6 k hk => heq90 a6 a5 k hk) hv90 (.inr rfl) rfl Try.func5 (fun base => ⟨base + 3, by kernel_rfl⟩) ε ht hw hsh (matchLVs_R64 hε hsh (rngOb_args hr) (by kernel_rfl)) hstd hsat
  ·exact pairG_con hmix (by decide) (pair91 T) (of_decide_eq_true (by kernel_rfl)) (hS3 T) (con3 w0 T) (s := 91) (fun ε' w' hw' a1 a2 a3 a4 a5 a6 ob hb hm => by have := List.all_eq_true.1 nom91 ob hb; rw [hm] at this; cases this) (fun ε' _ a5 a6 k hk => heq91 a6 a5 k hk) hv91 (.inl rfl) rfl Try.func6 (fun base => ⟨base + 16, by kernel_rfl⟩) ε ht hw hsh (matchLVs_R64 hε hsh (rngOb_args hr) (by kernel_rfl)) hstd hsat
  ·exact pairG_con hmix (by decide) (pair91 T) (of_decide_eq_true (by kernel_rfl)) (hS3 T) (con3 w0 T) (s := 91) (fun ε' w' hw' a1 a2 a3 a4 a5 a6 ob hb hm => by have := List.all_eq_true.1 nom91 ob hb; rw [hm] at this; cases this) (fun ε' _ a5 a6 k hk => heq91 a6 a5 k hk) hv91 (.inr rfl) rfl Try.func7 (fun base => ⟨base + 16, by kernel_rfl⟩) ε ht hw hsh (matchLVs_R64 hε hsh (rngOb_args hr) (by kernel_rfl)) hstd hsat
end SX
end Go.Proofs.Ytdoigcpcponnhaa
end
