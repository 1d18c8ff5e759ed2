/- The walk of the law FnSequencesMoved. -/
import Derived.Test.YtfjhocmnafdnfaaCurD
import Derived.Test.YtfjhocmnafdnfaaFmA
import Derived.Test.YtfjhocmnafdnfaaLwH
import Derived.Test.YtfjhocmnafdnfaaITurnBy
import Derived.Test.YtfjhocmnafdnfaaSTurnBy
import Derived.Test.YtfjhocmnafdnfaaIShiftBy
import Derived.Test.YtfjhocmnafdnfaaSShiftBy
import Derived.Test.YtfjhocmnafdnfaaIClimbBy
import Derived.Test.YtfjhocmnafdnfaaSClimbBy
import Derived.Test.YtfjhocmnafdnfaaIConjugateOf
import Derived.Test.YtfjhocmnafdnfaaSConjugateOf
import Derived.Test.YtfjhocmnafdnfaaIBackwardsOf
import Derived.Test.YtfjhocmnafdnfaaSBackwardsOf
import Derived.Test.YtfjhocmnafdnfaaSum
import Derived.Test.YtfjhocmnafdnfaaAlt
import Derived.Test.YtfjhocmnafdnfaaIsSeq
import Derived.Deep.Cut
import Derived.Test.YtfjhocmnafdnfaaRgA
namespace Go.Proofs.Ytfjhocmnafdnfaa
set_option maxRecDepth 100000
open Go.RowKit

theorem alloc_bel (w : World) (o : Obj) : Below w.heap.size w (w.alloc o) := belowa (Below.refl _ _) o
theorem BS.below {w w' : World} {v : Value} {l : List Int} (h : BS w v l) (hb : Below w.heap.size w w') : BS w' v l := h.grown (grown_of_below hb none) (fun _ k _ e => by cases e)
theorem cSame_same (va vb : Value) (l : List Int) (w : World) (ha : IS w va l) (hb : IS w vb l) : Calls Try.prog 24 #[va, vb] w (Ret w (.bool true)) := by
  have h := cSame_any va vb l l w ha hb
  rwa [decide_eq_true rfl] at h
set_option maxRecDepth 100000 in
set_option maxHeartbeats 16000000 in
theorem sequencesMoved_law (w : World) (va vb : Value) (la lb : List Int) (ha : BS w va la) (hb0 : BS w vb lb) : Calls Try.prog 4 #[va, vb] w (Ret w (.bool true)) := by
  have B0 := Lib.hid (Below.refl w.heap.size w)
  have O1_A := Lib.hid (ha)
  have O2_B := Lib.hid (hb0)
  cases hf : few la lb with
  | false =>
    have HB := Lib.hid (big_any va vb la lb w ha hb0)
    rw [hf] at HB
    clear ha hb0 hf
    go_enter Try.func4, Try.ntmps4
    go_wp2_with fail
    refine (HB.out).mono ?_
    rintro e w3 ⟨rfl, hb⟩
    have L4 := Lib.hid (hb)
    clear hb
    go_wp2_with fail
    go_returns
    exact ⟨rfl, L4.out⟩
  | true =>
    have HB := Lib.hid (big_any va vb la lb w ha hb0)
    rw [hf] at HB
    clear ha hb0 hf
    go_enter Try.func4, Try.ntmps4
    go_wp2_with fail
    refine (HB.out).mono ?_
    rintro e w101 ⟨rfl, hb⟩
    have L102 := Lib.hid (hb)
    clear hb
    go_wp2_with fail
    have K0_103 := Lib.hid (L102.out)
    refine (drawTurnBy _ la _ (BS.below O1_A.out K0_103.out)).mono ?_
    rintro e w104 ⟨v0, rfl, ⟨vs, s, k, rfl, ho, hl, hk0, hk1⟩, hb⟩
    have L105 := Lib.hid (hb)
    clear hb
    have O106_s := Lib.hid (ho.is)
    clear ho
    have HL : s.length ≤ 1048576 := by omega
    obtain ⟨ok, hok⟩ : ∃ b, b = turnOk s k := ⟨_, rfl⟩
    have hok2 : shiftOk s k = ok := by rw [hok]; rfl
    have H1 := Lib.hid (fun v w h => iturn v s k w h HL)
    have H2 := Lib.hid (fun v w h => sturn v s k w h HL)
    have H3 := Lib.hid (fun v w h => ishift v s k w h HL)
    have H4 := Lib.hid (fun v w h => sshift v s k w h HL)
    rw [← hok] at H1 H2
    rw [hok2] at H3 H4
    have HOK := Lib.hid hok
    clear hok hok2
    go_wp2_with fail
    refine (H1.out _ _ O106_s.out).mono ?_
    rintro e w107 ⟨v107, rfl, ho, hb⟩
    have L108 := Lib.hid (hb)
    clear hb
    have O109_turned := Lib.hid (ho.is)
    clear ho
    go_wp2_with fail
    have K2_110 := Lib.hid (L108.out)
    refine (H2.out _ _ (IS.below O106_s.out K2_110.out)).mono ?_
    rintro e w111 ⟨v111, rfl, ho, hb⟩
    have L112 := Lib.hid (hb)
    clear hb
    have O113_right := Lib.hid (ho.is)
    clear ho
    go_wp2_with fail
    have K2_114 := Lib.hid (joins (K2_110.out) L112.out)
    refine (H3.out _ _ (IS.below O106_s.out K2_114.out)).mono ?_
    rintro e w115 ⟨v115, rfl, ho, hb⟩
    have L116 := Lib.hid (hb)
    clear hb
    have O117_shifted := Lib.hid (ho.is)
    clear ho
    go_wp2_with fail
    have K2_118 := Lib.hid (joins (K2_114.out) L116.out)
    refine (H4.out _ _ (IS.below O106_s.out K2_118.out)).mono ?_
    rintro e w119 ⟨v119, rfl, ho, hb⟩
    have L120 := Lib.hid (hb)
    clear hb
    have O121_want := Lib.hid (ho.is)
    clear ho
    go_wp2_with fail
    have K3_122 := Lib.hid (joins (joins (L112.out) L116.out) L120.out)
    have K4_123 := Lib.hid (joins (L116.out) L120.out)
    refine (cSame_same _ _ _ _ (IS.below O109_turned.out K3_122.out) (IS.below O113_right.out K4_123.out)).mono ?_
    rintro e w124 ⟨rfl, hb⟩
    have L125 := Lib.hid (hb)
    clear hb
    go_wp2_with fail
    have K5_126 := Lib.hid (joins (L120.out) L125.out)
    have K6_127 := Lib.hid (L125.out)
    refine (cSame_same _ _ _ _ (IS.below O117_shifted.out K5_126.out) (IS.below O121_want.out K6_127.out)).mono ?_
    rintro e w128 ⟨rfl, hb⟩
    have L129 := Lib.hid (hb)
    clear hb
    go_upto_if 114 with fail
    go_cut [] from 57 (fun w' => Below w128.heap.size w128 w')
    case first =>
      cases ok with
      | false =>
        go_wp2_with fail
        go_meet
        case rel => exact Below.refl _ _
      | true =>
        have hT := HOK.out.symm
        obtain ⟨hseq, hk2, hk3⟩ := turnOk_parts hT
        obtain ⟨e1, e2⟩ := turned_back hT
        obtain ⟨e3, e4⟩ := shifted_back hT
        obtain ⟨e5, e6⟩ := barred_back hseq
        obtain ⟨e7, e8⟩ := mirrored_back hseq
        obtain ⟨s1, s2, s3⟩ := sum_shiftF hT
        obtain ⟨s4, s5, s6⟩ := sum_turnF hT
        obtain ⟨s7, s8, s9⟩ := sum_barF hseq
        have J1 := Lib.hid (fun v w h => iturn v (turnF s k) (-k) w h (turnF_len _ _))
        have J2 := Lib.hid (fun v w h => ishift v (shiftF s k) (-k) w h (shiftF_len _ _))
        have J3 := Lib.hid (fun v w h => ibar v s w h HL)
        have J4 := Lib.hid (fun v w h => ibar v (barF s) w h (barF_len _))
        have J5 := Lib.hid (fun v w h => iback v s w h HL)
        have J6 := Lib.hid (fun v w h => iback v (backF s) w h (backF_len _))
        rw [e1, e2] at J1
        rw [e3, e4] at J2
        rw [show barOk s = true from hseq] at J3
        rw [e5, e6] at J4
        rw [show backOk s = true from hseq] at J5
        rw [e7, e8] at J6
        have M1 := Lib.hid (fun v w h => isumOf v s w h HL)
        have M2 := Lib.hid (fun v w h => isumOf v (shiftF s k) w h (shiftF_len _ _))
        have M3 := Lib.hid (fun v w h => isumOf v (turnF s k) w h (turnF_len _ _))
        have M4 := Lib.hid (fun v w h => isumOf v (barF s) w h (barF_len _))
        have hsm := sumXY_small s
        rw [hseq] at M1
        rw [s1, s2, s3] at M2
        rw [s4, s5, s6] at M3
        rw [s7, s8, s9] at M4
        have hpq := vxy_small (k % 4)
        have KV := Lib.hid (fun w => cValue_any k w)
        obtain ⟨X, hX⟩ : ∃ X, X = sumX s := ⟨_, rfl⟩
        obtain ⟨Y, hY⟩ : ∃ X, X = sumY s := ⟨_, rfl⟩
        obtain ⟨p, hp⟩ : ∃ X, X = vx (k % 4) := ⟨_, rfl⟩
        obtain ⟨q, hq⟩ : ∃ X, X = vy (k % 4) := ⟨_, rfl⟩
        rw [← hX] at M1 M2 M3 M4 hsm
        rw [← hY] at M1 M2 M3 M4 hsm
        rw [← hp] at M3 hpq KV
        rw [← hq] at M3 hpq KV
        have KT := Lib.hid (fun w => cTimes_any X Y p q (by omega) (by omega) (by omega) (by omega) w)
        have KB := Lib.hid (fun w => cBar_any X Y (by omega) w)
        clear hT hseq e1 e2 e3 e4 e5 e6 e7 e8 s1 s2 s3 s4 s5 s6 s7 s8 s9 hsm hpq hX hY hp hq
        obtain ⟨A, hA⟩ : ∃ A, A = X * p - Y * q := ⟨_, rfl⟩
        obtain ⟨E, hE⟩ : ∃ A, A = X * q + Y * p := ⟨_, rfl⟩
        rw [← hA, ← hE] at M3 KT
        clear hA hE
        go_wp2_with fail
        have K3_201 := Lib.hid (joins (joins (K3_122.out) L125.out) L129.out)
        refine (J1.out _ _ (IS.below O109_turned.out K3_201.out)).mono ?_
        rintro e w202 ⟨v202, rfl, ho, hb⟩
        have L203 := Lib.hid (hb)
        clear hb
        have O204_back := Lib.hid (ho.is)
        clear ho
        go_wp2_with fail
        have K5_205 := Lib.hid (joins (joins (K5_126.out) L129.out) L203.out)
        refine (J2.out _ _ (IS.below O117_shifted.out K5_205.out)).mono ?_
        rintro e w206 ⟨v206, rfl, ho, hb⟩
        have L207 := Lib.hid (hb)
        clear hb
        have O208_home := Lib.hid (ho.is)
        clear ho
        go_wp2_with fail
        have K2_209 := Lib.hid (joins (joins (joins (joins (joins (K2_118.out) L120.out) L125.out) L129.out) L203.out) L207.out)
        refine (J3.out _ _ (IS.below O106_s.out K2_209.out)).mono ?_
        rintro e w210 ⟨v210, rfl, ho, hb⟩
        have L211 := Lib.hid (hb)
        clear hb
        have O212_bars := Lib.hid (ho.is)
        clear ho
        go_wp2_with fail
        refine (J4.out _ _ O212_bars.out).mono ?_
        rintro e w213 ⟨v213, rfl, ho, hb⟩
        have L214 := Lib.hid (hb)
        clear hb
        have O215_again := Lib.hid (ho.is)
        clear ho
        go_wp2_with fail
        have K2_216 := Lib.hid (joins (joins (K2_209.out) L211.out) L214.out)
        refine (J5.out _ _ (IS.below O106_s.out K2_216.out)).mono ?_
        rintro e w217 ⟨v217, rfl, ho, hb⟩
        have L218 := Lib.hid (hb)
        clear hb
        have O219_mirror := Lib.hid (ho.is)
        clear ho
        go_wp2_with fail
        refine (J6.out _ _ O219_mirror.out).mono ?_
        rintro e w220 ⟨v220, rfl, ho, hb⟩
        have L221 := Lib.hid (hb)
        clear hb
        have O222_twice := Lib.hid (ho.is)
        clear ho
        go_wp2_with fail
        have K2_223 := Lib.hid (joins (joins (K2_216.out) L218.out) L221.out)
        refine (M1.out _ _ (IS.below O106_s.out K2_223.out)).mono ?_
        rintro e w224 ⟨rfl, hb⟩
        have L225 := Lib.hid (hb)
        clear hb
        have L227 := Lib.hid (alloc_bel w224 (.cells #[.int .i64 X, .int .i64 Y] 39))
        have O228_b27 := Lib.hid (And.intro (cell_new0 w224 (.int .i64 X) (.int .i64 Y) 39) (cell_new1 w224 (.int .i64 X) (.int .i64 Y) 39))
        go_wp2_with fail
        have K5_229 := Lib.hid (joins (joins (joins (joins (joins (joins (joins (K5_205.out) L207.out) L211.out) L214.out) L218.out) L221.out) L225.out) L227.out)
        refine (M2.out _ _ (IS.below O117_shifted.out K5_229.out)).mono ?_
        rintro e w230 ⟨rfl, hb⟩
        have L231 := Lib.hid (hb)
        clear hb
        have L233 := Lib.hid (alloc_bel w230 (.cells #[.int .i64 X, .int .i64 Y] 39))
        have O234_b29 := Lib.hid (And.intro (cell_new0 w230 (.int .i64 X) (.int .i64 Y) 39) (cell_new1 w230 (.int .i64 X) (.int .i64 Y) 39))
        go_wp2_with fail
        have K3_235 := Lib.hid (joins (joins (joins (joins (joins (joins (joins (joins (joins (joins (K3_201.out) L203.out) L207.out) L211.out) L214.out) L218.out) L221.out) L225.out) L227.out) L231.out) L233.out)
        refine (M3.out _ _ (IS.below O109_turned.out K3_235.out)).mono ?_
        rintro e w236 ⟨rfl, hb⟩
        have L237 := Lib.hid (hb)
        clear hb
        have L239 := Lib.hid (alloc_bel w236 (.cells #[.int .i64 A, .int .i64 E] 39))
        have O240_b31 := Lib.hid (And.intro (cell_new0 w236 (.int .i64 A) (.int .i64 E) 39) (cell_new1 w236 (.int .i64 A) (.int .i64 E) 39))
        go_wp2_with fail
        have K11_241 := Lib.hid (joins (joins (joins (joins (joins (joins (joins (joins (L214.out) L218.out) L221.out) L225.out) L227.out) L231.out) L233.out) L237.out) L239.out)
        refine (M4.out _ _ (IS.below O212_bars.out K11_241.out)).mono ?_
        rintro e w242 ⟨rfl, hb⟩
        have L243 := Lib.hid (hb)
        clear hb
        have L245 := Lib.hid (alloc_bel w242 (.cells #[.int .i64 X, .int .i64 (-Y)] 39))
        have O246_b33 := Lib.hid (And.intro (cell_new0 w242 (.int .i64 X) (.int .i64 (-Y)) 39) (cell_new1 w242 (.int .i64 X) (.int .i64 (-Y)) 39))
        go_wp2_with fail
        obtain ⟨wr, hwr⟩ : ∃ x, x = (w242.alloc (.cells #[.int .i64 X, .int .i64 (-Y)] 39)) := ⟨_, rfl⟩
        have K9_247 := Lib.hid (joins (joins (joins (joins (joins (joins (joins (joins (joins (joins (joins (joins (L207.out) L211.out) L214.out) L218.out) L221.out) L225.out) L227.out) L231.out) L233.out) L237.out) L239.out) L243.out) L245.out)
        have I_back := Lib.hid ((IS.below O204_back.out K9_247.out))
        have K10_248 := Lib.hid (joins (joins (joins (joins (joins (joins (joins (joins (joins (joins (joins (L211.out) L214.out) L218.out) L221.out) L225.out) L227.out) L231.out) L233.out) L237.out) L239.out) L243.out) L245.out)
        have I_home := Lib.hid ((IS.below O208_home.out K10_248.out))
        have K12_249 := Lib.hid (joins (joins (joins (joins (joins (joins (joins (joins (joins (L218.out) L221.out) L225.out) L227.out) L231.out) L233.out) L237.out) L239.out) L243.out) L245.out)
        have I_again := Lib.hid ((IS.below O215_again.out K12_249.out))
        have K14_250 := Lib.hid (joins (joins (joins (joins (joins (joins (joins (L225.out) L227.out) L231.out) L233.out) L237.out) L239.out) L243.out) L245.out)
        have I_twice := Lib.hid ((IS.below O222_twice.out K14_250.out))
        have K2_251 := Lib.hid (joins (joins (joins (joins (joins (joins (joins (joins (K2_223.out) L225.out) L227.out) L231.out) L233.out) L237.out) L239.out) L243.out) L245.out)
        have I_s := Lib.hid ((IS.below O106_s.out K2_251.out))
        have K16_252 := Lib.hid (joins (joins (joins (joins (joins (L231.out) L233.out) L237.out) L239.out) L243.out) L245.out)
        have ⟨p253, q253⟩ := (And.intro (keepc K16_252.out O228_b27.out.1) (keepc K16_252.out O228_b27.out.2))
        have K18_254 := Lib.hid (joins (joins (joins (L237.out) L239.out) L243.out) L245.out)
        have ⟨p255, q255⟩ := (And.intro (keepc K18_254.out O234_b29.out.1) (keepc K18_254.out O234_b29.out.2))
        have K20_256 := Lib.hid (joins (L243.out) L245.out)
        have ⟨p257, q257⟩ := (And.intro (keepc K20_256.out O240_b31.out.1) (keepc K20_256.out O240_b31.out.2))
        have ⟨p258, q258⟩ := O246_b33.out
        rw [← hwr] at I_back I_home I_again I_twice I_s p253 q253 p255 q255 p257 q257 p258 q258 ⊢
        have HWR := Lib.hid hwr
        clear hwr
        have C_back := Lib.hid (fun w' (h : Below wr.heap.size wr w') => cSame_same _ _ s w' (I_back.out.below h) (I_s.out.below h))
        have C_home := Lib.hid (fun w' (h : Below wr.heap.size wr w') => cSame_same _ _ s w' (I_home.out.below h) (I_s.out.below h))
        have C_again := Lib.hid (fun w' (h : Below wr.heap.size wr w') => cSame_same _ _ s w' (I_again.out.below h) (I_s.out.below h))
        have C_twice := Lib.hid (fun w' (h : Below wr.heap.size wr w') => cSame_same _ _ s w' (I_twice.out.below h) (I_s.out.below h))
        dsimp only [List.append]
        refine wp_region_all (aF := ?aF) [none, none, none, none, none, none, none, none, none, none, none, none, none, none, none, none, none, none, none, none, none, none, none, none, none, none, none, none, none, none, none, none, none, none, none, none, none, none, none, none, none, none, none, none, none, none, none, none, none, none, none, none, none, none, none, none, none, none, none, none, none, none, none, none, none, none, none, none, none, none, none, none, none, none, none, none, none, none, none, none, none, none, none, none, none, none, none, none, none, none, none, none, none, none, none, none, none, none, none, none, none, none, none, none, none, none, none, none, none, none, none, none, none, none, none, none, none, none, none, none, none, none, none, none, none, none, none, none, none, none, none, none, none, none, none, none, none, none, none, none, none, none, none, none, none, none, none, none, none, none, none, none, none, none, none, none, none, none, none, none, none, none, none, none, none, none, none, none, none, some (.bool true), some (.bool false), some (.bool false), some (v202), some (vs), some (.bool true), some (.bool false), some (.bool false), some (.bool false), some (.bool true), some (.bool false), some (.bool false), some (.bool false), some (v206), some (vs), some (.bool true), some (.bool false), some (.bool false), some (.bool false), some (.bool true), some (.bool false), some (.bool false), some (.bool false), some (.bool true), some (.bool false), some (.bool false), some (.bool false), some (v213), some (vs), some (.bool true), some (.bool false), some (.bool false), some (.bool false), some (.bool true), some (.bool false), some (.bool false), some (.bool false), some (.bool true), some (.bool false), some (.bool false), some (.bool false), some (v220), some (vs), some (.bool true), some (.bool false), some (.bool false), some (.bool false), some (.bool true), some (.bool false), some (.bool false), some (.bool false), some (.bool true), some (.bool false), some (.bool false), some (.bool false), some (.agg #[.int .i64 X, .int .i64 Y]), some (.agg #[.int .i64 X, .int .i64 Y]), some (.bool false), some (.bool false), some (.bool false), some (.bool true), some (.bool false), some (.bool false), some (.bool false), some (.agg #[.int .i64 A, .int .i64 E]), some (.agg #[.int .i64 X, .int .i64 Y]), some (.int .i64 k), some (.agg #[.int .i64 p, .int .i64 q]), some (.agg #[.int .i64 A, .int .i64 E]), some (.bool false), some (.bool false), some (.bool false), some (.bool true), some (.bool false), some (.bool false), some (.bool false), some (.agg #[.int .i64 X, .int .i64 (-Y)]), some (.agg #[.int .i64 X, .int .i64 Y]), some (.agg #[.int .i64 X, .int .i64 (-Y)]), some (.bool false), some (.bool false), none, none, none, none, none, none, none, none, none, none, none, none, none, none, none, none, none, none, none, none, none, none, none, none, none, none, none, none, none, none, none, none, none, none, none, none, none, none, none, none, none, none, none, none, none, none, none, none, none, none, none, none, none, none, none, none, none, none, none, none, none, none, none, none, none, none, none, none, none, none, none, none, none, none, none, none, none, none, none, none, none, none, none, none, none, none, none, none, none, none, none, none, none, none, none, none, none, none, none, none, none, none, none, none, none, none, none, none, none, none, none, none, none, none, none, none, none, none, none, none, none, none, none, none, none, none, none, none, none, none] (fun w' => w'.cell? ⟨w224.heap.size, 0, none⟩ = some (.int .i64 X) ∧ w'.cell? ⟨w224.heap.size, 1, none⟩ = some (.int .i64 Y) ∧ w'.cell? ⟨w230.heap.size, 0, none⟩ = some (.int .i64 X) ∧ w'.cell? ⟨w230.heap.size, 1, none⟩ = some (.int .i64 Y) ∧ w'.cell? ⟨w236.heap.size, 0, none⟩ = some (.int .i64 A) ∧ w'.cell? ⟨w236.heap.size, 1, none⟩ = some (.int .i64 E) ∧ w'.cell? ⟨w242.heap.size, 0, none⟩ = some (.int .i64 X) ∧ w'.cell? ⟨w242.heap.size, 1, none⟩ = some (.int .i64 (-Y)) ∧ Below wr.heap.size wr w') (by kernel_rfl) ?haF ?hB ?hS ?hY ?hQ
        case haF =>
          dsimp only [actF, updL]
          rfl
        case hB => kernel_rfl
        case hS => exact ⟨keepd p253, keepd q253, keepd p255, keepd q255, keepd p257, keepd q257, keepd p258, keepd q258, belowN (Below.refl _ _) 1⟩
        case hY =>
          refine And.intro ?_ ?_
          · exact Or.inl ⟨by rfl, fun w _ => Or.inl (by rfl)⟩
          refine And.intro ?_ ?_
          · exact Or.inl ⟨by rfl, fun w _ => Or.inl (by rfl)⟩
          refine And.intro ?_ ?_
          · exact Or.inl ⟨by rfl, fun w _ => Or.inl (by rfl)⟩
          refine And.intro ?_ ?_
          · exact Or.inl ⟨by rfl, fun w _ => Or.inl (by rfl)⟩
          refine And.intro ?_ ?_
          · exact Or.inl ⟨by rfl, fun w _ => Or.inl (by rfl)⟩
          refine And.intro ?_ ?_
          · refine Or.inl ⟨by rfl, fun w h => Or.inr ⟨24, #[v202, vs], by go_simp, ?_⟩⟩
            obtain ⟨h0, h1, h2, h3, h4, h5, h6, h7, h8⟩ := h
            exact (C_back.out _ h8).mono (fun e w' he => by obtain ⟨rfl, hb⟩ := he; exact ⟨rfl, keepc hb h0, keepc hb h1, keepc hb h2, keepc hb h3, keepc hb h4, keepc hb h5, keepc hb h6, keepc hb h7, joins h8 hb⟩)
          refine And.intro ?_ ?_
          · exact Or.inl ⟨by rfl, fun w _ => Or.inl (by rfl)⟩
          refine And.intro ?_ ?_
          · exact Or.inl ⟨by rfl, fun w _ => Or.inl (by rfl)⟩
          refine And.intro ?_ ?_
          · exact Or.inl ⟨by rfl, fun w _ => Or.inl (by rfl)⟩
          refine And.intro ?_ ?_
          · exact Or.inl ⟨by rfl, fun w _ => Or.inl (by rfl)⟩
          refine And.intro ?_ ?_
          · exact Or.inl ⟨by rfl, fun w _ => Or.inl (by rfl)⟩
          refine And.intro ?_ ?_
          · exact Or.inl ⟨by rfl, fun w _ => Or.inl (by rfl)⟩
          refine And.intro ?_ ?_
          · exact Or.inl ⟨by rfl, fun w _ => Or.inl (by rfl)⟩
          refine And.intro ?_ ?_
          · exact Or.inl ⟨by rfl, fun w _ => Or.inl (by rfl)⟩
          refine And.intro ?_ ?_
          · exact Or.inl ⟨by rfl, fun w _ => Or.inl (by rfl)⟩
          refine And.intro ?_ ?_
          · refine Or.inl ⟨by rfl, fun w h => Or.inr ⟨24, #[v206, vs], by go_simp, ?_⟩⟩
            obtain ⟨h0, h1, h2, h3, h4, h5, h6, h7, h8⟩ := h
            exact (C_home.out _ h8).mono (fun e w' he => by obtain ⟨rfl, hb⟩ := he; exact ⟨rfl, keepc hb h0, keepc hb h1, keepc hb h2, keepc hb h3, keepc hb h4, keepc hb h5, keepc hb h6, keepc hb h7, joins h8 hb⟩)
          refine And.intro ?_ ?_
          · exact Or.inl ⟨by rfl, fun w _ => Or.inl (by rfl)⟩
          refine And.intro ?_ ?_
          · exact Or.inl ⟨by rfl, fun w _ => Or.inl (by rfl)⟩
          refine And.intro ?_ ?_
          · exact Or.inl ⟨by rfl, fun w _ => Or.inl (by rfl)⟩
          refine And.intro ?_ ?_
          · exact Or.inl ⟨by rfl, fun w _ => Or.inl (by rfl)⟩
          refine And.intro ?_ ?_
          · exact Or.inl ⟨by rfl, fun w _ => Or.inl (by rfl)⟩
          refine And.intro ?_ ?_
          · exact Or.inl ⟨by rfl, fun w _ => Or.inl (by rfl)⟩
          refine And.intro ?_ ?_
          · exact Or.inl ⟨by rfl, fun w _ => Or.inl (by rfl)⟩
          refine And.intro ?_ ?_
          · exact Or.inl ⟨by rfl, fun w _ => Or.inl (by rfl)⟩
          refine And.intro ?_ ?_
          · exact Or.inl ⟨by rfl, fun w _ => Or.inl (by rfl)⟩
          refine And.intro ?_ ?_
          · exact Or.inl ⟨by rfl, fun w _ => Or.inl (by rfl)⟩
          refine And.intro ?_ ?_
          · exact Or.inl ⟨by rfl, fun w _ => Or.inl (by rfl)⟩
          refine And.intro ?_ ?_
          · exact Or.inl ⟨by rfl, fun w _ => Or.inl (by rfl)⟩
          refine And.intro ?_ ?_
          · exact Or.inl ⟨by rfl, fun w _ => Or.inl (by rfl)⟩
          refine And.intro ?_ ?_
          · refine Or.inl ⟨by rfl, fun w h => Or.inr ⟨24, #[v213, vs], by go_simp, ?_⟩⟩
            obtain ⟨h0, h1, h2, h3, h4, h5, h6, h7, h8⟩ := h
            exact (C_again.out _ h8).mono (fun e w' he => by obtain ⟨rfl, hb⟩ := he; exact ⟨rfl, keepc hb h0, keepc hb h1, keepc hb h2, keepc hb h3, keepc hb h4, keepc hb h5, keepc hb h6, keepc hb h7, joins h8 hb⟩)
          refine And.intro ?_ ?_
          · exact Or.inl ⟨by rfl, fun w _ => Or.inl (by rfl)⟩
          refine And.intro ?_ ?_
          · exact Or.inl ⟨by rfl, fun w _ => Or.inl (by rfl)⟩
          refine And.intro ?_ ?_
          · exact Or.inl ⟨by rfl, fun w _ => Or.inl (by rfl)⟩
          refine And.intro ?_ ?_
          · exact Or.inl ⟨by rfl, fun w _ => Or.inl (by rfl)⟩
          refine And.intro ?_ ?_
          · exact Or.inl ⟨by rfl, fun w _ => Or.inl (by rfl)⟩
          refine And.intro ?_ ?_
          · exact Or.inl ⟨by rfl, fun w _ => Or.inl (by rfl)⟩
          refine And.intro ?_ ?_
          · exact Or.inl ⟨by rfl, fun w _ => Or.inl (by rfl)⟩
          refine And.intro ?_ ?_
          · exact Or.inl ⟨by rfl, fun w _ => Or.inl (by rfl)⟩
          refine And.intro ?_ ?_
          · exact Or.inl ⟨by rfl, fun w _ => Or.inl (by rfl)⟩
          refine And.intro ?_ ?_
          · exact Or.inl ⟨by rfl, fun w _ => Or.inl (by rfl)⟩
          refine And.intro ?_ ?_
          · exact Or.inl ⟨by rfl, fun w _ => Or.inl (by rfl)⟩
          refine And.intro ?_ ?_
          · exact Or.inl ⟨by rfl, fun w _ => Or.inl (by rfl)⟩
          refine And.intro ?_ ?_
          · exact Or.inl ⟨by rfl, fun w _ => Or.inl (by rfl)⟩
          refine And.intro ?_ ?_
          · refine Or.inl ⟨by rfl, fun w h => Or.inr ⟨24, #[v220, vs], by go_simp, ?_⟩⟩
            obtain ⟨h0, h1, h2, h3, h4, h5, h6, h7, h8⟩ := h
            exact (C_twice.out _ h8).mono (fun e w' he => by obtain ⟨rfl, hb⟩ := he; exact ⟨rfl, keepc hb h0, keepc hb h1, keepc hb h2, keepc hb h3, keepc hb h4, keepc hb h5, keepc hb h6, keepc hb h7, joins h8 hb⟩)
          refine And.intro ?_ ?_
          · exact Or.inl ⟨by rfl, fun w _ => Or.inl (by rfl)⟩
          refine And.intro ?_ ?_
          · exact Or.inl ⟨by rfl, fun w _ => Or.inl (by rfl)⟩
          refine And.intro ?_ ?_
          · exact Or.inl ⟨by rfl, fun w _ => Or.inl (by rfl)⟩
          refine And.intro ?_ ?_
          · exact Or.inl ⟨by rfl, fun w _ => Or.inl (by rfl)⟩
          refine And.intro ?_ ?_
          · exact Or.inl ⟨by rfl, fun w _ => Or.inl (by rfl)⟩
          refine And.intro ?_ ?_
          · exact Or.inl ⟨by rfl, fun w _ => Or.inl (by rfl)⟩
          refine And.intro ?_ ?_
          · exact Or.inl ⟨by rfl, fun w _ => Or.inl (by rfl)⟩
          refine And.intro ?_ ?_
          · exact Or.inl ⟨by rfl, fun w _ => Or.inl (by rfl)⟩
          refine And.intro ?_ ?_
          · exact Or.inl ⟨by rfl, fun w _ => Or.inl (by rfl)⟩
          refine And.intro ?_ ?_
          · exact Or.inl ⟨by rfl, fun w _ => Or.inl (by rfl)⟩
          refine And.intro ?_ ?_
          · exact Or.inl ⟨by rfl, fun w _ => Or.inl (by rfl)⟩
          refine And.intro ?_ ?_
          · exact Or.inl ⟨by rfl, fun w h => Or.inl (by obtain ⟨h0, h1, h2, h3, h4, h5, h6, h7, h8⟩ := h; go_simp)⟩
          refine And.intro ?_ ?_
          · exact Or.inl ⟨by rfl, fun w h => Or.inl (by obtain ⟨h0, h1, h2, h3, h4, h5, h6, h7, h8⟩ := h; go_simp)⟩
          refine And.intro ?_ ?_
          · exact Or.inl ⟨by rfl, fun w _ => Or.inl (by go_simp)⟩
          refine And.intro ?_ ?_
          · exact Or.inl ⟨by rfl, fun w _ => Or.inl (by rfl)⟩
          refine And.intro ?_ ?_
          · exact Or.inl ⟨by rfl, fun w _ => Or.inl (by rfl)⟩
          refine And.intro ?_ ?_
          · exact Or.inl ⟨by rfl, fun w _ => Or.inl (by rfl)⟩
          refine And.intro ?_ ?_
          · exact Or.inl ⟨by rfl, fun w _ => Or.inl (by rfl)⟩
          refine And.intro ?_ ?_
          · exact Or.inl ⟨by rfl, fun w _ => Or.inl (by rfl)⟩
          refine And.intro ?_ ?_
          · exact Or.inl ⟨by rfl, fun w _ => Or.inl (by rfl)⟩
          refine And.intro ?_ ?_
          · exact Or.inl ⟨by rfl, fun w h => Or.inl (by obtain ⟨h0, h1, h2, h3, h4, h5, h6, h7, h8⟩ := h; go_simp)⟩
          refine And.intro ?_ ?_
          · exact Or.inl ⟨by rfl, fun w h => Or.inl (by obtain ⟨h0, h1, h2, h3, h4, h5, h6, h7, h8⟩ := h; go_simp)⟩
          refine And.intro ?_ ?_
          · exact Or.inl ⟨by rfl, fun w _ => Or.inl (by rfl)⟩
          refine And.intro ?_ ?_
          · refine Or.inl ⟨by rfl, fun w h => Or.inr ⟨29, #[.int .i64 k], by go_simp, ?_⟩⟩
            obtain ⟨h0, h1, h2, h3, h4, h5, h6, h7, h8⟩ := h
            exact (KV.out _).mono (fun e w' he => by obtain ⟨rfl, hb⟩ := he; exact ⟨rfl, keepc hb h0, keepc hb h1, keepc hb h2, keepc hb h3, keepc hb h4, keepc hb h5, keepc hb h6, keepc hb h7, joins h8 hb⟩)
          refine And.intro ?_ ?_
          · refine Or.inl ⟨by rfl, fun w h => Or.inr ⟨28, #[.agg #[.int .i64 X, .int .i64 Y], .agg #[.int .i64 p, .int .i64 q]], by go_simp, ?_⟩⟩
            obtain ⟨h0, h1, h2, h3, h4, h5, h6, h7, h8⟩ := h
            exact (KT.out _).mono (fun e w' he => by obtain ⟨rfl, hb⟩ := he; exact ⟨rfl, keepc hb h0, keepc hb h1, keepc hb h2, keepc hb h3, keepc hb h4, keepc hb h5, keepc hb h6, keepc hb h7, joins h8 hb⟩)
          refine And.intro ?_ ?_
          · exact Or.inl ⟨by rfl, fun w _ => Or.inl (by go_simp)⟩
          refine And.intro ?_ ?_
          · exact Or.inl ⟨by rfl, fun w _ => Or.inl (by rfl)⟩
          refine And.intro ?_ ?_
          · exact Or.inl ⟨by rfl, fun w _ => Or.inl (by rfl)⟩
          refine And.intro ?_ ?_
          · exact Or.inl ⟨by rfl, fun w _ => Or.inl (by rfl)⟩
          refine And.intro ?_ ?_
          · exact Or.inl ⟨by rfl, fun w _ => Or.inl (by rfl)⟩
          refine And.intro ?_ ?_
          · exact Or.inl ⟨by rfl, fun w _ => Or.inl (by rfl)⟩
          refine And.intro ?_ ?_
          · exact Or.inl ⟨by rfl, fun w _ => Or.inl (by rfl)⟩
          refine And.intro ?_ ?_
          · exact Or.inl ⟨by rfl, fun w h => Or.inl (by obtain ⟨h0, h1, h2, h3, h4, h5, h6, h7, h8⟩ := h; go_simp)⟩
          refine And.intro ?_ ?_
          · exact Or.inl ⟨by rfl, fun w h => Or.inl (by obtain ⟨h0, h1, h2, h3, h4, h5, h6, h7, h8⟩ := h; go_simp)⟩
          refine And.intro ?_ ?_
          · refine Or.inl ⟨by rfl, fun w h => Or.inr ⟨30, #[.agg #[.int .i64 X, .int .i64 Y]], by go_simp, ?_⟩⟩
            obtain ⟨h0, h1, h2, h3, h4, h5, h6, h7, h8⟩ := h
            exact (KB.out _).mono (fun e w' he => by obtain ⟨rfl, hb⟩ := he; exact ⟨rfl, keepc hb h0, keepc hb h1, keepc hb h2, keepc hb h3, keepc hb h4, keepc hb h5, keepc hb h6, keepc hb h7, joins h8 hb⟩)
          refine And.intro ?_ ?_
          · exact Or.inl ⟨by rfl, fun w _ => Or.inl (by go_simp)⟩
          refine And.intro ?_ ?_
          · exact Or.inl ⟨by rfl, fun w _ => Or.inl (by rfl)⟩
          exact trivial
        case hQ =>
          intro wq hS
          have HSB := hS.2.2.2.2.2.2.2.2
          rw [HWR.out] at HSB
          clear hS
          have L259 := Lib.hid (HSB)
          clear HSB
          go_wp2_with fail
          have K8_260 := Lib.hid (joins (joins (joins (joins (joins (joins (joins (joins (joins (joins (joins (joins (joins (joins (L203.out) L207.out) L211.out) L214.out) L218.out) L221.out) L225.out) L227.out) L231.out) L233.out) L237.out) L239.out) L243.out) L245.out) L259.out)
          go_meet
          case rel => exact K8_260.out
    case rest =>
      have L501 := Lib.hid (hcut)
      clear hcut
      have K0_502 := Lib.hid (joins (joins (joins (joins (joins (joins (joins (joins (K0_103.out) L105.out) L108.out) L112.out) L116.out) L120.out) L125.out) L129.out) L501.out)
      have P503_B := Lib.hid (BS.below O2_B.out K0_502.out)
      have B504 := Lib.hid K0_502.out
      clear O1_A O2_B O106_s O109_turned O113_right O117_shifted O121_want L102 L105 L108 L112 L116 L120 L125 L129 L501 K0_502 K2_118 K3_122 K4_123 K5_126 K6_127 K2_110 K2_114 K0_103 H1 H2 H3 H4 HOK B0 HB
      go_wp2_with fail
      refine (drawClimbBy _ lb _ P503_B.out).mono ?_
      rintro e w505 ⟨v0, rfl, ⟨vt, t, k2, rfl, ho, hl2, hn0, hn1⟩, hb⟩
      have L506 := Lib.hid (hb)
      clear hb
      have O507_t := Lib.hid (ho.is)
      clear ho
      have HLt : t.length ≤ 1048576 := by omega
      obtain ⟨told, htold⟩ : ∃ b, b = climbOk t k2 := ⟨_, rfl⟩
      obtain ⟨sq, hsq⟩ : ∃ b, b = isSeq t := ⟨_, rfl⟩
      have e2 : climbOk t 2 = sq := (climbOk_two t).trans hsq.symm
      have e3 : barOk t = sq := hsq.symm
      have e4 : backOk t = sq := hsq.symm
      have A1 := Lib.hid (fun v w h => iclimb v t k2 w h HLt)
      have A2 := Lib.hid (fun v w h => sclimb v t k2 w h HLt)
      have A3 := Lib.hid (fun v w h => ialt v t w h HLt)
      have A4 := Lib.hid (fun v w h => salt v t w h HLt)
      have A5 := Lib.hid (fun v w h => ibar v t w h HLt)
      have A6 := Lib.hid (fun v w h => sbar v t w h HLt)
      have A7 := Lib.hid (fun v w h => iback v t w h HLt)
      have A8 := Lib.hid (fun v w h => sback v t w h HLt)
      have Q1 := Lib.hid (fun v w h => isSequence_any v t w h HLt)
      have Q2 := Lib.hid (fun v w h => sisSeq v t w h HLt)
      rw [← htold] at A1 A2
      rw [e2] at A3 A4
      rw [e3] at A5 A6
      rw [e4] at A7 A8
      rw [← hsq] at Q1 Q2
      have HT := Lib.hid htold
      have HSQ := Lib.hid hsq
      clear htold hsq e2 e3 e4 hl2
      go_wp2_with fail
      refine (A1.out _ _ O507_t.out).mono ?_
      rintro e w508 ⟨v508, rfl, ho, hb⟩
      have L509 := Lib.hid (hb)
      clear hb
      have O510_climbed := Lib.hid (ho.is)
      clear ho
      go_wp2_with fail
      have K2_511 := Lib.hid (L509.out)
      refine (A2.out _ _ (IS.below O507_t.out K2_511.out)).mono ?_
      rintro e w512 ⟨v512, rfl, ho, hb⟩
      have L513 := Lib.hid (hb)
      clear hb
      have O514_model := Lib.hid (ho.is)
      clear ho
      go_wp2_with fail
      have K2_515 := Lib.hid (joins (K2_511.out) L513.out)
      refine (A3.out _ _ (IS.below O507_t.out K2_515.out)).mono ?_
      rintro e w516 ⟨v516, rfl, ho, hb⟩
      have L517 := Lib.hid (hb)
      clear hb
      have O518_flipped := Lib.hid (ho.is)
      clear ho
      go_wp2_with fail
      have K2_519 := Lib.hid (joins (K2_515.out) L517.out)
      refine (A4.out _ _ (IS.below O507_t.out K2_519.out)).mono ?_
      rintro e w520 ⟨v520, rfl, ho, hb⟩
      have L521 := Lib.hid (hb)
      clear hb
      have O522_value := Lib.hid (ho.is)
      clear ho
      go_wp2_with fail
      have K2_523 := Lib.hid (joins (K2_519.out) L521.out)
      refine (A5.out _ _ (IS.below O507_t.out K2_523.out)).mono ?_
      rintro e w524 ⟨v524, rfl, ho, hb⟩
      have L525 := Lib.hid (hb)
      clear hb
      have O526_bars := Lib.hid (ho.is)
      clear ho
      go_wp2_with fail
      have K2_527 := Lib.hid (joins (K2_523.out) L525.out)
      refine (A6.out _ _ (IS.below O507_t.out K2_527.out)).mono ?_
      rintro e w528 ⟨v528, rfl, ho, hb⟩
      have L529 := Lib.hid (hb)
      clear hb
      have O530_due := Lib.hid (ho.is)
      clear ho
      go_wp2_with fail
      have K2_531 := Lib.hid (joins (K2_527.out) L529.out)
      refine (A7.out _ _ (IS.below O507_t.out K2_531.out)).mono ?_
      rintro e w532 ⟨v532, rfl, ho, hb⟩
      have L533 := Lib.hid (hb)
      clear hb
      have O534_mirror := Lib.hid (ho.is)
      clear ho
      go_wp2_with fail
      have K2_535 := Lib.hid (joins (K2_531.out) L533.out)
      refine (A8.out _ _ (IS.below O507_t.out K2_535.out)).mono ?_
      rintro e w536 ⟨v536, rfl, ho, hb⟩
      have L537 := Lib.hid (hb)
      clear hb
      have O538_list := Lib.hid (ho.is)
      clear ho
      go_wp2_with fail
      have K3_539 := Lib.hid (joins (joins (joins (joins (joins (joins (L513.out) L517.out) L521.out) L525.out) L529.out) L533.out) L537.out)
      have K4_540 := Lib.hid (joins (joins (joins (joins (joins (L517.out) L521.out) L525.out) L529.out) L533.out) L537.out)
      refine (cSame_same _ _ _ _ (IS.below O510_climbed.out K3_539.out) (IS.below O514_model.out K4_540.out)).mono ?_
      rintro e w541 ⟨rfl, hb⟩
      have L542 := Lib.hid (hb)
      clear hb
      go_wp2_with fail
      have K5_543 := Lib.hid (joins (joins (joins (joins (joins (L521.out) L525.out) L529.out) L533.out) L537.out) L542.out)
      have K6_544 := Lib.hid (joins (joins (joins (joins (L525.out) L529.out) L533.out) L537.out) L542.out)
      refine (cSame_same _ _ _ _ (IS.below O518_flipped.out K5_543.out) (IS.below O522_value.out K6_544.out)).mono ?_
      rintro e w545 ⟨rfl, hb⟩
      have L546 := Lib.hid (hb)
      clear hb
      go_wp2_with fail
      have K7_547 := Lib.hid (joins (joins (joins (joins (L529.out) L533.out) L537.out) L542.out) L546.out)
      have K8_548 := Lib.hid (joins (joins (joins (L533.out) L537.out) L542.out) L546.out)
      refine (cSame_same _ _ _ _ (IS.below O526_bars.out K7_547.out) (IS.below O530_due.out K8_548.out)).mono ?_
      rintro e w549 ⟨rfl, hb⟩
      have L550 := Lib.hid (hb)
      clear hb
      go_wp2_with fail
      have K9_551 := Lib.hid (joins (joins (joins (L537.out) L542.out) L546.out) L550.out)
      have K10_552 := Lib.hid (joins (joins (L542.out) L546.out) L550.out)
      refine (cSame_same _ _ _ _ (IS.below O534_mirror.out K9_551.out) (IS.below O538_list.out K10_552.out)).mono ?_
      rintro e w553 ⟨rfl, hb⟩
      have L554 := Lib.hid (hb)
      clear hb
      go_wp2_with fail
      have K2_555 := Lib.hid (joins (joins (joins (joins (joins (K2_535.out) L537.out) L542.out) L546.out) L550.out) L554.out)
      refine (Q1.out _ _ (IS.below O507_t.out K2_555.out)).mono ?_
      rintro e w556 ⟨rfl, hb⟩
      have L557 := Lib.hid (hb)
      clear hb
      go_wp2_with fail
      have K2_558 := Lib.hid (joins (K2_555.out) L557.out)
      refine (Q1.out _ _ (IS.below O507_t.out K2_558.out)).mono ?_
      rintro e w559 ⟨rfl, hb⟩
      have L560 := Lib.hid (hb)
      clear hb
      go_wp2_with fail
      have K2_561 := Lib.hid (joins (K2_558.out) L560.out)
      refine (Q2.out _ _ (IS.below O507_t.out K2_561.out)).mono ?_
      rintro e w562 ⟨rfl, hb⟩
      have L563 := Lib.hid (hb)
      clear hb
      cases told with
      | false =>
        go_wp2_with fail
        have K0_564 := Lib.hid (joins (joins (joins (joins (joins (joins (joins (joins (joins (joins (joins (joins (joins (joins (joins (joins (B504.out) L506.out) L509.out) L513.out) L517.out) L521.out) L525.out) L529.out) L533.out) L537.out) L542.out) L546.out) L550.out) L554.out) L557.out) L560.out) L563.out)
        go_returns
        exact ⟨rfl, K0_564.out⟩
      | true =>
        have hT := HT.out.symm
        obtain ⟨hseq, hk2, hk3⟩ := climbOk_parts hT
        obtain ⟨e1, e2⟩ := climbed_back hT
        have e3 : climbOk t 2 = true := (climbOk_two t).trans hseq
        have J1 := Lib.hid (fun v w h => iclimb v (climbF t k2) ((4 - k2) % 4) w h (climbF_len _ _))
        have J2 := Lib.hid (fun v w h => iclimb v t 2 w h HLt)
        rw [e1, e2] at J1
        rw [show (4 - k2) % 4 = -k2 % 4 from by omega] at J1
        rw [e3] at J2
        clear hT e1 e2 e3 hseq
        go_wp2_with fail
        have K3_564 := Lib.hid (joins (joins (joins (joins (joins (joins (joins (K3_539.out) L542.out) L546.out) L550.out) L554.out) L557.out) L560.out) L563.out)
        refine (J1.out _ _ (IS.below O510_climbed.out K3_564.out)).mono ?_
        rintro e w565 ⟨v565, rfl, ho, hb⟩
        have L566 := Lib.hid (hb)
        clear hb
        have O567_home := Lib.hid (ho.is)
        clear ho
        go_wp2_with fail
        have K2_568 := Lib.hid (joins (joins (K2_561.out) L563.out) L566.out)
        refine (J2.out _ _ (IS.below O507_t.out K2_568.out)).mono ?_
        rintro e w569 ⟨v569, rfl, ho, hb⟩
        have L570 := Lib.hid (hb)
        clear hb
        have O571_two := Lib.hid (ho.is)
        clear ho
        go_wp2_with fail
        have K18_572 := Lib.hid (L570.out)
        have K2_573 := Lib.hid (joins (K2_568.out) L570.out)
        refine (cSame_same _ _ _ _ (IS.below O567_home.out K18_572.out) (IS.below O507_t.out K2_573.out)).mono ?_
        rintro e w574 ⟨rfl, hb⟩
        have L575 := Lib.hid (hb)
        clear hb
        go_wp2_with fail
        have K19_576 := Lib.hid (L575.out)
        have K5_577 := Lib.hid (joins (joins (joins (joins (joins (joins (joins (joins (joins (K5_543.out) L546.out) L550.out) L554.out) L557.out) L560.out) L563.out) L566.out) L570.out) L575.out)
        refine (cSame_same _ _ _ _ (IS.below O571_two.out K19_576.out) (IS.below O518_flipped.out K5_577.out)).mono ?_
        rintro e w578 ⟨rfl, hb⟩
        have L579 := Lib.hid (hb)
        clear hb
        go_wp2_with fail
        have K0_580 := Lib.hid (joins (joins (joins (joins (joins (joins (joins (joins (joins (joins (joins (joins (joins (joins (joins (joins (joins (joins (joins (joins (B504.out) L506.out) L509.out) L513.out) L517.out) L521.out) L525.out) L529.out) L533.out) L537.out) L542.out) L546.out) L550.out) L554.out) L557.out) L560.out) L563.out) L566.out) L570.out) L575.out) L579.out)
        go_returns
        exact ⟨rfl, K0_580.out⟩
end Go.Proofs.Ytfjhocmnafdnfaa
