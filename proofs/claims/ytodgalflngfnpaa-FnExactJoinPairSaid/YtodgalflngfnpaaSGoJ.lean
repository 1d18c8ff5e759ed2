/- The model's pairs made of pairs: goTwo, goJoin, JoinPair, InterleavePair, MateOf, JoinMates, MovedPair. -/
import Derived.Test.YtodgalflngfnpaaSGo
import Derived.Test.YtodgalflngfnpaaGoJ
import Derived.Test.YtodgalflngfnpaaSMov
import Derived.Test.YtodgalflngfnpaaGsn
namespace Go.Proofs.Ytodgalflngfnpaa
set_option maxRecDepth 100000
open Go.RowKit

theorem Makes2B.none {w w' : World} (h : Below w.heap.size w w') : Makes2B w [] [] false (.returned (.tuple #[.slice none 0 0, .slice none 0 0, .bool false])) w' :=
  ⟨_, _, rfl, World.ownsRow_nil _ _ _ _, World.ownsRow_nil _ _ _ _, fun k h => by simp [Value.ownBlock] at h, h⟩
theorem Makes2B.two {w w1 w' : World} {v u : Value} {l m : List Int} {B1 B2 : Nat} (hv : Own w' B1 v l) (hu : Own w' B2 u m) (hv1 : Own w1 B1 v l) (h1 : w.heap.size ≤ B1) (h2 : w1.heap.size ≤ B2) (h3 : w.heap.size ≤ B2) (h : Below w.heap.size w w') :
    Makes2B w l m true (.returned (.tuple #[v, u, .bool true])) w' :=
  ⟨v, u, rfl, hv.mono h1, hu.mono h3, fun k hk hk' => by have := (hv1.lt k hk).2; have := (hu.lt k hk').1; omega, h⟩
set_option maxHeartbeats 400000 in
theorem goTwo_yes (va vb : Value) (a b : List Int) (w : World) (hva : IS w va a) (hvb : IS w vb b) (ha : isSeq a = true) (hb : isSeq b = true) : Calls Try.prog 65 #[va, vb] w (Ret w (.tuple #[va, vb, .bool true])) := by
  have H1 := phIs_any va a w hva (by have := isSeq_len ha; omega)
  have H2 := fun w' (h : Below w.heap.size w w') => phIs_any vb b w' (hvb.below h) (by have := isSeq_len hb; omega)
  rw [ha] at H1
  simp only [hb] at H2
  have H1' := Lib.hid H1
  have H2' := Lib.hid H2
  clear H1 H2 ha hb hva hvb
  have B0 := Lib.hid (Below.refl w.heap.size w)
  go_enter Try.func65, Try.ntmps65
  go_wp2_with fail
  refine (H1'.out).mono ?_
  rintro e w1 ⟨rfl, hb1⟩
  have B1 := Lib.hid (joins B0.out hb1)
  clear hb1
  go_wp2_with fail
  refine (H2'.out _ B1.out).mono ?_
  rintro e w2 ⟨rfl, hb2⟩
  have B2 := Lib.hid (joins B1.out hb2)
  clear hb2
  go_wp2_with fail
  go_returns
  exact ⟨rfl, B2.out⟩
set_option maxHeartbeats 400000 in
theorem goTwo_no (va vb : Value) (a : List Int) (w : World) (hva : IS w va a) (hla : a.length ≤ 1048576) (ha : isSeq a = false) : Calls Try.prog 65 #[va, vb] w (Ret w (.tuple #[.slice none 0 0, .slice none 0 0, .bool false])) := by
  have H1 := phIs_any va a w hva hla
  rw [ha] at H1
  have H1' := Lib.hid H1
  clear H1 ha hva
  have B0 := Lib.hid (Below.refl w.heap.size w)
  go_enter Try.func65, Try.ntmps65
  go_wp2_with fail
  refine (H1'.out).mono ?_
  rintro e w1 ⟨rfl, hb1⟩
  have B1 := Lib.hid (joins B0.out hb1)
  clear hb1
  go_wp2_with fail
  go_returns
  exact ⟨rfl, B1.out⟩
set_option maxHeartbeats 1000000 in
theorem goJoin_any (va vb : Value) (l m : List Int) (w : World) (hva : IS w va l) (hvb : IS w vb m) (hlen : l.length ≤ 1048576) (hlem : m.length ≤ 1048576) : Calls Try.prog 66 #[va, vb] w (Makes w (l ++ m)) := by
  obtain ⟨a, cap, hveq⟩ := hva.slice
  obtain ⟨a', cap', hveq'⟩ := hvb.slice
  subst hveq hveq'
  go_enter Try.func66, Try.ntmps66
  go_wp2_with (first
    | (go_at_call 91; refine (l1Own_any _ l _ hva hlen).mono ?_; rintro e w3 ⟨v3, rfl, ho3, hb3⟩)
    | (at_builtin; refine wpList_pushAll rfl _ _ rfl w.heap.size _ l rfl ho3 _ m rfl (hvb.below hb3) hlen hlem w.heap.size w hb3 (Nat.le_refl _) hb3.size hb3.size ?_; intro v4 w4 ho4 hb4))
  go_returns
  exact ⟨_, rfl, ho4, hb4⟩

set_option maxRecDepth 100000 in
set_option maxHeartbeats 2000000 in
theorem smovedPair (va vb : Value) (a b : List Int) (k : Int) (w : World) (hva : IS w va a) (hvb : IS w vb b) (hla : a.length ≤ 1048576) (hlb : b.length ≤ 1048576) :
    Calls Try.prog 47 #[va, vb, .int .i64 k] w (Makes2B w (mvp a b k) (mvq a b k) (mvOk a b k)) := by
  have HP := goPair_any va vb a b w hva hvb hla hlb
  have HIN := l1In_any k 0 3
  by_cases hp : goOk a b = true
  · by_cases hin : inB k 0 3 = true
    · have hmv : mvOk a b k = true := by unfold mvOk; rw [hp, hin]; rfl
      obtain ⟨-, hk1, hk2⟩ := mvOk_parts hmv
      obtain ⟨ha, hb, hab, h1⟩ := goOk_parts hp
      rw [hp] at HP
      simp only [hin] at HIN
      have HP' := Lib.hid HP
      have HIN' := Lib.hid HIN
      have HVA := Lib.hid hva
      have HVB := Lib.hid hvb
      clear HP HIN
      rw [hmv, show mvp a b k = climbG a k from iff_yes _ hmv, show mvq a b k = climbG b k from iff_yes _ hmv]
      have HC1 := fun w' (h : Below w.heap.size w w') => phClimb_any va a k w' (hva.below h) ha hk1 hk2
      have HC2 := fun w' (h : Below w.heap.size w w') => phClimb_any vb b k w' (hvb.below h) hb hk1 hk2
      have HC1' := Lib.hid HC1
      have HC2' := Lib.hid HC2
      clear HC1 HC2 hmv hp hin ha hb hva hvb
      have B0 := Lib.hid (Below.refl w.heap.size w)
      go_enter Try.func47, Try.ntmps47
      go_wp2_with fail
      refine (HP'.out).mono ?_
      rintro e w1 ⟨rfl, hb1⟩
      have B1 := Lib.hid (joins B0.out hb1)
      clear hb1
      go_wp2_with fail
      refine (HIN'.out _).mono ?_
      rintro e w2 ⟨rfl, rfl⟩
      go_wp2_with fail
      refine (HC1'.out _ B1.out).mono ?_
      rintro e w3 ⟨v3, rfl, ho3, hb3⟩
      have B3 := Lib.hid (joins B1.out hb3)
      have O3_x := Lib.hid ho3
      have S3 := Lib.hid hb3.size
      clear ho3
      clear hb3
      go_wp2_with fail
      refine (HC2'.out _ B3.out).mono ?_
      rintro e w4 ⟨v4, rfl, ho4, hb4⟩
      have B4 := Lib.hid (joins B3.out hb4)
      have O4_x := Lib.hid (O3_x.out.below hb4)
      have O4_y := Lib.hid ho4
      have S4 := Lib.hid hb4.size
      clear ho4
      clear hb4
      go_wp2_with fail
      go_returns
      exact Makes2B.two O4_x.out O4_y.out O3_x.out B1.out.size (Nat.le_refl _) B3.out.size B4.out
    · have hin2 : inB k 0 3 = false := by simpa using hin
      have hmv : mvOk a b k = false := by unfold mvOk; rw [hin2, Bool.and_false]
      rw [hp] at HP
      simp only [hin2] at HIN
      have hok := hmv
      rw [hok, show mvp a b k = [] from iff_no _ hok, show mvq a b k = [] from iff_no _ hok]
      clear hok
      have HP' := Lib.hid HP
      have HIN' := Lib.hid HIN
      clear HP HIN hp hin hin2 hva hvb hmv
      have B0 := Lib.hid (Below.refl w.heap.size w)
      go_enter Try.func47, Try.ntmps47
      go_wp2_with fail
      refine (HP'.out).mono ?_
      rintro e w1 ⟨rfl, hb1⟩
      have B1 := Lib.hid (joins B0.out hb1)
      clear hb1
      go_wp2_with fail
      refine (HIN'.out _).mono ?_
      rintro e w2 ⟨rfl, rfl⟩
      go_wp2_with fail
      go_returns
      exact Makes2B.none B1.out
  · have hp2 : goOk a b = false := by simpa using hp
    have hmv : mvOk a b k = false := by unfold mvOk; rw [hp2, Bool.false_and]
    rw [hp2] at HP
    have hok := hmv
    rw [hok, show mvp a b k = [] from iff_no _ hok, show mvq a b k = [] from iff_no _ hok]
    clear hok
    have HP' := Lib.hid HP
    clear HP HIN hp hp2 hva hvb hmv
    have B0 := Lib.hid (Below.refl w.heap.size w)
    go_enter Try.func47, Try.ntmps47
    go_wp2_with fail
    refine (HP'.out).mono ?_
    rintro e w1 ⟨rfl, hb1⟩
    have B1 := Lib.hid (joins B0.out hb1)
    clear hb1
    go_wp2_with fail
    go_returns
    exact Makes2B.none B1.out

set_option maxRecDepth 100000 in
set_option maxHeartbeats 2000000 in
theorem sjoinPair (va vb : Value) (a b : List Int) (k : Int) (w : World) (hva : IS w va a) (hvb : IS w vb b) (hla : a.length ≤ 1048576) (hlb : b.length ≤ 1048576) :
    Calls Try.prog 31 #[va, vb, .int .i64 k] w (Makes2B w (jp a b k) (jq a b k) (jpOk a b k)) := by
  have HP := goPair_any va vb a b w hva hvb hla hlb
  have HIN := l1In_any k 0 3
  by_cases hp : goOk a b = true
  · by_cases hin : inB k 0 3 = true
    · have hmv : mvOk a b k = true := by unfold mvOk; rw [hp, hin]; rfl
      obtain ⟨-, hk1, hk2⟩ := mvOk_parts hmv
      obtain ⟨ha, hb, hab, h1⟩ := goOk_parts hp
      rw [hp] at HP
      simp only [hin] at HIN
      have HP' := Lib.hid HP
      have HIN' := Lib.hid HIN
      have HVA := Lib.hid hva
      have HVB := Lib.hid hvb
      clear HP HIN
      have HT1 := fun w' (h : Below w.heap.size w w') => phTurn_any vb b k w' (hvb.below h) hb (by omega) (by omega)
      have HT2 := fun w' (h : Below w.heap.size w w') => phTurn_any vb b (k + 2) w' (hvb.below h) hb (by omega) (by omega)
      have HJ1 := fun v w' (h : Below w.heap.size w w') (hv : IS w' v (turnG b k)) => goJoin_any va v a (turnG b k) w' (hva.below h) hv hla (by rw [turnG_length]; exact hlb)
      have HJ2 := fun v w' (h : Below w.heap.size w w') (hv : IS w' v (turnG b (k + 2))) => goJoin_any va v a (turnG b (k + 2)) w' (hva.below h) hv hla (by rw [turnG_length]; exact hlb)
      have s1 := cat_seq a (turnG b k) ha (turnG_seq b k hb)
      have s2 := cat_seq a (turnG b (k + 2)) ha (turnG_seq b (k + 2) hb)
      have e1 : a.length + (turnG b k).length = 2 * a.length := by rw [turnG_length]; omega
      have e2 : a.length + (turnG b (k + 2)).length = 2 * a.length := by rw [turnG_length]; omega
      rw [e1] at s1
      rw [e2] at s2
      have hl1 : (a ++ turnG b k).length ≤ 1048576 := by rw [List.length_append, turnG_length]; have := goOk_len hp; omega
      by_cases hc : 2 * a.length ≤ 32
      · have hok : jpOk a b k = true := by unfold jpOk; rw [hmv, decide_eq_true hc]; rfl
        rw [hok, show jp a b k = a ++ turnG b k from iff_yes _ hok, show jq a b k = a ++ turnG b (k + 2) from iff_yes _ hok]
        rw [decide_eq_true hc] at s1 s2
        have HG := fun v u w' (hv : IS w' v (a ++ turnG b k)) (hu : IS w' u (a ++ turnG b (k + 2))) => goTwo_yes v u _ _ w' hv hu s1 s2
        obtain ⟨T1, hT1⟩ : ∃ T, T = turnG b k := ⟨_, rfl⟩
        obtain ⟨T2, hT2⟩ : ∃ T, T = turnG b (k + 2) := ⟨_, rfl⟩
        rw [← hT1] at HT1 HJ1 HG ⊢
        rw [← hT2] at HT2 HJ2 HG ⊢
        have HT1' := Lib.hid HT1
        have HT2' := Lib.hid HT2
        have HJ1' := Lib.hid HJ1
        have HJ2' := Lib.hid HJ2
        have HG' := Lib.hid HG
        clear HT1 HT2 HJ1 HJ2 HG hT1 hT2 s1 s2 e1 e2 hl1 hok hmv hp hin ha hb hva hvb hab
        have B0 := Lib.hid (Below.refl w.heap.size w)
        go_enter Try.func31, Try.ntmps31
        go_wp2_with fail
        refine (HP'.out).mono ?_
        rintro e w1 ⟨rfl, hb1⟩
        have B1 := Lib.hid (joins B0.out hb1)
        clear hb1
        go_wp2_with fail
        refine (HIN'.out _).mono ?_
        rintro e w2 ⟨rfl, rfl⟩
        go_wp2_with fail
        refine (HT1'.out _ B1.out).mono ?_
        rintro e w3 ⟨v3, rfl, ho3, hb3⟩
        have B3 := Lib.hid (joins B1.out hb3)
        have O3_t := Lib.hid ho3
        have S3 := Lib.hid hb3.size
        clear ho3
        clear hb3
        go_wp2_with fail
        refine (HJ1'.out _ _ B3.out O3_t.out.is).mono ?_
        rintro e w4 ⟨v4, rfl, ho4, hb4⟩
        have B4 := Lib.hid (joins B3.out hb4)
        have O4_t := Lib.hid (O3_t.out.below hb4)
        have O4_x := Lib.hid ho4
        have S4 := Lib.hid hb4.size
        clear ho4
        clear hb4
        go_wp2_with fail
        refine (HT2'.out _ B4.out).mono ?_
        rintro e w5 ⟨v5, rfl, ho5, hb5⟩
        have B5 := Lib.hid (joins B4.out hb5)
        have O5_t := Lib.hid (O4_t.out.below hb5)
        have O5_x := Lib.hid (O4_x.out.below hb5)
        have O5_u := Lib.hid ho5
        have S5 := Lib.hid hb5.size
        clear ho5
        clear hb5
        go_wp2_with fail
        refine (HJ2'.out _ _ B5.out O5_u.out.is).mono ?_
        rintro e w6 ⟨v6, rfl, ho6, hb6⟩
        have B6 := Lib.hid (joins B5.out hb6)
        have O6_t := Lib.hid (O5_t.out.below hb6)
        have O6_x := Lib.hid (O5_x.out.below hb6)
        have O6_u := Lib.hid (O5_u.out.below hb6)
        have O6_y := Lib.hid ho6
        have S6 := Lib.hid hb6.size
        clear ho6
        clear hb6
        go_wp2_with fail
        refine (HG'.out _ _ _ O6_x.out.is O6_y.out.is).mono ?_
        rintro e w7 ⟨rfl, hb7⟩
        have B7 := Lib.hid (joins B6.out hb7)
        have O7_t := Lib.hid (O6_t.out.below hb7)
        have O7_x := Lib.hid (O6_x.out.below hb7)
        have O7_u := Lib.hid (O6_u.out.below hb7)
        have O7_y := Lib.hid (O6_y.out.below hb7)
        clear hb7
        go_wp2_with fail
        go_returns
        exact Makes2B.two O7_x.out O7_y.out O4_x.out B3.out.size (by have := S5.out; omega) B5.out.size B7.out
      · have hok : jpOk a b k = false := by unfold jpOk; rw [decide_eq_false hc, Bool.and_false]
        rw [hok, show jp a b k = [] from iff_no _ hok, show jq a b k = [] from iff_no _ hok]
        rw [decide_eq_false hc] at s1
        have HG := fun v u w' (hv : IS w' v (a ++ turnG b k)) => goTwo_no v u _ w' hv hl1 s1
        obtain ⟨T1, hT1⟩ : ∃ T, T = turnG b k := ⟨_, rfl⟩
        obtain ⟨T2, hT2⟩ : ∃ T, T = turnG b (k + 2) := ⟨_, rfl⟩
        rw [← hT1] at HT1 HJ1 HG
        rw [← hT2] at HT2 HJ2
        have HT1' := Lib.hid HT1
        have HT2' := Lib.hid HT2
        have HJ1' := Lib.hid HJ1
        have HJ2' := Lib.hid HJ2
        have HG' := Lib.hid HG
        clear HT1 HT2 HJ1 HJ2 HG hT1 hT2 s1 s2 e1 e2 hl1 hok hmv hp hin ha hb hva hvb hab
        have B0 := Lib.hid (Below.refl w.heap.size w)
        go_enter Try.func31, Try.ntmps31
        go_wp2_with fail
        refine (HP'.out).mono ?_
        rintro e w1 ⟨rfl, hb1⟩
        have B1 := Lib.hid (joins B0.out hb1)
        clear hb1
        go_wp2_with fail
        refine (HIN'.out _).mono ?_
        rintro e w2 ⟨rfl, rfl⟩
        go_wp2_with fail
        refine (HT1'.out _ B1.out).mono ?_
        rintro e w3 ⟨v3, rfl, ho3, hb3⟩
        have B3 := Lib.hid (joins B1.out hb3)
        have O3_t := Lib.hid ho3
        have S3 := Lib.hid hb3.size
        clear ho3
        clear hb3
        go_wp2_with fail
        refine (HJ1'.out _ _ B3.out O3_t.out.is).mono ?_
        rintro e w4 ⟨v4, rfl, ho4, hb4⟩
        have B4 := Lib.hid (joins B3.out hb4)
        have O4_t := Lib.hid (O3_t.out.below hb4)
        have O4_x := Lib.hid ho4
        have S4 := Lib.hid hb4.size
        clear ho4
        clear hb4
        go_wp2_with fail
        refine (HT2'.out _ B4.out).mono ?_
        rintro e w5 ⟨v5, rfl, ho5, hb5⟩
        have B5 := Lib.hid (joins B4.out hb5)
        have O5_t := Lib.hid (O4_t.out.below hb5)
        have O5_x := Lib.hid (O4_x.out.below hb5)
        have O5_u := Lib.hid ho5
        have S5 := Lib.hid hb5.size
        clear ho5
        clear hb5
        go_wp2_with fail
        refine (HJ2'.out _ _ B5.out O5_u.out.is).mono ?_
        rintro e w6 ⟨v6, rfl, ho6, hb6⟩
        have B6 := Lib.hid (joins B5.out hb6)
        have O6_t := Lib.hid (O5_t.out.below hb6)
        have O6_x := Lib.hid (O5_x.out.below hb6)
        have O6_u := Lib.hid (O5_u.out.below hb6)
        have O6_y := Lib.hid ho6
        have S6 := Lib.hid hb6.size
        clear ho6
        clear hb6
        go_wp2_with fail
        refine (HG'.out _ _ _ O6_x.out.is).mono ?_
        rintro e w7 ⟨rfl, hb7⟩
        have B7 := Lib.hid (joins B6.out hb7)
        have O7_t := Lib.hid (O6_t.out.below hb7)
        have O7_x := Lib.hid (O6_x.out.below hb7)
        have O7_u := Lib.hid (O6_u.out.below hb7)
        have O7_y := Lib.hid (O6_y.out.below hb7)
        clear hb7
        go_wp2_with fail
        go_returns
        exact Makes2B.none B7.out
    · have hin2 : inB k 0 3 = false := by simpa using hin
      have hmv : mvOk a b k = false := by unfold mvOk; rw [hin2, Bool.and_false]
      rw [hp] at HP
      simp only [hin2] at HIN
      have hok : jpOk a b k = false := by unfold jpOk; rw [hmv, Bool.false_and]
      rw [hok, show jp a b k = [] from iff_no _ hok, show jq a b k = [] from iff_no _ hok]
      clear hok
      have HP' := Lib.hid HP
      have HIN' := Lib.hid HIN
      clear HP HIN hp hin hin2 hva hvb hmv
      have B0 := Lib.hid (Below.refl w.heap.size w)
      go_enter Try.func31, Try.ntmps31
      go_wp2_with fail
      refine (HP'.out).mono ?_
      rintro e w1 ⟨rfl, hb1⟩
      have B1 := Lib.hid (joins B0.out hb1)
      clear hb1
      go_wp2_with fail
      refine (HIN'.out _).mono ?_
      rintro e w2 ⟨rfl, rfl⟩
      go_wp2_with fail
      go_returns
      exact Makes2B.none B1.out
  · have hp2 : goOk a b = false := by simpa using hp
    have hmv : mvOk a b k = false := by unfold mvOk; rw [hp2, Bool.false_and]
    rw [hp2] at HP
    have hok : jpOk a b k = false := by unfold jpOk; rw [hmv, Bool.false_and]
    rw [hok, show jp a b k = [] from iff_no _ hok, show jq a b k = [] from iff_no _ hok]
    clear hok
    have HP' := Lib.hid HP
    clear HP HIN hp hp2 hva hvb hmv
    have B0 := Lib.hid (Below.refl w.heap.size w)
    go_enter Try.func31, Try.ntmps31
    go_wp2_with fail
    refine (HP'.out).mono ?_
    rintro e w1 ⟨rfl, hb1⟩
    have B1 := Lib.hid (joins B0.out hb1)
    clear hb1
    go_wp2_with fail
    go_returns
    exact Makes2B.none B1.out

set_option maxRecDepth 100000 in
set_option maxHeartbeats 2000000 in
theorem smateOf (va vb : Value) (a b : List Int) (w : World) (hva : IS w va a) (hvb : IS w vb b) (hla : a.length ≤ 1048576) (hlb : b.length ≤ 1048576) :
    Calls Try.prog 35 #[va, vb] w (Makes2B w (mtp a b) (mtq a b) (goOk a b)) := by
  have HP := goPair_any va vb a b w hva hvb hla hlb
  by_cases hp : goOk a b = true
  · obtain ⟨ha, hb, hab, h1⟩ := goOk_parts hp
    rw [hp] at HP
    have HP' := Lib.hid HP
    clear HP
    rw [hp, show mtp a b = backG (barG b) from iff_yes _ hp, show mtq a b = turnG (backG (barG a)) 2 from iff_yes _ hp]
    have HC1 := fun w' (h : Below w.heap.size w w') => phConjugate_any vb b w' (hvb.below h) hb
    have HC2 := fun w' (h : Below w.heap.size w w') => phConjugate_any va a w' (hva.below h) ha
    have HK1 := fun v w' (hv : IS w' v (barG b)) => phBack_any v (barG b) w' hv (barG_seq b hb)
    have HK2 := fun v w' (hv : IS w' v (barG a)) => phBack_any v (barG a) w' hv (barG_seq a ha)
    have HT := fun v w' (hv : IS w' v (backG (barG a))) => phTurn_any v (backG (barG a)) 2 w' hv (backG_seq _ (barG_seq a ha)) (by omega) (by omega)
    obtain ⟨A1, hA1⟩ : ∃ T, T = barG a := ⟨_, rfl⟩
    obtain ⟨B1, hB1⟩ : ∃ T, T = barG b := ⟨_, rfl⟩
    rw [← hA1] at HC2 HK2 HT ⊢
    rw [← hB1] at HC1 HK1 ⊢
    obtain ⟨A2, hA2⟩ : ∃ T, T = backG A1 := ⟨_, rfl⟩
    obtain ⟨B2, hB2⟩ : ∃ T, T = backG B1 := ⟨_, rfl⟩
    rw [← hA2] at HK2 HT ⊢
    rw [← hB2] at HK1 ⊢
    obtain ⟨A3, hA3⟩ : ∃ T, T = turnG A2 2 := ⟨_, rfl⟩
    rw [← hA3] at HT ⊢
    have HC1' := Lib.hid HC1
    have HC2' := Lib.hid HC2
    have HK1' := Lib.hid HK1
    have HK2' := Lib.hid HK2
    have HT' := Lib.hid HT
    clear HC1 HC2 HK1 HK2 HT hA1 hB1 hA2 hB2 hA3 hp ha hb hva hvb hab
    have B0 := Lib.hid (Below.refl w.heap.size w)
    go_enter Try.func35, Try.ntmps35
    go_wp2_with fail
    refine (HP'.out).mono ?_
    rintro e w1 ⟨rfl, hb1⟩
    have B1 := Lib.hid (joins B0.out hb1)
    clear hb1
    go_wp2_with fail
    refine (HC1'.out _ B1.out).mono ?_
    rintro e w2 ⟨v2, rfl, ho2, hb2⟩
    have B2 := Lib.hid (joins B1.out hb2)
    have O2_cb := Lib.hid ho2
    have S2 := Lib.hid hb2.size
    clear ho2
    clear hb2
    go_wp2_with fail
    refine (HK1'.out _ _ O2_cb.out.is).mono ?_
    rintro e w3 ⟨v3, rfl, ho3, hb3⟩
    have B3 := Lib.hid (joins B2.out hb3)
    have O3_cb := Lib.hid (O2_cb.out.below hb3)
    have O3_x := Lib.hid ho3
    have S3 := Lib.hid hb3.size
    clear ho3
    clear hb3
    go_wp2_with fail
    refine (HC2'.out _ B3.out).mono ?_
    rintro e w4 ⟨v4, rfl, ho4, hb4⟩
    have B4 := Lib.hid (joins B3.out hb4)
    have O4_cb := Lib.hid (O3_cb.out.below hb4)
    have O4_x := Lib.hid (O3_x.out.below hb4)
    have O4_ca := Lib.hid ho4
    have S4 := Lib.hid hb4.size
    clear ho4
    clear hb4
    go_wp2_with fail
    refine (HK2'.out _ _ O4_ca.out.is).mono ?_
    rintro e w5 ⟨v5, rfl, ho5, hb5⟩
    have B5 := Lib.hid (joins B4.out hb5)
    have O5_cb := Lib.hid (O4_cb.out.below hb5)
    have O5_x := Lib.hid (O4_x.out.below hb5)
    have O5_ca := Lib.hid (O4_ca.out.below hb5)
    have O5_ka := Lib.hid ho5
    have S5 := Lib.hid hb5.size
    clear ho5
    clear hb5
    go_wp2_with fail
    refine (HT'.out _ _ O5_ka.out.is).mono ?_
    rintro e w6 ⟨v6, rfl, ho6, hb6⟩
    have B6 := Lib.hid (joins B5.out hb6)
    have O6_cb := Lib.hid (O5_cb.out.below hb6)
    have O6_x := Lib.hid (O5_x.out.below hb6)
    have O6_ca := Lib.hid (O5_ca.out.below hb6)
    have O6_ka := Lib.hid (O5_ka.out.below hb6)
    have O6_y := Lib.hid ho6
    have S6 := Lib.hid hb6.size
    clear ho6
    clear hb6
    go_wp2_with fail
    go_returns
    exact Makes2B.two O6_x.out O6_y.out O3_x.out B2.out.size (by have := S4.out; have := S5.out; omega) B5.out.size B6.out
  · have hp2 : goOk a b = false := by simpa using hp
    have hok := hp2
    rw [hp2] at HP
    rw [hok, show mtp a b = [] from iff_no _ hok, show mtq a b = [] from iff_no _ hok]
    have HP' := Lib.hid HP
    clear HP hp hp2 hva hvb hok
    have B0 := Lib.hid (Below.refl w.heap.size w)
    go_enter Try.func35, Try.ntmps35
    go_wp2_with fail
    refine (HP'.out).mono ?_
    rintro e w1 ⟨rfl, hb1⟩
    have B1 := Lib.hid (joins B0.out hb1)
    clear hb1
    go_wp2_with fail
    go_returns
    exact Makes2B.none B1.out

set_option maxRecDepth 100000 in
set_option maxHeartbeats 2000000 in
theorem sinterleavePair (va vb : Value) (a b : List Int) (w : World) (hva : IS w va a) (hvb : IS w vb b) (hla : a.length ≤ 1048576) (hlb : b.length ≤ 1048576) :
    Calls Try.prog 33 #[va, vb] w (Makes2B w (ip a b) (iq a b) (ipOk a b)) := by
  have HP := goPair_any va vb a b w hva hvb hla hlb
  by_cases hp : goOk a b = true
  · obtain ⟨ha, hb, hab, h1⟩ := goOk_parts hp
    rw [hp] at HP
    have HP' := Lib.hid HP
    clear HP
    have HT := fun w' (h : Below w.heap.size w w') => phTurn_any vb b 2 w' (hvb.below h) hb (by omega) (by omega)
    have HW1 := fun w' (h : Below w.heap.size w w') => phInterleave_any va vb a b w' (hva.below h) (hvb.below h) ha hab
    have HW2 := fun v w' (h : Below w.heap.size w w') (hv : IS w' v (turnG b 2)) => phInterleave_any va v a (turnG b 2) w' (hva.below h) hv ha (by rw [turnG_length]; exact hab)
    have s1 := weaveG_seq a b ha hb hab
    have s2 := weaveG_seq a (turnG b 2) ha (turnG_seq b 2 hb) (by rw [turnG_length]; exact hab)
    have hl1 : (weaveG a b).length ≤ 1048576 := by rw [weaveG_length]; have := goOk_len hp; omega
    by_cases hc : 2 * a.length ≤ 32
    · have hok : ipOk a b = true := by unfold ipOk; rw [hp, decide_eq_true hc]; rfl
      rw [hok, show ip a b = weaveG a b from iff_yes _ hok, show iq a b = weaveG a (turnG b 2) from iff_yes _ hok]
      rw [decide_eq_true hc] at s1 s2
      have HG := fun v u w' (hv : IS w' v (weaveG a b)) (hu : IS w' u (weaveG a (turnG b 2))) => goTwo_yes v u _ _ w' hv hu s1 s2
      obtain ⟨T, hT⟩ : ∃ T, T = turnG b 2 := ⟨_, rfl⟩
      rw [← hT] at HT HW2 HG ⊢
      obtain ⟨X, hX⟩ : ∃ T, T = weaveG a b := ⟨_, rfl⟩
      rw [← hX] at HW1 HG ⊢
      obtain ⟨Y, hY⟩ : ∃ Y, Y = weaveG a T := ⟨_, rfl⟩
      rw [← hY] at HW2 HG ⊢
      have HT' := Lib.hid HT
      have HW1' := Lib.hid HW1
      have HW2' := Lib.hid HW2
      have HG' := Lib.hid HG
      clear HT HW1 HW2 HG hT hX hY s1 s2 hl1 hok hp ha hb hva hvb hab
      have B0 := Lib.hid (Below.refl w.heap.size w)
      go_enter Try.func33, Try.ntmps33
      go_wp2_with fail
      refine (HP'.out).mono ?_
      rintro e w1 ⟨rfl, hb1⟩
      have B1 := Lib.hid (joins B0.out hb1)
      clear hb1
      go_wp2_with fail
      refine (HW1'.out _ B1.out).mono ?_
      rintro e w2 ⟨v2, rfl, ho2, hb2⟩
      have B2 := Lib.hid (joins B1.out hb2)
      have O2_x := Lib.hid ho2
      have S2 := Lib.hid hb2.size
      clear ho2
      clear hb2
      go_wp2_with fail
      refine (HT'.out _ B2.out).mono ?_
      rintro e w3 ⟨v3, rfl, ho3, hb3⟩
      have B3 := Lib.hid (joins B2.out hb3)
      have O3_x := Lib.hid (O2_x.out.below hb3)
      have O3_t := Lib.hid ho3
      have S3 := Lib.hid hb3.size
      clear ho3
      clear hb3
      go_wp2_with fail
      refine (HW2'.out _ _ B3.out O3_t.out.is).mono ?_
      rintro e w4 ⟨v4, rfl, ho4, hb4⟩
      have B4 := Lib.hid (joins B3.out hb4)
      have O4_x := Lib.hid (O3_x.out.below hb4)
      have O4_t := Lib.hid (O3_t.out.below hb4)
      have O4_y := Lib.hid ho4
      have S4 := Lib.hid hb4.size
      clear ho4
      clear hb4
      go_wp2_with fail
      refine (HG'.out _ _ _ O4_x.out.is O4_y.out.is).mono ?_
      rintro e w5 ⟨rfl, hb5⟩
      have B5 := Lib.hid (joins B4.out hb5)
      have O5_x := Lib.hid (O4_x.out.below hb5)
      have O5_t := Lib.hid (O4_t.out.below hb5)
      have O5_y := Lib.hid (O4_y.out.below hb5)
      clear hb5
      go_wp2_with fail
      go_returns
      exact Makes2B.two O5_x.out O5_y.out O2_x.out B1.out.size S3.out B3.out.size B5.out
    · have hok : ipOk a b = false := by unfold ipOk; rw [decide_eq_false hc, Bool.and_false]
      rw [hok, show ip a b = [] from iff_no _ hok, show iq a b = [] from iff_no _ hok]
      rw [decide_eq_false hc] at s1
      have HG := fun v u w' (hv : IS w' v (weaveG a b)) => goTwo_no v u _ w' hv hl1 s1
      obtain ⟨T, hT⟩ : ∃ T, T = turnG b 2 := ⟨_, rfl⟩
      rw [← hT] at HT HW2
      obtain ⟨X, hX⟩ : ∃ T, T = weaveG a b := ⟨_, rfl⟩
      rw [← hX] at HW1 HG
      obtain ⟨Y, hY⟩ : ∃ Y, Y = weaveG a T := ⟨_, rfl⟩
      rw [← hY] at HW2
      have HT' := Lib.hid HT
      have HW1' := Lib.hid HW1
      have HW2' := Lib.hid HW2
      have HG' := Lib.hid HG
      clear HT HW1 HW2 HG hT hX hY s1 s2 hl1 hok hp ha hb hva hvb hab
      have B0 := Lib.hid (Below.refl w.heap.size w)
      go_enter Try.func33, Try.ntmps33
      go_wp2_with fail
      refine (HP'.out).mono ?_
      rintro e w1 ⟨rfl, hb1⟩
      have B1 := Lib.hid (joins B0.out hb1)
      clear hb1
      go_wp2_with fail
      refine (HW1'.out _ B1.out).mono ?_
      rintro e w2 ⟨v2, rfl, ho2, hb2⟩
      have B2 := Lib.hid (joins B1.out hb2)
      have O2_x := Lib.hid ho2
      have S2 := Lib.hid hb2.size
      clear ho2
      clear hb2
      go_wp2_with fail
      refine (HT'.out _ B2.out).mono ?_
      rintro e w3 ⟨v3, rfl, ho3, hb3⟩
      have B3 := Lib.hid (joins B2.out hb3)
      have O3_x := Lib.hid (O2_x.out.below hb3)
      have O3_t := Lib.hid ho3
      have S3 := Lib.hid hb3.size
      clear ho3
      clear hb3
      go_wp2_with fail
      refine (HW2'.out _ _ B3.out O3_t.out.is).mono ?_
      rintro e w4 ⟨v4, rfl, ho4, hb4⟩
      have B4 := Lib.hid (joins B3.out hb4)
      have O4_x := Lib.hid (O3_x.out.below hb4)
      have O4_t := Lib.hid (O3_t.out.below hb4)
      have O4_y := Lib.hid ho4
      have S4 := Lib.hid hb4.size
      clear ho4
      clear hb4
      go_wp2_with fail
      refine (HG'.out _ _ _ O4_x.out.is).mono ?_
      rintro e w5 ⟨rfl, hb5⟩
      have B5 := Lib.hid (joins B4.out hb5)
      have O5_x := Lib.hid (O4_x.out.below hb5)
      have O5_t := Lib.hid (O4_t.out.below hb5)
      have O5_y := Lib.hid (O4_y.out.below hb5)
      clear hb5
      go_wp2_with fail
      go_returns
      exact Makes2B.none B5.out
  · have hp2 : goOk a b = false := by simpa using hp
    have hok : ipOk a b = false := by unfold ipOk; rw [hp2, Bool.false_and]
    rw [hp2] at HP
    rw [hok, show ip a b = [] from iff_no _ hok, show iq a b = [] from iff_no _ hok]
    have HP' := Lib.hid HP
    clear HP hp hp2 hva hvb hok
    have B0 := Lib.hid (Below.refl w.heap.size w)
    go_enter Try.func33, Try.ntmps33
    go_wp2_with fail
    refine (HP'.out).mono ?_
    rintro e w1 ⟨rfl, hb1⟩
    have B1 := Lib.hid (joins B0.out hb1)
    clear hb1
    go_wp2_with fail
    go_returns
    exact Makes2B.none B1.out
end Go.Proofs.Ytodgalflngfnpaa
