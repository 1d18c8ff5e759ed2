/- Gaussian numbers drawn. -/
import Derived.Test.YtgjdaeaiheibbabDoorCurS
import Derived.Test.YtgjdaeaiheibbabDoorTN
namespace Go.Proofs.YtgjdaeaiheibbabDoor
set_option maxRecDepth 100000
open Go.RowKit

theorem TN.grown {B g : Nat} {x y : Value} {wr w' : World} {row : Option Nat} (h : TN B x y g wr) (hg : wr.grownBy w' row) (hr : row ≠ some g) : TN B x y g w' :=
  ⟨h.low, Nat.lt_of_lt_of_le h.lt hg.size, cell_grown h.n0 hg h.lt hr, cell_grown h.n1 hg h.lt hr, (hg.frozen_far ⟨g, 0, none⟩ h.lt (fun e => hr e.symm)).trans h.m0, (hg.frozen_far ⟨g, 1, none⟩ h.lt (fun e => hr e.symm)).trans h.m1⟩
/-- Writing into a block made since. -/
theorem grown_new {w w' : World} {row : Option Nat} (h : w.grownBy w' row) {r : Nat} (hr : w.heap.size ≤ r) (o : Nat) (v : Value) : w.grownBy (w'.setCell ⟨r, o, none⟩ v) row := by
  refine ⟨h.os, h.tape, h.output, by simpa using h.size, fun k hk hne => ?_⟩
  exact (heap_setCell_other w' ⟨r, o, none⟩ k v (fun e => by have e2 : k = r := e; omega)).trans (h.block k hk hne)
theorem Cu.set {g : Nat} {cv : Value} {l : List Int} {n : Nat} {w : World} (h : Cu g cv l n w) {r : Nat} (hr : g < r) (o : Nat) (v : Value) : Cu g cv l n (w.setCell ⟨r, o, none⟩ v) :=
  h.grown (grown_set w r o v) (fun k e => by cases e; exact hr)
def in64 (x : Int) : Prop := -9223372036854775808 ≤ x ∧ x ≤ 9223372036854775807
def GaussV (v : Value) (_ : World) : Prop := ∃ x y : Int, v = .agg #[.int .i64 x, .int .i64 y] ∧ in64 x ∧ in64 y
set_option maxRecDepth 100000 in
set_option maxHeartbeats 4000000 in
theorem gauss_any (g : Nat) (cv : Value) (l : List Int) (n : Nat) (w : World) (h : Cu g cv l n w) (hn : n ≤ 1152921504606846900) :
    Calls Tryd.prog 41 #[.pointer (some ⟨g, 0, none⟩)] w (Dr g cv l (n + 6) w GaussV) := by
  have LT := h.lt
  have H0 := Lib.hid (one_any g cv l n (w.alloc (.cells #[.int .i64 0, .int .i64 0] 25)) 10 (h.below (belowa (Below.refl _ _) _)) (by omega) (by omega) (by omega))
  have T0 := TN.new (B := 0) (W := w) (Nat.zero_le _) (.int .i64 0) (.int .i64 0) 25
  have HG0 := Lib.hid (grown_alloc (World.grownBy.refl w (some g)) (.cells #[.int .i64 0, .int .i64 0] 25))
  clear h
  go_enter Tryd.func41, Tryd.ntmps41
  go_wp2_with fail
  refine H0.out.mono ?_
  rintro e w1 ⟨v1, rfl, ⟨b, rfl⟩, hc1, hg1⟩
  have C1 := Lib.hid hc1
  have G1 := Lib.hid (grown_tr HG0.out hg1)
  have T1 := T0.grown hg1 (fun e => by cases e; omega)
  have S1 := Lib.hid G1.out.size
  clear hc1 hg1 T0
  cases b with
  | false =>
    have P1 := Lib.hid (pick_any g cv l (n + 2) w1 41 C1.out (by omega) (by omega) (by omega))
    go_wp2_with fail
    refine P1.out.mono ?_
    rintro e w2 ⟨v2, rfl, ⟨x, rfl, hx0, hx1⟩, hc2, hg2⟩
    have P2 := Lib.hid (pick_any g cv l (n + 2 + 2) w2 41 hc2 (by omega) (by omega) (by omega))
    have G2 := Lib.hid (grown_tr G1.out hg2)
    have T2 := T1.grown hg2 (fun e => by cases e; omega)
    clear hc2 hg2
    go_wp2_with fail
    refine P2.out.mono ?_
    rintro e w3 ⟨v3, rfl, ⟨y, rfl, hy0, hy1⟩, hc3, hg3⟩
    have G3 := Lib.hid (grown_tr G2.out hg3)
    have C3 := Lib.hid hc3
    have T3 := T2.grown hg3 (fun e => by cases e; omega)
    have HT := Lib.hid T3
    have t0 := T3.n0
    have t1 := T3.n1
    have t2 := T3.m0
    have t3 := T3.m1
    clear hc3 hg3 T1 T2 T3
    go_wp2_with fail
    have HP := HT.out.put (.int .i64 (x - 20)) (.int .i64 (y - 20))
    have d0 := HP.n0
    have d1 := HP.n1
    refine bodyPost_ret (by simp [results, Tryd.results41, go_sem, d0, d1]; try rfl) rfl ?_
    exact ⟨_, rfl, ⟨_, _, rfl, ⟨by omega, by omega⟩, ⟨by omega, by omega⟩⟩, (C3.out.set LT _ _).set LT _ _, grown_new (grown_new G3.out (Nat.le_refl _) _ _) (Nat.le_refl _) _ _⟩
  | true =>
    have I1 := IS.lit (l := [0, 1000000, -1000000, 1000001, 4611686018427387904]) (heap_alloc_new w1 (.cells #[.int .i64 0, .int .i64 1000000, .int .i64 (-1000000), .int .i64 1000001, .int .i64 4611686018427387904] 3)) (by decide)
    have P1 := Lib.hid (among_any g cv l (n + 2) (w1.alloc (.cells #[.int .i64 0, .int .i64 1000000, .int .i64 (-1000000), .int .i64 1000001, .int .i64 4611686018427387904] 3)) _ [0, 1000000, -1000000, 1000001, 4611686018427387904] (C1.out.below (belowa (Below.refl _ _) _)) (by omega) I1 (by simp) (by simp) (fun k hk e => by cases hk; have h2 := C1.out.lt; rw [← e] at h2; exact Nat.lt_irrefl _ h2))
    have G1a := Lib.hid (grown_alloc G1.out (.cells #[.int .i64 0, .int .i64 1000000, .int .i64 (-1000000), .int .i64 1000001, .int .i64 4611686018427387904] 3))
    have T1 := T1.alloc (.cells #[.int .i64 0, .int .i64 1000000, .int .i64 (-1000000), .int .i64 1000001, .int .i64 4611686018427387904] 3)
    clear I1
    go_wp2_with fail
    refine P1.out.mono ?_
    rintro e w2 ⟨v2, rfl, ⟨x, hx, rfl⟩, hc2, hg2⟩
    have I2 := IS.lit (l := [0, 1, 1000000, -1000001]) (heap_alloc_new w2 (.cells #[.int .i64 0, .int .i64 1, .int .i64 1000000, .int .i64 (-1000001)] 3)) (by decide)
    have P2 := Lib.hid (among_any g cv l (n + 2 + 2) (w2.alloc (.cells #[.int .i64 0, .int .i64 1, .int .i64 1000000, .int .i64 (-1000001)] 3)) _ [0, 1, 1000000, -1000001] (hc2.below (belowa (Below.refl _ _) _)) (by omega) I2 (by simp) (by simp) (fun k hk e => by cases hk; have h2 := hc2.lt; rw [← e] at h2; exact Nat.lt_irrefl _ h2))
    have G2 := Lib.hid (grown_alloc (grown_tr G1a.out hg2) (.cells #[.int .i64 0, .int .i64 1, .int .i64 1000000, .int .i64 (-1000001)] 3))
    have T2 := (T1.grown hg2 (fun e => by cases e; omega)).alloc (.cells #[.int .i64 0, .int .i64 1, .int .i64 1000000, .int .i64 (-1000001)] 3)
    have HX := Lib.hid (show in64 x from by simp at hx; unfold in64; omega)
    clear hc2 hg2 I2 hx T1
    go_wp2_with fail
    refine P2.out.mono ?_
    rintro e w3 ⟨v3, rfl, ⟨y, hy, rfl⟩, hc3, hg3⟩
    have G3 := Lib.hid (grown_tr G2.out hg3)
    have C3 := Lib.hid hc3
    have T3 := T2.grown hg3 (fun e => by cases e; omega)
    have HT := Lib.hid T3
    have t0 := T3.n0
    have t1 := T3.n1
    have t2 := T3.m0
    have t3 := T3.m1
    have HY := Lib.hid (show in64 y from by simp at hy; unfold in64; omega)
    clear hc3 hg3 T2 T3 hy
    go_wp2_with fail
    have HP := HT.out.put (.int .i64 x) (.int .i64 y)
    have d0 := HP.n0
    have d1 := HP.n1
    refine bodyPost_ret (by simp [results, Tryd.results41, go_sem, d0, d1]; try rfl) rfl ?_
    exact ⟨_, rfl, ⟨_, _, rfl, HX.out, HY.out⟩, (C3.out.set LT _ _).set LT _ _, grown_new (grown_new G3.out (Nat.le_refl _) _ _) (Nat.le_refl _) _ _⟩
/-- What is below a world stays while a cursor made since moves on. -/
theorem below_cur {w w1 : World} {g : Nat} (hg : w.heap.size ≤ g) {w0 : World} (hb : Below w.heap.size w w0) (h : w0.grownBy w1 (some g)) : Below w.heap.size w w1 := gjoin hb h (fun k hk => by cases hk; exact hg)
set_option maxRecDepth 100000 in
set_option maxHeartbeats 4000000 in
theorem drawIsGauss (v : Value) (l : List Int) (w : World) (hv : BS w v l) : Calls Tryd.prog 36 #[v] w (Dw w GaussV) := by
  obtain ⟨pa, ca, rfl⟩ := hv.sl
  have T0 := (TN.new (B := 0) (W := w) (Nat.zero_le _) (.int .i64 0) (.int .i64 0) 25).alloc (.cells #[.slice pa l.length ca, .int .i64 0, .int .u64 0] 45)
  have B0 := Lib.hid (belowa (belowa (Below.refl w.heap.size w) (.cells #[.int .i64 0, .int .i64 0] 25)) (.cells #[.slice pa l.length ca, .int .i64 0, .int .u64 0] 45))
  have C0 := Cu.start (hv.grown (World.grownBy_alloc w (.cells #[.int .i64 0, .int .i64 0] 25) none) (fun _ k _ e => by cases e)) 45
  have e1 : (w.alloc (.cells #[.int .i64 0, .int .i64 0] 25)).heap.size = w.heap.size + 1 := by simp
  rw [e1] at C0
  have P := Lib.hid (gauss_any _ _ l 0 _ C0 (by omega))
  clear C0 e1 hv
  go_enter Tryd.func36, Tryd.ntmps36
  go_wp2_with fail
  refine P.out.mono ?_
  rintro e w1 ⟨v1, rfl, ⟨x, y, rfl, hx, hy⟩, hc1, hg1⟩
  have T1 := T0.grown hg1 (fun e => by have e2 := Option.some.inj e; omega)
  have HT := Lib.hid T1
  have t0 := T1.n0
  have t1 := T1.n1
  have t2 := T1.m0
  have t3 := T1.m1
  have HX := Lib.hid hx
  have HY := Lib.hid hy
  have B1 := Lib.hid (below_cur (Nat.le_succ _) B0.out hg1)
  clear T0 T1 hc1 hg1 hx hy
  go_wp2_with fail
  have HP := HT.out.put (.int .i64 x) (.int .i64 y)
  have d0 := HP.n0
  have d1 := HP.n1
  refine bodyPost_ret (by simp [results, Tryd.results36, go_sem, d0, d1]; try rfl) rfl ?_
  exact ⟨_, rfl, ⟨_, _, rfl, HX.out, HY.out⟩, belows (belows B1.out (Nat.le_refl _) _) (Nat.le_refl _) _⟩
def Gauss2V (v : Value) (_ : World) : Prop := ∃ x y z u : Int, v = .tuple #[.agg #[.int .i64 x, .int .i64 y], .agg #[.int .i64 z, .int .i64 u]] ∧ (in64 x ∧ in64 y) ∧ in64 z ∧ in64 u
set_option maxRecDepth 100000 in
set_option maxHeartbeats 4000000 in
theorem drawPlusGauss (v : Value) (l : List Int) (w : World) (hv : BS w v l) : Calls Tryd.prog 24 #[v] w (Dw w Gauss2V) := by
  obtain ⟨pa, ca, rfl⟩ := hv.sl
  have T0 := ((TN.new (B := 0) (W := w) (Nat.zero_le _) (.int .i64 0) (.int .i64 0) 25).alloc (.cells #[.int .i64 0, .int .i64 0] 25)).alloc (.cells #[.slice pa l.length ca, .int .i64 0, .int .u64 0] 45)
  have e0 : (w.alloc (.cells #[.int .i64 0, .int .i64 0] 25)).heap.size = w.heap.size + 1 := by simp
  have U0 := (TN.mk' (B := 0) (g := w.heap.size + 1) (W := w.alloc (.cells #[.int .i64 0, .int .i64 0] 25)) e0.symm (Nat.zero_le _) (.int .i64 0) (.int .i64 0) 25).alloc (.cells #[.slice pa l.length ca, .int .i64 0, .int .u64 0] 45)
  have B0 := Lib.hid (belowa (belowa (belowa (Below.refl w.heap.size w) (.cells #[.int .i64 0, .int .i64 0] 25)) (.cells #[.int .i64 0, .int .i64 0] 25)) (.cells #[.slice pa l.length ca, .int .i64 0, .int .u64 0] 45))
  have C0 := Cu.start ((hv.grown (World.grownBy_alloc w (.cells #[.int .i64 0, .int .i64 0] 25) none) (fun _ k _ e => by cases e)).grown (World.grownBy_alloc _ (.cells #[.int .i64 0, .int .i64 0] 25) none) (fun _ k _ e => by cases e)) 45
  have e1 : ((w.alloc (.cells #[.int .i64 0, .int .i64 0] 25)).alloc (.cells #[.int .i64 0, .int .i64 0] 25)).heap.size = w.heap.size + 1 + 1 := by simp
  rw [e1] at C0
  have P := Lib.hid (gauss_any _ _ l 0 _ C0 (by omega))
  clear C0 e0 e1 hv
  go_enter Tryd.func24, Tryd.ntmps24
  go_wp2_with fail
  refine P.out.mono ?_
  rintro e w1 ⟨v1, rfl, ⟨x, y, rfl, hx, hy⟩, hc1, hg1⟩
  have T1 := T0.grown hg1 (fun e => by have e2 := Option.some.inj e; omega)
  have U1 := U0.grown hg1 (fun e => by have e2 := Option.some.inj e; omega)
  have P2 := Lib.hid (gauss_any _ _ l (0 + 6) _ hc1 (by omega))
  have HX := Lib.hid (And.intro hx hy)
  have B1 := Lib.hid (below_cur (Nat.le_trans (Nat.le_succ _) (Nat.le_succ _)) B0.out hg1)
  clear T0 U0 hc1 hg1 hx hy
  go_wp2_with fail
  refine P2.out.mono ?_
  rintro e w2 ⟨v2, rfl, ⟨z, u, rfl, hz, hu⟩, hc2, hg2⟩
  have T2 := T1.grown hg2 (fun e => by have e2 := Option.some.inj e; omega)
  have U2 := U1.grown hg2 (fun e => by have e2 := Option.some.inj e; omega)
  have HZ := Lib.hid (And.intro hz hu)
  have B2 := Lib.hid (below_cur (Nat.le_trans (Nat.le_succ _) (Nat.le_succ _)) B1.out hg2)
  have HT := Lib.hid (T2.put (.int .i64 x) (.int .i64 y))
  have HU1 := (U2.set (k := w.heap.size) (j := 0) (by omega) (.int .i64 x)).set (k := w.heap.size) (j := 1) (by omega) (.int .i64 y)
  have HU := Lib.hid (HU1.put (.int .i64 z) (.int .i64 u))
  have HT2 := Lib.hid ((HT.out.set (k := w.heap.size + 1) (j := 0) (by omega) (.int .i64 z)).set (k := w.heap.size + 1) (j := 1) (by omega) (.int .i64 u))
  have t0 := T2.n0
  have t1 := T2.n1
  have t2 := T2.m0
  have t3 := T2.m1
  have u0 := HU1.n0
  have u1 := HU1.n1
  have u2 := HU1.m0
  have u3 := HU1.m1
  clear T1 U1 T2 U2 HU1 hc2 hg2 hz hu
  go_wp2_with fail
  have d0 := HT2.out.n0
  have d1 := HT2.out.n1
  have d2 := HU.out.n0
  have d3 := HU.out.n1
  refine bodyPost_ret (by simp [results, Tryd.results24, go_sem, d0, d1, d2, d3]; try rfl) rfl ?_
  exact ⟨_, rfl, ⟨_, _, _, _, rfl, HX.out, HZ.out⟩, belows (belows (belows (belows B2.out (Nat.le_refl _) _) (Nat.le_refl _) _) (Nat.le_succ _) _) (Nat.le_succ _) _⟩
set_option maxRecDepth 100000 in
set_option maxHeartbeats 4000000 in
theorem drawGaussText (v : Value) (l : List Int) (w : World) (hv : BS w v l) : Calls Tryd.prog 17 #[v] w (Dw w GaussV) := by
  have T0 := TN.new (B := 0) (W := w) (Nat.zero_le _) (.int .i64 0) (.int .i64 0) 25
  have B0 := Lib.hid (belowa (Below.refl w.heap.size w) (.cells #[.int .i64 0, .int .i64 0] 25))
  have P := Lib.hid (drawIsGauss v l _ (hv.grown (World.grownBy_alloc w (.cells #[.int .i64 0, .int .i64 0] 25) none) (fun _ k _ e => by cases e)))
  clear hv
  go_enter Tryd.func17, Tryd.ntmps17
  go_wp2_with fail
  refine P.out.mono ?_
  rintro e w1 ⟨v1, rfl, ⟨x, y, rfl, hx⟩, hb⟩
  have HB := Lib.hid (joins B0.out hb)
  have HX := Lib.hid hx
  have HT := Lib.hid (T0.step hb)
  have t0 := HT.out.n0
  have t1 := HT.out.n1
  have t2 := HT.out.m0
  have t3 := HT.out.m1
  clear hb hx T0
  go_wp2_with fail
  have HP := HT.out.put (.int .i64 x) (.int .i64 y)
  have d0 := HP.n0
  have d1 := HP.n1
  refine bodyPost_ret (by simp [results, Tryd.results17, go_sem, d0, d1]; try rfl) rfl ?_
  exact ⟨_, rfl, ⟨_, _, rfl, HX.out⟩, belows (belows HB.out (Nat.le_refl _) _) (Nat.le_refl _) _⟩
set_option maxRecDepth 100000 in
set_option maxHeartbeats 4000000 in
theorem drawTimesGauss (v : Value) (l : List Int) (w : World) (hv : BS w v l) : Calls Tryd.prog 5 #[v] w (Dw w Gauss2V) := by
  have T0 := (TN.new (B := 0) (W := w) (Nat.zero_le _) (.int .i64 0) (.int .i64 0) 25).alloc (.cells #[.int .i64 0, .int .i64 0] 25)
  have e0 : (w.alloc (.cells #[.int .i64 0, .int .i64 0] 25)).heap.size = w.heap.size + 1 := by simp
  have U0 := TN.mk' (B := 0) (g := w.heap.size + 1) (W := w.alloc (.cells #[.int .i64 0, .int .i64 0] 25)) e0.symm (Nat.zero_le _) (.int .i64 0) (.int .i64 0) 25
  have B0 := Lib.hid (belowa (belowa (Below.refl w.heap.size w) (.cells #[.int .i64 0, .int .i64 0] 25)) (.cells #[.int .i64 0, .int .i64 0] 25))
  have P := Lib.hid (drawPlusGauss v l _ ((hv.grown (World.grownBy_alloc w (.cells #[.int .i64 0, .int .i64 0] 25) none) (fun _ k _ e => by cases e)).grown (World.grownBy_alloc _ (.cells #[.int .i64 0, .int .i64 0] 25) none) (fun _ k _ e => by cases e)))
  clear hv e0
  go_enter Tryd.func5, Tryd.ntmps5
  go_wp2_with fail
  refine P.out.mono ?_
  rintro e w1 ⟨v1, rfl, ⟨x, y, z, u, rfl, hx⟩, hb⟩
  have HB := Lib.hid (joins B0.out hb)
  have HX := Lib.hid hx
  have HT := Lib.hid ((T0.step hb).put (.int .i64 x) (.int .i64 y))
  have T2 := T0.step hb
  have t0 := T2.n0
  have t1 := T2.n1
  have t2 := T2.m0
  have t3 := T2.m1
  have HU1 := ((U0.step hb).set (k := w.heap.size) (j := 0) (by omega) (.int .i64 x)).set (k := w.heap.size) (j := 1) (by omega) (.int .i64 y)
  have HU := Lib.hid (HU1.put (.int .i64 z) (.int .i64 u))
  have HT2 := Lib.hid ((HT.out.set (k := w.heap.size + 1) (j := 0) (by omega) (.int .i64 z)).set (k := w.heap.size + 1) (j := 1) (by omega) (.int .i64 u))
  have u0 := HU1.n0
  have u1 := HU1.n1
  have u2 := HU1.m0
  have u3 := HU1.m1
  clear hb hx T0 U0 T2 HU1
  go_wp2_with fail
  have d0 := HT2.out.n0
  have d1 := HT2.out.n1
  have d2 := HU.out.n0
  have d3 := HU.out.n1
  refine bodyPost_ret (by simp [results, Tryd.results5, go_sem, d0, d1, d2, d3]; try rfl) rfl ?_
  exact ⟨_, rfl, ⟨_, _, _, _, rfl, HX.out⟩, belows (belows (belows (belows HB.out (Nat.le_refl _) _) (Nat.le_refl _) _) (Nat.le_succ _) _) (Nat.le_succ _) _⟩
set_option maxRecDepth 100000 in
set_option maxHeartbeats 1000000 in
theorem drawPhaseValue (v : Value) (l : List Int) (w : World) (hv : BS w v l) : Calls Tryd.prog 14 #[v] w (Dw w (fun v _ => ∃ k : Int, v = .int .i64 k ∧ -1 ≤ k ∧ k ≤ 4)) := by
  obtain ⟨pa, ca, rfl⟩ := hv.sl
  have B0 := Lib.hid (belowa (Below.refl w.heap.size w) (.cells #[.slice pa l.length ca, .int .i64 0, .int .u64 0] 45))
  have P := Lib.hid (pick_any _ _ l 0 _ 6 (Cu.start hv 45) (by omega) (by omega) (by omega))
  clear hv
  go_enter Tryd.func14, Tryd.ntmps14
  go_wp2_with fail
  refine P.out.mono ?_
  rintro e w1 ⟨v1, rfl, ⟨x, rfl, hx0, hx1⟩, hc1, hg1⟩
  have B1 := Lib.hid (below_cur (Nat.le_refl _) B0.out hg1)
  clear hc1 hg1
  go_wp2_with fail
  go_returns
  exact ⟨_, rfl, ⟨x - 1, rfl, by omega, by omega⟩, B1.out⟩
end Go.Proofs.YtgjdaeaiheibbabDoor
