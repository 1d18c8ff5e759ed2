/- The walk of the law FnExactIsDesk. -/
import Derived.Test.YtgjdaeaiheibbaaWFirstDesk
import Derived.Test.YtgjdaeaiheibbaaRwL
import Derived.Test.YtgjdaeaiheibbaaTN
import Derived.OneCell
namespace Go.Proofs.Ytgjdaeaiheibbaa
set_option maxRecDepth 100000
open Go.RowKit

theorem DI.shape {w : World} {v : Value} {l m : List Int} (h : DI w v l m) : ∃ a a' b b', v = .agg #[.slice a l.length a', .slice b m.length b'] := by
  obtain ⟨a, b, rfl, h1, h2⟩ := h
  obtain ⟨p, p', rfl⟩ := h1.shape
  obtain ⟨q, q', rfl⟩ := h2.shape
  exact ⟨p, p', q, q', rfl⟩
theorem DI.len {w : World} {v : Value} {l m : List Int} (h : DI w v l m) : l.length ≤ 9223372036854775807 ∧ m.length ≤ 9223372036854775807 := by
  obtain ⟨a, b, rfl, h1, h2⟩ := h
  have := maxLen_val
  constructor
  · rcases h1 with ⟨rfl, -⟩ | ⟨-, b, off, cap, -, h, -⟩
    · simp
    · omega
  · rcases h2 with ⟨rfl, -⟩ | ⟨-, b, off, cap, -, h, -⟩
    · simp
    · omega
def szD (l m : List Int) : Int := if l.length + m.length ≤ 1048576 then 1048576 - ((l.length + m.length : Nat) : Int) else -1
set_option maxHeartbeats 1000000 in
theorem szDesk_any (v : Value) (l m : List Int) (w : World) (hv : DI w v l m) : Calls Try.prog 10 #[v, .int .i64 1048576] w (Ret w (.int .i64 (szD l m))) := by
  obtain ⟨a, a', b, b', rfl⟩ := hv.shape
  obtain ⟨L1, L2⟩ := hv.len
  have c0 := cell_new0 w (.slice a l.length a') (.slice b m.length b') 29
  have c1 := cell_new1 w (.slice a l.length a') (.slice b m.length b') 29
  have H0 := Lib.hid (alloc_below w (.cells #[.slice a l.length a', .slice b m.length b'] 29))
  obtain ⟨N, hN⟩ : ∃ N, N = l.length := ⟨_, rfl⟩
  obtain ⟨M, hM⟩ : ∃ N, N = m.length := ⟨_, rfl⟩
  have hz : szD l m = if N + M ≤ 1048576 then 1048576 - ((N + M : Nat) : Int) else -1 := by rw [hN, hM]; rfl
  rw [← hN, ← hM] at c0 c1 H0
  rw [hz, ← hN, ← hM]
  rw [← hN] at L1
  rw [← hM] at L2
  clear hv hN hM hz
  by_cases h1 : N ≤ 1048576
  · by_cases h2 : N + M ≤ 1048576
    · rw [if_pos h2]
      have g0 : ¬ ((1048576 : Int) - (N : Int)) < 0 := by omega
      have g1 : ¬ ((1048576 : Int) - (N : Int) - (M : Int)) < 0 := by omega
      go_enter Try.func10, Try.ntmps10
      go_wp2_with fail
      refine (szIntS_yes _ N _ 1048576 _ (by omega) (by omega)).mono ?_
      rintro e w1 ⟨rfl, hb1⟩
      have H1 := Lib.hid (joins H0.out hb1)
      have c1 := keepc hb1 c1
      clear hb1
      go_wp2_with fail
      refine (szIntS_yes _ M _ (1048576 - N) _ (by omega) (by omega)).mono ?_
      rintro e w2 ⟨rfl, hb2⟩
      have H2 := Lib.hid (joins H1.out hb2)
      clear hb2
      go_wp2_with fail
      go_returns
      exact ⟨ret_int (by omega), H2.out⟩
    · rw [if_neg h2]
      have g0 : ¬ ((1048576 : Int) - (N : Int)) < 0 := by omega
      go_enter Try.func10, Try.ntmps10
      go_wp2_with fail
      refine (szIntS_yes _ N _ 1048576 _ (by omega) (by omega)).mono ?_
      rintro e w1 ⟨rfl, hb1⟩
      have H1 := Lib.hid (joins H0.out hb1)
      have c1 := keepc hb1 c1
      clear hb1
      go_wp2_with fail
      refine (szIntS_no _ M _ (1048576 - N) _ (by omega) (by omega) (by omega) L2).mono ?_
      rintro e w2 ⟨rfl, hb2⟩
      have H2 := Lib.hid (joins H1.out hb2)
      clear hb2
      go_wp2_with fail
      go_returns
      exact ⟨rfl, H2.out⟩
  · rw [if_neg (by omega)]
    go_enter Try.func10, Try.ntmps10
    go_wp2_with fail
    refine (szIntS_no _ N _ 1048576 _ (by omega) (by omega) (by omega) L1).mono ?_
    rintro e w1 ⟨rfl, hb1⟩
    have H1 := Lib.hid (joins H0.out hb1)
    clear hb1
    go_wp2_with fail
    go_returns
    exact ⟨rfl, H1.out⟩
theorem TN.put0 {B g : Nat} {x y : Value} {wr : World} (h : TN B x y g wr) (u : Value) : TN B u y g (wr.setCell ⟨g, 0, none⟩ u) :=
  ⟨h.low, by simpa using h.lt, World.cell?_setCell_same _ _ _ h.n0, (World.cell?_setCell_other _ _ _ _ (by simp)).trans h.n1, by simp [go_sem, h.m0], by simp [go_sem, h.m1]⟩
theorem TN.put1 {B g : Nat} {x y : Value} {wr : World} (h : TN B x y g wr) (u : Value) : TN B x u g (wr.setCell ⟨g, 1, none⟩ u) :=
  ⟨h.low, by simpa using h.lt, (World.cell?_setCell_other _ _ _ _ (by simp)).trans h.n0, World.cell?_setCell_same _ _ _ h.n1, by simp [go_sem, h.m0], by simp [go_sem, h.m1]⟩
theorem Own.setCell {w : World} {B : Nat} {v : Value} {l : List Int} (h : Own w B v l) {a : Addr} (ha : a.block < B) (u : Value) : Own (w.setCell a u) B v l := ownsRow_setCell_below h ha u
set_option maxHeartbeats 2000000 in
theorem toDesk_any (v : Value) (l m : List Int) (w : World) (hv : DI w v l m) (hl : l.length ≤ 1048576) (hm : m.length ≤ 1048576) : Calls Try.prog 12 #[v] w (MakesD w l m) := by
  obtain ⟨a, b, rfl, ha, hb⟩ := hv
  have HA := Lib.hid (fun w' (h : Below w.heap.size w w') => toIntS_any a l w' (ha.below h) hl)
  have HB := Lib.hid (fun w' (h : Below w.heap.size w w') => toIntS_any b m w' (hb.below h) hm)
  obtain ⟨a1, a2, rfl⟩ := ha.shape
  obtain ⟨b1, b2, rfl⟩ := hb.shape
  clear ha hb hl hm
  have T0 := ((TN.mk' (B := 0) (W := w) rfl (Nat.zero_le _) (.slice a1 l.length a2) (.slice b1 m.length b2) 29).alloc (.cells #[.slice none 0 0, .slice none 0 0] 24)).alloc (.cells #[.slice none 0 0, .slice none 0 0] 24)
  have T1 := (TN.mk' (B := 0) (g := w.heap.size + 1) (W := w.alloc (.cells #[.slice a1 l.length a2, .slice b1 m.length b2] 29)) (by simp) (Nat.zero_le _) (.slice none 0 0) (.slice none 0 0) 24).alloc (.cells #[.slice none 0 0, .slice none 0 0] 24)
  have T2 := TN.mk' (B := 0) (g := w.heap.size + 1 + 1) (W := (w.alloc (.cells #[.slice a1 l.length a2, .slice b1 m.length b2] 29)).alloc (.cells #[.slice none 0 0, .slice none 0 0] 24)) (by simp) (Nat.zero_le _) (.slice none 0 0) (.slice none 0 0) 24
  have B0 := Lib.hid (belowa (belowa (alloc_below w (.cells #[.slice a1 l.length a2, .slice b1 m.length b2] 29)) (.cells #[.slice none 0 0, .slice none 0 0] 24)) (.cells #[.slice none 0 0, .slice none 0 0] 24))
  have S0 := Lib.hid (show (((w.alloc (.cells #[.slice a1 l.length a2, .slice b1 m.length b2] 29)).alloc (.cells #[.slice none 0 0, .slice none 0 0] 24)).alloc (.cells #[.slice none 0 0, .slice none 0 0] 24)).heap.size = w.heap.size + 3 by simp)
  have K0 := T0.n0
  have K1 := T2.n0
  have K2 := T2.m0
  have t0 := Lib.hid T0
  have t1 := Lib.hid T1
  have t2 := Lib.hid T2
  clear T0 T1 T2
  go_enter Try.func12, Try.ntmps12
  go_wp2_with fail
  refine (HA.out _ B0.out).mono ?_
  rintro e w1 ⟨v1, rfl, ho1, hb1⟩
  rw [S0.out] at ho1
  have t0 := Lib.hid ((t0.out.step hb1).set (k := w.heap.size + 1 + 1) (j := 0) (by omega) v1)
  have t1 := Lib.hid ((t1.out.step hb1).set (k := w.heap.size + 1 + 1) (j := 0) (by omega) v1)
  have q2 := t2.out.step hb1
  have k0 := q2.n0
  have k1 := q2.m0
  have t2 := Lib.hid (q2.put0 v1)
  have B1 := Lib.hid (belows (joins B0.out hb1) (b := ⟨w.heap.size + 1 + 1, 0, none⟩) (by simp; omega) v1)
  have O1 := Lib.hid (ho1.setCell (a := ⟨w.heap.size + 1 + 1, 0, none⟩) (by simp) v1)
  have SZ := Lib.hid (show w.heap.size + 3 ≤ (w1.setCell ⟨w.heap.size + 1 + 1, 0, none⟩ v1).heap.size by have := hb1.size; rw [S0.out] at this; simpa using this)
  obtain ⟨x1, x1', hx1⟩ := ho1.is.shape
  subst hx1
  have K3 := t0.out.n1
  clear ho1 hb1 q2 K0 K1 K2
  go_wp2_with fail
  refine (HB.out _ B1.out).mono ?_
  rintro e w2 ⟨v2, rfl, ho2, hb2⟩
  have q2 := t2.out.step hb2
  have k2 := q2.n1
  have k3 := q2.m1
  have q1 := Lib.hid ((t1.out.step hb2).set (k := w.heap.size + 1 + 1) (j := 1) (by omega) v2)
  have q3 := q2.put1 v2
  have Q3 := Lib.hid q3
  have k4 := q3.n0
  have k5 := q3.n1
  have k6 := q1.out.n0
  have k7 := q1.out.n1
  have k8 := q1.out.m0
  have k9 := q1.out.m1
  have AP := Lib.hid (apart (O1.out.setCell (a := ⟨w.heap.size + 1 + 1, 1, none⟩) (by simp) v2) ho2 (by simp))
  have O1 := Lib.hid ((O1.out.below hb2).setCell (a := ⟨w.heap.size + 1 + 1, 1, none⟩) (by simp) v2)
  have O2 := Lib.hid ((ho2.mono SZ.out).setCell (a := ⟨w.heap.size + 1 + 1, 1, none⟩) (by simp) v2)
  have B2 := Lib.hid (belows (joins B1.out hb2) (b := ⟨w.heap.size + 1 + 1, 1, none⟩) (by simp; omega) v2)
  obtain ⟨x2, x2', hx2⟩ := ho2.is.shape
  subst hx2
  clear ho2 hb2 q2 q3 K3 k0 k1
  go_wp2_with fail
  obtain ⟨d0, d1, d2⟩ := q1.out.ret (by omega) B2.out (.slice x1 l.length x1') (.slice x2 m.length x2')
  have d0' := (World.cell?_setCell_other (w := (w2.setCell ⟨w.heap.size + 1 + 1, 1, none⟩ (.slice x2 m.length x2')).setCell ⟨w.heap.size + 1, 0, none⟩ (.slice x1 l.length x1')) (a := ⟨w.heap.size + 1, 1, none⟩) (b := ⟨w.heap.size + 1, 0, none⟩) (v := .slice x2 m.length x2') (by simp)).trans d0
  refine bodyPost_ret (by simp [results, Try.results12, go_sem, d0', d1]; try rfl) rfl ?_
  exact ⟨_, rfl, ⟨_, _, rfl, ((O1.out.setCell (a := ⟨w.heap.size + 1, 0, none⟩) (by simp) _).setCell (a := ⟨w.heap.size + 1, 1, none⟩) (by simp) _).mono (by omega), ((O2.out.setCell (a := ⟨w.heap.size + 1, 0, none⟩) (by simp) _).setCell (a := ⟨w.heap.size + 1, 1, none⟩) (by simp) _).mono (by omega), AP.out⟩, d2⟩
set_option maxRecDepth 100000 in
set_option maxHeartbeats 4000000 in
theorem isDesk_law (w : World) (v : Value) (l m : List Int) (hv : DI w v l m) : Calls Try.prog 4 #[v] w (Ret w (.bool true)) := by
  obtain ⟨a, a', b, b', rfl⟩ := hv.shape
  have HV := Lib.hid hv
  have c0 := cell_new0 w (.slice a l.length a') (.slice b m.length b') 29
  have c1 := cell_new1 w (.slice a l.length a') (.slice b m.length b') 29
  have B0 := Lib.hid (alloc_below w (.cells #[.slice a l.length a', .slice b m.length b'] 29))
  have HS := Lib.hid (szDesk_any _ l m _ (hv.below B0.out))
  by_cases hz : l.length + m.length ≤ 1048576
  · have hl : l.length ≤ 1048576 := by omega
    have hm : m.length ≤ 1048576 := by omega
    have e : szD l m = 1048576 - ((l.length + m.length : Nat) : Int) := if_pos hz
    have g : ¬ szD l m < 0 := by rw [e]; omega
    obtain ⟨q, hq⟩ : ∃ q, q = (isSeq l && isSeq m) := ⟨_, rfl⟩
    have HSP := Lib.hid (fun v w h => sisDesk v l m w h hl hm)
    have HIM := Lib.hid (fun v w h => iisDesk v l m w h hl hm)
    rw [← hq] at HSP HIM
    have HT := Lib.hid (fun w' (h : Below w.heap.size w w') => toDesk_any _ l m w' (hv.below h) hl hm)
    obtain ⟨z, hz2⟩ : ∃ z, z = szD l m := ⟨_, rfl⟩
    rw [← hz2] at HS g
    clear hv hz hl hm e hq hz2
    go_enter Try.func4, Try.ntmps4
    go_wp2_with fail
    refine HS.out.mono ?_
    rintro e w1 ⟨rfl, hb1⟩
    have c0 := keepc hb1 c0
    have c1 := keepc hb1 c1
    have B1 := Lib.hid (joins B0.out hb1)
    clear hb1
    go_wp2_with fail
    refine (HT.out _ B1.out).mono ?_
    rintro e w2 ⟨v2, rfl, ho2, hb2⟩
    have c0 := keepc hb2 c0
    have c1 := keepc hb2 c1
    have B2 := Lib.hid (joins B1.out hb2)
    have O2 := Lib.hid ho2
    clear ho2 hb2
    go_wp2_with fail
    refine (HSP.out _ _ O2.out.is).mono ?_
    rintro e w3 ⟨rfl, hb3⟩
    have c0 := keepc hb3 c0
    have c1 := keepc hb3 c1
    have B3 := Lib.hid (joins B2.out hb3)
    clear hb3
    go_wp2_with fail
    refine (HT.out _ B3.out).mono ?_
    rintro e w4 ⟨v4, rfl, ho4, hb4⟩
    obtain ⟨x, x', y, y', hv4⟩ := ho4.shape
    subst hv4
    have d0 := cell_new0 w4 (.slice x l.length x') (.slice y m.length y') 24
    have d1 := cell_new1 w4 (.slice x l.length x') (.slice y m.length y') 24
    have c0 := keepa (.cells #[.slice x l.length x', .slice y m.length y'] 24) (keepc hb4 c0)
    have c1 := keepa (.cells #[.slice x l.length x', .slice y m.length y'] 24) (keepc hb4 c1)
    have B4 := Lib.hid (belowa (joins B3.out hb4) (.cells #[.slice x l.length x', .slice y m.length y'] 24))
    have O4 := Lib.hid (ho4.below (alloc_below w4 (.cells #[.slice x l.length x', .slice y m.length y'] 24)))
    clear ho4 hb4
    go_wp2_with fail
    refine (HIM.out _ _ O4.out.is).mono ?_
    rintro e w5 ⟨rfl, hb5⟩
    have c0 := keepc hb5 c0
    have c1 := keepc hb5 c1
    have d0 := keepc hb5 d0
    have d1 := keepc hb5 d1
    have B5 := Lib.hid (joins B4.out hb5)
    have O5 := Lib.hid (O4.out.below hb5)
    have HQ := Lib.hid (show w4.heap.size < w5.heap.size by have := hb5.size; simp at this; omega)
    clear hb5
    go_wp2_with fail
    have DB := Lib.hid (belowN (Below.refl w5.heap.size w5) 1)
    have d0' := keepc DB.out d0
    have d1' := keepc DB.out d1
    have c0' := keepc DB.out c0
    have c1' := keepc DB.out c1
    go_region_with (first
      | (go_at_call 12; refine (HT.out _ (joins B5.out DB.out)).mono ?_; rintro e w6 ⟨v6, rfl, ho6, hb6⟩; have d0 := keepc hb6 d0'; have d1 := keepc hb6 d1'; have B6 := Lib.hid (joins (joins B5.out DB.out) hb6); have O6 := Lib.hid ho6; have O5' := Lib.hid ((O5.out.below DB.out).below hb6); clear ho6 hb6)
      | (go_at_call 7; refine (eqDesk_same _ _ l m _ O5'.out.is O6.out.is).mono ?_; rintro e w7 ⟨rfl, hb7⟩; have B7 := Lib.hid (joins B6.out hb7); clear hb7))
    all_goals
      go_wp2_with fail
      go_returns
      exact ⟨rfl, B7.out⟩
  · have e : szD l m = -1 := if_neg hz
    rw [e] at HS
    clear hv hz e
    go_enter Try.func4, Try.ntmps4
    go_wp2_with fail
    refine HS.out.mono ?_
    rintro e w1 ⟨rfl, hb1⟩
    have B1 := Lib.hid (joins B0.out hb1)
    clear hb1
    go_wp2_with fail
    go_returns
    exact ⟨rfl, B1.out⟩
end Go.Proofs.Ytgjdaeaiheibbaa
