/- The program's OuterArray. -/
import Derived.Test.YtjoepdflbbcliabIGw
import Derived.Test.YtjoepdflbbcliabIGl
import Derived.Test.YtjoepdflbbcliabApp
namespace Go.Proofs.Ytjoepdflbbcliab
set_option maxRecDepth 100000
open Go.RowKit

set_option maxRecDepth 100000 in
set_option maxHeartbeats 2000000 in
theorem outer1_any (pa pb : Option Addr) (ca cb : Nat) (a b : List Int) (g1 g2 : Nat) (w : World) (ha : IS w (.slice pa a.length ca) a) (hb : IS w (.slice pb b.length cb) b)
    (c1 : w.cell? ⟨g1, 0, none⟩ = some (.slice pa a.length ca)) (c2 : w.cell? ⟨g2, 0, none⟩ = some (.slice pb b.length cb)) (i j : Nat) (hi : i < a.length) (hj : j < b.length) (h1 : 0 ≤ a.getD i 0 ∧ a.getD i 0 ≤ 3) (h2 : 0 ≤ b.getD j 0 ∧ b.getD j 0 ≤ 3) :
    Calls Try.prog 49 #[.int .i64 i, .int .i64 j, .pointer (some ⟨g1, 0, none⟩), .pointer (some ⟨g2, 0, none⟩)] w (Ret w (.int .i64 (a.getD i 0 + b.getD j 0))) := by
  have hla := ha.le
  have hlb := hb.le
  rcases ha with ⟨h0, _⟩ | ⟨_, b1, o1, k1, hveq, _, hc1⟩
  · rw [h0] at hi; exact absurd hi (Nat.not_lt_zero _)
  simp only [Value.slice.injEq] at hveq
  obtain ⟨rfl, -, rfl⟩ := hveq
  rcases hb with ⟨h0, _⟩ | ⟨_, b2, o2, k2, hveq, _, hc2⟩
  · rw [h0] at hj; exact absurd hj (Nat.not_lt_zero _)
  simp only [Value.slice.injEq] at hveq
  obtain ⟨rfl, -, rfl⟩ := hveq
  have d1 := hc1 i hi
  have d2 := hc2 j hj
  obtain ⟨x, hx⟩ : ∃ x, x = a.getD i 0 := ⟨_, rfl⟩
  obtain ⟨y, hy⟩ : ∃ x, x = b.getD j 0 := ⟨_, rfl⟩
  rw [← hx] at d1 h1 ⊢
  rw [← hy] at d2 h2 ⊢
  have hs : IntKind.i64.wrap (x + y) = x + y := IntWalk.i64_in _ (by omega)
  have h0i : (0 : Int) ≤ (i : Int) := by omega
  have h1i : (i : Int) < (a.length : Int) := by omega
  have h0j : (0 : Int) ≤ (j : Int) := by omega
  have h1j : (j : Int) < (b.length : Int) := by omega
  obtain ⟨n, hn⟩ : ∃ n, n = a.length := ⟨_, rfl⟩
  obtain ⟨m, hm⟩ : ∃ n, n = b.length := ⟨_, rfl⟩
  rw [← hn] at c1 h1i hla
  rw [← hm] at c2 h1j hlb
  clear hc1 hc2 hx hy hn hm hi hj
  go_enter Try.func49, Try.ntmps49
  go_wp2_with fail
  go_quiet (fail)
  go_wp2_with fail
  go_returns
  exact ⟨rfl, belowN (Below.refl _ _) _⟩
set_option maxRecDepth 100000 in
set_option maxHeartbeats 4000000 in
theorem iouterArray (va vb : Value) (a b : List Int) (w : World) (hva : IS w va a) (hvb : IS w vb b) (hla : a.length ≤ 1048576) (hlb : b.length ≤ 1048576) :
    Calls Try.prog 22 #[va, vb] w (MakesRB w (otA a b) (otOk a b)) := by
  have HSA := Lib.hid (fun w' (h : Below w.heap.size w w') => isSequence_any va a w' (hva.below h) hla)
  have HSB := Lib.hid (fun w' (h : Below w.heap.size w w') => isSequence_any vb b w' (hvb.below h) hlb)
  have HVA := Lib.hid hva
  have HVB := Lib.hid hvb
  obtain ⟨pa, ca, rfl⟩ := hva.sl
  obtain ⟨pb, cb, rfl⟩ := hvb.sl
  cases ha : isSeq a with
  | false =>
    have h1 : otOk a b = false := by unfold otOk sideS; rw [ha]; rfl
    have h2 : otA a b = [] := by unfold otA; rw [h1]; rfl
    rw [ha] at HSA
    rw [h1, h2]
    clear hva hvb ha h1 h2 HVA HVB HSB
    go_enter Try.func22, Try.ntmps22
    go_wp2_with fail
    refine (HSA.out _ (by go_grown)).mono ?_
    rintro e w1 ⟨rfl, hb⟩
    have HB1 := Lib.hid (joins (show Below w.heap.size w _ by go_grown) hb)
    clear hb
    go_wp2_with fail
    go_returns
    exact ⟨_, rfl, OwnR.nil _ _, HB1.out⟩
  | true =>
    rw [ha] at HSA
    cases hb : isSeq b with
    | false =>
      have h1 : otOk a b = false := by unfold otOk sideS; rw [hb]; simp
      have h2 : otA a b = [] := by unfold otA; rw [h1]; rfl
      rw [hb] at HSB
      rw [h1, h2]
      clear hva hvb ha hb h1 h2 HVA HVB
      go_enter Try.func22, Try.ntmps22
      have hw2 : ∃ w2, w2 = (w.alloc (.cells #[.slice pa a.length ca] 35)).alloc (.cells #[.slice pb b.length cb] 35) := ⟨_, rfl⟩
      obtain ⟨w2, hw2⟩ := hw2
      have c1 : w2.cell? ⟨w.heap.size, 0, none⟩ = some (.slice pa a.length ca) := by rw [hw2]; exact keepa _ (cell_new_one _ _ _)
      have c2 : w2.cell? ⟨w.heap.size + 1, 0, none⟩ = some (.slice pb b.length cb) := by rw [hw2]; have := cell_new_one (w.alloc (.cells #[.slice pa a.length ca] 35)) (.slice pb b.length cb) 35; rwa [World.size_alloc] at this
      have B2 := Lib.hid (show Below w.heap.size w w2 by rw [hw2]; go_grown)
      go_wp2_with fail
      rw [← hw2]
      clear hw2
      refine (HSA.out _ B2.out).mono ?_
      rintro e w3 ⟨rfl, hb⟩
      have c3 := keepc hb c2
      have B3 := Lib.hid (joins B2.out hb)
      clear hb c1 c2
      go_wp2_with fail
      refine (HSB.out _ B3.out).mono ?_
      rintro e w4 ⟨rfl, hb⟩
      have B4 := Lib.hid (joins B3.out hb)
      clear hb
      go_wp2_with fail
      go_returns
      exact ⟨_, rfl, OwnR.nil _ _, B4.out⟩
    | true =>
      rw [hb] at HSB
      have hia := fun i hi => allIn_getD (isSeq_all ha) i hi
      have hib := fun i hi => allIn_getD (isSeq_all hb) i hi
      obtain ⟨D, L, q, hL, hq, HGW, HLI⟩ : ∃ (D : Array Value) (L : List (List Int)) (q : Bool), otA a b = L ∧ otOk a b = q ∧
          (∀ (w' : World) (g1 g2 : Nat), IS w' (.slice pa a.length ca) a → IS w' (.slice pb b.length cb) b → w'.cell? ⟨g1, 0, none⟩ = some (.slice pa a.length ca) → w'.cell? ⟨g2, 0, none⟩ = some (.slice pb b.length cb) →
            Calls Try.prog 48 #[.int .i64 a.length, .int .i64 b.length, .func (.func 49) #[] #[.pointer (some ⟨g1, 0, none⟩), .pointer (some ⟨g2, 0, none⟩)]] w' (Ret w' (.agg D))) ∧
          (∀ w', Calls Try.prog 50 #[.agg D] w' (MakesRB w' L q)) := by
        cases hs : (sideB a.length && sideB b.length) with
        | false =>
          have h1 : otOk a b = false := by
            unfold otOk sideS
            rw [ha, hb, Bool.true_and, Bool.true_and]; exact hs
          refine ⟨grA G0 0 0, [], false, by unfold otA; rw [h1]; rfl, h1, fun w' g1 g2 _ _ _ _ => gridWith_no _ _ _ w' hs, fun w' => ?_⟩
          have h := grLists_any 0 0 (fun _ _ => 0) (by omega) (by omega) w'
          rw [GV_zero] at h
          exact h
        | true =>
          have hs2 := Bool.and_eq_true_iff.1 hs
          have hn := sideB_in hs2.1
          have hm := sideB_in hs2.2
          have h1 : otOk a b = true := by
            unfold otOk sideS
            rw [ha, hb, Bool.true_and, Bool.true_and]; exact hs
          refine ⟨grA (GV a.length b.length (fun i j => (a.getD i 0 + b.getD j 0) % 4)) a.length b.length, genR a.length (fun i => gen b.length (fun j => (a.getD i 0 + b.getD j 0) % 4)), true, ?_, h1, fun w' g1 g2 e1 e2 e3 e4 => ?_, fun w' => ?_⟩
          · unfold otA
            rw [h1, if_pos rfl]
            unfold otL turnG
            exact genR_ext (fun i _ => gen_ext (fun j _ => by rw [Int.add_comm]))
          · exact gridWith_outer a.length b.length (fun i j => a.getD i 0 + b.getD j 0) hn hm (fun i j hi hj => by have := hia i hi; have := hib j hj; omega) _ _ w' (fun w'' hb' i j hi hj => outer1_any pa pb ca cb a b g1 g2 w'' (e1.below hb') (e2.below hb') (keepc hb' e3) (keepc hb' e4) i j hi hj (hia i hi) (hib j hj))
          · have h := grLists_any a.length b.length (fun i j => (a.getD i 0 + b.getD j 0) % 4) hn.2 (fun _ => hm) w'
            rw [decide_eq_true hn.1] at h
            exact h
      rw [hL, hq]
      have HG := Lib.hid HGW
      have HLS := Lib.hid HLI
      clear hva hvb ha hb hia hib HGW HLI hL hq
      have hw2 : ∃ w2, w2 = (w.alloc (.cells #[.slice pa a.length ca] 35)).alloc (.cells #[.slice pb b.length cb] 35) := ⟨_, rfl⟩
      obtain ⟨w2, hw2⟩ := hw2
      have c1 : w2.cell? ⟨w.heap.size, 0, none⟩ = some (.slice pa a.length ca) := by rw [hw2]; exact keepa _ (cell_new_one _ _ _)
      have c2 : w2.cell? ⟨w.heap.size + 1, 0, none⟩ = some (.slice pb b.length cb) := by rw [hw2]; have := cell_new_one (w.alloc (.cells #[.slice pa a.length ca] 35)) (.slice pb b.length cb) 35; rwa [World.size_alloc] at this
      have B2 := Lib.hid (show Below w.heap.size w w2 by rw [hw2]; go_grown)
      go_enter Try.func22, Try.ntmps22
      go_wp2_with fail
      rw [← hw2]
      clear hw2
      refine (HSA.out _ B2.out).mono ?_
      rintro e w3 ⟨rfl, hb⟩
      have c3 := keepc hb c1
      have c4 := keepc hb c2
      have B3 := Lib.hid (joins B2.out hb)
      clear hb c1 c2
      go_wp2_with fail
      refine (HSB.out _ B3.out).mono ?_
      rintro e w4 ⟨rfl, hb⟩
      have c1 := keepc hb c3
      have c2 := keepc hb c4
      have B4 := Lib.hid (joins B3.out hb)
      clear hb c3 c4
      have HG4 := Lib.hid (HG.out w4 w.heap.size (w.heap.size + 1) (HVA.out.below B4.out) (HVB.out.below B4.out) c1 c2)
      go_wp2_with fail
      refine (HG4.out).mono ?_
      rintro e w5 ⟨rfl, hb⟩
      have B5 := Lib.hid (joins B4.out hb)
      clear hb
      go_wp2_with fail
      refine (HLS.out _).mono ?_
      rintro e w6 ⟨v6, rfl, ho, hb⟩
      have HO := Lib.hid (ho.mono B5.out.size)
      have B6 := Lib.hid (joins B5.out hb)
      clear ho hb
      go_wp2_with fail
      go_returns
      exact ⟨_, rfl, HO.out, B6.out⟩
end Go.Proofs.Ytjoepdflbbcliab
