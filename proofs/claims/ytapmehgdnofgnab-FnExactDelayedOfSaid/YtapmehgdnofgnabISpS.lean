/- The program's numbersOf, AddSignals. -/
import Derived.Test.YtapmehgdnofgnabISpM
import Derived.Test.YtapmehgdnofgnabISls
namespace Go.Proofs.Ytapmehgdnofgnab
set_option maxRecDepth 100000
open Go.RowKit

theorem lasts_gauss (L : List (Int × Int)) : Lasts (fun B v w => OwnG w B v L) := by
  refine ⟨fun h o => OwnG.mono o h, fun {B v w b u} h o => ?_⟩
  have hlt := OwnG.lt o
  exact World.ownsRow.kept o (setGrown w b u) (by
    cases hv : v.ownBlock with
    | none => exact Or.inl rfl
    | some k => exact Or.inr (fun e => by have := (hlt k hv).1; cases e; omega))
theorem FC_add32 {a b c d : Nat} {x y u v : Int} (ha : FK .f32 a x) (hb : FK .f32 b y) (hc : FK .f32 c u) (hd : FK .f32 d v) (h1 : -16000000 ≤ x + u ∧ x + u ≤ 16000000) (h2 : -16000000 ≤ y + v ∧ y + v ≤ 16000000) :
    ∃ re im, cSumBits .add .f32 a b c d = some (re, im) ∧ FK .f32 re (x + u) ∧ FK .f32 im (y + v) := by
  obtain ⟨r1, e1, f1⟩ := FN_add ha hc (by rw [top32]; omega)
  obtain ⟨r2, e2, f2⟩ := FN_add hb hd (by rw [top32]; omega)
  exact ⟨r1, r2, by simp only [cSumBits, e1, e2, Option.bind_some], f1, f2⟩
theorem FK_small {b : Nat} {x : Int} (h : FK .f32 b x) (hx : -9000000000000000000 ≤ x ∧ x ≤ 9000000000000000000) : floatToIntVal .f32 b .i64 = some x := FN_toInt h (by omega)
set_option maxHeartbeats 1000000 in
theorem numbersOf_any (g n B : Nat) (C : Nat → Nat × Nat) (X Y : Nat → Int) (hz : ∀ i, i < n → FK .f32 (C i).1 (X i) ∧ FK .f32 (C i).2 (Y i)) (h64 : n ≤ 64) (w : World) (hr : RowC w B g n C) (hle : ∀ i, i < n → (-16000000 ≤ X i ∧ X i ≤ 16000000) ∧ (-16000000 ≤ Y i ∧ Y i ≤ 16000000)) :
    Calls Try.prog 64 #[.slice (some ⟨g, 0, none⟩) n n] w (Tries w (kOf (goodL (genG n X Y))) (fun B v w => OwnG w B v (genG n X Y))) := by
  have HL := Lib.hid (listW_any g n B C X Y (fun i hi => ⟨FK_small (hz i hi).1 (by have := hle i hi; omega), FK_small (hz i hi).2 (by have := hle i hi; omega)⟩) h64 w hr)
  obtain ⟨L, hL⟩ : ∃ L, L = genG n X Y := ⟨_, rfl⟩
  rw [← hL] at HL ⊢
  clear hz hr hle hL
  cases hg : goodL L with
  | true =>
    rw [hg, if_pos rfl] at HL
    rw [kOf_true]
    clear hg
    go_enter Try.func64, Try.ntmps64
    go_wp2_with fail
    refine (HL.out).mono ?_
    rintro e w1 ⟨v, rfl, ho, hb⟩
    have HO := Lib.hid ho
    have HB := Lib.hid hb
    clear ho hb
    go_wp2_with fail
    refine (require_yes _).mono ?_
    rintro e w' ⟨rfl, rfl⟩
    go_wp2_with fail
    go_returns
    exact ⟨HB.out, Or.inl ⟨rfl, _, rfl, HO.out⟩⟩
  | false =>
    rw [hg, if_neg Bool.false_ne_true] at HL
    rw [kOf_false]
    clear hg
    go_enter Try.func64, Try.ntmps64
    go_wp2_with fail
    refine (HL.out).mono ?_
    rintro e w1 ⟨v, rfl, ho, hb⟩
    have HB := Lib.hid hb
    clear ho hb
    go_wp2_with fail
    refine (require_no _).mono ?_
    rintro e w' ⟨rfl, rfl⟩
    exact ⟨rfl, HB.out, Or.inr ⟨by decide, rfl⟩⟩
set_option maxRecDepth 100000 in
set_option maxHeartbeats 4000000 in
theorem addSignals1_any (va vb : Value) (a b : List (Int × Int)) (p q : Addr) (w : World) (hp : w.cell? p = some va) (hq : w.cell? q = some vb) (hva : IG w va a) (hvb : IG w vb b) (hla : a.length ≤ 1048576) (hlb : b.length ≤ 1048576) :
    Calls Try.prog 67 #[.pointer (some p), .pointer (some q)] w (Tries w (kOf (asB a b)) (fun B v w => OwnG w B v (asL a b))) := by
  have hdef : asB a b = (hdOk a && hdOk b && decide (a.length = b.length) && goodL (asL a b)) := rfl
  have HHE := Lib.hid (fun w1 (h : IG w1 va a) => heardFrom_any va a w1 h hla)
  have HHF := Lib.hid (fun w1 (h : IG w1 vb b) => heardFrom_any vb b w1 h hlb)
  obtain ⟨X, hX⟩ : ∃ X, X = asX a b := ⟨_, rfl⟩
  obtain ⟨Y, hY⟩ : ∃ X, X = asY a b := ⟨_, rfl⟩
  have has : asL a b = genG a.length X Y := by unfold asL; rw [hX, hY]
  have HMO := Lib.hid (fun (h1 : hdOk a = true) (h2 : hdOk b = true) => And.intro
    (fun (h : a.length = b.length) => show kOf (goodL (genG a.length X Y)) = kOf (asB a b) by rw [hdef, h1, h2, decide_eq_true h, has]; rfl)
    (fun (h : ¬ a.length = b.length) => show kOf (asB a b) = 1 by rw [hdef, decide_eq_false h, Bool.and_false]; rfl))
  have HR1 := Lib.hid (fun (h : kOf (hdOk a) ≠ 0) => show kOf (asB a b) ≠ 0 ∧ Ending.panicked [rfs (kOf (hdOk a))] = .panicked [rfs (kOf (asB a b))] by
    rw [hdef, kOf_ne h, Bool.false_and, Bool.false_and, Bool.false_and]; exact ⟨by decide, rfl⟩)
  have HR2 := Lib.hid (fun (h : kOf (hdOk b) ≠ 0) => show kOf (asB a b) ≠ 0 ∧ Ending.panicked [rfs (kOf (hdOk b))] = .panicked [rfs (kOf (asB a b))] by
    rw [hdef, kOf_ne h, Bool.and_false, Bool.false_and, Bool.false_and]; exact ⟨by decide, rfl⟩)
  have HFK := Lib.hid (fun (h1 : hdOk a = true) (h2 : hdOk b = true) (h : a.length = b.length) (k : Nat) (hk : k < a.length) => show ∃ re im, cSumBits .add .f32 (fbC (gre a) (gim a) k).1 (fbC (gre a) (gim a) k).2 (fbC (gre b) (gim b) k).1 (fbC (gre b) (gim b) k).2 = some (re, im) ∧ FK .f32 re (X k) ∧ FK .f32 im (Y k) from by
    have g1 := good_in (goodL_at (hdOk_good h1) k hk)
    have g2 := good_in (goodL_at (hdOk_good h2) k (by omega))
    rw [hX, hY]
    exact FC_add32 (fbC_in a h1 k hk).1 (fbC_in a h1 k hk).2 (fbC_in b h2 k (by omega)).1 (fbC_in b h2 k (by omega)).2 (by omega) (by omega))
  have HLX := Lib.hid (fun (h1 : hdOk a = true) (h2 : hdOk b = true) (h : a.length = b.length) (k : Nat) (hk : k < a.length) => show (-16000000 ≤ X k ∧ X k ≤ 16000000) ∧ (-16000000 ≤ Y k ∧ Y k ≤ 16000000) from by
    have g1 := good_in (goodL_at (hdOk_good h1) k hk)
    have g2 := good_in (goodL_at (hdOk_good h2) k (by omega))
    rw [hX, hY]
    unfold asX asY
    omega)
  rw [has]
  obtain ⟨DA, hDA⟩ : ∃ C, C = fbC (gre a) (gim a) := ⟨_, rfl⟩
  obtain ⟨DB, hDB⟩ : ∃ C, C = fbC (gre b) (gim b) := ⟨_, rfl⟩
  have HHA := Lib.hid (show ∀ B v w, HeardAt a B v w → ∃ g, v = .slice (some ⟨g, 0, none⟩) a.length a.length ∧ RowC w B g a.length DA from fun B v w h => by rw [hDA]; exact h)
  have HHB := Lib.hid (show ∀ B v w, HeardAt b B v w → ∃ g, v = .slice (some ⟨g, 0, none⟩) b.length b.length ∧ RowC w B g b.length DB from fun B v w h => by rw [hDB]; exact h)
  rw [← hDA, ← hDB] at HFK
  obtain ⟨N, hN⟩ : ∃ n, n = a.length := ⟨_, rfl⟩
  obtain ⟨M, hM⟩ : ∃ n, n = b.length := ⟨_, rfl⟩
  have HN := Lib.hid hN
  rw [← hN] at HMO HFK HLX HHA ⊢
  rw [← hM] at HMO HFK HLX HHB
  have HVA := Lib.hid hva
  have HVB := Lib.hid hvb
  have CP := Lib.hid hp
  have CQ := Lib.hid hq
  have B0 := Lib.hid (Below.refl w.heap.size w)
  clear hdef hX hY has hDA hDB hN hM hva hvb hp hq
  go_enter Try.func67, Try.ntmps67
  go_wp2_with fail
  refine wp_region_held_drew (S := (fun w' => World.grownBy w w' none)) (by kernel_rfl) (grownDrew (World.grownBy.refl _ _)) ?_
  obtain ⟨d1, hdw⟩ : ∃ w', w' = w.drew := ⟨_, rfl⟩
  rw [← hdw]
  have hb : Below w.heap.size w d1 := by rw [hdw]; exact belowN (Below.refl _ _) 1
  have F1_VA := Lib.hid (HVA.out.below hb)
  have F1_VB := Lib.hid (HVB.out.below hb)
  have F1_B := Lib.hid (joins B0.out hb)
  clear hdw hb
  intro hHeld
  refine' wpAnyH_take (i := 0) (v := _) rfl (by kernel_rfl) (by kernel_rfl) (by kernel_rfl) (fun _ _ _ h => h) (Or.inl ⟨by rfl, ?hy1⟩) (by assumption) ?rest1
  case hy1 =>
    intro w h
    have c1 := cellR h CP.out (by simp)
    (try clear h)
    go_simp
    (try with_reducible rfl)
  (try simp only [Act.put, List.getElem_toArray, List.getElem_cons_zero, List.setIfInBounds_toArray, List.set_cons_zero, List.set_cons_succ])
  refine' wpAnyH_take (i := 2) (v := _) rfl (by kernel_rfl) (by kernel_rfl) (by kernel_rfl) (fun _ _ _ h => h) (Or.inl ⟨by rfl, ?hy2⟩) (by assumption) ?rest2
  case hy2 =>
    intro w h
    have c1 := cellR h CQ.out (by simp)
    (try clear h)
    go_simp
    (try with_reducible rfl)
  (try simp only [Act.put, List.getElem_toArray, List.getElem_cons_zero, List.getElem_cons_succ, List.setIfInBounds_toArray, List.set_cons_zero, List.set_cons_succ])
  refine wpAnyH_ready (rs := [1]) (by kernel_rfl) (by simp) ?_
  refine AllReadyH.cons rfl (fun K hK => ?_) AllReadyH.nil
  go_simp
  refine (HHE.out _ F1_VA.out).mono ?_
  rintro e d2 ⟨hb, hx⟩
  rcases hx.symm with ⟨hk, rfl⟩ | ⟨hk1, v1, rfl, hha⟩
  · have F2_VA := Lib.hid (F1_VA.out.below hb)
    have F2_VB := Lib.hid (F1_VB.out.below hb)
    have F2_B := Lib.hid (joins F1_B.out hb)
    exact ⟨rfl, F2_B.out, Or.inr (HR1.out hk)⟩
  have F2_VA := Lib.hid (F1_VA.out.below hb)
  have F2_VB := Lib.hid (F1_VB.out.below hb)
  have F2_B := Lib.hid (joins F1_B.out hb)
  obtain ⟨gv, rfl, hrowv0⟩ := HHA.out _ _ _ hha
  have hrowv := RowC.mono hrowv0 F1_B.out.size
  have HLV := Lib.hid hrowv.lt.1
  have F2_RV := Lib.hid (hrowv)
  have hHeld := grownB hHeld hb
  clear hb hx
  refine hK.out _ _ hHeld (fun hHeld => ?_)
  clear hK K
  (try simp only [Act.put, List.getElem_toArray, List.getElem_cons_zero, List.getElem_cons_succ, List.setIfInBounds_toArray, List.set_cons_zero, List.set_cons_succ])
  refine wpAnyH_ready (rs := [3]) (by kernel_rfl) (by simp) ?_
  refine AllReadyH.cons rfl (fun K hK => ?_) AllReadyH.nil
  go_simp
  refine (HHF.out _ F2_VB.out).mono ?_
  rintro e d3 ⟨hb, hx⟩
  rcases hx.symm with ⟨hk, rfl⟩ | ⟨hk2, v2, rfl, hhb⟩
  · have F3_VA := Lib.hid (F2_VA.out.below hb)
    have F3_VB := Lib.hid (F2_VB.out.below hb)
    have F3_B := Lib.hid (joins F2_B.out hb)
    have F3_RV := Lib.hid (F2_RV.out.below hb)
    exact ⟨rfl, F3_B.out, Or.inr (HR2.out hk)⟩
  have F3_VA := Lib.hid (F2_VA.out.below hb)
  have F3_VB := Lib.hid (F2_VB.out.below hb)
  have F3_B := Lib.hid (joins F2_B.out hb)
  have F3_RV := Lib.hid (F2_RV.out.below hb)
  obtain ⟨gu, rfl, hrowu0⟩ := HHB.out _ _ _ hhb
  have HNE := Lib.hid (show gu ≠ gv from fun e => by have h1 := hrowu0.lt.1; have h2 := F2_RV.out.lt.2; omega)
  have hrowu := RowC.mono hrowu0 F2_B.out.size
  have F3_RU := Lib.hid (hrowu)
  have hHeld := grownB hHeld hb
  clear hb hx
  refine hK.out _ _ hHeld (fun hHeld => ?_)
  clear hK K
  (try simp only [Act.put, List.getElem_toArray, List.getElem_cons_zero, List.getElem_cons_succ, List.setIfInBounds_toArray, List.set_cons_zero, List.set_cons_succ])
  refine' wpAnyH_take (i := 4) (v := _) rfl (by kernel_rfl) (by kernel_rfl) (by kernel_rfl) (fun _ _ _ h => h) (Or.inl ⟨by rfl, ?hy3⟩) (by assumption) ?rest3
  case hy3 =>
    intro w h
    (try clear h)
    go_simp
    (try with_reducible rfl)
  (try simp only [Act.put, List.getElem_toArray, List.getElem_cons_zero, List.getElem_cons_succ, List.setIfInBounds_toArray, List.set_cons_zero, List.set_cons_succ])
  refine' wpAnyH_take (i := 5) (v := _) rfl (by kernel_rfl) (by kernel_rfl) (by kernel_rfl) (fun _ _ _ h => h) (Or.inl ⟨by rfl, ?hy4⟩) (by assumption) ?rest4
  case hy4 =>
    intro w h
    (try clear h)
    go_simp
    (try with_reducible rfl)
  (try simp only [Act.put, List.getElem_toArray, List.getElem_cons_zero, List.getElem_cons_succ, List.setIfInBounds_toArray, List.set_cons_zero, List.set_cons_succ])
  refine wpAnyH_done (by kernel_rfl) ?_ _
  obtain ⟨h1, h2⟩ : hdOk a = true ∧ hdOk b = true := ⟨kOf_eq hk1, kOf_eq hk2⟩
  have HMB := Lib.hid (HMO.out h1 h2)
  have HFA := Lib.hid (HFK.out h1 h2)
  have HLX1 := Lib.hid (HLX.out h1 h2)
  have HBT := Lib.hid F3_B.out
  have HRV := Lib.hid F3_RV.out
  have HRU := Lib.hid F3_RU.out
  obtain ⟨wt, hwt⟩ : ∃ w', w' = d3 := ⟨_, rfl⟩
  rw [← hwt] at HBT HRV HRU ⊢
  have h64 := hdOk_len h1
  rw [← HN.out] at h64
  clear hwt hHeld hk1 hk2 h1 h2
  by_cases hln : N = M
  · have HMB2 := Lib.hid (HMB.out.1 hln)
    have HFB := Lib.hid (HFA.out hln)
    have HLX2 := Lib.hid (HLX1.out hln)
    subst hln
    go_wp2_with fail
    refine (require_yes _).mono ?_
    rintro e w' ⟨rfl, rfl⟩
    go_wp2_with fail
    go_loopw [19] (fun i wr => ∃ k : Nat, k ≤ N ∧ i = .int .i64 k ∧ (∃ E, RowC wr w.heap.size gv N E ∧ (∀ j, j < k → FK .f32 (E j).1 (X j) ∧ FK .f32 (E j).2 (Y j)) ∧ (∀ j, k ≤ j → E j = DA j)) ∧ RowC wr w.heap.size gu N DB ∧ Below w.heap.size w wr) (fun i _ => N - (intOf i).toNat)
    case atStart => exact ⟨0, Nat.zero_le _, rfl, ⟨DA, HRV.out, fun j hj => absurd hj (Nat.not_lt_zero _), fun j _ => rfl⟩, HRU.out, HBT.out⟩
    case round =>
      obtain ⟨k, hk, rfl, ⟨E, hE, hE1, hE2⟩, hu, hbel⟩ := hrel
      have HE := Lib.hid hE
      have HE1 := Lib.hid hE1
      have HE2 := Lib.hid hE2
      have HU := Lib.hid hu
      have HB := Lib.hid hbel
      clear hE1 hbel
      by_cases hlt : k < N
      · have h0 : (0 : Int) ≤ (k : Int) := by omega
        have h1 : (k : Int) < (N : Int) := by omega
        have c1 := hE.cell k hlt
        rw [hE2 k (Nat.le_refl _)] at c1
        have c2 := hu.cell k hlt
        have f1 := World.ownsRow.frozenAt hE k
        obtain ⟨r1, r2, e4, y1, y2⟩ := HFB.out k hlt
        have had := fun w t => run_complex_sum (P := Try.prog) w .add (Or.inl rfl) t .f32 _ _ _ _ _ _ e4
        obtain ⟨x1, hx1⟩ : ∃ r, r = (DA k).1 := ⟨_, rfl⟩
        obtain ⟨x2, hx2⟩ : ∃ r, r = (DA k).2 := ⟨_, rfl⟩
        obtain ⟨x3, hx3⟩ : ∃ r, r = (DB k).1 := ⟨_, rfl⟩
        obtain ⟨x4, hx4⟩ : ∃ r, r = (DB k).2 := ⟨_, rfl⟩
        rw [← hx1, ← hx2] at c1 had
        rw [← hx3, ← hx4] at c2 had
        have hst := @store_complex Try.prog
        have HYY := Lib.hid (And.intro y1 y2)
        clear hx1 hx2 hx3 hx4 e4 y1 y2 hE hE2 hu
        go_wp2_with fail
        go_roundw
        case rel =>
          have hs := HE.out.set k (r1, r2)
          refine ⟨k + 1, by omega, by go_num, ⟨_, hs, fun j hj => ?_, fun j hj => ?_⟩, ?_, belows HB.out HLV.out _⟩
          · unfold setC
            by_cases e : j = k
            · rw [if_pos e, e]; exact HYY.out
            · rw [if_neg e]; exact HE1.out j (by omega)
          · unfold setC
            rw [if_neg (by omega)]
            exact HE2.out j (by omega)
          · exact HU.out.grown (grownSet (World.grownBy.refl _ _) k (.complex .f32 r1 r2)) HNE.out
        case measure => simp [intOf]; omega
      · obtain rfl : k = N := by omega
        have HNB := Lib.hid (numbersOf_any gv k w.heap.size E X Y HE1.out (by omega) wr HE.out HLX2.out)
        clear hE hE2 hu
        go_wp2_with fail
        refine (HNB.out).mono ?_
        rintro e w5 ⟨hb, ⟨hk, v, rfl, hv⟩ | ⟨hk, rfl⟩⟩
        · have HB5 := Lib.hid (joins HB.out hb)
          have HV5 := Lib.hid (OwnG.mono hv HB.out.size)
          have hk0 := HMB2.out ▸ hk
          clear hb hv
          go_wp2_with fail
          go_returns
          exact ⟨HB5.out, Or.inl ⟨hk0, _, rfl, HV5.out⟩⟩
        · exact ⟨rfl, joins HB.out hb, Or.inr ⟨by rw [← HMB2.out]; exact hk, by rw [HMB2.out]⟩⟩
  · have HMB2 := Lib.hid (HMB.out.2 hln)
    have hne : ¬ (N : Int) = (M : Int) := by omega
    clear hln
    go_wp2_with fail
    rw [show ((N : Int) == (M : Int)) = false from by simpa using hne]
    refine (require_no _).mono ?_
    rintro e w' ⟨rfl, rfl⟩
    exact ⟨rfl, HBT.out, Or.inr ⟨by rw [HMB2.out]; decide, by rw [HMB2.out]⟩⟩
set_option maxRecDepth 100000 in
set_option maxHeartbeats 2000000 in
theorem iAddSignals (va : Value) (a : List (Int × Int)) (vb : Value) (b : List (Int × Int)) (w : World) (h_va : IG w va a) (h_vb : IG w vb b) (b_va : a.length ≤ 1048576) (b_vb : b.length ≤ 1048576) :
    Calls Try.prog 30 #[va, vb] w (MakesGB w (asF a b) (asB a b)) := by
  have hmf : ∀ (fn : Fn) (first cap : Array Value) (w : World), (Instr.makeFunc fn first cap).run Try.prog w = .ok (.func fn first cap) w := fun _ _ _ _ => rfl
  have hk0 : kOf (asB a b) = 0 → asF a b = asL a b := fun h => by unfold asF; rw [kOf_eq h]; rfl
  have hk1 : kOf (asB a b) ≠ 0 → asF a b = [] := fun h => by unfold asF; rw [kOf_ne h]; rfl
  obtain ⟨wb0, hwb0⟩ : ∃ w', w' = w.alloc (.cells #[va] 29) := ⟨_, rfl⟩
  obtain ⟨wb1, hwb1⟩ : ∃ w', w' = wb0.alloc (.cells #[vb] 29) := ⟨_, rfl⟩
  have HB0 := Lib.hid (show Below w.heap.size w wb0 by rw [hwb0]; exact belowa (Below.refl _ _) _)
  have HS0 := Lib.hid (show wb0.heap.size = w.heap.size + 1 by rw [hwb0]; simp)
  have hc0_0 : wb0.cell? ⟨w.heap.size, 0, none⟩ = some (va) := by rw [hwb0]; simp [go_sem]
  have hc0_0_1 : wb1.cell? ⟨w.heap.size, 0, none⟩ = some (va) := by rw [hwb1]; exact keepa _ hc0_0
  have HC0_0 := Lib.hid hc0_0_1
  have HB1 := Lib.hid (show Below w.heap.size w wb1 by rw [hwb1]; exact belowa HB0.out _)
  have HS1 := Lib.hid (show wb1.heap.size = w.heap.size + 2 by rw [hwb1]; simp [HS0.out])
  have hc1_0 : wb1.cell? ⟨w.heap.size + 1, 0, none⟩ = some (vb) := by rw [hwb1, ← HS0.out]; simp [go_sem]
  have HC1_0 := Lib.hid hc1_0
  have HSH := Lib.hid (sharedQ 67 #[.pointer (some ⟨w.heap.size, 0, none⟩), .pointer (some ⟨w.heap.size + 1, 0, none⟩)] (fun w => by simp [go_sem]) (kOf (asB a b)) _ (lasts_gauss (asL a b)) wb1 (fun w2 hb2 => addSignals1_any va vb a b _ _ w2 (keepc hb2 HC0_0.out) (keepc hb2 HC1_0.out) (h_va.below (joins HB1.out hb2)) (h_vb.below (joins HB1.out hb2)) b_va b_vb))
  have HK0 := Lib.hid hk0
  have HK1 := Lib.hid hk1
  obtain ⟨pa0, ca0, rfl⟩ := h_va.slice
  obtain ⟨pa1, ca1, rfl⟩ := h_vb.slice
  obtain ⟨LL, hLL⟩ : ∃ L, L = asL a b := ⟨_, rfl⟩
  obtain ⟨FF, hFF⟩ : ∃ L, L = asF a b := ⟨_, rfl⟩
  obtain ⟨BB, hBB⟩ : ∃ L, L = asB a b := ⟨_, rfl⟩
  rw [← hBB] at HSH HK0 HK1
  rw [← hLL] at HSH HK0
  rw [← hFF] at HK0 HK1
  rw [← hFF, ← hBB]
  clear hk0 hk1 hLL hFF hBB h_va h_vb hc0_0 hc1_0
  go_enter Try.func30, Try.ntmps30
  go_wp2_with fail
  rw [← hwb0, ← hwb1]
  clear hwb0 hwb1
  refine (HSH.out).mono ?_
  rintro e w1 ⟨hb, v, rfl, h⟩
  have HB := Lib.hid (joins HB1.out hb)
  have HH := Lib.hid (show OwnG w1 w.heap.size v FF from by
    rcases h with ⟨hk, h⟩ | ⟨hk, rfl⟩
    · rw [HK0.out hk]; exact OwnG.mono h (by rw [HS1.out]; omega)
    · rw [HK1.out hk]; exact OwnG.nil _ _)
  rw [kOf_zero]
  clear h hb
  go_wp2_with fail
  go_returns
  exact ⟨_, rfl, HH.out, HB.out⟩
end Go.Proofs.Ytapmehgdnofgnab
