/- The program's quotientOf, GatherOf. -/
import Derived.Test.YtapmehgdnofgnabGaM
import Derived.Test.YtapmehgdnofgnabIOrt
import Derived.Test.YtapmehgdnofgnabISpS
namespace Go.Proofs.Ytapmehgdnofgnab
set_option maxRecDepth 100000
open Go.RowKit

theorem k2_eq {b : Bool} (h : (if b then 0 else 2) = 0) : b = true := by cases b with | true => rfl | false => cases h
theorem k2_ne {b : Bool} (h : (if b then 0 else 2) ≠ 0) : b = false := by cases b with | true => exact absurd rfl h | false => rfl
theorem RowC.grown9 {w w' : World} {B g n : Nat} {C : Nat → Nat × Nat} {row : Option Nat} (h : RowC w B g n C) (hg : w.grownBy w' row) (hne : row ≠ some g) : RowC w' B g n C :=
  World.ownsRow.kept h hg (Or.inr (fun e => hne e.symm))
set_option maxRecDepth 100000 in
set_option maxHeartbeats 4000000 in
theorem quotientOf_any {b1 b2 : Nat} {X Y : Int} (h1 : FK .f64 b1 X) (h2 : FK .f64 b2 Y) (hx : -32000000 ≤ X ∧ X ≤ 32000000) (hy : -32000000 ≤ Y ∧ Y ≤ 32000000) (n : Nat) (hn1 : 1 ≤ n) (hn2 : n ≤ 32) (w : World) :
    Calls Try.prog 54 #[.complex .f64 b1 b2, .int .i64 n] w (Tries w (kOf (dvP n X Y)) (fun _ v _ => v = .agg #[.int .i64 (X.tdiv n), .int .i64 (Y.tdiv n)])) := by
  have hcx := fun w => run_convert_float_int (P := Try.prog) w 101 3 .f64 .i64 b1 X rfl Try.underlying3 (FN_toInt h1 (by omega))
  have hcy := fun w => run_convert_float_int (P := Try.prog) w 101 3 .f64 .i64 b2 Y rfl Try.underlying3 (FN_toInt h2 (by omega))
  have q1 := Int.natAbs_tdiv_le_natAbs X (n : Int)
  have q2 := Int.natAbs_tdiv_le_natAbs Y (n : Int)
  obtain ⟨A, hA⟩ : ∃ A, A = X.tdiv (n : Int) := ⟨_, rfl⟩
  obtain ⟨B, hB⟩ : ∃ A, A = Y.tdiv (n : Int) := ⟨_, rfl⟩
  have HQ1 := Lib.hid (show IntKind.i64.wrap (X.tdiv (n : Int)) = A by rw [← hA]; rw [← hA] at q1; exact IntWalk.i64_in _ (by omega))
  have HQ2 := Lib.hid (show IntKind.i64.wrap (Y.tdiv (n : Int)) = B by rw [← hB]; rw [← hB] at q2; exact IntWalk.i64_in _ (by omega))
  rw [← hA, ← hB]
  have HN0 := Lib.hid (show ¬ n = 0 by omega)
  have hn0 := HN0.out
  have hz0 := ZG.start w 26
  obtain ⟨w1, hw1⟩ : ∃ w', w' = w.alloc (.cells #[.int .i64 0, .int .i64 0] 26) := ⟨_, rfl⟩
  rw [← hw1] at hz0
  have HZ1 := Lib.hid hz0
  obtain ⟨M1, hM1⟩ : ∃ M, X.tmod (n : Int) = M := ⟨_, rfl⟩
  obtain ⟨M2, hM2⟩ : ∃ M, Y.tmod (n : Int) = M := ⟨_, rfl⟩
  have hd : dvP n X Y = (decide (M1 = 0) && decide (M2 = 0)) := by unfold dvP; rw [hM1, hM2]
  rw [hd]
  clear hz0 h1 h2 hx hy q1 q2 hA hB hd hn1 hn2
  by_cases z1 : M1 = 0
  · by_cases z2 : M2 = 0
    · rw [decide_eq_true z1, decide_eq_true z2, Bool.true_and, kOf_true]
      subst z1 z2
      go_enter Try.func54, Try.ntmps54
      go_wp2_with fail
      rw [← hw1]
      refine (require_yes _).mono ?_
      rintro e w' ⟨rfl, rfl⟩
      clear hw1
      go_wp2_with fail
      refine wp_region_held_drew (S := (fun w' => World.grownBy w1 w' (some (w.heap.size)))) (by kernel_rfl) (grownDrew (World.grownBy.refl _ _)) ?_
      obtain ⟨d1, hdw⟩ : ∃ w', w' = w1.drew := ⟨_, rfl⟩
      rw [← hdw]
      have hb : Below w1.heap.size w1 d1 := by rw [hdw]; exact belowN (Below.refl _ _) 1
      have F1_Z := Lib.hid (HZ1.out.step hb)
      clear hdw hb
      intro hHeld
      refine' wpAnyH_take (i := 0) (v := _) rfl (by kernel_rfl) (by kernel_rfl) (by kernel_rfl) (fun _ _ _ h => h) (Or.inl ⟨by rfl, ?hy1⟩) (by assumption) ?rest1
      case hy1 =>
        intro w h
        (try clear h)
        go_simp
        (try with_reducible rfl)
      (try simp only [Act.put, List.getElem_toArray, List.getElem_cons_zero, List.setIfInBounds_toArray, List.set_cons_zero, List.set_cons_succ])
      refine' wpAnyH_take (i := 1) (v := _) rfl (by kernel_rfl) (by kernel_rfl) (by kernel_rfl) (fun _ _ _ h => h) (Or.inl ⟨by rfl, ?hy2⟩) (by assumption) ?rest2
      case hy2 =>
        intro w h
        (try clear h)
        go_simp
        (try with_reducible rfl)
      (try simp only [Act.put, List.getElem_toArray, List.getElem_cons_zero, List.getElem_cons_succ, List.setIfInBounds_toArray, List.set_cons_zero, List.set_cons_succ])
      refine' wpAnyH_take (i := 2) (v := _) rfl (by kernel_rfl) (by kernel_rfl) (by kernel_rfl) (fun _ _ _ h => h) (Or.inl ⟨by rfl, ?hy3⟩) (by assumption) ?rest3
      case hy3 =>
        intro w h
        have q1 := HQ1.out
        have q0 := HN0.out
        (try clear h)
        go_simp
        (try with_reducible rfl)
      (try simp only [Act.put, List.getElem_toArray, List.getElem_cons_zero, List.getElem_cons_succ, List.setIfInBounds_toArray, List.set_cons_zero, List.set_cons_succ])
      refine' wpAnyH_take (i := 3) (v := _) rfl (by kernel_rfl) (by kernel_rfl) (by kernel_rfl) (fun _ _ _ h => h) (Or.inl ⟨by rfl, ?hy4⟩) (by assumption) ?rest4
      case hy4 =>
        intro w h
        (try clear h)
        go_simp
        (try with_reducible rfl)
      (try simp only [Act.put, List.getElem_toArray, List.getElem_cons_zero, List.getElem_cons_succ, List.setIfInBounds_toArray, List.set_cons_zero, List.set_cons_succ])
      refine' wpAnyH_take (i := 4) (v := _) rfl (by kernel_rfl) (by kernel_rfl) (by kernel_rfl) (fun _ _ _ h => h) (Or.inl ⟨by rfl, ?hy5⟩) (by assumption) ?rest5
      case hy5 =>
        intro w h
        (try clear h)
        go_simp
        (try with_reducible rfl)
      (try simp only [Act.put, List.getElem_toArray, List.getElem_cons_zero, List.getElem_cons_succ, List.setIfInBounds_toArray, List.set_cons_zero, List.set_cons_succ])
      refine' wpAnyH_take (i := 5) (v := _) rfl (by kernel_rfl) (by kernel_rfl) (by kernel_rfl) (fun _ _ _ h => h) (Or.inl ⟨by rfl, ?hy6⟩) (by assumption) ?rest6
      case hy6 =>
        intro w h
        have q1 := HQ2.out
        have q0 := HN0.out
        (try clear h)
        go_simp
        (try with_reducible rfl)
      (try simp only [Act.put, List.getElem_toArray, List.getElem_cons_zero, List.getElem_cons_succ, List.setIfInBounds_toArray, List.set_cons_zero, List.set_cons_succ])
      refine' wpAnyH_take (i := 6) (v := _) rfl (by kernel_rfl) (by kernel_rfl) (by kernel_rfl) (fun _ _ _ h => h) (Or.inl ⟨by rfl, ?hy7⟩) (by assumption) ?rest7
      case hy7 =>
        intro w h
        (try clear h)
        go_simp
        (try with_reducible rfl)
      (try simp only [Act.put, List.getElem_toArray, List.getElem_cons_zero, List.getElem_cons_succ, List.setIfInBounds_toArray, List.set_cons_zero, List.set_cons_succ])
      refine wpAnyH_ready (rs := [7]) (by kernel_rfl) (by simp) ?_
      refine AllReadyH.cons rfl (fun K hK => ?_) AllReadyH.nil
      have ⟨z1, z2, z3, z4, z5, z6⟩ := F1_Z.out
      go_simp
      refine hK.out _ _ (grownSet (grownSet hHeld _ _) _ _) (fun hHeld => ?_)
      clear hK K
      (try simp only [Act.put])
      refine wpAnyH_done (by kernel_rfl) ?_ _
      go_wp2_with fail
      (try simp only [Exit.inBlock, Exit.then])
      obtain ⟨d0, d2, d3⟩ := F1_Z.out.ret (.int .i64 A) (.int .i64 B)
      refine bodyPost_ret (by simp [results, Try.results54, go_sem, d0, d2]; try rfl) rfl ?_
      exact ⟨d3, Or.inl ⟨rfl, _, rfl, rfl⟩⟩
    · rw [decide_eq_false z2, Bool.and_false, kOf_false]
      subst z1
      go_enter Try.func54, Try.ntmps54
      go_wp2_with fail
      rw [← hw1]
      (try rw [show (M2 == 0) = false from by simpa using z2])
      refine (require_no _).mono ?_
      rintro e w' ⟨rfl, rfl⟩
      exact ⟨rfl, HZ1.out.below, Or.inr ⟨by decide, rfl⟩⟩
  · rw [decide_eq_false z1, Bool.false_and, kOf_false]
    go_enter Try.func54, Try.ntmps54
    go_wp2_with fail
    rw [← hw1]
    refine (require_no _).mono ?_
    rintro e w' ⟨rfl, rfl⟩
    exact ⟨rfl, HZ1.out.below, Or.inr ⟨by decide, rfl⟩⟩
set_option maxRecDepth 100000 in
set_option maxHeartbeats 4000000 in
theorem gatherOf1_any (va vb : Value) (m : List (List Int)) (l : List (Int × Int)) (p q : Addr) (w : World) (hp : w.cell? p = some va) (hq : w.cell? q = some vb) (hva : IR w va m) (hvb : IG w vb l) (hlm : sz2 m ≤ 1048576) (hll : l.length ≤ 1048576) :
    Calls Try.prog 51 #[.pointer (some p), .pointer (some q)] w (Tries w (gaK m l) (fun B v w => OwnG w B v (shL l.length (gaL m l)))) := by
  have hdef : gaK m l = (if cdsOk m then (if orB m then kOf (hdOk l && decide (l.length = cdN m) && shTo l.length (gaL m l) m.length) else 2) else 1) := rfl
  have HCF := Lib.hid (fun w1 (h : IR w1 va m) => codesFrom_any va m w1 h hlm)
  have HHE := Lib.hid (fun w1 (h : IG w1 vb l) => heardFrom_any vb l w1 h hll)
  have HOR := Lib.hid (fun (hc : cdsOk m = true) (g : Nat) (w1 : World) (h : AllAt w1 g 33 m.length (cdD m) m.length) => show Calls Try.prog 52 #[.slice (some ⟨g, 0, none⟩) m.length m.length] w1 (Tries w1 (if orB m then 0 else 2) (fun _ v _ => v = .slice (some ⟨g, 0, none⟩) m.length m.length)) from
    (orthogonal_any g m (cdN m) w1 h (cdsOk_allN hc) (cdsOk_parts hc).1.2).mono fun e w' ⟨hb, h⟩ => ⟨hb, by
      rcases h with ⟨ho, he⟩ | ⟨ho, he⟩
      · rw [ho]; exact Or.inl ⟨rfl, _, he, rfl⟩
      · rw [ho]; exact Or.inr ⟨by decide, he⟩⟩)
  have HR1 := Lib.hid (fun (h : kOf (cdsOk m) ≠ 0) => show gaK m l ≠ 0 ∧ Ending.panicked [rfs (kOf (cdsOk m))] = .panicked [rfs (gaK m l)] by
    rw [hdef, kOf_ne h]; exact ⟨by simp, rfl⟩)
  have HR2 := Lib.hid (fun (hc : cdsOk m = true) (h : (if orB m then 0 else 2) ≠ 0) => show gaK m l ≠ 0 ∧ Ending.panicked [rfs (if orB m then 0 else 2)] = .panicked [rfs (gaK m l)] by
    rw [hdef, hc, k2_ne h]; exact ⟨by simp, rfl⟩)
  have HR3 := Lib.hid (fun (hc : cdsOk m = true) (ho : orB m = true) (h : kOf (hdOk l) ≠ 0) => show gaK m l ≠ 0 ∧ Ending.panicked [rfs (kOf (hdOk l))] = .panicked [rfs (gaK m l)] by
    rw [hdef, hc, ho, kOf_ne h, Bool.false_and, Bool.false_and]; exact ⟨by decide, rfl⟩)
  have HKN := Lib.hid (fun (hc : cdsOk m = true) (ho : orB m = true) (h : ¬ l.length = cdN m) => show gaK m l = 1 by
    rw [hdef, hc, ho, decide_eq_false h, Bool.and_false, Bool.false_and]; rfl)
  have HKQ := Lib.hid (fun (hc : cdsOk m = true) (ho : orB m = true) (hd : hdOk l = true) (h : l.length = cdN m) => And.intro
    (fun (hdv : ∀ j, j < m.length → dvP l.length (gaX m l j) (gaY m l j) = true) => show gaK m l = 0 by
      have hs : shTo l.length (gaL m l) m.length = true := by
        unfold shTo
        rw [List.all_eq_true]
        intro j hj
        have hj := List.mem_range.1 hj
        rw [show gre (gaL m l) j = gaX m l j from genG_re _ _ _ _ hj, show gim (gaL m l) j = gaY m l j from genG_im _ _ _ _ hj]
        exact hdv j hj
      rw [hdef, hc, ho, hd, decide_eq_true h, hs]; rfl)
    (fun j (hj : j < m.length) (hn : dvP l.length (gaX m l j) (gaY m l j) = false) => show gaK m l = 1 by
      have hs : shTo l.length (gaL m l) m.length = false := by
        have := sh_no (n := (l.length : Int)) (L := gaL m l) (k := j) (by rw [gaL_length]; exact hj) (by rw [show gre (gaL m l) j = gaX m l j from genG_re _ _ _ _ hj, show gim (gaL m l) j = gaY m l j from genG_im _ _ _ _ hj]; exact hn)
        rwa [gaL_length] at this
      rw [hdef, hc, ho, hs, Bool.and_false]; rfl))
  have HML := Lib.hid (fun (hc : cdsOk m = true) (hd : hdOk l = true) (h : l.length = cdN m) i (hi : i < m.length) => show (-32000000 ≤ gaX m l i ∧ gaX m l i ≤ 32000000) ∧ (-32000000 ≤ gaY m l i ∧ gaY m l i ≤ 32000000) from
    mt_le (l := l) (s := m.getD i []) (hdOk_good hd) (cdsOk_allN hc i hi).1 0 (by rw [(cdsOk_allN hc i hi).2, h]; omega))
  have HMA := Lib.hid (fun (hc : cdsOk m = true) (hd : hdOk l = true) (h : l.length = cdN m) i (hi : i < m.length) (g B : Nat) (w1 : World) (hr : RowC w1 B g l.length (fbC (gre l) (gim l))) => show Calls Try.prog 45 #[.slice (some ⟨g, 0, none⟩) l.length l.length, .agg (cdD m i)] w1 (RetM w1 (gaX m l i) (gaY m l i)) from by
    have hr2 := cdsOk_allN hc i hi
    have := matchAt_any l (m.getD i []) hd hr2.1 0 (by rw [hr2.2, h]; omega) g B l.length w1 hr
    rw [hr2.2, ← h] at this
    exact this)
  have HNN := Lib.hid (fun (hc : cdsOk m = true) (h : l.length = cdN m) => show 1 ≤ l.length ∧ l.length ≤ 32 from by rw [h]; exact cdN_len hc)
  have HN64 := Lib.hid (fun (hd : hdOk l = true) => hdOk_len hd)
  have HM8 := Lib.hid (fun (hc : cdsOk m = true) => (cdsOk_parts hc).1)
  have HC32 := Lib.hid (fun (hc : cdsOk m = true) (g : Nat) (w1 : World) (h : AllAt w1 g 33 m.length (cdD m) m.length) => show w1.cell? ⟨g, 32, none⟩ = some (.int .i64 (cdN m : Int)) from by
    have hm := (cdsOk_parts hc).1
    have := h.cellOf (x := 0) (by omega) (cdD_len (m := m) 0 (cdsOk_allN hc 0 (by omega)).1)
    rw [(cdsOk_allN hc 0 (by omega)).2] at this
    simpa using this)
  have HSZ := Lib.hid (show ∀ x, (cdD m x).size = 33 from fun x => phC_size _)
  have HONE := Lib.hid (show ∀ x, (cdD m x).all (·.oneCell') = true from fun x => phC_one _)
  have HIN := Lib.hid (show ∀ x, (Try.prog.info? 64).map (·.size) = some (cdD m x).size from fun x => infoPhC8 _)
  have SZ := Lib.hid (phA_size z32 0 z32_length)
  have ZZ := Lib.hid zeroPh
  obtain ⟨ZR, hZ⟩ : ∃ Z, Z = phA z32 0 := ⟨_, rfl⟩
  rw [← hZ] at SZ ZZ
  obtain ⟨i0, hi0, hz0, hz1, hz2⟩ := info_parts infoG
  have HI0 := Lib.hid hi0
  have HZ00 := Lib.hid hz0
  have HZ10 := Lib.hid hz1
  have HZ20 := Lib.hid hz2
  obtain ⟨P, hP⟩ : ∃ P : Nat → Int, P = fun i => (gaX m l i).tdiv l.length := ⟨_, rfl⟩
  obtain ⟨Q, hQ⟩ : ∃ P : Nat → Int, P = fun i => (gaY m l i).tdiv l.length := ⟨_, rfl⟩
  have HPQ := Lib.hid (fun k => And.intro (show P k = (gaX m l k).tdiv l.length by rw [hP]) (show Q k = (gaY m l k).tdiv l.length by rw [hQ]))
  have hsl : shL l.length (gaL m l) = genG m.length P Q := by
    unfold shL
    rw [gaL_length]
    unfold genG
    apply List.map_congr_left
    intro i hi
    have hi := List.mem_range.1 hi
    show ((gre (gaL m l) i).tdiv _, (gim (gaL m l) i).tdiv _) = (P i, Q i)
    rw [show gre (gaL m l) i = gaX m l i from genG_re _ _ _ _ hi, show gim (gaL m l) i = gaY m l i from genG_im _ _ _ _ hi, hP, hQ]
  rw [hsl]
  obtain ⟨DD, hDD⟩ : ∃ C, C = fbC (gre l) (gim l) := ⟨_, rfl⟩
  have HHA := Lib.hid (show ∀ B v w, HeardAt l B v w → ∃ g, v = .slice (some ⟨g, 0, none⟩) l.length l.length ∧ RowC w B g l.length DD from fun B v w h => by rw [hDD]; exact h)
  have HCA := Lib.hid (show ∀ B v w, CodesAt m B v w → ∃ g, v = .slice (some ⟨g, 0, none⟩) m.length m.length ∧ B ≤ g ∧ AllAt w g 33 m.length (cdD m) m.length from fun B v w h => h)
  obtain ⟨CD, hCD⟩ : ∃ C, C = cdD m := ⟨_, rfl⟩
  rw [← hCD] at HOR HMA HC32 HSZ HONE HIN HCA
  rw [← hDD] at HMA
  obtain ⟨X, hX⟩ : ∃ X, X = gaX m l := ⟨_, rfl⟩
  obtain ⟨Y, hY⟩ : ∃ X, X = gaY m l := ⟨_, rfl⟩
  rw [← hX, ← hY] at HKQ HML HMA HPQ
  obtain ⟨N, hN⟩ : ∃ n, n = l.length := ⟨_, rfl⟩
  obtain ⟨n, hn⟩ : ∃ n, n = m.length := ⟨_, rfl⟩
  obtain ⟨M, hM⟩ : ∃ n, n = cdN m := ⟨_, rfl⟩
  rw [← hN] at HKN HKQ HML HMA HNN HN64 HPQ HHA
  rw [← hn] at HKQ HML HMA HOR HM8 HC32 HCA ⊢
  rw [← hM] at HKN HKQ HML HMA HNN HC32
  have HVA := Lib.hid hva
  have HVB := Lib.hid hvb
  have CP := Lib.hid hp
  have CQ := Lib.hid hq
  have B0 := Lib.hid (Below.refl w.heap.size w)
  clear hdef hZ hP hQ hsl hDD hCD hX hY hN hn hM hva hvb hp hq hi0 hz0 hz1 hz2
  go_enter Try.func51, Try.ntmps51
  go_wp2_with fail
  refine wp_region_held_drew (S := (fun w' => World.grownBy w w' none)) (by kernel_rfl) (grownDrew (World.grownBy.refl _ _)) ?_
  obtain ⟨d1, hdw⟩ : ∃ w', w' = w.drew := ⟨_, rfl⟩
  rw [← hdw]
  have hb : Below w.heap.size w d1 := by rw [hdw]; exact belowN (Below.refl _ _) 1
  have F1_VA := Lib.hid (HVA.out.below hb)
  have F1_VB := Lib.hid (HVB.out.below hb)
  have F1_B := Lib.hid (joins B0.out hb)
  clear hdw hb
  intro hHeld
  refine' wpAnyH_take (i := 0) (v := _) rfl (by kernel_rfl) (by kernel_rfl) (by kernel_rfl) (fun _ _ _ h => h) (Or.inl ⟨by rfl, ?hy1⟩) (by assumption) ?rest1
  case hy1 =>
    intro w h
    have c1 := cellR h CP.out (by simp)
    (try clear h)
    go_simp
    (try with_reducible rfl)
  (try simp only [Act.put, List.getElem_toArray, List.getElem_cons_zero, List.setIfInBounds_toArray, List.set_cons_zero, List.set_cons_succ])
  refine' wpAnyH_take (i := 3) (v := _) rfl (by kernel_rfl) (by kernel_rfl) (by kernel_rfl) (fun _ _ _ h => h) (Or.inl ⟨by rfl, ?hy2⟩) (by assumption) ?rest2
  case hy2 =>
    intro w h
    have c1 := cellR h CQ.out (by simp)
    (try clear h)
    go_simp
    (try with_reducible rfl)
  (try simp only [Act.put, List.getElem_toArray, List.getElem_cons_zero, List.getElem_cons_succ, List.setIfInBounds_toArray, List.set_cons_zero, List.set_cons_succ])
  refine wpAnyH_ready (rs := [1]) (by kernel_rfl) (by simp) ?_
  refine AllReadyH.cons rfl (fun K hK => ?_) AllReadyH.nil
  go_simp
  refine (HCF.out _ F1_VA.out).mono ?_
  rintro e d2 ⟨hb, hx⟩
  rcases hx.symm with ⟨hk, rfl⟩ | ⟨hk1, v1, rfl, hcs⟩
  · have F2_VA := Lib.hid (F1_VA.out.below hb)
    have F2_VB := Lib.hid (F1_VB.out.below hb)
    have F2_B := Lib.hid (joins F1_B.out hb)
    exact ⟨rfl, F2_B.out, Or.inr (HR1.out hk)⟩
  have F2_VA := Lib.hid (F1_VA.out.below hb)
  have F2_VB := Lib.hid (F1_VB.out.below hb)
  have F2_B := Lib.hid (joins F1_B.out hb)
  obtain ⟨gc, rfl, hgc, hall⟩ := HCA.out _ _ _ hcs
  have LGC := Lib.hid (show gc < d2.heap.size from hall.lt)
  have F2_CA := Lib.hid (hall)
  have hHeld := grownB hHeld hb
  clear hb hx
  refine hK.out _ _ hHeld (fun hHeld => ?_)
  clear hK K
  (try simp only [Act.put, List.getElem_toArray, List.getElem_cons_zero, List.getElem_cons_succ, List.setIfInBounds_toArray, List.set_cons_zero, List.set_cons_succ])
  refine wpAnyH_ready (rs := [2]) (by kernel_rfl) (by simp) ?_
  refine AllReadyH.cons rfl (fun K hK => ?_) AllReadyH.nil
  go_simp
  refine (HOR.out (kOf_eq hk1) gc _ F2_CA.out).mono ?_
  rintro e d3 ⟨hb, hx⟩
  rcases hx.symm with ⟨hk, rfl⟩ | ⟨hk2, v2, rfl, rfl⟩
  · have F3_VA := Lib.hid (F2_VA.out.below hb)
    have F3_VB := Lib.hid (F2_VB.out.below hb)
    have F3_B := Lib.hid (joins F2_B.out hb)
    have F3_CA := Lib.hid (F2_CA.out.below hb)
    exact ⟨rfl, F3_B.out, Or.inr (HR2.out (kOf_eq hk1) hk)⟩
  have F3_VA := Lib.hid (F2_VA.out.below hb)
  have F3_VB := Lib.hid (F2_VB.out.below hb)
  have F3_B := Lib.hid (joins F2_B.out hb)
  have F3_CA := Lib.hid (F2_CA.out.below hb)
  have hHeld := grownB hHeld hb
  clear hb hx
  refine hK.out _ _ hHeld (fun hHeld => ?_)
  clear hK K
  (try simp only [Act.put, List.getElem_toArray, List.getElem_cons_zero, List.getElem_cons_succ, List.setIfInBounds_toArray, List.set_cons_zero, List.set_cons_succ])
  refine wpAnyH_ready (rs := [4]) (by kernel_rfl) (by simp) ?_
  refine AllReadyH.cons rfl (fun K hK => ?_) AllReadyH.nil
  go_simp
  refine (HHE.out _ F3_VB.out).mono ?_
  rintro e d4 ⟨hb, hx⟩
  rcases hx.symm with ⟨hk, rfl⟩ | ⟨hk3, v3, rfl, hha⟩
  · have F4_VA := Lib.hid (F3_VA.out.below hb)
    have F4_VB := Lib.hid (F3_VB.out.below hb)
    have F4_B := Lib.hid (joins F3_B.out hb)
    have F4_CA := Lib.hid (F3_CA.out.below hb)
    exact ⟨rfl, F4_B.out, Or.inr (HR3.out (kOf_eq hk1) (k2_eq hk2) hk)⟩
  have F4_VA := Lib.hid (F3_VA.out.below hb)
  have F4_VB := Lib.hid (F3_VB.out.below hb)
  have F4_B := Lib.hid (joins F3_B.out hb)
  have F4_CA := Lib.hid (F3_CA.out.below hb)
  obtain ⟨gs, rfl, hrow⟩ := HHA.out _ _ _ hha
  have F4_R := Lib.hid (hrow)
  have hHeld := grownB hHeld hb
  clear hb hx
  refine hK.out _ _ hHeld (fun hHeld => ?_)
  clear hK K
  (try simp only [Act.put, List.getElem_toArray, List.getElem_cons_zero, List.getElem_cons_succ, List.setIfInBounds_toArray, List.set_cons_zero, List.set_cons_succ])
  refine' wpAnyH_take (i := 5) (v := _) rfl (by kernel_rfl) (by kernel_rfl) (by kernel_rfl) (fun _ _ _ h => h) (Or.inl ⟨by rfl, ?hy3⟩) (by assumption) ?rest3
  case hy3 =>
    intro w h
    (try clear h)
    go_simp
    (try with_reducible rfl)
  (try simp only [Act.put, List.getElem_toArray, List.getElem_cons_zero, List.getElem_cons_succ, List.setIfInBounds_toArray, List.set_cons_zero, List.set_cons_succ])
  refine' wpAnyH_take (i := 6) (v := _) rfl (by kernel_rfl) (by kernel_rfl) (by kernel_rfl) (fun _ _ _ h => h) (Or.inl ⟨by rfl, ?hy4⟩) (by assumption) ?rest4
  case hy4 =>
    intro w h
    (try clear h)
    go_simp
    (try with_reducible rfl)
  (try simp only [Act.put, List.getElem_toArray, List.getElem_cons_zero, List.getElem_cons_succ, List.setIfInBounds_toArray, List.set_cons_zero, List.set_cons_succ])
  refine wpAnyH_done (by kernel_rfl) ?_ _
  have h1_ := Lib.hid (kOf_eq hk1)
  have h2_ := Lib.hid (k2_eq hk2)
  have h3_ := Lib.hid (kOf_eq hk3)
  have HBT := Lib.hid F4_B.out
  have HRT := Lib.hid (RowC.mono F4_R.out (Nat.zero_le _))
  have HAT := Lib.hid F4_CA.out
  obtain ⟨wt, hwt⟩ : ∃ w', w' = d4 := ⟨_, rfl⟩
  rw [← hwt] at HBT HRT HAT ⊢
  clear hwt hHeld hk1 hk2 hk3
  have hm8 := HM8.out h1_.out
  have hm0 : 0 < n := by omega
  have hn64 := HN64.out h3_.out
  have c32 := HC32.out h1_.out gc _ HAT.out
  by_cases hln : N = M
  case neg =>
    have hK := Lib.hid (HKN.out h1_.out h2_.out hln)
    have hne : ¬ (N : Int) = (M : Int) := by omega
    clear hln
    go_wp2_with fail
    rw [show ((N : Int) == (M : Int)) = false from by simpa using hne]
    refine (require_no _).mono ?_
    rintro e w' ⟨rfl, rfl⟩
    exact ⟨rfl, HBT.out, Or.inr ⟨by rw [hK.out]; decide, by rw [hK.out]⟩⟩
  subst hln
  have HKY := Lib.hid (HKQ.out h1_.out h2_.out h3_.out rfl)
  have HMT := Lib.hid (HMA.out h1_.out h3_.out rfl)
  have HLE := Lib.hid (HML.out h1_.out h3_.out rfl)
  have HN32 := Lib.hid (HNN.out h1_.out rfl)
  go_wp2_with fail
  refine (require_yes _).mono ?_
  rintro e w' ⟨rfl, rfl⟩
  clear c32
  go_wp2_with (at_make; refine wpList_make_full _ rfl _ _ 29 rfl wt.heap.size 26 i0 (.agg #[.int .i64 0, .int .i64 0]) 2 Try.underlying29 HI0.out HZ00.out HZ10.out _ _ _ _ n rfl rfl rfl rfl ?b2 ?b3 (Nat.le_refl _) ?_)
  case b2 => rw [HZ20.out]; omega
  case b3 => unfold maxLen; omega
  intro w5 hown0 hgrow0
  have hown1 : w5.ownsRow wt.heap.size 26 2 (.slice (some ⟨wt.heap.size, 0, none⟩) n n) n (fl (upG n 0 P Q)) := by
    rw [upG_zero, ← flR_zeros]; exact hown0
  have hb5 : Below wt.heap.size wt w5 := (Below.refl _ _).grown hgrow0 (Nat.le_refl _) (fun k h => by cases h)
  have HO5 := Lib.hid hown1
  have HB5 := Lib.hid (joins HBT.out hb5)
  have HR5 := Lib.hid (HRT.out.below hb5)
  have HA5 := Lib.hid (HAT.out.below hb5)
  have LGD := Lib.hid HBT.out.size
  have LCD := Lib.hid (show gc < wt.heap.size from HAT.out.lt)
  have LSD := Lib.hid (show gs < wt.heap.size from HRT.out.lt.2)
  obtain ⟨gd, hgd⟩ : ∃ g, g = wt.heap.size := ⟨_, rfl⟩
  rw [← hgd] at HO5 LGD LCD LSD ⊢
  clear hown0 hgrow0 hown1 hb5 hgd HRT HAT HBT
  go_wp2_with fail
  go_loopw [26] (fun i wr => ∃ k : Nat, k ≤ n ∧ i = .int .i64 k ∧ wr.ownsRow gd 26 2 (.slice (some ⟨gd, 0, none⟩) n n) n (fl (upG n k P Q)) ∧ RowC wr 0 gs N DD ∧ AllAt wr gc 33 n CD n ∧ Below w.heap.size w wr ∧ ∀ j, j < k → dvP N (X j) (Y j) = true) (fun i _ => n - (intOf i).toNat)
  case atStart => exact ⟨0, Nat.zero_le _, rfl, HO5.out, HR5.out, HA5.out, HB5.out, fun j hj => absurd hj (Nat.not_lt_zero _)⟩
  case round =>
    obtain ⟨k, hk, rfl, hown, hrow, hall, hbel, hdv⟩ := hrel
    have HO := Lib.hid hown
    have HR := Lib.hid hrow
    have HA := Lib.hid hall
    have HB := Lib.hid hbel
    have HDV := Lib.hid hdv
    clear hown hrow hall hbel hdv
    by_cases hlt : k < n
    · have h0 : (0 : Int) ≤ (k : Int) := by omega
      have h1 : (k : Int) < (n : Int) := by omega
      go_wp2_with (first
        | ((with_reducible refine at_op (Op.load 64 (.tmp 29)) ?_); refine wpList_load_at rfl 64 (.tmp 29) rfl gc 33 n n k CD rfl HA.out hlt (HSZ.out k) _ Try.underlying64 rfl infoPh ?_)
        | ((with_reducible refine at_op (d := some 7) (Op.alloc 64) ?_); refine wpList_alloc_row rfl 64 rfl ZR ZZ.out ?_; intro w31 hr hb hz; have R31_a := Lib.hid hr; have L31_a := Lib.hid (show wr.heap.size ≤ wr.heap.size from Nat.le_refl _); have D31 := Lib.hid (hb); clear hr hb hz)
        | ((with_reducible refine at_op (Op.store 64 (.tmp 7) (.tmp 30)) ?_); refine wpList_put_row rfl 64 (.tmp 7) (.tmp 30) rfl (wr.heap.size) (CD k) rfl rfl 64 ZR R31_a.out 33 infoPh (HSZ.out k) SZ.out (HONE.out k) wr.heap.size wr D31.out L31_a.out ?_; intro w32 hr hs hb; have RT := Lib.hid hr; have HO2 := Lib.hid (rowBelow HO.out hb); have HR2 := Lib.hid (HR.out.below hb); have HA2 := Lib.hid (HA.out.below hb); have HB2 := Lib.hid (joins HB.out hb); clear hr hs hb)
        | ((with_reducible refine at_op (Op.load 64 (.tmp 7)) ?_); refine wpList_load_row rfl 64 (.tmp 7) rfl wr.heap.size rfl 64 (CD k) (0, 0) _ RT.out Try.underlying64 rfl (HIN.out k) ?_))
      refine (HMT.out k hlt gs _ _ HR2.out).mono ?_
      rintro e w6 ⟨re, im, f1, f2, rfl, hb⟩
      have hle := HLE.out k hlt
      have hn32 := HN32.out
      have HQU := Lib.hid (quotientOf_any f1 f2 (by omega) (by omega) N hn32.1 hn32.2)
      have HO6 := Lib.hid (rowBelow HO2.out hb)
      have HR6 := Lib.hid (HR2.out.below hb)
      have HA6 := Lib.hid (HA2.out.below hb)
      have HB6 := Lib.hid (joins HB2.out hb)
      clear hb f1 f2 hle
      go_wp2_with fail
      refine (HQU.out _).mono ?_
      rintro e w7 ⟨hb, ⟨hk0, v, rfl, rfl⟩ | ⟨hk0, rfl⟩⟩
      · have hO7 := rowBelow HO6.out hb
        have HO7 := Lib.hid hO7
        have HR7 := Lib.hid (HR6.out.below hb)
        have HA7 := Lib.hid (HA6.out.below hb)
        have HB7 := Lib.hid (joins HB6.out hb)
        have HDX := Lib.hid (show ∀ j, j < k + 1 → dvP N (X j) (Y j) = true from fun j hj => by
          rcases Nat.lt_succ_iff_lt_or_eq.1 hj with h2 | h2
          · exact HDV.out j h2
          · rw [h2]; exact kOf_eq hk0)
        have hpq := HPQ.out k
        obtain ⟨x, hx⟩ : ∃ x, x = P k := ⟨_, rfl⟩
        obtain ⟨y, hy⟩ : ∃ x, x = Q k := ⟨_, rfl⟩
        rw [← hpq.1, ← hpq.2, ← hx, ← hy]
        have HX := Lib.hid (And.intro hx hy)
        have c1 : w7.cell? ⟨gd, k * 2, none⟩ = some (.int .i64 (gre (upG n k P Q) k)) := by
          rw [hO7.cellAt (k * 2) (by omega)]
          exact fl_re _ k (by rw [upG_length]; omega)
        have c2 : w7.cell? ⟨gd, k * 2 + 1, none⟩ = some (.int .i64 (gim (upG n k P Q) k)) := by
          rw [hO7.cellAt (k * 2 + 1) (by omega)]
          exact fl_im _ k (by rw [upG_length]; omega)
        rw [upG_re n k P Q k hlt, if_neg (Nat.lt_irrefl _)] at c1
        rw [upG_im n k P Q k hlt, if_neg (Nat.lt_irrefl _)] at c2
        have g1 := hO7.frozenAt (k * 2)
        have g2 := hO7.frozenAt (k * 2 + 1)
        clear hb hO7 hk0 hx hy hpq
        go_wp2_with fail
        go_roundw
        case rel =>
          have hs := HO7.out.stored (k * 2) (.int .i64 x)
          have hs2 := hs.1.stored (k * 2 + 1) (.int .i64 y)
          rw [fl_set2 _ k (by rw [upG_length]; exact hlt), HX.out.1, HX.out.2, upG_set n k P Q hlt] at hs2
          rw [← HX.out.1, ← HX.out.2] at hs2
          have hn1 : gs ≠ gd := by have := LSD.out; omega
          have hn2 : gc ≠ gd := by have := LCD.out; omega
          have hb1 : ((w7.setCell ⟨gd, k * 2, none⟩ (.int .i64 x)).setCell ⟨gd, k * 2 + 1, none⟩ (.int .i64 y)).heap[gc]? = w7.heap[gc]? := (heap_setCell_other _ ⟨gd, k * 2 + 1, none⟩ gc _ hn2).trans (heap_setCell_other _ ⟨gd, k * 2, none⟩ gc _ hn2)
          exact ⟨k + 1, by omega, by go_num, hs2.1, RowC.grown9 HR7.out (grownSet (grownSet (World.grownBy.refl _ _) _ _) _ _) (fun e => hn1 (Option.some.inj e).symm), HA7.out.block hb1 (by simpa using HA7.out.lt), belows (belows HB7.out LGD.out _) LGD.out _, HDX.out⟩
        case measure => simp [intOf]; omega
      · have hK := HKY.out.2 k hlt (kOf_ne hk0)
        exact ⟨rfl, joins HB6.out hb, Or.inr ⟨by rw [hK]; decide, by rw [hK, kOf_ne hk0]; rfl⟩⟩
    · obtain rfl : k = n := by omega
      have hK := HKY.out.1 HDV.out
      have hO : OwnG wr gd (.slice (some ⟨gd, 0, none⟩) k k) (genG k P Q) := by
        have := HO.out
        rw [upG_all] at this
        unfold OwnG
        rw [genG_length]
        exact this
      have HOG := Lib.hid (OwnG.mono hO LGD.out)
      clear hO
      go_wp2_with fail
      go_returns
      exact ⟨HB.out, Or.inl ⟨hK, _, rfl, HOG.out⟩⟩
set_option maxRecDepth 100000 in
set_option maxHeartbeats 2000000 in
theorem iGatherOf (va : Value) (m : List (List Int)) (vb : Value) (l : List (Int × Int)) (w : World) (h_va : IR w va m) (h_vb : IG w vb l) (b_va : sz2 m ≤ 1048576) (b_vb : l.length ≤ 1048576) :
    Calls Try.prog 20 #[va, vb] w (MakesGB w (gaF m l) (gaB m l)) := by
  have hmf : ∀ (fn : Fn) (first cap : Array Value) (w : World), (Instr.makeFunc fn first cap).run Try.prog w = .ok (.func fn first cap) w := fun _ _ _ _ => rfl
  have hk0 : gaK m l = 0 → gaF m l = shL l.length (gaL m l) := fun h => by unfold gaF; rw [← gaK_eq, h]; rfl
  have hk1 : gaK m l ≠ 0 → gaF m l = [] := fun h => by unfold gaF; rw [← gaK_eq, show (gaK m l == 0) = false from by simpa using h]; rfl
  have hkz : (gaK m l == 0) = gaB m l := gaK_eq m l
  obtain ⟨wb0, hwb0⟩ : ∃ w', w' = w.alloc (.cells #[va] 36) := ⟨_, rfl⟩
  obtain ⟨wb1, hwb1⟩ : ∃ w', w' = wb0.alloc (.cells #[vb] 29) := ⟨_, rfl⟩
  have HB0 := Lib.hid (show Below w.heap.size w wb0 by rw [hwb0]; exact belowa (Below.refl _ _) _)
  have HS0 := Lib.hid (show wb0.heap.size = w.heap.size + 1 by rw [hwb0]; simp)
  have hc0_0 : wb0.cell? ⟨w.heap.size, 0, none⟩ = some (va) := by rw [hwb0]; simp [go_sem]
  have hc0_0_1 : wb1.cell? ⟨w.heap.size, 0, none⟩ = some (va) := by rw [hwb1]; exact keepa _ hc0_0
  have HC0_0 := Lib.hid hc0_0_1
  have HB1 := Lib.hid (show Below w.heap.size w wb1 by rw [hwb1]; exact belowa HB0.out _)
  have HS1 := Lib.hid (show wb1.heap.size = w.heap.size + 2 by rw [hwb1]; simp [HS0.out])
  have hc1_0 : wb1.cell? ⟨w.heap.size + 1, 0, none⟩ = some (vb) := by rw [hwb1, ← HS0.out]; simp [go_sem]
  have HC1_0 := Lib.hid hc1_0
  have HSH := Lib.hid (sharedQ 51 #[.pointer (some ⟨w.heap.size, 0, none⟩), .pointer (some ⟨w.heap.size + 1, 0, none⟩)] (fun w => by simp [go_sem]) (gaK m l) _ (lasts_gauss (shL l.length (gaL m l))) wb1 (fun w2 hb2 => gatherOf1_any va vb m l _ _ w2 (keepc hb2 HC0_0.out) (keepc hb2 HC1_0.out) (h_va.below (joins HB1.out hb2)) (h_vb.below (joins HB1.out hb2)) b_va b_vb))
  have HK0 := Lib.hid hk0
  have HK1 := Lib.hid hk1
  have HKZ := Lib.hid hkz
  obtain ⟨pa0, ca0, rfl⟩ := h_va.slice
  obtain ⟨pa1, ca1, rfl⟩ := h_vb.slice
  obtain ⟨LL, hLL⟩ : ∃ L, L = shL l.length (gaL m l) := ⟨_, rfl⟩
  obtain ⟨FF, hFF⟩ : ∃ L, L = gaF m l := ⟨_, rfl⟩
  obtain ⟨BB, hBB⟩ : ∃ L, L = gaB m l := ⟨_, rfl⟩
  obtain ⟨KK, hKK⟩ : ∃ L, L = gaK m l := ⟨_, rfl⟩
  rw [← hKK] at HSH HK0 HK1 HKZ
  rw [← hBB] at HKZ
  rw [← hLL] at HSH HK0
  rw [← hFF] at HK0 HK1
  rw [← hFF, ← hBB]
  clear hk0 hk1 hkz hKK hLL hFF hBB h_va h_vb hc0_0 hc1_0
  go_enter Try.func20, Try.ntmps20
  go_wp2_with fail
  rw [← hwb0, ← hwb1]
  clear hwb0 hwb1
  refine (HSH.out).mono ?_
  rintro e w1 ⟨hb, v, rfl, h⟩
  have HB := Lib.hid (joins HB1.out hb)
  have HH := Lib.hid (show OwnG w1 w.heap.size v FF from by
    rcases h with ⟨hk, h⟩ | ⟨hk, rfl⟩
    · rw [HK0.out hk]; exact OwnG.mono h (by rw [HS1.out]; omega)
    · rw [HK1.out hk]; exact OwnG.nil _ _)
  rw [HKZ.out]
  clear h hb
  go_wp2_with fail
  go_returns
  exact ⟨_, rfl, HH.out, HB.out⟩
end Go.Proofs.Ytapmehgdnofgnab
