/- The program's isUndisturbed. -/
import Derived.Test.YtfjhocmnafdnfaaISpU
import Derived.Test.YtfjhocmnafdnfaaIMch
import Derived.Test.YtfjhocmnafdnfaaIxF
import Derived.Deep.MidRow
namespace Go.Proofs.Ytfjhocmnafdnfaa
set_option maxRecDepth 100000
open Go.RowKit

theorem yieldsSeq8 {ops : Array Oper} {S : World → Prop} {op : Oper} {a : Act} (hw : Region.wanted op (yielded ops a.tmps) = true) (x : Operand) (ho : op.op = .load 97 x)
    (g o : Nat) (hx : a.eval x = .pointer (some ⟨g, o, none⟩)) (C : Array Value) (hS : ∀ w, S w → w.rangeAt g o C.toList) (hs : C.size = 33) : YieldsIf Try.prog ops S op (.agg C) a := by
  have := yieldsIf_load_mid (P := Try.prog) hw 97 x ho g o hx C.toList _ hS Try.underlying97 rfl (by rw [Array.length_toList, hs]; exact infoPh)
  rwa [Array.toArray_toList] at this
theorem grBelow {W w : World} (h : W.grownBy w none) : Below W.heap.size W w := (Below.refl _ _).grown h (Nat.le_refl _) (fun k e => by cases e)
theorem rangeGr {W w : World} {g o : Nat} {cs : List Value} (h : W.grownBy w none) (hc : W.rangeAt g o cs) : w.rangeAt g o cs := fun j u hj => keepc (grBelow h) (hc j u hj)
set_option maxRecDepth 100000 in
set_option maxHeartbeats 4000000 in
theorem isUndisturbed1_any (gC n : Nat) (DD : Nat → Array Value) (a b : List Int) (ha : isSeq a = true) (hb : isSeq b = true) (hab : a.length = b.length) (g1 g2 i j : Nat) (hi : i < n) (hj : j < n) (hai : DD i = phC a) (hbj : DD j = phC b) (w : World)
    (c1 : w.cell? ⟨g1, 0, none⟩ = some (.slice (some ⟨gC, 0, none⟩) n n)) (c2 : w.cell? ⟨g2, 0, none⟩ = some (.int .i64 i)) (hall : AllAt w gC 33 n DD n) :
    Calls Try.prog 197 #[.int .i64 j, .pointer (some ⟨g1, 0, none⟩), .pointer (some ⟨g2, 0, none⟩)] w (Ret w (.bool (dtN a b != 0))) := by
  have HD := Lib.hid (fun w => disturbance_any a b ha hb hab w)
  have R1 := Lib.hid (show w.rangeAt gC (i * 33) (phC a).toList from by rw [← hai]; exact hall.cells i hi)
  have R2 := Lib.hid (show w.rangeAt gC (j * 33) (phC b).toList from by rw [← hbj]; exact hall.cells j hj)
  have S1 := Lib.hid (phC_size a)
  have S2 := Lib.hid (phC_size b)
  have C1 := Lib.hid c1
  have C2 := Lib.hid c2
  have hi0 : (0 : Int) ≤ (i : Int) := by omega
  have hi1 : (i : Int) < (n : Int) := by omega
  have hj0 : (0 : Int) ≤ (j : Int) := by omega
  have hj1 : (j : Int) < (n : Int) := by omega
  obtain ⟨A, hA⟩ : ∃ A, A = phC a := ⟨_, rfl⟩
  obtain ⟨B, hB⟩ : ∃ B, B = phC b := ⟨_, rfl⟩
  rw [← hA] at HD R1 S1
  rw [← hB] at HD R2 S2
  obtain ⟨z, hz⟩ : ∃ z, z = dtN a b := ⟨_, rfl⟩
  rw [← hz] at HD ⊢
  have BW := Lib.hid (Below.refl w.heap.size w)
  clear ha hb hab hai hbj hall hA hB hz c1 c2 hi hj
  go_enter Try.func197, Try.ntmps197
  go_wp2_with fail
  refine wp_region_held_drew (S := (fun w' => World.grownBy w w' none)) (by kernel_rfl) (grownDrew (World.grownBy.refl _ _)) ?_
  obtain ⟨d1, hdw⟩ : ∃ w', w' = w.drew := ⟨_, rfl⟩
  rw [← hdw]
  have hb : Below w.heap.size w d1 := by rw [hdw]; exact belowN (Below.refl _ _) 1
  have F1_B := Lib.hid (joins BW.out hb)
  clear hdw hb
  intro hHeld
  refine' wpAnyH_take (i := 0) (v := _) rfl (by kernel_rfl) (by kernel_rfl) (by kernel_rfl) (fun _ _ _ h => h) (Or.inl ⟨by rfl, ?hy1⟩) (by assumption) ?rest1
  case hy1 =>
    intro w h
    have c1 := keepc (grBelow h) C1.out
    (try clear h)
    go_simp
    (try with_reducible rfl)
  (try simp only [Act.put, List.getElem_toArray, List.getElem_cons_zero, List.setIfInBounds_toArray, List.set_cons_zero, List.set_cons_succ])
  refine' wpAnyH_take (i := 1) (v := _) rfl (by kernel_rfl) (by kernel_rfl) (by kernel_rfl) (fun _ _ _ h => h) (Or.inl ⟨by rfl, ?hy2⟩) (by assumption) ?rest2
  case hy2 =>
    intro w h
    have c2 := keepc (grBelow h) C2.out
    (try clear h)
    go_simp
    (try with_reducible rfl)
  (try simp only [Act.put, List.getElem_toArray, List.getElem_cons_zero, List.getElem_cons_succ, List.setIfInBounds_toArray, List.set_cons_zero, List.set_cons_succ])
  refine' wpAnyH_take (i := 2) (v := _) rfl (by kernel_rfl) (by kernel_rfl) (by kernel_rfl) (fun _ _ _ h => h) (Or.inl ⟨by rfl, ?hy3⟩) (by assumption) ?rest3
  case hy3 =>
    intro w h
    (try clear h)
    go_simp
    (try with_reducible rfl)
  (try simp only [Act.put, List.getElem_toArray, List.getElem_cons_zero, List.getElem_cons_succ, List.setIfInBounds_toArray, List.set_cons_zero, List.set_cons_succ])
  refine' wpAnyH_take (i := 3) (v := _) rfl (by kernel_rfl) (by kernel_rfl) (by kernel_rfl) (fun _ _ _ h => h) (yieldsSeq8 (by rfl) (.tmp 7) rfl gC (i * 33) rfl A (fun w h => rangeGr h R1.out) S1.out) (by assumption) ?rest4
  (try simp only [Act.put, List.getElem_toArray, List.getElem_cons_zero, List.getElem_cons_succ, List.setIfInBounds_toArray, List.set_cons_zero, List.set_cons_succ])
  refine' wpAnyH_take (i := 4) (v := _) rfl (by kernel_rfl) (by kernel_rfl) (by kernel_rfl) (fun _ _ _ h => h) (Or.inl ⟨by rfl, ?hy5⟩) (by assumption) ?rest5
  case hy5 =>
    intro w h
    have c1 := keepc (grBelow h) C1.out
    (try clear h)
    go_simp
    (try with_reducible rfl)
  (try simp only [Act.put, List.getElem_toArray, List.getElem_cons_zero, List.getElem_cons_succ, List.setIfInBounds_toArray, List.set_cons_zero, List.set_cons_succ])
  refine' wpAnyH_take (i := 5) (v := _) rfl (by kernel_rfl) (by kernel_rfl) (by kernel_rfl) (fun _ _ _ h => h) (Or.inl ⟨by rfl, ?hy6⟩) (by assumption) ?rest6
  case hy6 =>
    intro w h
    (try clear h)
    go_simp
    (try with_reducible rfl)
  (try simp only [Act.put, List.getElem_toArray, List.getElem_cons_zero, List.getElem_cons_succ, List.setIfInBounds_toArray, List.set_cons_zero, List.set_cons_succ])
  refine' wpAnyH_take (i := 6) (v := _) rfl (by kernel_rfl) (by kernel_rfl) (by kernel_rfl) (fun _ _ _ h => h) (Or.inl ⟨by rfl, ?hy7⟩) (by assumption) ?rest7
  case hy7 =>
    intro w h
    (try clear h)
    go_simp
    (try with_reducible rfl)
  (try simp only [Act.put, List.getElem_toArray, List.getElem_cons_zero, List.getElem_cons_succ, List.setIfInBounds_toArray, List.set_cons_zero, List.set_cons_succ])
  refine' wpAnyH_take (i := 7) (v := _) rfl (by kernel_rfl) (by kernel_rfl) (by kernel_rfl) (fun _ _ _ h => h) (yieldsSeq8 (by rfl) (.tmp 11) rfl gC (j * 33) rfl B (fun w h => rangeGr h R2.out) S2.out) (by assumption) ?rest8
  (try simp only [Act.put, List.getElem_toArray, List.getElem_cons_zero, List.getElem_cons_succ, List.setIfInBounds_toArray, List.set_cons_zero, List.set_cons_succ])
  refine wpAnyH_ready (rs := [8]) (by kernel_rfl) (by simp) ?_
  refine AllReadyH.cons rfl (fun K hK => ?_) AllReadyH.nil
  go_simp
  refine (HD.out _).mono ?_
  rintro e d2 ⟨rfl, hb⟩
  have F2_B := Lib.hid (joins F1_B.out hb)
  have hHeld := grownB hHeld hb
  clear hb
  refine hK.out _ _ hHeld (fun hHeld => ?_)
  clear hK K
  (try simp only [Act.put, List.getElem_toArray, List.getElem_cons_zero, List.getElem_cons_succ, List.setIfInBounds_toArray, List.set_cons_zero, List.set_cons_succ])
  refine' wpAnyH_take (i := 9) (v := _) rfl (by kernel_rfl) (by kernel_rfl) (by kernel_rfl) (fun _ _ _ h => h) (Or.inl ⟨by rfl, ?hy9⟩) (by assumption) ?rest9
  case hy9 =>
    intro w h
    (try clear h)
    go_simp
    (try with_reducible rfl)
  (try simp only [Act.put, List.getElem_toArray, List.getElem_cons_zero, List.getElem_cons_succ, List.setIfInBounds_toArray, List.set_cons_zero, List.set_cons_succ])
  refine' wpAnyH_take (i := 10) (v := _) rfl (by kernel_rfl) (by kernel_rfl) (by kernel_rfl) (fun _ _ _ h => h) (Or.inl ⟨by rfl, ?hy10⟩) (by assumption) ?rest10
  case hy10 =>
    intro w h
    (try clear h)
    go_simp
    (try with_reducible rfl)
  (try simp only [Act.put, List.getElem_toArray, List.getElem_cons_zero, List.getElem_cons_succ, List.setIfInBounds_toArray, List.set_cons_zero, List.set_cons_succ])
  refine wpAnyH_done (by kernel_rfl) ?_ _
  go_wp2_with fail
  go_returns
  exact ⟨rfl, F2_B.out⟩

set_option maxRecDepth 100000 in
set_option maxHeartbeats 4000000 in
theorem isUndisturbed_any (gC n : Nat) (DD : Nat → Array Value) (E : Nat → List Int) (m : Nat) (hE : ∀ k, k < n → isSeq (E k) = true ∧ (E k).length = m) (hDE : ∀ k, k < n → DD k = phC (E k))
    (i : Nat) (set : List Nat) (v : Value) (w : World) (hi : i < n) (hset : ∀ x ∈ set, x < n) (hlen : set.length ≤ 8) (hv : IS w v (nL set)) (hall : AllAt w gC 33 n DD n) :
    Calls Try.prog 177 #[.slice (some ⟨gC, 0, none⟩) n n, .int .i64 i, v] w (Ret w (.bool (set.all (fun j => dtN (E i) (E j) == 0)))) := by
  have hg : ∀ k, k < (nL set).length → (nL set).getD k 0 = ((set.getD k 0 : Nat) : Int) ∧ set.getD k 0 < n := fun k hk => by
    have hk' : k < set.length := by rwa [nL_length] at hk
    have e : set.getD k 0 = set[k] := by simp [List.getD, hk']
    exact ⟨by unfold nL; simp [List.getD, hk'], by rw [e]; exact hset _ (List.getElem_mem hk')⟩
  have HCF := Lib.hid (fun (g1 g2 : Nat) (w' : World) (hb : Below w.heap.size w w') (c1 : w'.cell? ⟨g1, 0, none⟩ = some (.slice (some ⟨gC, 0, none⟩) n n)) (c2 : w'.cell? ⟨g2, 0, none⟩ = some (.int .i64 i)) =>
    containsFunc_any (fun x => dtN (E i) (E x.toNat) != 0) ⟨g1, 0, none⟩ ⟨g2, 0, none⟩ (nL set) v w' (by rw [nL_length]; omega) (hv.below hb) (fun k w2 hk hb2 => by
      obtain ⟨h1, h2⟩ := hg k hk
      rw [h1]
      simp only [Int.toNat_natCast]
      exact isUndisturbed1_any gC n DD (E i) (E (set.getD k 0)) (hE i hi).1 (hE _ h2).1 (by rw [(hE i hi).2, (hE _ h2).2]) g1 g2 i (set.getD k 0) hi h2 (hDE i hi) (hDE _ h2) w2 (keepc hb2 c1) (keepc hb2 c2) ((hall.below hb).below hb2)))
  have HR := Lib.hid (show (!((nL set).any (fun x => dtN (E i) (E x.toNat) != 0))) = set.all (fun j => dtN (E i) (E j) == 0) from by
    unfold nL
    rw [List.any_map, List.all_eq_not_any_not]
    congr 2)
  obtain ⟨r, hr⟩ : ∃ r, r = (nL set).any (fun x => dtN (E i) (E x.toNat) != 0) := ⟨_, rfl⟩
  rw [← hr] at HCF HR
  rw [← HR.out]
  obtain ⟨va, vc, rfl⟩ := hv.slice
  clear hE hDE hi hset hlen hv hall hg hr HR
  go_enter Try.func177, Try.ntmps177
  go_wp2_with fail
  refine (HCF.out _ _ _ ?_ ?_ ?_).mono ?_
  · exact belowa (belowa (Below.refl _ _) _) _
  · first | (simp; done) | skip
  · first | (simp; done) | skip
  rintro e w3 ⟨rfl, hb⟩
  have B3 := Lib.hid (joins (belowa (belowa (Below.refl _ _) _) _) hb)
  clear hb
  go_wp2_with fail
  go_returns
  exact ⟨rfl, B3.out⟩
end Go.Proofs.Ytfjhocmnafdnfaa
