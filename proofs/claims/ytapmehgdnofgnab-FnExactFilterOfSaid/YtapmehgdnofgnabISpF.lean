/- The program's matches. -/
import Derived.Test.YtapmehgdnofgnabISpM
import Derived.Test.YtapmehgdnofgnabApp
namespace Go.Proofs.Ytapmehgdnofgnab
set_option maxRecDepth 100000
open Go.RowKit

/-- A list of numbers of two float64 parts, the call's own. -/
def OwnD (w : World) (B : Nat) (v : Value) (n : Nat) (C : Nat → Nat × Nat) : Prop := w.ownsRow B 68 1 v n (dxL n C)
theorem OwnD.below {w w' : World} {B n : Nat} {v : Value} {C : Nat → Nat × Nat} (h : OwnD w B v n C) (hb : Below w.heap.size w w') : OwnD w' B v n C := rowBelow h hb
theorem OwnD.alloc {w : World} {B n : Nat} {v : Value} {C : Nat → Nat × Nat} (h : OwnD w B v n C) (o : Obj) : OwnD (w.alloc o) B v n C := World.ownsRow.alloc h o
theorem OwnD.mono {w : World} {B B' n : Nat} {v : Value} {C : Nat → Nat × Nat} (h : OwnD w B v n C) (hB : B' ≤ B) : OwnD w B' v n C := rowMono h hB
theorem OwnD.lt {w : World} {B n : Nat} {v : Value} {C : Nat → Nat × Nat} (h : OwnD w B v n C) : ∀ k, v.ownBlock = some k → B ≤ k ∧ k < w.heap.size := World.ownsRow.lt h
theorem OwnD.shape {w : World} {B n : Nat} {v : Value} {C : Nat → Nat × Nat} (h : OwnD w B v n C) : ∃ a cap, v = .slice a n cap := by
  rcases h.2 with ⟨rfl, rfl⟩ | ⟨g, cap, cur, rfl, _⟩
  · exact ⟨_, _, rfl⟩
  · exact ⟨_, _, rfl⟩
theorem OwnD.cell {w : World} {B n cap : Nat} {a : Option Addr} {C : Nat → Nat × Nat} (h : OwnD w B (.slice a n cap) n C) (i : Nat) (hi : i < n) : ∃ g, a = some ⟨g, 0, none⟩ ∧ w.cell? ⟨g, i, none⟩ = some (.complex .f64 (C i).1 (C i).2) := by
  have h' := h
  rcases h.2 with ⟨_, h0⟩ | ⟨g, cap', cur, hv, _⟩
  · omega
  · injection hv with e1 e2 e3
    subst e1
    exact ⟨g, rfl, by rw [World.ownsRow.cellAt h' i (by omega)]; exact dxL_get n C i hi⟩
theorem infoD8 : (Try.prog.info? 68).map (fun i => (i.zero, i.size, i.bytes)) = some (some (.complex .f64 0 0), 1, 16) := by kernel_rfl
theorem dxL_push (n : Nat) (C : Nat → Nat × Nat) (b : Nat × Nat) : dxL n C ++ [.complex .f64 b.1 b.2] = dxL (n + 1) (setC C n b) := by
  unfold dxL
  rw [List.range_succ, List.map_append]
  congr 1
  · apply List.map_congr_left
    intro i hi
    have := List.mem_range.1 hi
    unfold setC
    rw [if_neg (by omega)]
  · simp [setC]
theorem RowC.grown8 {w w' : World} {B g n : Nat} {C : Nat → Nat × Nat} {row : Option Nat} (h : RowC w B g n C) (hg : w.grownBy w' row) (hne : row ≠ some g) : RowC w' B g n C :=
  World.ownsRow.kept h hg (Or.inr (fun e => hne e.symm))
theorem step_pushD {ops : Array Oper} {o : Oper} {a : Act} {w : World} {K : Act → World → Prop} {Q : Exit → Act → World → Prop} {E : Prop} (hg : o.guard = none) (s x : Operand)
    (ho : o.op = .call { callee := .builtin .append, args := #[s, x], argTypes := #[90, 90] }) (B : Nat) (v : Value) (n : Nat) (C : Nat → Nat × Nat) (hs : a.eval s = v) (hown : OwnD w B v n C)
    (g c : Nat) (y z : Nat) (hx : a.eval x = .slice (some ⟨g, 0, none⟩) 1 c) (hc : w.cell? ⟨g, 0, none⟩ = some (.complex .f64 y z)) (hlen : n ≤ 1048576)
    (S : Nat) (w0 : World) (hb : Below S w0 w) (hS : S ≤ B) (hB : B ≤ w.heap.size) (hSw : S ≤ w.heap.size)
    (hK : ∀ v' w', OwnD w' B v' (n + 1) (setC C n (y, z)) → Below S w0 w' → w.grownBy w' v.ownBlock → K (a.put o.dst v') w') :
    if Region.wanted o (yielded ops a.tmps) = true then Oper.wp Try.prog o a w K Q else E := by
  obtain ⟨i0, hi, hz0, hz1, hz2⟩ := info_parts infoD8
  refine step_append_lies (P := Try.prog) (w := w) hg s x 90 ho B 68 i0 (.complex .f64 0 0) 1 16 Try.underlying90 hi hz0 hz1 hz2 rfl (by decide) v n (dxL n C) hs hown ⟨g, 0, none⟩ 1 c [.complex .f64 y z] hx rfl ?_ ?_ (by omega) ?_ ?_ hB _ rfl ?_
  · intro j u hj
    match j, hj with
    | 0, hj => simp at hj; subst hj; simpa [Addr.add] using hc
  · intro u hu; simp at hu; subst hu; rfl
  · unfold maxLen; omega
  · omega
  · intro g' cap w' hown' hgr hblk hlt
    refine hK _ w' ?_ (hb.grown hgr hSw (fun k hk => Nat.le_trans hS (hown.lt k hk).1)) hgr
    unfold OwnD
    rw [← dxL_push n C (y, z)]
    exact hown'
def MakesMs (w : World) (l : List (Int × Int)) (s : List Int) (e : Ending) (w' : World) : Prop :=
  ∃ v C, e = .returned v ∧ OwnD w' w.heap.size v (ftN l s) C ∧ (∀ j, j < ftN l s → FK .f64 (C j).1 (mtX l s j) ∧ FK .f64 (C j).2 (mtY l s j)) ∧ Below w.heap.size w w'
set_option maxRecDepth 100000 in
set_option maxHeartbeats 4000000 in
theorem matches_any (l : List (Int × Int)) (s : List Int) (hd : hdOk l = true) (hc : cdOk s = true) (g B : Nat) (w : World) (hrow : RowC w B g l.length (fbC (gre l) (gim l))) :
    Calls Try.prog 70 #[.slice (some ⟨g, 0, none⟩) l.length l.length, .agg (phC s)] w (MakesMs w l s) := by
  have h64 := hdOk_len hd
  have hs := (cdOk_seq hc).1
  have h1s := (cdOk_seq hc).2
  have h32 := isSeq_len hs
  have HMT := Lib.hid (fun (o : Nat) (ho : o + s.length ≤ l.length) (c : Nat) (w1 : World) (h : RowC w1 B g l.length (fbC (gre l) (gim l))) => matchAt_any l s hd hs o ho g B c w1 h)
  have HLC := Lib.hid (show (phC s)[32]? = some (.int .i64 s.length) from by
    have := phC_len s
    rwa [show sqz s = s by unfold sqz; rw [hs]; rfl] at this)
  have IC := Lib.hid (infoPhC8 s)
  have HFN := Lib.hid (show ftN l s = l.length + 1 - s.length from rfl)
  unfold MakesMs
  obtain ⟨F, hF⟩ : ∃ F, F = ftN l s := ⟨_, rfl⟩
  rw [← hF] at HFN ⊢
  obtain ⟨X, hX⟩ : ∃ X, X = mtX l s := ⟨_, rfl⟩
  obtain ⟨Y, hY⟩ : ∃ X, X = mtY l s := ⟨_, rfl⟩
  rw [← hX, ← hY] at HMT ⊢
  obtain ⟨D, hD⟩ : ∃ D, D = fbC (gre l) (gim l) := ⟨_, rfl⟩
  rw [← hD] at HMT hrow
  obtain ⟨CC, hCC⟩ : ∃ D, D = phC s := ⟨_, rfl⟩
  rw [← hCC] at HMT HLC IC ⊢
  obtain ⟨N, hN⟩ : ∃ n, n = l.length := ⟨_, rfl⟩
  obtain ⟨M, hM⟩ : ∃ n, n = s.length := ⟨_, rfl⟩
  rw [← hN] at HMT HFN hrow h64 ⊢
  rw [← hM] at HMT HLC HFN h1s h32
  have HR0 := Lib.hid hrow
  have B0 := Lib.hid (Below.refl w.heap.size w)
  have HGW := Lib.hid hrow.lt.2
  clear hF hX hY hD hCC hN hM hrow hs hd hc
  go_enter Try.func70, Try.ntmps70
  go_wp2_with ((with_reducible refine at_op (Op.box 64 (.tmp 1)) ?_); refine wpList_box_row rfl 64 (.tmp 1) rfl CC rfl ?_; intro w1 hr hbb hzz; have R1 := Lib.hid hr; have B1 := Lib.hid (joins B0.out hbb); have HR1 := Lib.hid (HR0.out.below hbb); clear hr hbb hzz)
  go_loopw [6, 5] (fun i v wr => ∃ k : Nat, k ≤ F ∧ i = .int .i64 k ∧ (∃ E, OwnD wr w.heap.size v k E ∧ ∀ j, j < k → FK .f64 (E j).1 (X j) ∧ FK .f64 (E j).2 (Y j)) ∧ RowC wr B g N D ∧ wr.heap[w.heap.size]? = some (.cells CC 64 (0, 0)) ∧ Below w.heap.size w wr) (fun i _ _ => F - (intOf i).toNat)
  case atStart => exact ⟨0, Nat.zero_le _, rfl, ⟨fun _ => (0, 0), World.ownsRow_nil _ _ _ _, fun j hj => absurd hj (Nat.not_lt_zero _)⟩, HR1.out, R1.out, B1.out⟩
  case round =>
    obtain ⟨k, hk, rfl, ⟨E, hE, hE1⟩, hr, hp, hbel⟩ := hrel
    have HO := Lib.hid hE
    have HE1 := Lib.hid hE1
    have HR := Lib.hid hr
    have HP := Lib.hid hp
    have HB := Lib.hid hbel
    have hF := HFN.out
    have c32 := rowC hp HLC.out
    clear hE hE1 hr hp hbel
    by_cases hlt : k < F
    · have hkm : k + M ≤ N := by omega
      have HAD := Lib.hid (show IntKind.i64.wrap ((k : Int) + (M : Int)) = ((k + M : Nat) : Int) from by rw [IntWalk.i64_in _ (by omega)]; simp)
      have HAD2 := Lib.hid (show wrap64 ((k : Int) + (M : Int)) = ((k + M : Nat) : Int) from by rw [IntWalk.wrap64_in _ (by omega)]; simp)
      have HQ1 := Lib.hid (show (0 : Int) ≤ (k : Int) by omega)
      have HQ2 := Lib.hid (show (0 : Int) ≤ (k : Int) + (M : Int) by omega)
      have HQ3 := Lib.hid (show ((k : Int) + (M : Int)).toNat = k + M by omega)
      have HQ7 := Lib.hid (show k + M - k = M by omega)
      have HQ4 := Lib.hid (show ¬ N = k by omega)
      have HQ5 := Lib.hid (show k ≤ k + M by omega)
      have HQ6 := Lib.hid (show k + M ≤ N by omega)
      have hcond : ((k + M : Nat) : Int) ≤ (N : Int) := by omega
      have e1 := HAD.out
      have e2 := HAD2.out
      have HK64 := Lib.hid (show k ≤ 1048576 by omega)
      have HNR := Lib.hid (show u5.ownBlock ≠ some g from fun e => by have h1 := (HO.out.lt _ e).1; have h2 := HGW.out; omega)
      have HNP := Lib.hid (show u5.ownBlock ≠ some w.heap.size from fun e => by
        rcases HO.out.2 with ⟨h0, _⟩ | ⟨g', cap, cur, hv, _, hh, _⟩
        · rw [h0] at e; cases e
        · rw [hv] at e
          have e3 : g' = w.heap.size := by simpa [Value.ownBlock] using e
          rw [e3, HP.out] at hh
          injection hh with e4
          injection e4 with _ e5
          exact absurd e5 (by decide))
      have HNX := Lib.hid (fun (re im : Nat) (h : FK .f64 re (X k) ∧ FK .f64 im (Y k)) => show ∀ j, j < k + 1 → FK .f64 (setC E k (re, im) j).1 (X j) ∧ FK .f64 (setC E k (re, im) j).2 (Y j) from fun j hj => by
        unfold setC
        by_cases e : j = k
        · rw [if_pos e, e]; exact h
        · rw [if_neg e]; exact HE1.out j (by omega))
      have HMT2 := Lib.hid (HMT.out k hkm)
      have h0 : (0 : Int) ≤ (k : Int) := by omega
      clear hF hkm
      go_wp2_with fail
      refine wp_region_held_drew (S := (fun w' => World.grownBy wr w' u5.ownBlock)) (by kernel_rfl) (grownDrew (World.grownBy.refl _ _)) ?_
      obtain ⟨d1, hdw⟩ : ∃ w', w' = wr.drew := ⟨_, rfl⟩
      rw [← hdw]
      have hb : Below wr.heap.size wr d1 := by rw [hdw]; exact belowN (Below.refl _ _) 1
      have F1_O := Lib.hid (HO.out.below hb)
      have F1_B := Lib.hid (joins HB.out hb)
      have F1_R := Lib.hid (HR.out.below hb)
      have F1_P := Lib.hid (rowB HP.out hb)
      clear hdw hb
      intro hHeld
      refine' wpAnyH_take (i := 0) (v := _) rfl (by kernel_rfl) (by kernel_rfl) (by kernel_rfl) (fun _ _ _ h => h) (Or.inl ⟨by rfl, ?hy1⟩) (by assumption) ?rest1
      case hy1 =>
        intro w h
        (try clear h)
        go_simp
        (try with_reducible rfl)
      (try simp only [Act.put, List.getElem_toArray, List.getElem_cons_zero, List.setIfInBounds_toArray, List.set_cons_zero, List.set_cons_succ])
      refine' wpAnyH_take (i := 1) (v := _) rfl (by kernel_rfl) (by kernel_rfl) (by kernel_rfl) (fun _ _ _ h => h) (Or.inl ⟨by rfl, ?hy2⟩) (by assumption) ?rest2
      case hy2 =>
        intro w h
        (try clear h)
        go_simp
        (try with_reducible rfl)
      (try simp only [Act.put, List.getElem_toArray, List.getElem_cons_zero, List.getElem_cons_succ, List.setIfInBounds_toArray, List.set_cons_zero, List.set_cons_succ])
      refine' wpAnyH_take (i := 2) (v := _) rfl (by kernel_rfl) (by kernel_rfl) (by kernel_rfl) (fun _ _ _ h => h) (Or.inl ⟨by rfl, ?hy3⟩) (by assumption) ?rest3
      case hy3 =>
        intro w h
        (try clear h)
        go_simp
        (try with_reducible rfl)
      (try simp only [Act.put, List.getElem_toArray, List.getElem_cons_zero, List.getElem_cons_succ, List.setIfInBounds_toArray, List.set_cons_zero, List.set_cons_succ])
      refine' wpAnyH_take (i := 3) (v := _) rfl (by kernel_rfl) (by kernel_rfl) (by kernel_rfl) (fun _ _ _ h => h) (Or.inl ⟨by rfl, ?hy4⟩) (by assumption) ?rest4
      case hy4 =>
        intro w h
        (try clear h)
        go_simp
        (try with_reducible rfl)
      (try simp only [Act.put, List.getElem_toArray, List.getElem_cons_zero, List.getElem_cons_succ, List.setIfInBounds_toArray, List.set_cons_zero, List.set_cons_succ])
      refine' wpAnyH_take (i := 4) (v := _) rfl (by kernel_rfl) (by kernel_rfl) (by kernel_rfl) (fun _ _ _ h => h) (Or.inl ⟨by rfl, ?hy5⟩) (by assumption) ?rest5
      case hy5 =>
        intro w h
        (try clear h)
        go_simp
        (try with_reducible rfl)
      (try simp only [Act.put, List.getElem_toArray, List.getElem_cons_zero, List.getElem_cons_succ, List.setIfInBounds_toArray, List.set_cons_zero, List.set_cons_succ])
      refine' wpAnyH_take (i := 5) (v := _) rfl (by kernel_rfl) (by kernel_rfl) (by kernel_rfl) (fun _ _ _ h => h) (Or.inl ⟨by rfl, ?hy6⟩) (by assumption) ?rest6
      case hy6 =>
        intro w h
        have c1 := rowC (rowG8 HP.out h HNP.out) HLC.out
        (try clear h)
        go_simp
        (try with_reducible rfl)
      (try simp only [Act.put, List.getElem_toArray, List.getElem_cons_zero, List.getElem_cons_succ, List.setIfInBounds_toArray, List.set_cons_zero, List.set_cons_succ])
      refine' wpAnyH_take (i := 6) (v := _) rfl (by kernel_rfl) (by kernel_rfl) (by kernel_rfl) (fun _ _ _ h => h) (Or.inl ⟨by rfl, ?hy7⟩) (by assumption) ?rest7
      case hy7 =>
        intro w h
        have e1 := HAD.out
        (try clear h)
        go_simp
        (try with_reducible rfl)
      (try simp only [Act.put, List.getElem_toArray, List.getElem_cons_zero, List.getElem_cons_succ, List.setIfInBounds_toArray, List.set_cons_zero, List.set_cons_succ])
      refine' wpAnyH_take (i := 7) (v := _) rfl (by kernel_rfl) (by kernel_rfl) (by kernel_rfl) (fun _ _ _ h => h) (Or.inl ⟨by rfl, ?hy8⟩) (by assumption) ?rest8
      case hy8 =>
        intro w h
        have q1 := HQ1.out
        have q2 := HQ2.out
        have q3 := HQ3.out
        have q4 := HQ4.out
        have q5 := HQ5.out
        have q6 := HQ6.out
        have q7 := HQ7.out
        (try clear h)
        go_simp
        (try with_reducible rfl)
      (try simp only [Act.put, List.getElem_toArray, List.getElem_cons_zero, List.getElem_cons_succ, List.setIfInBounds_toArray, List.set_cons_zero, List.set_cons_succ])
      refine' wpAnyH_take (i := 8) (v := _) rfl (by kernel_rfl) (by kernel_rfl) (by kernel_rfl) (fun _ _ _ h => h) (yieldsPart (by rfl) 64 (.tmp 3) rfl (w.heap.size) 0 rfl CC CC 64 (0, 0) _ (fun w h => rowG8 HP.out h HNP.out) (Part.self _) Try.underlying64 rfl IC.out) (by assumption) ?rest9
      (try simp only [Act.put, List.getElem_toArray, List.getElem_cons_zero, List.getElem_cons_succ, List.setIfInBounds_toArray, List.set_cons_zero, List.set_cons_succ])
      refine wpAnyH_ready (rs := [9]) (by kernel_rfl) (by simp) ?_
      refine AllReadyH.cons rfl (fun K hK => ?_) AllReadyH.nil
      go_simp
      refine (HMT2.out _ _ F1_R.out).mono ?_
      rintro e d2 ⟨re, im, f1, f2, rfl, hb⟩
      have F2_O := Lib.hid (F1_O.out.below hb)
      have F2_B := Lib.hid (joins F1_B.out hb)
      have F2_R := Lib.hid (F1_R.out.below hb)
      have F2_P := Lib.hid (rowB F1_P.out hb)
      have HYY := Lib.hid (And.intro f1 f2)
      clear f1 f2
      have hHeld := grownB hHeld hb
      clear hb
      refine hK.out _ _ hHeld (fun hHeld => ?_)
      clear hK K
      (try simp only [Act.put, List.getElem_toArray, List.getElem_cons_zero, List.getElem_cons_succ, List.setIfInBounds_toArray, List.set_cons_zero, List.set_cons_succ])
      refine wpAnyH_ready (rs := [10]) (by kernel_rfl) (by simp) ?_
      refine AllReadyH.cons rfl (fun K hK => ?_) AllReadyH.nil
      go_simp
      refine hK.out _ _ (grownA hHeld _) (fun hHeld => ?_)
      clear hK K
      (try simp only [Act.put, List.getElem_toArray, List.getElem_cons_zero, List.getElem_cons_succ, List.setIfInBounds_toArray, List.set_cons_zero, List.set_cons_succ])
      refine wpAnyH_ready (rs := [11]) (by kernel_rfl) (by simp) ?_
      refine AllReadyH.cons rfl (fun K hK => ?_) AllReadyH.nil
      refine step_pushD rfl (.tmp 16) (.tmp 26) rfl w.heap.size _ k E rfl (F2_O.out.alloc _) d2.heap.size 1 re im rfl (cell_new_one _ _ _) HK64.out w.heap.size w (F2_B.out.alloc F2_B.out.size _) (Nat.le_refl _) (by have := F2_B.out.size; simp; omega) (by have := F2_B.out.size; simp; omega) ?_
      intro v3 w3 ho3 hb3 hg3
      have HO3 := Lib.hid ho3
      have HB3 := Lib.hid hb3
      have HRW2 := Lib.hid (RowC.grown8 (F2_R.out.below (belowa (Below.refl _ _) _)) hg3 HNR.out)
      have HPH2 := Lib.hid (rowG8 (rowB F2_P.out (belowa (Below.refl _ _) _)) hg3 HNP.out)
      refine hK.out _ _ (grown_trans hHeld hg3) (fun hHeld => ?_)
      clear hK K
      (try simp only [Act.put, List.getElem_toArray, List.getElem_cons_zero, List.getElem_cons_succ, List.setIfInBounds_toArray, List.set_cons_zero, List.set_cons_succ])
      refine' wpAnyH_take (i := 12) (v := _) rfl (by kernel_rfl) (by kernel_rfl) (by kernel_rfl) (fun _ _ _ h => h) (Or.inl ⟨by rfl, ?hy10⟩) (by assumption) ?rest10
      case hy10 =>
        intro w h
        (try clear h)
        go_simp
        (try with_reducible rfl)
      (try simp only [Act.put, List.getElem_toArray, List.getElem_cons_zero, List.getElem_cons_succ, List.setIfInBounds_toArray, List.set_cons_zero, List.set_cons_succ])
      refine wpAnyH_done (by kernel_rfl) ?_ _
      go_wp2_with fail
      go_roundw
      case rel => exact ⟨k + 1, by omega, by go_num, ⟨_, HO3.out, HNX.out _ _ HYY.out⟩, HRW2.out, HPH2.out, HB3.out⟩
      case measure => simp [intOf]; omega
    · obtain rfl : k = F := by omega
      have hcond : ¬ ((k : Int) + (M : Int)) ≤ (N : Int) := by omega
      have e2 : wrap64 ((k : Int) + (M : Int)) = (k : Int) + (M : Int) := IntWalk.wrap64_in _ (by omega)
      clear hF
      go_wp2_with fail
      go_returns
      exact ⟨_, rfl, E, HO.out, HE1.out, HB.out⟩
end Go.Proofs.Ytapmehgdnofgnab
