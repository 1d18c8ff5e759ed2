/- The program's gaussOfMatch, MatchOf. -/
import Derived.Test.YtapmehgdnofgnabISpH
import Derived.Test.YtapmehgdnofgnabDoor
import Derived.Test.YtapmehgdnofgnabZg
namespace Go.Proofs.Ytapmehgdnofgnab
set_option maxRecDepth 100000
open Go.RowKit

theorem kOf_eq {b : Bool} (h : kOf b = 0) : b = true := by cases b with | true => rfl | false => cases h
theorem kOf_ne {b : Bool} (h : kOf b ≠ 0) : b = false := by cases b with | true => exact absurd rfl h | false => rfl
theorem RowC.ne_row {w : World} {B g n t : Nat} {C : Nat → Nat × Nat} {xs : Array Value} {T : TypeId} {fr : Nat × Nat} (h : RowC w B g n C) (ht : w.heap[t]? = some (.cells xs T fr)) (hT : 85 ≠ T) : g ≠ t := by
  rintro rfl
  rcases h.2 with ⟨h0, _⟩ | ⟨g', cap, cur, hv, hg, hh, rest⟩
  · cases h0
  · injection hv with e1 e2 e3
    injection e1 with e1
    injection e1 with e1
    subst e1
    rw [hh] at ht
    injection ht with e
    injection e with _ e4
    exact hT e4
theorem RowC.setAt {w w' : World} {B g n t : Nat} {C : Nat → Nat × Nat} (h : RowC w B g n C) (hs : SetAt w w' t) (hne : g ≠ t) : RowC w' B g n C := by
  refine ⟨h.1, ?_⟩
  rcases h.2 with h0 | ⟨g', cap, cur, hv, hg, hh, rest⟩
  · exact .inl h0
  · injection hv with e1 e2 e3
    injection e1 with e1
    injection e1 with e1
    subst e1
    exact .inr ⟨g, cap, cur, by rw [e3], hg, (hs.block g hne).trans hh, rest⟩
theorem grownPut {W w0 w w' : World} {row : Option Nat} {g S : Nat} (h : W.grownBy w row) (hs : SetAt w w' g) (hb : Below S w0 w') (h1 : Below S w0 w) (hg : W.heap.size ≤ g) : W.grownBy w' row :=
  ⟨(hb.os.trans h1.os.symm).trans h.os, (hb.tape.trans h1.tape.symm).trans h.tape, (hb.output.trans h1.output.symm).trans h.output, Nat.le_trans h.size (Nat.le_of_eq hs.size.symm), fun k hk hne => (hs.block k (fun e => by omega)).trans (h.block k hk hne)⟩
theorem le_heap {W w : World} (h : Below W.heap.size W w) : W.heap.size ≤ w.heap.size := h.size
/-- codeFrom, whatever the list. -/
theorem codeFrom_any (v : Value) (l : List Int) (w : World) (hv : IS w v l) (hlen : l.length ≤ 1048576) : Calls Try.prog 42 #[v] w (Tries w (kOf (cdOk l)) (fun _ v _ => v = .agg (phC l))) := by
  cases h : cdOk l with
  | true => exact (codeFrom_yes v l w hv h).mono fun e w' ⟨he, hb⟩ => ⟨hb, Or.inl ⟨rfl, _, he, rfl⟩⟩
  | false => exact (codeFrom_no v l w hv hlen h).mono fun e w' ⟨he, hb⟩ => ⟨hb, Or.inr ⟨by decide, he⟩⟩
/-- The match of a part of a signal. -/
theorem matchAt_any (l : List (Int × Int)) (s : List Int) (hd : hdOk l = true) (hs : isSeq s = true) (o : Nat) (ho : o + s.length ≤ l.length) (g B c : Nat) (w : World) (h : RowC w B g l.length (fbC (gre l) (gim l))) :
    Calls Try.prog 45 #[.slice (some ⟨g, o, none⟩) s.length c, .agg (phC s)] w (RetM w (mtX l s o) (mtY l s o)) := by
  have hcz := fbC_in l hd
  exact match_any g o c (fun i => fbC (gre l) (gim l) (o + i)) (fun i => gre l (o + i)) (fun i => gim l (o + i)) s hs (fun i hi => hcz (o + i) (by omega)) (fun i hi => good_in (goodL_at (hdOk_good hd) (o + i) (by omega))) w (h.cxa o s.length ho)
set_option maxRecDepth 100000 in
set_option maxHeartbeats 1000000 in
theorem gaussOfMatch_any {b1 b2 : Nat} {X Y : Int} (h1 : FK .f64 b1 X) (h2 : FK .f64 b2 Y) (hx : -32000000 ≤ X ∧ X ≤ 32000000) (hy : -32000000 ≤ Y ∧ Y ≤ 32000000) (w : World) :
    Calls Try.prog 44 #[.complex .f64 b1 b2] w (Tries w (kOf (good X Y)) (fun _ v _ => v = .agg #[.int .i64 X, .int .i64 Y])) := by
  have hcx := fun w => run_convert_float_int (P := Try.prog) w 101 3 .f64 .i64 b1 X rfl Try.underlying3 (FN_toInt h1 (by omega))
  have hcy := fun w => run_convert_float_int (P := Try.prog) w 101 3 .f64 .i64 b2 Y rfl Try.underlying3 (FN_toInt h2 (by omega))
  have HIV := Lib.hid (ivalid X Y)
  have hz0 := ZG.start w 26
  have HZ0 := Lib.hid hz0
  clear hz0 h1 h2 hx hy
  cases hg : good X Y with
  | true =>
    rw [hg, show gx X Y = X by unfold gx; rw [hg]; rfl, show gy X Y = Y by unfold gy; rw [hg]; rfl] at HIV
    rw [kOf_true]
    clear hg
    go_enter Try.func44, Try.ntmps44
    go_wp2_with fail
    refine (HIV.out _).mono ?_
    rintro e w1 ⟨rfl, hb⟩
    have HZ1 := Lib.hid (HZ0.out.step hb)
    clear hb
    go_wp2_with fail
    refine (require_yes _).mono ?_
    rintro e w' ⟨rfl, rfl⟩
    have hz2 := HZ1.out.step (belowa (Below.refl w1.heap.size w1) (.cells #[.int .i64 X, .int .i64 Y] 26))
    have HR := Lib.hid hz2
    obtain ⟨z1, z2, z3, z4, z5, z6⟩ := hz2
    have q0 := cell_new0 w1 (.int .i64 X) (.int .i64 Y) 26
    have q1 := cell_new1 w1 (.int .i64 X) (.int .i64 Y) 26
    obtain ⟨w2, hw2⟩ : ∃ w', w' = w1.alloc (.cells #[.int .i64 X, .int .i64 Y] 26) := ⟨_, rfl⟩
    rw [← hw2] at HR z1 z2 z3 z4 z5 z6 q0 q1 ⊢
    clear hw2
    go_wp2_with fail
    (try simp only [Exit.inBlock, Exit.then])
    obtain ⟨d0, d2, d3⟩ := HR.out.ret (.int .i64 X) (.int .i64 Y)
    refine bodyPost_ret (by simp [results, Try.results44, go_sem, d0, d2]; try rfl) rfl ?_
    exact ⟨d3, Or.inl ⟨rfl, _, rfl, rfl⟩⟩
  | false =>
    rw [hg] at HIV
    rw [kOf_false]
    obtain ⟨P, hP⟩ : ∃ P, P = gx X Y := ⟨_, rfl⟩
    obtain ⟨Q, hQ⟩ : ∃ P, P = gy X Y := ⟨_, rfl⟩
    rw [← hP, ← hQ] at HIV
    clear hg hP hQ
    go_enter Try.func44, Try.ntmps44
    go_wp2_with fail
    refine (HIV.out _).mono ?_
    rintro e w1 ⟨rfl, hb⟩
    have HB1 := Lib.hid (HZ0.out.step hb).below
    clear hb
    go_wp2_with fail
    refine (require_no _).mono ?_
    rintro e w' ⟨rfl, rfl⟩
    exact ⟨rfl, belowa HB1.out _, Or.inr ⟨by decide, rfl⟩⟩
set_option maxRecDepth 100000 in
set_option maxHeartbeats 8000000 in
theorem matchOf1_any (va vs : Value) (l : List (Int × Int)) (s : List Int) (p q : Addr) (w : World) (hp : w.cell? p = some va) (hq : w.cell? q = some vs) (hva : IG w va l) (hvs : IS w vs s) (hl : l.length ≤ 1048576) (hls : s.length ≤ 1048576) :
    Calls Try.prog 40 #[.pointer (some p), .pointer (some q)] w (Tries w (kOf (moB l s)) (fun _ v _ => v = .agg #[.int .i64 (mtX l s 0), .int .i64 (mtY l s 0)])) := by
  have hmo : moB l s = (hdOk l && cdOk s && decide (l.length = s.length) && good (mtX l s 0) (mtY l s 0)) := rfl
  have HHE := Lib.hid (fun w1 (h : IG w1 va l) => heardFrom_any va l w1 h hl)
  have HCO := Lib.hid (fun w1 (h : IS w1 vs s) => codeFrom_any vs s w1 h hls)
  have HMO := Lib.hid (fun (hd : hdOk l = true) (hc : cdOk s = true) => And.intro
    (fun (h : l.length = s.length) => show kOf (good (mtX l s 0) (mtY l s 0)) = kOf (moB l s) by rw [hmo, hd, hc, decide_eq_true h]; rfl)
    (fun (h : ¬ l.length = s.length) => show kOf (moB l s) = 1 by rw [hmo, decide_eq_false h, Bool.and_false]; rfl))
  have HR1 := Lib.hid (fun (h : kOf (hdOk l) ≠ 0) => show kOf (moB l s) ≠ 0 ∧ Ending.panicked [rfs (kOf (hdOk l))] = .panicked [rfs (kOf (moB l s))] by
    rw [hmo, kOf_ne h, Bool.false_and, Bool.false_and, Bool.false_and]; exact ⟨by decide, rfl⟩)
  have HR2 := Lib.hid (fun (h : kOf (cdOk s) ≠ 0) => show kOf (moB l s) ≠ 0 ∧ Ending.panicked [rfs (kOf (cdOk s))] = .panicked [rfs (kOf (moB l s))] by
    rw [hmo, kOf_ne h, Bool.and_false, Bool.false_and, Bool.false_and]; exact ⟨by decide, rfl⟩)
  have HMT := Lib.hid (fun (hd : hdOk l = true) (hc : cdOk s = true) (h : l.length = s.length) (g B : Nat) (w1 : World) (hr : RowC w1 B g l.length (fbC (gre l) (gim l))) => by
    have := matchAt_any l s hd (cdOk_seq hc).1 0 (by omega) g B l.length w1 hr
    rw [← h] at this
    exact this)
  have HLC := Lib.hid (fun (hc : cdOk s = true) => show (phC s)[32]? = some (.int .i64 s.length) from by
    have := phC_len s
    rwa [show sqz s = s by unfold sqz; rw [(cdOk_seq hc).1]; rfl] at this)
  have HLE := Lib.hid (fun (hd : hdOk l = true) (hc : cdOk s = true) (h : l.length = s.length) => mt_le (l := l) (s := s) (hdOk_good hd) (cdOk_seq hc).1 0 (by omega))
  have SC := Lib.hid (phC_size s)
  have OC := Lib.hid (phC_one s)
  have IC := Lib.hid (infoPhC8 s)
  have SZ := Lib.hid (phA_size z32 0 z32_length)
  have ZZ := Lib.hid zeroPh
  obtain ⟨ZR, hZ⟩ : ∃ Z, Z = phA z32 0 := ⟨_, rfl⟩
  rw [← hZ] at SZ ZZ
  obtain ⟨X, hX⟩ : ∃ X, X = mtX l s 0 := ⟨_, rfl⟩
  obtain ⟨Y, hY⟩ : ∃ X, X = mtY l s 0 := ⟨_, rfl⟩
  rw [← hX, ← hY] at HMO HMT HLE ⊢
  obtain ⟨CC, hCC⟩ : ∃ C, C = phC s := ⟨_, rfl⟩
  rw [← hCC] at HCO HMT HLC SC OC IC
  obtain ⟨DD, hDD⟩ : ∃ C, C = fbC (gre l) (gim l) := ⟨_, rfl⟩
  have HHA := Lib.hid (show ∀ B v w, HeardAt l B v w → ∃ g, v = .slice (some ⟨g, 0, none⟩) l.length l.length ∧ RowC w B g l.length DD from fun B v w h => by rw [hDD]; exact h)
  rw [← hDD] at HMT
  obtain ⟨N, hN⟩ : ∃ n, n = l.length := ⟨_, rfl⟩
  obtain ⟨M, hM⟩ : ∃ n, n = s.length := ⟨_, rfl⟩
  rw [← hN] at HMO HMT HLE HHA hl
  rw [← hM] at HMO HMT HLE HLC hls
  obtain ⟨w1, hw1⟩ : ∃ w', w' = w.alloc (.cells #[.int .i64 0, .int .i64 0] 26) := ⟨_, rfl⟩
  have HZ1 := Lib.hid (show ZG w w1 by rw [hw1]; exact ZG.start w _)
  have HB1 := Lib.hid HZ1.out.below
  have HZS := Lib.hid HZ1.out.size
  have HVA := Lib.hid (hva.below HB1.out)
  have HVS := Lib.hid (hvs.below HB1.out)
  have CP := Lib.hid (keepc HB1.out hp)
  have CQ := Lib.hid (keepc HB1.out hq)
  clear hmo hZ hX hY hCC hDD hN hM hva hvs hp hq
  go_enter Try.func40, Try.ntmps40
  go_wp2_with fail
  rw [← hw1]
  clear hw1
  refine wp_region_held_drew (S := (fun w' => World.grownBy w1 w' none)) (by kernel_rfl) (grownDrew (World.grownBy.refl _ _)) ?_
  obtain ⟨d1, hdw⟩ : ∃ w', w' = w1.drew := ⟨_, rfl⟩
  rw [← hdw]
  have hb : Below w1.heap.size w1 d1 := by rw [hdw]; exact belowN (Below.refl _ _) 1
  have F1_VA := Lib.hid (HVA.out.below hb)
  have F1_VS := Lib.hid (HVS.out.below hb)
  have F1_B := Lib.hid (joins HB1.out hb)
  have F1_Z := Lib.hid (HZ1.out.step hb)
  clear hdw hb
  intro hHeld
  refine' wpAnyH_take (i := 0) (v := _) rfl (by kernel_rfl) (by kernel_rfl) (by kernel_rfl) (fun _ _ _ h => h) (Or.inl ⟨by rfl, ?hy1⟩) (by assumption) ?rest1
  case hy1 =>
    intro w h
    have c1 := cellR h CP.out (by simp)
    (try clear h)
    go_simp
    (try with_reducible rfl)
  (try simp only [Act.put, List.getElem_toArray, List.getElem_cons_zero, List.setIfInBounds_toArray, List.set_cons_zero, List.set_cons_succ])
  refine' wpAnyH_take (i := 2) (v := _) rfl (by kernel_rfl) (by kernel_rfl) (by kernel_rfl) (fun _ _ _ h => h) (Or.inl ⟨by rfl, ?hy2⟩) (by assumption) ?rest2
  case hy2 =>
    intro w h
    have c1 := cellR h CQ.out (by simp)
    (try clear h)
    go_simp
    (try with_reducible rfl)
  (try simp only [Act.put, List.getElem_toArray, List.getElem_cons_zero, List.getElem_cons_succ, List.setIfInBounds_toArray, List.set_cons_zero, List.set_cons_succ])
  refine wpAnyH_ready (rs := [1, 4]) (by kernel_rfl) (by simp) ?_
  refine AllReadyH.cons rfl (fun K hK => ?_) (AllReadyH.cons rfl (fun K hK => ?_) AllReadyH.nil)
  · go_simp
    refine (HHE.out _ F1_VA.out).mono ?_
    rintro e d2 ⟨hb, hx⟩
    rcases hx.symm with ⟨hk, rfl⟩ | ⟨hk1, v1, rfl, hha⟩
    · have F2_VA := Lib.hid (F1_VA.out.below hb)
      have F2_VS := Lib.hid (F1_VS.out.below hb)
      have F2_B := Lib.hid (joins F1_B.out hb)
      have F2_Z := Lib.hid (F1_Z.out.step hb)
      exact ⟨rfl, F2_B.out, Or.inr (HR1.out hk)⟩
    have F2_VA := Lib.hid (F1_VA.out.below hb)
    have F2_VS := Lib.hid (F1_VS.out.below hb)
    have F2_B := Lib.hid (joins F1_B.out hb)
    have F2_Z := Lib.hid (F1_Z.out.step hb)
    obtain ⟨gs, rfl, hrow⟩ := HHA.out _ _ _ hha
    have F2_R := Lib.hid (hrow)
    have hHeld := grownB hHeld hb
    clear hb hx
    refine hK.out _ _ hHeld (fun hHeld => ?_)
    clear hK K
    (try simp only [Act.put, List.getElem_toArray, List.getElem_cons_zero, List.getElem_cons_succ, List.setIfInBounds_toArray, List.set_cons_zero, List.set_cons_succ])
    refine wpAnyH_ready (rs := [3, 4]) (by kernel_rfl) (by simp) ?_
    refine AllReadyH.cons rfl (fun K hK => ?_) (AllReadyH.cons rfl (fun K hK => ?_) AllReadyH.nil)
    · go_simp
      refine (HCO.out _ F2_VS.out).mono ?_
      rintro e d3 ⟨hb, hx⟩
      rcases hx.symm with ⟨hk, rfl⟩ | ⟨hk2, v2, rfl, rfl⟩
      · have F3_VA := Lib.hid (F2_VA.out.below hb)
        have F3_VS := Lib.hid (F2_VS.out.below hb)
        have F3_B := Lib.hid (joins F2_B.out hb)
        have F3_Z := Lib.hid (F2_Z.out.step hb)
        have F3_R := Lib.hid (F2_R.out.below hb)
        exact ⟨rfl, F3_B.out, Or.inr (HR2.out hk)⟩
      have F3_VA := Lib.hid (F2_VA.out.below hb)
      have F3_VS := Lib.hid (F2_VS.out.below hb)
      have F3_B := Lib.hid (joins F2_B.out hb)
      have F3_Z := Lib.hid (F2_Z.out.step hb)
      have F3_R := Lib.hid (F2_R.out.below hb)
      have hHeld := grownB hHeld hb
      clear hb hx
      refine hK.out _ _ hHeld (fun hHeld => ?_)
      clear hK K
      (try simp only [Act.put, List.getElem_toArray, List.getElem_cons_zero, List.getElem_cons_succ, List.setIfInBounds_toArray, List.set_cons_zero, List.set_cons_succ])
      refine wpAnyH_ready (rs := [4]) (by kernel_rfl) (by simp) ?_
      refine AllReadyH.cons rfl (fun K hK => ?_) AllReadyH.nil
      have hzz := ZZ.out
      go_simp
      obtain ⟨d4, hdw⟩ : ∃ w', w' = d3.alloc (.cells ZR 64) := ⟨_, rfl⟩
      rw [← hdw]
      have hb : Below d3.heap.size d3 d4 := by rw [hdw]; exact belowa (Below.refl _ _) _
      obtain ⟨tb, htb⟩ : ∃ g, g = d3.heap.size := ⟨_, rfl⟩
      rw [← htb]
      have F4_VA := Lib.hid (F3_VA.out.below hb)
      have F4_VS := Lib.hid (F3_VS.out.below hb)
      have F4_B := Lib.hid (joins F3_B.out hb)
      have F4_Z := Lib.hid (F3_Z.out.step hb)
      have F4_R := Lib.hid (F3_R.out.below hb)
      have F4_T := Lib.hid (show d4.heap[tb]? = some (.cells ZR 64 (0, 0)) from by rw [hdw, htb]; exact heap_alloc_new _ _)
      have Ltb := Lib.hid (show w1.heap.size ≤ tb from by rw [htb]; exact hHeld.size)
      have hHeld := grownB hHeld hb
      clear hzz hdw hb htb
      refine hK.out _ _ hHeld (fun hHeld => ?_)
      clear hK K
      (try simp only [Act.put, List.getElem_toArray, List.getElem_cons_zero, List.getElem_cons_succ, List.setIfInBounds_toArray, List.set_cons_zero, List.set_cons_succ])
      refine' wpAnyH_take (i := 5) (v := _) rfl (by kernel_rfl) (by kernel_rfl) (by kernel_rfl) (fun _ _ _ h => h) (Or.inl ⟨by rfl, ?hy3⟩) (by assumption) ?rest3
      case hy3 =>
        intro w h
        (try clear h)
        go_simp
        (try with_reducible rfl)
      (try simp only [Act.put, List.getElem_toArray, List.getElem_cons_zero, List.getElem_cons_succ, List.setIfInBounds_toArray, List.set_cons_zero, List.set_cons_succ])
      refine wpAnyH_ready (rs := [6]) (by kernel_rfl) (by simp) ?_
      refine AllReadyH.cons rfl (fun K hK => ?_) AllReadyH.nil
      rw [if_pos (by rfl)]
      refine wp_put_row 64 (.tmp 4) (.tmp 8) rfl (tb) CC rfl rfl 64 ZR F4_T.out 33 infoPh SC.out SZ.out OC.out w.heap.size w F4_B.out (Nat.le_trans HB1.out.size Ltb.out) ?_
      intro d5 hr hs hb
      have F5_R := Lib.hid (RowC.setAt F4_R.out hs (RowC.ne_row F4_R.out F4_T.out (by decide)))
      have F5_Z := Lib.hid (ZG.setAt F4_Z.out hs hb (by have := Ltb.out; have := HZS.out; omega))
      have F5_T := Lib.hid hr
      have F5_B := Lib.hid hb
      have hHeld := grownPut hHeld hs hb F4_B.out Ltb.out
      clear hr hs hb
      refine hK.out _ _ hHeld (fun hHeld => ?_)
      clear hK K
      (try simp only [Act.put])
      refine wpAnyH_done (by kernel_rfl) ?_ _
      obtain ⟨hd, hc⟩ : hdOk l = true ∧ cdOk s = true := ⟨kOf_eq hk1, kOf_eq hk2⟩
      have HMB := Lib.hid (HMO.out hd hc)
      have HLT := Lib.hid (HMT.out hd hc)
      have HLE2 := Lib.hid (HLE.out hd hc)
      have c32 := rowC F5_T.out (HLC.out hc)
      have HBT := Lib.hid F5_B.out
      have HRT := Lib.hid F5_R.out
      have HTT := Lib.hid F5_T.out
      have HZT := Lib.hid F5_Z.out
      obtain ⟨wt, hwt⟩ : ∃ w', w' = d5 := ⟨_, rfl⟩
      rw [← hwt] at HBT HRT HTT HZT c32 ⊢
      clear hwt hHeld hk1 hk2 hd hc
      by_cases hln : N = M
      · subst hln
        have HMB2 := Lib.hid (HMB.out.1 rfl)
        go_wp2_with fail
        refine (require_yes _).mono ?_
        rintro e w' ⟨rfl, rfl⟩
        go_wp2_with ((with_reducible refine at_op (Op.load 64 (.tmp 4)) ?_); refine wpList_load_row rfl 64 (.tmp 4) rfl tb rfl 64 CC (0, 0) _ HTT.out Try.underlying64 rfl IC.out ?_)
        refine (HLT.out trivial gs _ _ HRT.out).mono ?_
        rintro e wm ⟨re, im, f1, f2, rfl, hb⟩
        have HGM := Lib.hid (gaussOfMatch_any f1 f2 (HLE2.out trivial).1 (HLE2.out trivial).2)
        have HBm := Lib.hid (joins HBT.out hb)
        have HZm := Lib.hid (HZT.out.step hb)
        clear hb f1 f2
        go_wp2_with fail
        refine (HGM.out _).mono ?_
        rintro e wn ⟨hb, ⟨hk, v, rfl, rfl⟩ | ⟨hk, rfl⟩⟩
        · have hz1 := HZm.out.step hb
          have HR := Lib.hid hz1
          obtain ⟨z1, z2, z3, z4, z5, z6⟩ := hz1
          have hk0 := HMB2.out ▸ hk
          clear hb
          go_wp2_with fail
          (try simp only [Exit.inBlock, Exit.then])
          obtain ⟨d0, d2, d3⟩ := HR.out.ret (.int .i64 X) (.int .i64 Y)
          refine bodyPost_ret (by simp [results, Try.results40, go_sem, d0, d2]; try rfl) rfl ?_
          exact ⟨d3, Or.inl ⟨hk0, _, rfl, rfl⟩⟩
        · exact ⟨rfl, joins HBm.out hb, Or.inr ⟨by rw [← HMB2.out]; exact hk, by rw [HMB2.out]⟩⟩
      · have HMB2 := Lib.hid (HMB.out.2 hln)
        have hne : ¬ (N : Int) = (M : Int) := by omega
        clear hln
        go_wp2_with fail
        rw [show ((N : Int) == (M : Int)) = false from by simpa using hne]
        refine (require_no _).mono ?_
        rintro e w' ⟨rfl, rfl⟩
        exact ⟨rfl, HBT.out, Or.inr ⟨by rw [HMB2.out]; decide, by rw [HMB2.out]⟩⟩
    · have hzz := ZZ.out
      go_simp
      obtain ⟨d3, hdw⟩ : ∃ w', w' = d2.alloc (.cells ZR 64) := ⟨_, rfl⟩
      rw [← hdw]
      have hb : Below d2.heap.size d2 d3 := by rw [hdw]; exact belowa (Below.refl _ _) _
      obtain ⟨tb, htb⟩ : ∃ g, g = d2.heap.size := ⟨_, rfl⟩
      rw [← htb]
      have F3_VA := Lib.hid (F2_VA.out.below hb)
      have F3_VS := Lib.hid (F2_VS.out.below hb)
      have F3_B := Lib.hid (joins F2_B.out hb)
      have F3_Z := Lib.hid (F2_Z.out.step hb)
      have F3_R := Lib.hid (F2_R.out.below hb)
      have F3_T := Lib.hid (show d3.heap[tb]? = some (.cells ZR 64 (0, 0)) from by rw [hdw, htb]; exact heap_alloc_new _ _)
      have Ltb := Lib.hid (show w1.heap.size ≤ tb from by rw [htb]; exact hHeld.size)
      have hHeld := grownB hHeld hb
      clear hzz hdw hb htb
      refine hK.out _ _ hHeld (fun hHeld => ?_)
      clear hK K
      (try simp only [Act.put, List.getElem_toArray, List.getElem_cons_zero, List.getElem_cons_succ, List.setIfInBounds_toArray, List.set_cons_zero, List.set_cons_succ])
      refine wpAnyH_ready (rs := [3]) (by kernel_rfl) (by simp) ?_
      refine AllReadyH.cons rfl (fun K hK => ?_) AllReadyH.nil
      go_simp
      refine (HCO.out _ F3_VS.out).mono ?_
      rintro e d4 ⟨hb, hx⟩
      rcases hx.symm with ⟨hk, rfl⟩ | ⟨hk2, v2, rfl, rfl⟩
      · have F4_VA := Lib.hid (F3_VA.out.below hb)
        have F4_VS := Lib.hid (F3_VS.out.below hb)
        have F4_B := Lib.hid (joins F3_B.out hb)
        have F4_Z := Lib.hid (F3_Z.out.step hb)
        have F4_R := Lib.hid (F3_R.out.below hb)
        have F4_T := Lib.hid (rowB F3_T.out hb)
        exact ⟨rfl, F4_B.out, Or.inr (HR2.out hk)⟩
      have F4_VA := Lib.hid (F3_VA.out.below hb)
      have F4_VS := Lib.hid (F3_VS.out.below hb)
      have F4_B := Lib.hid (joins F3_B.out hb)
      have F4_Z := Lib.hid (F3_Z.out.step hb)
      have F4_R := Lib.hid (F3_R.out.below hb)
      have F4_T := Lib.hid (rowB F3_T.out hb)
      have hHeld := grownB hHeld hb
      clear hb hx
      refine hK.out _ _ hHeld (fun hHeld => ?_)
      clear hK K
      (try simp only [Act.put, List.getElem_toArray, List.getElem_cons_zero, List.getElem_cons_succ, List.setIfInBounds_toArray, List.set_cons_zero, List.set_cons_succ])
      refine' wpAnyH_take (i := 5) (v := _) rfl (by kernel_rfl) (by kernel_rfl) (by kernel_rfl) (fun _ _ _ h => h) (Or.inl ⟨by rfl, ?hy104⟩) (by assumption) ?rest104
      case hy104 =>
        intro w h
        (try clear h)
        go_simp
        (try with_reducible rfl)
      (try simp only [Act.put, List.getElem_toArray, List.getElem_cons_zero, List.getElem_cons_succ, List.setIfInBounds_toArray, List.set_cons_zero, List.set_cons_succ])
      refine wpAnyH_ready (rs := [6]) (by kernel_rfl) (by simp) ?_
      refine AllReadyH.cons rfl (fun K hK => ?_) AllReadyH.nil
      rw [if_pos (by rfl)]
      refine wp_put_row 64 (.tmp 4) (.tmp 8) rfl (tb) CC rfl rfl 64 ZR F4_T.out 33 infoPh SC.out SZ.out OC.out w.heap.size w F4_B.out (Nat.le_trans HB1.out.size Ltb.out) ?_
      intro d5 hr hs hb
      have F5_R := Lib.hid (RowC.setAt F4_R.out hs (RowC.ne_row F4_R.out F4_T.out (by decide)))
      have F5_Z := Lib.hid (ZG.setAt F4_Z.out hs hb (by have := Ltb.out; have := HZS.out; omega))
      have F5_T := Lib.hid hr
      have F5_B := Lib.hid hb
      have hHeld := grownPut hHeld hs hb F4_B.out Ltb.out
      clear hr hs hb
      refine hK.out _ _ hHeld (fun hHeld => ?_)
      clear hK K
      (try simp only [Act.put])
      refine wpAnyH_done (by kernel_rfl) ?_ _
      obtain ⟨hd, hc⟩ : hdOk l = true ∧ cdOk s = true := ⟨kOf_eq hk1, kOf_eq hk2⟩
      have HMB := Lib.hid (HMO.out hd hc)
      have HLT := Lib.hid (HMT.out hd hc)
      have HLE2 := Lib.hid (HLE.out hd hc)
      have c32 := rowC F5_T.out (HLC.out hc)
      have HBT := Lib.hid F5_B.out
      have HRT := Lib.hid F5_R.out
      have HTT := Lib.hid F5_T.out
      have HZT := Lib.hid F5_Z.out
      obtain ⟨wt, hwt⟩ : ∃ w', w' = d5 := ⟨_, rfl⟩
      rw [← hwt] at HBT HRT HTT HZT c32 ⊢
      clear hwt hHeld hk1 hk2 hd hc
      by_cases hln : N = M
      · subst hln
        have HMB2 := Lib.hid (HMB.out.1 rfl)
        go_wp2_with fail
        refine (require_yes _).mono ?_
        rintro e w' ⟨rfl, rfl⟩
        go_wp2_with ((with_reducible refine at_op (Op.load 64 (.tmp 4)) ?_); refine wpList_load_row rfl 64 (.tmp 4) rfl tb rfl 64 CC (0, 0) _ HTT.out Try.underlying64 rfl IC.out ?_)
        refine (HLT.out trivial gs _ _ HRT.out).mono ?_
        rintro e wm ⟨re, im, f1, f2, rfl, hb⟩
        have HGM := Lib.hid (gaussOfMatch_any f1 f2 (HLE2.out trivial).1 (HLE2.out trivial).2)
        have HBm := Lib.hid (joins HBT.out hb)
        have HZm := Lib.hid (HZT.out.step hb)
        clear hb f1 f2
        go_wp2_with fail
        refine (HGM.out _).mono ?_
        rintro e wn ⟨hb, ⟨hk, v, rfl, rfl⟩ | ⟨hk, rfl⟩⟩
        · have hz1 := HZm.out.step hb
          have HR := Lib.hid hz1
          obtain ⟨z1, z2, z3, z4, z5, z6⟩ := hz1
          have hk0 := HMB2.out ▸ hk
          clear hb
          go_wp2_with fail
          (try simp only [Exit.inBlock, Exit.then])
          obtain ⟨d0, d2, d3⟩ := HR.out.ret (.int .i64 X) (.int .i64 Y)
          refine bodyPost_ret (by simp [results, Try.results40, go_sem, d0, d2]; try rfl) rfl ?_
          exact ⟨d3, Or.inl ⟨hk0, _, rfl, rfl⟩⟩
        · exact ⟨rfl, joins HBm.out hb, Or.inr ⟨by rw [← HMB2.out]; exact hk, by rw [HMB2.out]⟩⟩
      · have HMB2 := Lib.hid (HMB.out.2 hln)
        have hne : ¬ (N : Int) = (M : Int) := by omega
        clear hln
        go_wp2_with fail
        rw [show ((N : Int) == (M : Int)) = false from by simpa using hne]
        refine (require_no _).mono ?_
        rintro e w' ⟨rfl, rfl⟩
        exact ⟨rfl, HBT.out, Or.inr ⟨by rw [HMB2.out]; decide, by rw [HMB2.out]⟩⟩
  · have hzz := ZZ.out
    go_simp
    obtain ⟨d2, hdw⟩ : ∃ w', w' = d1.alloc (.cells ZR 64) := ⟨_, rfl⟩
    rw [← hdw]
    have hb : Below d1.heap.size d1 d2 := by rw [hdw]; exact belowa (Below.refl _ _) _
    obtain ⟨tb, htb⟩ : ∃ g, g = d1.heap.size := ⟨_, rfl⟩
    rw [← htb]
    have F2_VA := Lib.hid (F1_VA.out.below hb)
    have F2_VS := Lib.hid (F1_VS.out.below hb)
    have F2_B := Lib.hid (joins F1_B.out hb)
    have F2_Z := Lib.hid (F1_Z.out.step hb)
    have F2_T := Lib.hid (show d2.heap[tb]? = some (.cells ZR 64 (0, 0)) from by rw [hdw, htb]; exact heap_alloc_new _ _)
    have Ltb := Lib.hid (show w1.heap.size ≤ tb from by rw [htb]; exact hHeld.size)
    have hHeld := grownB hHeld hb
    clear hzz hdw hb htb
    refine hK.out _ _ hHeld (fun hHeld => ?_)
    clear hK K
    (try simp only [Act.put, List.getElem_toArray, List.getElem_cons_zero, List.getElem_cons_succ, List.setIfInBounds_toArray, List.set_cons_zero, List.set_cons_succ])
    refine wpAnyH_ready (rs := [1]) (by kernel_rfl) (by simp) ?_
    refine AllReadyH.cons rfl (fun K hK => ?_) AllReadyH.nil
    go_simp
    refine (HHE.out _ F2_VA.out).mono ?_
    rintro e d3 ⟨hb, hx⟩
    rcases hx.symm with ⟨hk, rfl⟩ | ⟨hk1, v1, rfl, hha⟩
    · have F3_VA := Lib.hid (F2_VA.out.below hb)
      have F3_VS := Lib.hid (F2_VS.out.below hb)
      have F3_B := Lib.hid (joins F2_B.out hb)
      have F3_Z := Lib.hid (F2_Z.out.step hb)
      have F3_T := Lib.hid (rowB F2_T.out hb)
      exact ⟨rfl, F3_B.out, Or.inr (HR1.out hk)⟩
    have F3_VA := Lib.hid (F2_VA.out.below hb)
    have F3_VS := Lib.hid (F2_VS.out.below hb)
    have F3_B := Lib.hid (joins F2_B.out hb)
    have F3_Z := Lib.hid (F2_Z.out.step hb)
    have F3_T := Lib.hid (rowB F2_T.out hb)
    obtain ⟨gs, rfl, hrow⟩ := HHA.out _ _ _ hha
    have F3_R := Lib.hid (hrow)
    have hHeld := grownB hHeld hb
    clear hb hx
    refine hK.out _ _ hHeld (fun hHeld => ?_)
    clear hK K
    (try simp only [Act.put, List.getElem_toArray, List.getElem_cons_zero, List.getElem_cons_succ, List.setIfInBounds_toArray, List.set_cons_zero, List.set_cons_succ])
    refine wpAnyH_ready (rs := [3]) (by kernel_rfl) (by simp) ?_
    refine AllReadyH.cons rfl (fun K hK => ?_) AllReadyH.nil
    go_simp
    refine (HCO.out _ F3_VS.out).mono ?_
    rintro e d4 ⟨hb, hx⟩
    rcases hx.symm with ⟨hk, rfl⟩ | ⟨hk2, v2, rfl, rfl⟩
    · have F4_VA := Lib.hid (F3_VA.out.below hb)
      have F4_VS := Lib.hid (F3_VS.out.below hb)
      have F4_B := Lib.hid (joins F3_B.out hb)
      have F4_Z := Lib.hid (F3_Z.out.step hb)
      have F4_T := Lib.hid (rowB F3_T.out hb)
      have F4_R := Lib.hid (F3_R.out.below hb)
      exact ⟨rfl, F4_B.out, Or.inr (HR2.out hk)⟩
    have F4_VA := Lib.hid (F3_VA.out.below hb)
    have F4_VS := Lib.hid (F3_VS.out.below hb)
    have F4_B := Lib.hid (joins F3_B.out hb)
    have F4_Z := Lib.hid (F3_Z.out.step hb)
    have F4_T := Lib.hid (rowB F3_T.out hb)
    have F4_R := Lib.hid (F3_R.out.below hb)
    have hHeld := grownB hHeld hb
    clear hb hx
    refine hK.out _ _ hHeld (fun hHeld => ?_)
    clear hK K
    (try simp only [Act.put, List.getElem_toArray, List.getElem_cons_zero, List.getElem_cons_succ, List.setIfInBounds_toArray, List.set_cons_zero, List.set_cons_succ])
    refine' wpAnyH_take (i := 5) (v := _) rfl (by kernel_rfl) (by kernel_rfl) (by kernel_rfl) (fun _ _ _ h => h) (Or.inl ⟨by rfl, ?hy305⟩) (by assumption) ?rest305
    case hy305 =>
      intro w h
      (try clear h)
      go_simp
      (try with_reducible rfl)
    (try simp only [Act.put, List.getElem_toArray, List.getElem_cons_zero, List.getElem_cons_succ, List.setIfInBounds_toArray, List.set_cons_zero, List.set_cons_succ])
    refine wpAnyH_ready (rs := [6]) (by kernel_rfl) (by simp) ?_
    refine AllReadyH.cons rfl (fun K hK => ?_) AllReadyH.nil
    rw [if_pos (by rfl)]
    refine wp_put_row 64 (.tmp 4) (.tmp 8) rfl (tb) CC rfl rfl 64 ZR F4_T.out 33 infoPh SC.out SZ.out OC.out w.heap.size w F4_B.out (Nat.le_trans HB1.out.size Ltb.out) ?_
    intro d5 hr hs hb
    have F5_R := Lib.hid (RowC.setAt F4_R.out hs (RowC.ne_row F4_R.out F4_T.out (by decide)))
    have F5_Z := Lib.hid (ZG.setAt F4_Z.out hs hb (by have := Ltb.out; have := HZS.out; omega))
    have F5_T := Lib.hid hr
    have F5_B := Lib.hid hb
    have hHeld := grownPut hHeld hs hb F4_B.out Ltb.out
    clear hr hs hb
    refine hK.out _ _ hHeld (fun hHeld => ?_)
    clear hK K
    (try simp only [Act.put])
    refine wpAnyH_done (by kernel_rfl) ?_ _
    obtain ⟨hd, hc⟩ : hdOk l = true ∧ cdOk s = true := ⟨kOf_eq hk1, kOf_eq hk2⟩
    have HMB := Lib.hid (HMO.out hd hc)
    have HLT := Lib.hid (HMT.out hd hc)
    have HLE2 := Lib.hid (HLE.out hd hc)
    have c32 := rowC F5_T.out (HLC.out hc)
    have HBT := Lib.hid F5_B.out
    have HRT := Lib.hid F5_R.out
    have HTT := Lib.hid F5_T.out
    have HZT := Lib.hid F5_Z.out
    obtain ⟨wt, hwt⟩ : ∃ w', w' = d5 := ⟨_, rfl⟩
    rw [← hwt] at HBT HRT HTT HZT c32 ⊢
    clear hwt hHeld hk1 hk2 hd hc
    by_cases hln : N = M
    · subst hln
      have HMB2 := Lib.hid (HMB.out.1 rfl)
      go_wp2_with fail
      refine (require_yes _).mono ?_
      rintro e w' ⟨rfl, rfl⟩
      go_wp2_with ((with_reducible refine at_op (Op.load 64 (.tmp 4)) ?_); refine wpList_load_row rfl 64 (.tmp 4) rfl tb rfl 64 CC (0, 0) _ HTT.out Try.underlying64 rfl IC.out ?_)
      refine (HLT.out trivial gs _ _ HRT.out).mono ?_
      rintro e wm ⟨re, im, f1, f2, rfl, hb⟩
      have HGM := Lib.hid (gaussOfMatch_any f1 f2 (HLE2.out trivial).1 (HLE2.out trivial).2)
      have HBm := Lib.hid (joins HBT.out hb)
      have HZm := Lib.hid (HZT.out.step hb)
      clear hb f1 f2
      go_wp2_with fail
      refine (HGM.out _).mono ?_
      rintro e wn ⟨hb, ⟨hk, v, rfl, rfl⟩ | ⟨hk, rfl⟩⟩
      · have hz1 := HZm.out.step hb
        have HR := Lib.hid hz1
        obtain ⟨z1, z2, z3, z4, z5, z6⟩ := hz1
        have hk0 := HMB2.out ▸ hk
        clear hb
        go_wp2_with fail
        (try simp only [Exit.inBlock, Exit.then])
        obtain ⟨d0, d2, d3⟩ := HR.out.ret (.int .i64 X) (.int .i64 Y)
        refine bodyPost_ret (by simp [results, Try.results40, go_sem, d0, d2]; try rfl) rfl ?_
        exact ⟨d3, Or.inl ⟨hk0, _, rfl, rfl⟩⟩
      · exact ⟨rfl, joins HBm.out hb, Or.inr ⟨by rw [← HMB2.out]; exact hk, by rw [HMB2.out]⟩⟩
    · have HMB2 := Lib.hid (HMB.out.2 hln)
      have hne : ¬ (N : Int) = (M : Int) := by omega
      clear hln
      go_wp2_with fail
      rw [show ((N : Int) == (M : Int)) = false from by simpa using hne]
      refine (require_no _).mono ?_
      rintro e w' ⟨rfl, rfl⟩
      exact ⟨rfl, HBT.out, Or.inr ⟨by rw [HMB2.out]; decide, by rw [HMB2.out]⟩⟩
set_option maxHeartbeats 1000000 in
theorem iMatchOf (va vs : Value) (l : List (Int × Int)) (s : List Int) (w : World) (hva : IG w va l) (hvs : IS w vs s) (hl : l.length ≤ 1048576) (hls : s.length ≤ 1048576) :
    Calls Try.prog 13 #[va, vs] w (Ret w (.tuple #[.agg #[.int .i64 (moX l s), .int .i64 (moY l s)], .bool (moB l s)])) := by
  have hmf : ∀ (fn : Fn) (first cap : Array Value) (w : World), (Instr.makeFunc fn first cap).run Try.prog w = .ok (.func fn first cap) w := fun _ _ _ _ => rfl
  have hz0 := ZG.start
  have hk2 : kOf (moB l s) ≠ 0 → moX l s = 0 ∧ moY l s = 0 := fun h => by unfold moX moY; rw [kOf_ne h]; exact ⟨rfl, rfl⟩
  have hk3 : kOf (moB l s) = 0 → moX l s = mtX l s 0 ∧ moY l s = mtY l s 0 := fun h => by unfold moX moY; rw [kOf_eq h]; exact ⟨rfl, rfl⟩
  obtain ⟨wa, hwa⟩ : ∃ w', w' = w.alloc (.cells #[va] 29) := ⟨_, rfl⟩
  obtain ⟨wb, hwb⟩ : ∃ w', w' = wa.alloc (.cells #[vs] 23) := ⟨_, rfl⟩
  have HBa := Lib.hid (show Below w.heap.size w wa by rw [hwa]; exact belowa (Below.refl _ _) _)
  have HBb := Lib.hid (show Below w.heap.size w wb by rw [hwb]; exact belowa HBa.out _)
  have HSA := Lib.hid (show wa.heap.size = w.heap.size + 1 by rw [hwa]; simp)
  have hca : wa.cell? ⟨w.heap.size, 0, none⟩ = some va := by rw [hwa]; simp [go_sem]
  have HCA := Lib.hid (show wb.cell? ⟨w.heap.size, 0, none⟩ = some va by rw [hwb]; exact keepa _ hca)
  have HCB := Lib.hid (show wb.cell? ⟨w.heap.size + 1, 0, none⟩ = some vs by rw [hwb, ← HSA.out]; simp [go_sem])
  have hz1 := hz0 wb 26
  have HSH := Lib.hid (sharedG 40 #[.pointer (some ⟨w.heap.size, 0, none⟩), .pointer (some ⟨w.heap.size + 1, 0, none⟩)] (fun w => by simp [go_sem]) (kOf (moB l s)) (moX l s) (moY l s) hk2 (wb.alloc (.cells #[.int .i64 0, .int .i64 0] 26)) (fun w2 hb2 => by
    have hb := joins HBb.out (hz1.below.trans (hb2.mono hz1.below.size))
    refine (matchOf1_any va vs l s _ _ w2 (keepc (hz1.below.trans (hb2.mono hz1.below.size)) HCA.out) (keepc (hz1.below.trans (hb2.mono hz1.below.size)) HCB.out) (hva.below hb) (hvs.below hb) hl hls).mono ?_
    rintro e w' ⟨hbb, ⟨h0, v, he, hv⟩ | h⟩
    · refine ⟨hbb, Or.inl ⟨h0, v, he, ?_⟩⟩
      rw [(hk3 h0).1, (hk3 h0).2]
      exact hv
    · exact ⟨hbb, Or.inr h⟩))
  have HZ1 := Lib.hid hz1
  obtain ⟨pa, ca, rfl⟩ := hva.slice
  obtain ⟨ps, cs, rfl⟩ := hvs.slice
  rw [kOf_zero] at HSH
  obtain ⟨X, hX⟩ : ∃ X, X = moX l s := ⟨_, rfl⟩
  obtain ⟨Y, hY⟩ : ∃ X, X = moY l s := ⟨_, rfl⟩
  obtain ⟨B, hB⟩ : ∃ X, X = moB l s := ⟨_, rfl⟩
  rw [← hX, ← hY, ← hB] at HSH ⊢
  obtain ⟨wc, hwc⟩ : ∃ w', w' = wb.alloc (.cells #[.int .i64 0, .int .i64 0] 26) := ⟨_, rfl⟩
  rw [← hwc] at HSH HZ1
  have HSB := Lib.hid (show wb.heap.size = w.heap.size + 2 by rw [hwb]; simp [HSA.out])
  clear hva hvs hz0 hz1 hk2 hk3 hX hY hB hca
  go_enter Try.func13, Try.ntmps13
  go_wp2_with fail
  rw [← hwa, ← hwb, ← hwc, show w.heap.size + 1 + 1 = wb.heap.size by rw [HSB.out]]
  clear hwa hwb hwc
  refine (HSH.out).mono ?_
  rintro e w1 ⟨rfl, hb⟩
  have hz1 := HZ1.out.step hb
  have HR := Lib.hid hz1
  obtain ⟨z1, z2, z3, z4, z5, z6⟩ := hz1
  clear hb
  go_wp2_with fail
  (try simp only [Exit.inBlock, Exit.then])
  obtain ⟨d0, d2, d3⟩ := HR.out.ret (.int .i64 X) (.int .i64 Y)
  refine bodyPost_ret (by simp [results, Try.results13, go_sem, d0, d2]; try rfl) rfl ?_
  exact ⟨rfl, joins HBb.out d3⟩
end Go.Proofs.Ytapmehgdnofgnab
