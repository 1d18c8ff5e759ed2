/- The program's FilterOf, FindDelay. -/
import Derived.Test.YtapmehgdnofgnabISpF
import Derived.Test.YtapmehgdnofgnabISpS
namespace Go.Proofs.Ytapmehgdnofgnab
set_option maxRecDepth 100000
open Go.RowKit

theorem OwnD.grown {w w' : World} {B n cap : Nat} {g : Nat} {C : Nat → Nat × Nat} {row : Option Nat} (h : OwnD w B (.slice (some ⟨g, 0, none⟩) n cap) n C) (hg : w.grownBy w' row) (hne : row ≠ some g) : OwnD w' B (.slice (some ⟨g, 0, none⟩) n cap) n C :=
  World.ownsRow.kept h hg (Or.inr (fun e => hne e.symm))
/-- A list of Gaussian numbers and one of float numbers do not lie in one block. -/
theorem apart_GD {w : World} {B B' n cap : Nat} {v : Value} {L : List (Int × Int)} {g : Nat} {C : Nat → Nat × Nat} (h : OwnG w B v L) (h' : OwnD w B' (.slice (some ⟨g, 0, none⟩) n cap) n C) : v.ownBlock ≠ some g := fun e => by
  rcases h.2 with ⟨h0, _⟩ | ⟨g1, cap1, cur, hv, _, hh, _⟩
  · rw [h0] at e; cases e
  · rw [hv] at e
    have e3 : g1 = g := by simpa [Value.ownBlock] using e
    rcases h'.2 with ⟨h0, _⟩ | ⟨g2, cap2, cur2, hv2, _, hh2, _⟩
    · cases h0
    · injection hv2 with e4 e5 e6
      injection e4 with e4
      injection e4 with e4
      subst e4 e3
      rw [hh] at hh2
      injection hh2 with e7
      injection e7 with _ e8
      exact absurd e8 (by decide)
/-- wpList_pushG, with what else it says of the world. -/
theorem wpList_pushG8 {ops : Array Oper} {rest : List Oper} {o : Oper} {a : Act} {w : World} {Q : Exit → Act → World → Prop} (hg : o.guard = none) (s x : Operand)
    (ho : o.op = .call { callee := .builtin .append, args := #[s, x], argTypes := #[29, 29] }) (B : Nat) (v : Value) (l : List (Int × Int)) (hs : a.eval s = v) (hown : OwnG w B v l)
    (g c : Nat) (y z : Int) (hx : a.eval x = .slice (some ⟨g, 0, none⟩) 1 c) (hc : w.cell? ⟨g, 0, none⟩ = some (.int .i64 y)) (hc1 : w.cell? ⟨g, 1, none⟩ = some (.int .i64 z)) (hlen : l.length ≤ 1048576)
    (S : Nat) (w0 : World) (hb : Below S w0 w) (hS : S ≤ B) (hB : B ≤ w.heap.size) (hSw : S ≤ w.heap.size)
    (hK : ∀ v' w', OwnG w' B v' (l ++ [(y, z)]) → Below S w0 w' → w.grownBy w' v.ownBlock → wpList Try.prog ops Q rest (a.put o.dst v') w') : wpList Try.prog ops Q (o :: rest) a w := by
  obtain ⟨i0, hi, hz0, hz1, hz2⟩ := info_parts infoG
  refine wpList_append_own_at (P := Try.prog) (w := w) hg s x 29 ho B 26 i0 (.agg #[.int .i64 0, .int .i64 0]) 2 16 Try.underlying29 hi hz0 hz1 hz2 rfl (by decide) v l.length (fl l) hs hown ⟨g, 0, none⟩ 1 c [.int .i64 y, .int .i64 z] hx rfl ?_ ?_ ?_ ?_ hB ?_
  · intro j u hj
    match j, hj with
    | 0, hj => simp at hj; subst hj; simpa [Addr.add] using hc
    | 1, hj => simp at hj; subst hj; simpa [Addr.add] using hc1
  · intro u hu; simp at hu; rcases hu with rfl | rfl <;> rfl
  · unfold maxLen; omega
  · omega
  · intro v' w' hown' hgr _ _
    refine hK v' w' ?_ (hb.grown hgr hSw (fun k hk => Nat.le_trans hS (hown.lt k hk).1)) hgr
    unfold OwnG
    rw [List.length_append, fl_append]
    exact hown'
set_option maxRecDepth 100000 in
set_option maxHeartbeats 4000000 in
theorem filterOf1_any (va vs : Value) (l : List (Int × Int)) (s : List Int) (p q : Addr) (w : World) (hp : w.cell? p = some va) (hq : w.cell? q = some vs) (hva : IG w va l) (hvs : IS w vs s) (hl : l.length ≤ 1048576) (hls : s.length ≤ 1048576) :
    Calls Try.prog 69 #[.pointer (some p), .pointer (some q)] w (Tries w (kOf (ftB l s)) (fun B v w => OwnG w B v (ftL l s))) := by
  have hdef : ftB l s = (hdOk l && cdOk s && goodL (ftL l s)) := rfl
  have HHE := Lib.hid (fun w1 (h : IG w1 va l) => heardFrom_any va l w1 h hl)
  have HCO := Lib.hid (fun w1 (h : IS w1 vs s) => codeFrom_any vs s w1 h hls)
  have HR1 := Lib.hid (fun (h : kOf (hdOk l) ≠ 0) => show kOf (ftB l s) ≠ 0 ∧ Ending.panicked [rfs (kOf (hdOk l))] = .panicked [rfs (kOf (ftB l s))] by
    rw [hdef, kOf_ne h, Bool.false_and, Bool.false_and]; exact ⟨by decide, rfl⟩)
  have HR2 := Lib.hid (fun (h : kOf (cdOk s) ≠ 0) => show kOf (ftB l s) ≠ 0 ∧ Ending.panicked [rfs (kOf (cdOk s))] = .panicked [rfs (kOf (ftB l s))] by
    rw [hdef, kOf_ne h, Bool.and_false, Bool.false_and]; exact ⟨by decide, rfl⟩)
  have HML := Lib.hid (fun (hd : hdOk l = true) (hc : cdOk s = true) j (hj : j < ftN l s) => mt_le (l := l) (s := s) (hdOk_good hd) (cdOk_seq hc).1 j (by unfold ftN at hj; have := (cdOk_seq hc).2; omega))
  have HMS := Lib.hid (fun (hd : hdOk l = true) (hc : cdOk s = true) (g B : Nat) (w1 : World) (h : RowC w1 B g l.length (fbC (gre l) (gim l))) => show Calls Try.prog 70 #[.slice (some ⟨g, 0, none⟩) l.length l.length, .agg (phC s)] w1 (fun e w' => ∃ v C, e = .returned v ∧ OwnD w' w1.heap.size v (ftN l s) C ∧ (∀ j, j < ftN l s → FK .f64 (C j).1 (mtX l s j) ∧ FK .f64 (C j).2 (mtY l s j)) ∧ Below w1.heap.size w1 w') from matches_any l s hd hc g B w1 h)
  have HYES := Lib.hid (fun (hd : hdOk l = true) (hc : cdOk s = true) (h : ∀ j, j < ftN l s → good (mtX l s j) (mtY l s j) = true) => show kOf (ftB l s) = 0 by
    rw [hdef, hd, hc, goodL_gen (n := ftN l s) (X := mtX l s) (Y := mtY l s) h |> fun e => (show goodL (ftL l s) = true from e)]; rfl)
  have HNO := Lib.hid (fun (hd : hdOk l = true) (hc : cdOk s = true) j (hj : j < ftN l s) (h : good (mtX l s j) (mtY l s j) = false) => show kOf (ftB l s) = 1 by
    have e : goodL (ftL l s) = false := goodL_false (ftL l s) j (by unfold ftL; rw [genG_length]; exact hj) (by unfold ftL; rw [genG_re _ _ _ _ hj, genG_im _ _ _ _ hj]; exact h)
    rw [hdef, e, Bool.and_false]; rfl)
  have HF65 := Lib.hid (fun (hd : hdOk l = true) => show ftN l s ≤ 65 from by have := hdOk_len hd; unfold ftN; omega)
  have HDE := Lib.hid (fun (v : Value) (g n : Nat) (w' : World) {cap : Nat} {B B' : Nat} {L : List (Int × Int)} {C : Nat → Nat × Nat} (h : OwnG w' B v L) (h' : OwnD w' B' (.slice (some ⟨g, 0, none⟩) n cap) n C) => apart_GD h h')
  unfold ftL
  obtain ⟨CC, hCC⟩ : ∃ C, C = phC s := ⟨_, rfl⟩
  obtain ⟨DD, hDD⟩ : ∃ C, C = fbC (gre l) (gim l) := ⟨_, rfl⟩
  have HHA := Lib.hid (show ∀ B v w, HeardAt l B v w → ∃ g, v = .slice (some ⟨g, 0, none⟩) l.length l.length ∧ RowC w B g l.length DD from fun B v w h => by rw [hDD]; exact h)
  rw [← hDD] at HMS
  obtain ⟨F, hF⟩ : ∃ F, F = ftN l s := ⟨_, rfl⟩
  obtain ⟨X, hX⟩ : ∃ X, X = mtX l s := ⟨_, rfl⟩
  obtain ⟨Y, hY⟩ : ∃ X, X = mtY l s := ⟨_, rfl⟩
  rw [← hF, ← hX, ← hY] at HML HMS HYES HNO ⊢
  rw [← hF] at HF65
  rw [← hCC] at HCO HMS
  clear hF hX hY hCC hDD hdef
  have HVA := Lib.hid hva
  have HVS := Lib.hid hvs
  have CP := Lib.hid hp
  have CQ := Lib.hid hq
  have B0 := Lib.hid (Below.refl w.heap.size w)
  clear hva hvs hp hq
  go_enter Try.func69, Try.ntmps69
  go_wp2_with fail
  refine wp_region_held_drew (S := (fun w' => World.grownBy w w' none)) (by kernel_rfl) (grownDrew (World.grownBy.refl _ _)) ?_
  obtain ⟨d1, hdw⟩ : ∃ w', w' = w.drew := ⟨_, rfl⟩
  rw [← hdw]
  have hb : Below w.heap.size w d1 := by rw [hdw]; exact belowN (Below.refl _ _) 1
  have F1_VA := Lib.hid (HVA.out.below hb)
  have F1_VS := Lib.hid (HVS.out.below hb)
  have F1_B := Lib.hid (joins B0.out hb)
  have F1_LW := Lib.hid (joins B0.out hb)
  clear hdw hb
  intro hHeld
  refine' wpAnyH_take (i := 0) (v := _) rfl (by kernel_rfl) (by kernel_rfl) (by kernel_rfl) (fun _ _ _ h => h) (Or.inl ⟨by rfl, ?hy1⟩) (by assumption) ?rest1
  case hy1 =>
    intro w h
    have c1 := cellR h CP.out (by simp)
    (try clear h)
    go_simp
    (try with_reducible rfl)
  (try simp only [Act.put, List.getElem_toArray, List.getElem_cons_zero, List.setIfInBounds_toArray, List.set_cons_zero, List.set_cons_succ])
  refine' wpAnyH_take (i := 2) (v := _) rfl (by kernel_rfl) (by kernel_rfl) (by kernel_rfl) (fun _ _ _ h => h) (Or.inl ⟨by rfl, ?hy2⟩) (by assumption) ?rest2
  case hy2 =>
    intro w h
    have c1 := cellR h CQ.out (by simp)
    (try clear h)
    go_simp
    (try with_reducible rfl)
  (try simp only [Act.put, List.getElem_toArray, List.getElem_cons_zero, List.getElem_cons_succ, List.setIfInBounds_toArray, List.set_cons_zero, List.set_cons_succ])
  refine' wpAnyH_take (i := 6) (v := _) rfl (by kernel_rfl) (by kernel_rfl) (by kernel_rfl) (fun _ _ _ h => h) (Or.inl ⟨by rfl, ?hy3⟩) (by assumption) ?rest3
  case hy3 =>
    intro w h
    (try clear h)
    go_simp
    (try with_reducible rfl)
  (try simp only [Act.put, List.getElem_toArray, List.getElem_cons_zero, List.getElem_cons_succ, List.setIfInBounds_toArray, List.set_cons_zero, List.set_cons_succ])
  refine wpAnyH_ready (rs := [1]) (by kernel_rfl) (by simp) ?_
  refine AllReadyH.cons rfl (fun K hK => ?_) AllReadyH.nil
  go_simp
  refine (HHE.out _ F1_VA.out).mono ?_
  rintro e d2 ⟨hb, hx⟩
  rcases hx.symm with ⟨hk, rfl⟩ | ⟨hk1, v1, rfl, hha⟩
  · have F2_VA := Lib.hid (F1_VA.out.below hb)
    have F2_VS := Lib.hid (F1_VS.out.below hb)
    have F2_B := Lib.hid (joins F1_B.out hb)
    have F2_LW := Lib.hid (joins F1_LW.out hb)
    exact ⟨rfl, F2_B.out, Or.inr (HR1.out hk)⟩
  have F2_VA := Lib.hid (F1_VA.out.below hb)
  have F2_VS := Lib.hid (F1_VS.out.below hb)
  have F2_B := Lib.hid (joins F1_B.out hb)
  have F2_LW := Lib.hid (joins F1_LW.out hb)
  obtain ⟨gs, rfl, hrow⟩ := HHA.out _ _ _ hha
  have F2_R := Lib.hid (hrow)
  have hHeld := grownB hHeld hb
  clear hb hx
  refine hK.out _ _ hHeld (fun hHeld => ?_)
  clear hK K
  (try simp only [Act.put, List.getElem_toArray, List.getElem_cons_zero, List.getElem_cons_succ, List.setIfInBounds_toArray, List.set_cons_zero, List.set_cons_succ])
  refine wpAnyH_ready (rs := [3]) (by kernel_rfl) (by simp) ?_
  refine AllReadyH.cons rfl (fun K hK => ?_) AllReadyH.nil
  go_simp
  refine (HCO.out _ F2_VS.out).mono ?_
  rintro e d3 ⟨hb, hx⟩
  rcases hx.symm with ⟨hk, rfl⟩ | ⟨hk2, v2, rfl, rfl⟩
  · have F3_VA := Lib.hid (F2_VA.out.below hb)
    have F3_VS := Lib.hid (F2_VS.out.below hb)
    have F3_B := Lib.hid (joins F2_B.out hb)
    have F3_LW := Lib.hid (joins F2_LW.out hb)
    have F3_R := Lib.hid (F2_R.out.below hb)
    exact ⟨rfl, F3_B.out, Or.inr (HR2.out hk)⟩
  have F3_VA := Lib.hid (F2_VA.out.below hb)
  have F3_VS := Lib.hid (F2_VS.out.below hb)
  have F3_B := Lib.hid (joins F2_B.out hb)
  have F3_LW := Lib.hid (joins F2_LW.out hb)
  have F3_R := Lib.hid (F2_R.out.below hb)
  have hHeld := grownB hHeld hb
  clear hb hx
  refine hK.out _ _ hHeld (fun hHeld => ?_)
  clear hK K
  (try simp only [Act.put, List.getElem_toArray, List.getElem_cons_zero, List.getElem_cons_succ, List.setIfInBounds_toArray, List.set_cons_zero, List.set_cons_succ])
  refine wpAnyH_ready (rs := [4]) (by kernel_rfl) (by simp) ?_
  refine AllReadyH.cons rfl (fun K hK => ?_) AllReadyH.nil
  go_simp
  refine (HMS.out (kOf_eq hk1) (kOf_eq hk2) _ _ _ F3_R.out).mono ?_
  rintro e d4 ⟨vm, C, rfl, hod, hfk, hb⟩
  have F4_VA := Lib.hid (F3_VA.out.below hb)
  have F4_VS := Lib.hid (F3_VS.out.below hb)
  have F4_B := Lib.hid (joins F3_B.out hb)
  have F4_LW := Lib.hid (joins F3_LW.out hb)
  have F4_R := Lib.hid (F3_R.out.below hb)
  obtain ⟨am, cm, rfl⟩ := hod.shape
  have HFK := Lib.hid hfk
  have h1_ := Lib.hid (kOf_eq hk1)
  have h2_ := Lib.hid (kOf_eq hk2)
  have F4_OD := Lib.hid (OwnD.mono hod (F3_B.out.size))
  have hHeld := grownB hHeld hb
  clear hb
  refine hK.out _ _ hHeld (fun hHeld => ?_)
  clear hK K
  (try simp only [Act.put, List.getElem_toArray, List.getElem_cons_zero, List.getElem_cons_succ, List.setIfInBounds_toArray, List.set_cons_zero, List.set_cons_succ])
  refine' wpAnyH_take (i := 5) (v := _) rfl (by kernel_rfl) (by kernel_rfl) (by kernel_rfl) (fun _ _ _ h => h) (Or.inl ⟨by rfl, ?hy4⟩) (by assumption) ?rest4
  case hy4 =>
    intro w h
    (try clear h)
    go_simp
    (try with_reducible rfl)
  (try simp only [Act.put, List.getElem_toArray, List.getElem_cons_zero, List.getElem_cons_succ, List.setIfInBounds_toArray, List.set_cons_zero, List.set_cons_succ])
  refine wpAnyH_done (by kernel_rfl) ?_ _
  have HBT := Lib.hid F4_B.out
  have HOT := Lib.hid F4_OD.out
  obtain ⟨wt, hwt⟩ : ∃ w', w' = d4 := ⟨_, rfl⟩
  rw [← hwt] at HBT HOT ⊢
  clear hwt hHeld
  have hf65 := HF65.out h1_.out
  go_wp2_with fail
  go_loopw [12, 3] (fun i o wr => ∃ k : Nat, k ≤ F ∧ i = .int .i64 k ∧ OwnG wr w.heap.size o (genG k X Y) ∧ OwnD wr w.heap.size (.slice am F cm) F C ∧ Below w.heap.size w wr ∧ ∀ j, j < k → good (X j) (Y j) = true) (fun i _ _ => F - (intOf i).toNat)
  case atStart => exact ⟨0, Nat.zero_le _, rfl, OwnG.nil _ _, HOT.out, HBT.out, fun j hj => absurd hj (Nat.not_lt_zero _)⟩
  case round =>
    obtain ⟨k, hk, rfl, ho, hd, hbel, hgd⟩ := hrel
    have HO := Lib.hid ho
    have HD := Lib.hid hd
    have HB := Lib.hid hbel
    have HG := Lib.hid hgd
    clear ho hbel hgd
    by_cases hlt : k < F
    · have h0 : (0 : Int) ≤ (k : Int) := by omega
      have h1 : (k : Int) < (F : Int) := by omega
      obtain ⟨gm, rfl, c1⟩ := hd.cell k hlt
      have hfk := HFK.out k hlt
      have hml := HML.out h1_.out h2_.out k hlt
      have hgs := genG_succ k X Y
      have hno := HNO.out h1_.out h2_.out k hlt
      obtain ⟨x, hx⟩ : ∃ x, x = X k := ⟨_, rfl⟩
      obtain ⟨y, hy⟩ : ∃ x, x = Y k := ⟨_, rfl⟩
      obtain ⟨b1, hb1⟩ : ∃ x, x = (C k).1 := ⟨_, rfl⟩
      obtain ⟨b2, hb2⟩ : ∃ x, x = (C k).2 := ⟨_, rfl⟩
      rw [← hb1, ← hb2] at c1 hfk
      rw [← hx, ← hy] at hfk hml hgs hno
      have HGM := Lib.hid (gaussOfMatch_any hfk.1 hfk.2 hml.1 hml.2)
      have HGS := Lib.hid hgs
      have HNX := Lib.hid (fun (h : good x y = true) => show ∀ j, j < k + 1 → good (X j) (Y j) = true from fun j hj => by
        rcases Nat.lt_succ_iff_lt_or_eq.1 hj with h2 | h2
        · exact HG.out j h2
        · rw [h2, ← hx, ← hy]; exact h)
      have HNO1 := Lib.hid hno
      have HGL := Lib.hid (show (genG k X Y).length ≤ 1048576 by rw [genG_length]; have := HF65.out h1_.out; omega)
      clear hfk hml hgs hx hy hb1 hb2 hno hd
      go_wp2_with fail
      refine (HGM.out _).mono ?_
      rintro e w5 ⟨hb, ⟨hk0, v, rfl, rfl⟩ | ⟨hk0, rfl⟩⟩
      · have HB5 := Lib.hid (joins HB.out hb)
        have HO5 := Lib.hid (HO.out.below hb)
        have HD5 := Lib.hid (HD.out.below hb)
        have HGX := Lib.hid (HNX.out (kOf_eq hk0))
        have HNE := Lib.hid (show u3.ownBlock ≠ some gm from fun e => HDE.out _ _ _ _ HO5.out HD5.out e)
        clear hb hk0 c1
        go_wp2_with (at_builtin; refine wpList_pushG8 rfl _ _ rfl w.heap.size _ (genG k X Y) rfl (HO5.out.alloc _) w5.heap.size 1 x y rfl (by simp) (by simp) HGL.out w.heap.size w (HB5.out.alloc HB5.out.size _) (Nat.le_refl _) (by have := HB5.out.size; simp; omega) (by have := HB5.out.size; simp; omega) ?_; intro v3 w3 ho3 hb3 hg3; have HO3 := Lib.hid ho3; have HB3 := Lib.hid hb3; have HD3 := Lib.hid (OwnD.grown (HD5.out.alloc _) hg3 HNE.out); clear ho3 hb3 hg3)
        go_roundw
        case rel => exact ⟨k + 1, by omega, by go_num, by rw [HGS.out]; exact HO3.out, HD3.out, HB3.out, HGX.out⟩
        case measure => simp [intOf]; omega
      · have hK := HNO1.out (kOf_ne hk0)
        exact ⟨rfl, joins HB.out hb, Or.inr ⟨by rw [hK]; decide, by rw [hK, kOf_ne hk0]; rfl⟩⟩
    · obtain rfl : k = F := by omega
      have hK := HYES.out h1_.out h2_.out HG.out
      go_wp2_with fail
      go_returns
      exact ⟨HB.out, Or.inl ⟨hK, _, rfl, HO.out⟩⟩
set_option maxRecDepth 100000 in
set_option maxHeartbeats 2000000 in
theorem iFilterOf (va : Value) (l : List (Int × Int)) (vs : Value) (s : List Int) (w : World) (h_va : IG w va l) (h_vs : IS w vs s) (b_va : l.length ≤ 1048576) (b_vs : s.length ≤ 1048576) :
    Calls Try.prog 32 #[va, vs] w (MakesGB w (ftF l s) (ftB l s)) := by
  have hmf : ∀ (fn : Fn) (first cap : Array Value) (w : World), (Instr.makeFunc fn first cap).run Try.prog w = .ok (.func fn first cap) w := fun _ _ _ _ => rfl
  have hk0 : kOf (ftB l s) = 0 → ftF l s = ftL l s := fun h => by unfold ftF; rw [kOf_eq h]; rfl
  have hk1 : kOf (ftB l s) ≠ 0 → ftF l s = [] := fun h => by unfold ftF; rw [kOf_ne h]; rfl
  obtain ⟨wb0, hwb0⟩ : ∃ w', w' = w.alloc (.cells #[va] 29) := ⟨_, rfl⟩
  obtain ⟨wb1, hwb1⟩ : ∃ w', w' = wb0.alloc (.cells #[vs] 23) := ⟨_, rfl⟩
  have HB0 := Lib.hid (show Below w.heap.size w wb0 by rw [hwb0]; exact belowa (Below.refl _ _) _)
  have HS0 := Lib.hid (show wb0.heap.size = w.heap.size + 1 by rw [hwb0]; simp)
  have hc0_0 : wb0.cell? ⟨w.heap.size, 0, none⟩ = some (va) := by rw [hwb0]; simp [go_sem]
  have hc0_0_1 : wb1.cell? ⟨w.heap.size, 0, none⟩ = some (va) := by rw [hwb1]; exact keepa _ hc0_0
  have HC0_0 := Lib.hid hc0_0_1
  have HB1 := Lib.hid (show Below w.heap.size w wb1 by rw [hwb1]; exact belowa HB0.out _)
  have HS1 := Lib.hid (show wb1.heap.size = w.heap.size + 2 by rw [hwb1]; simp [HS0.out])
  have hc1_0 : wb1.cell? ⟨w.heap.size + 1, 0, none⟩ = some (vs) := by rw [hwb1, ← HS0.out]; simp [go_sem]
  have HC1_0 := Lib.hid hc1_0
  have HSH := Lib.hid (sharedQ 69 #[.pointer (some ⟨w.heap.size, 0, none⟩), .pointer (some ⟨w.heap.size + 1, 0, none⟩)] (fun w => by simp [go_sem]) (kOf (ftB l s)) _ (lasts_gauss (ftL l s)) wb1 (fun w2 hb2 => filterOf1_any va vs l s _ _ w2 (keepc hb2 HC0_0.out) (keepc hb2 HC1_0.out) (h_va.below (joins HB1.out hb2)) (h_vs.below (joins HB1.out hb2)) b_va b_vs))
  have HK0 := Lib.hid hk0
  have HK1 := Lib.hid hk1
  obtain ⟨pa0, ca0, rfl⟩ := h_va.slice
  obtain ⟨pa1, ca1, rfl⟩ := h_vs.slice
  obtain ⟨LL, hLL⟩ : ∃ L, L = ftL l s := ⟨_, rfl⟩
  obtain ⟨FF, hFF⟩ : ∃ L, L = ftF l s := ⟨_, rfl⟩
  obtain ⟨BB, hBB⟩ : ∃ L, L = ftB l s := ⟨_, rfl⟩
  rw [← hBB] at HSH HK0 HK1
  rw [← hLL] at HSH HK0
  rw [← hFF] at HK0 HK1
  rw [← hFF, ← hBB]
  clear hk0 hk1 hLL hFF hBB h_va h_vs hc0_0 hc1_0
  go_enter Try.func32, Try.ntmps32
  go_wp2_with fail
  rw [← hwb0, ← hwb1]
  clear hwb0 hwb1
  refine (HSH.out).mono ?_
  rintro e w1 ⟨hb, v, rfl, h⟩
  have HB := Lib.hid (joins HB1.out hb)
  have HH := Lib.hid (show OwnG w1 w.heap.size v FF from by
    rcases h with ⟨hk, h⟩ | ⟨hk, rfl⟩
    · rw [HK0.out hk]; exact OwnG.mono h (by rw [HS1.out]; omega)
    · rw [HK1.out hk]; exact OwnG.nil _ _)
  rw [kOf_zero]
  clear h hb
  go_wp2_with fail
  go_returns
  exact ⟨_, rfl, HH.out, HB.out⟩
set_option maxRecDepth 100000 in
set_option maxHeartbeats 8000000 in
theorem findDelay1_any (va vs : Value) (l : List (Int × Int)) (s : List Int) (p q : Addr) (w : World) (hp : w.cell? p = some va) (hq : w.cell? q = some vs) (hva : IG w va l) (hvs : IS w vs s) (hl : l.length ≤ 1048576) (hls : s.length ≤ 1048576) :
    Calls Try.prog 73 #[.pointer (some p), .pointer (some q)] w (Tries w (kOf (fdB l s)) (fun _ v _ => v = .int .i64 (fdV l s))) := by
  have hdef : fdB l s = (hdOk l && cdOk s && decide (s.length ≤ l.length)) := rfl
  have HHE := Lib.hid (fun w1 (h : IG w1 va l) => heardFrom_any va l w1 h hl)
  have HCO := Lib.hid (fun w1 (h : IS w1 vs s) => codeFrom_any vs s w1 h hls)
  have HR1 := Lib.hid (fun (h : kOf (hdOk l) ≠ 0) => show kOf (fdB l s) ≠ 0 ∧ Ending.panicked [rfs (kOf (hdOk l))] = .panicked [rfs (kOf (fdB l s))] by
    rw [hdef, kOf_ne h, Bool.false_and, Bool.false_and]; exact ⟨by decide, rfl⟩)
  have HR2 := Lib.hid (fun (h : kOf (cdOk s) ≠ 0) => show kOf (fdB l s) ≠ 0 ∧ Ending.panicked [rfs (kOf (cdOk s))] = .panicked [rfs (kOf (fdB l s))] by
    rw [hdef, kOf_ne h, Bool.and_false, Bool.false_and]; exact ⟨by decide, rfl⟩)
  have HML := Lib.hid (fun (hd : hdOk l = true) (hc : cdOk s = true) j (hj : j < ftN l s) => mt_le (l := l) (s := s) (hdOk_good hd) (cdOk_seq hc).1 j (by unfold ftN at hj; have := (cdOk_seq hc).2; omega))
  have HMS := Lib.hid (fun (hd : hdOk l = true) (hc : cdOk s = true) (g B : Nat) (w1 : World) (h : RowC w1 B g l.length (fbC (gre l) (gim l))) => show Calls Try.prog 70 #[.slice (some ⟨g, 0, none⟩) l.length l.length, .agg (phC s)] w1 (fun e w' => ∃ v C, e = .returned v ∧ OwnD w' w1.heap.size v (ftN l s) C ∧ (∀ j, j < ftN l s → FK .f64 (C j).1 (mtX l s j) ∧ FK .f64 (C j).2 (mtY l s j)) ∧ Below w1.heap.size w1 w') from matches_any l s hd hc g B w1 h)
  have HF65 := Lib.hid (fun (hd : hdOk l = true) => show ftN l s ≤ 65 from by have := hdOk_len hd; unfold ftN; omega)
  have HKK := Lib.hid (fun (hd : hdOk l = true) (hc : cdOk s = true) => And.intro
    (fun (h : s.length ≤ l.length) => show kOf (fdB l s) = 0 by rw [hdef, hd, hc, decide_eq_true h]; rfl)
    (fun (h : ¬ s.length ≤ l.length) => show kOf (fdB l s) = 1 by rw [hdef, decide_eq_false h, Bool.and_false]; rfl))
  have HLC := Lib.hid (fun (hc : cdOk s = true) => show (phC s)[32]? = some (.int .i64 s.length) from by
    have := phC_len s
    rwa [show sqz s = s by unfold sqz; rw [(cdOk_seq hc).1]; rfl] at this)
  have SC := Lib.hid (phC_size s)
  have OC := Lib.hid (phC_one s)
  have IC := Lib.hid (infoPhC8 s)
  have SZ := Lib.hid (phA_size z32 0 z32_length)
  have ZZ := Lib.hid zeroPh
  obtain ⟨ZR, hZ⟩ : ∃ Z, Z = phA z32 0 := ⟨_, rfl⟩
  rw [← hZ] at SZ ZZ
  have HGN := Lib.hid (fun j => show nmM l s j = norm (mtX l s j) (mtY l s j) from rfl)
  unfold fdV
  obtain ⟨CC, hCC⟩ : ∃ C, C = phC s := ⟨_, rfl⟩
  obtain ⟨DD, hDD⟩ : ∃ C, C = fbC (gre l) (gim l) := ⟨_, rfl⟩
  have HHA := Lib.hid (show ∀ B v w, HeardAt l B v w → ∃ g, v = .slice (some ⟨g, 0, none⟩) l.length l.length ∧ RowC w B g l.length DD from fun B v w h => by rw [hDD]; exact h)
  rw [← hDD] at HMS
  obtain ⟨F, hF⟩ : ∃ F, F = ftN l s := ⟨_, rfl⟩
  obtain ⟨X, hX⟩ : ∃ X, X = mtX l s := ⟨_, rfl⟩
  obtain ⟨Y, hY⟩ : ∃ X, X = mtY l s := ⟨_, rfl⟩
  obtain ⟨G, hG⟩ : ∃ G, G = nmM l s := ⟨_, rfl⟩
  have HBN := Lib.hid (fun k => show bestI G (k + 1) = (if G k > G (bestI G k) then k else bestI G k) from rfl)
  rw [← hG, ← hX, ← hY] at HGN
  rw [← hX, ← hY, ← hF] at HML HMS
  rw [← hG, ← hF]
  rw [← hF] at HF65
  rw [← hCC] at HCO HMS HLC SC OC IC
  obtain ⟨N, hN⟩ : ∃ n, n = l.length := ⟨_, rfl⟩
  obtain ⟨M, hM⟩ : ∃ n, n = s.length := ⟨_, rfl⟩
  rw [← hN] at HKK HHA HMS
  rw [← hM] at HKK HLC
  clear hF hX hY hCC hDD hdef hZ hG hN hM
  have HVA := Lib.hid hva
  have HVS := Lib.hid hvs
  have CP := Lib.hid hp
  have CQ := Lib.hid hq
  have B0 := Lib.hid (Below.refl w.heap.size w)
  clear hva hvs hp hq
  go_enter Try.func73, Try.ntmps73
  go_wp2_with fail
  refine wp_region_held_drew (S := (fun w' => World.grownBy w w' none)) (by kernel_rfl) (grownDrew (World.grownBy.refl _ _)) ?_
  obtain ⟨d1, hdw⟩ : ∃ w', w' = w.drew := ⟨_, rfl⟩
  rw [← hdw]
  have hb : Below w.heap.size w d1 := by rw [hdw]; exact belowN (Below.refl _ _) 1
  have F1_VA := Lib.hid (HVA.out.below hb)
  have F1_VS := Lib.hid (HVS.out.below hb)
  have F1_B := Lib.hid (joins B0.out hb)
  clear hdw hb
  intro hHeld
  refine' wpAnyH_take (i := 0) (v := _) rfl (by kernel_rfl) (by kernel_rfl) (by kernel_rfl) (fun _ _ _ h => h) (Or.inl ⟨by rfl, ?hy1⟩) (by assumption) ?rest1
  case hy1 =>
    intro w h
    have c1 := cellR h CP.out (by simp)
    (try clear h)
    go_simp
    (try with_reducible rfl)
  (try simp only [Act.put, List.getElem_toArray, List.getElem_cons_zero, List.setIfInBounds_toArray, List.set_cons_zero, List.set_cons_succ])
  refine' wpAnyH_take (i := 2) (v := _) rfl (by kernel_rfl) (by kernel_rfl) (by kernel_rfl) (fun _ _ _ h => h) (Or.inl ⟨by rfl, ?hy2⟩) (by assumption) ?rest2
  case hy2 =>
    intro w h
    have c1 := cellR h CQ.out (by simp)
    (try clear h)
    go_simp
    (try with_reducible rfl)
  (try simp only [Act.put, List.getElem_toArray, List.getElem_cons_zero, List.getElem_cons_succ, List.setIfInBounds_toArray, List.set_cons_zero, List.set_cons_succ])
  refine wpAnyH_ready (rs := [1, 4]) (by kernel_rfl) (by simp) ?_
  refine AllReadyH.cons rfl (fun K hK => ?_) (AllReadyH.cons rfl (fun K hK => ?_) AllReadyH.nil)
  · go_simp
    refine (HHE.out _ F1_VA.out).mono ?_
    rintro e d2 ⟨hb, hx⟩
    rcases hx.symm with ⟨hk, rfl⟩ | ⟨hk1, v1, rfl, hha⟩
    · have F2_VA := Lib.hid (F1_VA.out.below hb)
      have F2_VS := Lib.hid (F1_VS.out.below hb)
      have F2_B := Lib.hid (joins F1_B.out hb)
      exact ⟨rfl, F2_B.out, Or.inr (HR1.out hk)⟩
    have F2_VA := Lib.hid (F1_VA.out.below hb)
    have F2_VS := Lib.hid (F1_VS.out.below hb)
    have F2_B := Lib.hid (joins F1_B.out hb)
    obtain ⟨gs, rfl, hrow⟩ := HHA.out _ _ _ hha
    have F2_R := Lib.hid (hrow)
    have hHeld := grownB hHeld hb
    clear hb hx
    refine hK.out _ _ hHeld (fun hHeld => ?_)
    clear hK K
    (try simp only [Act.put, List.getElem_toArray, List.getElem_cons_zero, List.getElem_cons_succ, List.setIfInBounds_toArray, List.set_cons_zero, List.set_cons_succ])
    refine wpAnyH_ready (rs := [3, 4]) (by kernel_rfl) (by simp) ?_
    refine AllReadyH.cons rfl (fun K hK => ?_) (AllReadyH.cons rfl (fun K hK => ?_) AllReadyH.nil)
    · go_simp
      refine (HCO.out _ F2_VS.out).mono ?_
      rintro e d3 ⟨hb, hx⟩
      rcases hx.symm with ⟨hk, rfl⟩ | ⟨hk2, v2, rfl, rfl⟩
      · have F3_VA := Lib.hid (F2_VA.out.below hb)
        have F3_VS := Lib.hid (F2_VS.out.below hb)
        have F3_B := Lib.hid (joins F2_B.out hb)
        have F3_R := Lib.hid (F2_R.out.below hb)
        exact ⟨rfl, F3_B.out, Or.inr (HR2.out hk)⟩
      have F3_VA := Lib.hid (F2_VA.out.below hb)
      have F3_VS := Lib.hid (F2_VS.out.below hb)
      have F3_B := Lib.hid (joins F2_B.out hb)
      have F3_R := Lib.hid (F2_R.out.below hb)
      have hHeld := grownB hHeld hb
      clear hb hx
      refine hK.out _ _ hHeld (fun hHeld => ?_)
      clear hK K
      (try simp only [Act.put, List.getElem_toArray, List.getElem_cons_zero, List.getElem_cons_succ, List.setIfInBounds_toArray, List.set_cons_zero, List.set_cons_succ])
      refine wpAnyH_ready (rs := [4]) (by kernel_rfl) (by simp) ?_
      refine AllReadyH.cons rfl (fun K hK => ?_) AllReadyH.nil
      have hzz := ZZ.out
      go_simp
      obtain ⟨d4, hdw⟩ : ∃ w', w' = d3.alloc (.cells ZR 64) := ⟨_, rfl⟩
      rw [← hdw]
      have hb : Below d3.heap.size d3 d4 := by rw [hdw]; exact belowa (Below.refl _ _) _
      obtain ⟨tb, htb⟩ : ∃ g, g = d3.heap.size := ⟨_, rfl⟩
      rw [← htb]
      have F4_VA := Lib.hid (F3_VA.out.below hb)
      have F4_VS := Lib.hid (F3_VS.out.below hb)
      have F4_B := Lib.hid (joins F3_B.out hb)
      have F4_R := Lib.hid (F3_R.out.below hb)
      have F4_T := Lib.hid (show d4.heap[tb]? = some (.cells ZR 64 (0, 0)) from by rw [hdw, htb]; exact heap_alloc_new _ _)
      have Ltb := Lib.hid (show w.heap.size ≤ tb from by rw [htb]; exact hHeld.size)
      have hHeld := grownB hHeld hb
      clear hzz hdw hb htb
      refine hK.out _ _ hHeld (fun hHeld => ?_)
      clear hK K
      (try simp only [Act.put, List.getElem_toArray, List.getElem_cons_zero, List.getElem_cons_succ, List.setIfInBounds_toArray, List.set_cons_zero, List.set_cons_succ])
      refine' wpAnyH_take (i := 5) (v := _) rfl (by kernel_rfl) (by kernel_rfl) (by kernel_rfl) (fun _ _ _ h => h) (Or.inl ⟨by rfl, ?hy3⟩) (by assumption) ?rest3
      case hy3 =>
        intro w h
        (try clear h)
        go_simp
        (try with_reducible rfl)
      (try simp only [Act.put, List.getElem_toArray, List.getElem_cons_zero, List.getElem_cons_succ, List.setIfInBounds_toArray, List.set_cons_zero, List.set_cons_succ])
      refine wpAnyH_ready (rs := [6]) (by kernel_rfl) (by simp) ?_
      refine AllReadyH.cons rfl (fun K hK => ?_) AllReadyH.nil
      rw [if_pos (by rfl)]
      refine wp_put_row 64 (.tmp 4) (.tmp 13) rfl (tb) CC rfl rfl 64 ZR F4_T.out 33 infoPh SC.out SZ.out OC.out w.heap.size w F4_B.out (Nat.le_trans B0.out.size Ltb.out) ?_
      intro d5 hr hs hb
      have F5_R := Lib.hid (RowC.setAt F4_R.out hs (RowC.ne_row F4_R.out F4_T.out (by decide)))
      have F5_T := Lib.hid hr
      have F5_B := Lib.hid hb
      have hHeld := grownPut hHeld hs hb F4_B.out Ltb.out
      clear hr hs hb
      refine hK.out _ _ hHeld (fun hHeld => ?_)
      clear hK K
      (try simp only [Act.put])
      refine wpAnyH_done (by kernel_rfl) ?_ _
      have h1_ := Lib.hid (kOf_eq hk1)
      have h2_ := Lib.hid (kOf_eq hk2)
      have c32 := rowC F5_T.out (HLC.out h2_.out)
      have HBT := Lib.hid F5_B.out
      have HRT := Lib.hid F5_R.out
      have HTT := Lib.hid F5_T.out
      obtain ⟨wt, hwt⟩ : ∃ w', w' = d5 := ⟨_, rfl⟩
      rw [← hwt] at HBT HRT HTT c32 ⊢
      clear hwt hHeld hk1 hk2
      by_cases hln : M ≤ N
      · have hK := Lib.hid ((HKK.out h1_.out h2_.out).1 hln)
        have hli : (M : Int) ≤ (N : Int) := by omega
        go_wp2_with fail
        (try rw [show (decide ((M : Int) ≤ (N : Int))) = true from decide_eq_true hli])
        refine (require_yes _).mono ?_
        rintro e w' ⟨rfl, rfl⟩
        go_wp2_with ((with_reducible refine at_op (Op.load 64 (.tmp 4)) ?_); refine wpList_load_row rfl 64 (.tmp 4) rfl tb rfl 64 CC (0, 0) _ HTT.out Try.underlying64 rfl IC.out ?_)
        refine (HMS.out h1_.out h2_.out gs _ _ HRT.out).mono ?_
        rintro e wm ⟨vm, C, rfl, hod, hfk, hb⟩
        have HBm := Lib.hid (joins HBT.out hb)
        obtain ⟨am, cm, rfl⟩ := hod.shape
        have HOD := Lib.hid hod
        have HFK := Lib.hid hfk
        have hf65 := HF65.out h1_.out
        clear hod hfk hb c32
        go_wp2_with fail
        go_loopw [24, 5, 6] (fun i b m wr => ∃ k : Nat, k ≤ F ∧ i = .int .i64 k ∧ b = .int .i64 (bestI G k : Nat) ∧ m = .int .i64 (if k = 0 then 0 else G (bestI G k)) ∧ wr = wm) (fun i _ _ _ => F - (intOf i).toNat)
        case atStart => exact ⟨0, Nat.zero_le _, rfl, rfl, rfl, rfl⟩
        case round =>
          obtain ⟨k, hk, rfl, rfl, rfl, rfl⟩ := hrel
          by_cases hlt : k < F
          · have h0 : (0 : Int) ≤ (k : Int) := by omega
            have h1 : (k : Int) < (F : Int) := by omega
            obtain ⟨gm, hgm, c1⟩ := HOD.out.cell k hlt
            subst hgm
            have hfk := HFK.out k hlt
            have hml := HML.out h1_.out h2_.out k hlt
            have hgk := HGN.out k
            have hbn := HBN.out k
            obtain ⟨b1, hb1⟩ : ∃ x, x = (C k).1 := ⟨_, rfl⟩
            obtain ⟨b2, hb2⟩ : ∃ x, x = (C k).2 := ⟨_, rfl⟩
            rw [← hb1, ← hb2] at c1 hfk
            have hnn := (norm32 hml.1 hml.2).1
            have HNM := Lib.hid (normOfMatch_any hfk.1 hfk.2 hml.1 hml.2)
            rw [← hgk] at HNM hnn
            obtain ⟨z, hz⟩ : ∃ x, x = G k := ⟨_, rfl⟩
            have HZ := Lib.hid hz
            rw [← hz] at HNM hnn hbn
            obtain ⟨b, hb⟩ : ∃ b, b = bestI G k := ⟨_, rfl⟩
            have HBB := Lib.hid hb
            rw [← hb] at hbn ⊢
            obtain ⟨q, hq⟩ : ∃ q, q = (if k = 0 then (0 : Int) else G b) := ⟨_, rfl⟩
            rw [← hq]
            have HQ := Lib.hid hq
            have HNN := Lib.hid hnn
            have HBS := Lib.hid hbn
            clear hfk hml hgk hbn hb1 hb2 hnn hz hb hq
            by_cases hgt : q < z
            · have hcmp : z > q := hgt
              have HNX := Lib.hid (show bestI G (k + 1) = k from by
                rw [HBS.out]
                by_cases hk0 : k = 0
                · have hbz : b = 0 := by rw [HBB.out, hk0]; rfl
                  split
                  · rfl
                  · rw [hbz, hk0]
                · rw [HQ.out, if_neg hk0] at hgt
                  rw [if_pos hgt])
              go_wp2_with fail
              refine (HNM.out _).mono ?_
              rintro e w2 ⟨rfl, rfl⟩
              go_wp2_with fail
              go_roundw
              case rel => exact ⟨k + 1, by omega, by go_num, by rw [HNX.out], by rw [if_neg (Nat.succ_ne_zero k), HNX.out, ← HZ.out], trivial⟩
              case measure => simp [intOf]; omega
            · have hcmp : ¬ z > q := hgt
              have HNX := Lib.hid (show bestI G (k + 1) = b ∧ q = G b from by
                rw [HBS.out]
                by_cases hk0 : k = 0
                · have hbz : b = 0 := by rw [HBB.out, hk0]; rfl
                  have hq0 : q = 0 := by rw [HQ.out, if_pos hk0]
                  have hz0 : z = 0 := by have := HNN.out; omega
                  have hGb : G b = 0 := by rw [hbz, ← hk0, ← HZ.out, hz0]
                  refine ⟨?_, by rw [hq0, hGb]⟩
                  rw [if_neg (by rw [hGb, hz0]; omega)]
                · have hqb := HQ.out
                  rw [if_neg hk0] at hqb
                  rw [hqb] at hgt
                  exact ⟨by rw [if_neg hgt], hqb⟩)
              go_wp2_with fail
              refine (HNM.out _).mono ?_
              rintro e w2 ⟨rfl, rfl⟩
              go_wp2_with fail
              go_roundw
              case rel => exact ⟨k + 1, by omega, by go_num, by rw [HNX.out.1], by rw [if_neg (Nat.succ_ne_zero k), HNX.out.1, HNX.out.2], trivial⟩
              case measure => simp [intOf]; omega
          · obtain rfl : k = F := by omega
            obtain ⟨q, hq⟩ : ∃ q, q = (if k = 0 then (0 : Int) else G (bestI G k)) := ⟨_, rfl⟩
            rw [← hq]
            clear hq
            go_wp2_with fail
            go_returns
            exact ⟨HBm.out, Or.inl ⟨hK.out, _, rfl, rfl⟩⟩
      · have hK := Lib.hid ((HKK.out h1_.out h2_.out).2 hln)
        have hli : ¬ (M : Int) ≤ (N : Int) := by omega
        clear hln
        go_wp2_with fail
        (try rw [show (decide ((M : Int) ≤ (N : Int))) = false from decide_eq_false hli])
        refine (require_no _).mono ?_
        rintro e w' ⟨rfl, rfl⟩
        exact ⟨rfl, HBT.out, Or.inr ⟨by rw [hK.out]; decide, by rw [hK.out]⟩⟩
    · have hzz := ZZ.out
      go_simp
      obtain ⟨d3, hdw⟩ : ∃ w', w' = d2.alloc (.cells ZR 64) := ⟨_, rfl⟩
      rw [← hdw]
      have hb : Below d2.heap.size d2 d3 := by rw [hdw]; exact belowa (Below.refl _ _) _
      obtain ⟨tb, htb⟩ : ∃ g, g = d2.heap.size := ⟨_, rfl⟩
      rw [← htb]
      have F3_VA := Lib.hid (F2_VA.out.below hb)
      have F3_VS := Lib.hid (F2_VS.out.below hb)
      have F3_B := Lib.hid (joins F2_B.out hb)
      have F3_R := Lib.hid (F2_R.out.below hb)
      have F3_T := Lib.hid (show d3.heap[tb]? = some (.cells ZR 64 (0, 0)) from by rw [hdw, htb]; exact heap_alloc_new _ _)
      have Ltb := Lib.hid (show w.heap.size ≤ tb from by rw [htb]; exact hHeld.size)
      have hHeld := grownB hHeld hb
      clear hzz hdw hb htb
      refine hK.out _ _ hHeld (fun hHeld => ?_)
      clear hK K
      (try simp only [Act.put, List.getElem_toArray, List.getElem_cons_zero, List.getElem_cons_succ, List.setIfInBounds_toArray, List.set_cons_zero, List.set_cons_succ])
      refine wpAnyH_ready (rs := [3]) (by kernel_rfl) (by simp) ?_
      refine AllReadyH.cons rfl (fun K hK => ?_) AllReadyH.nil
      go_simp
      refine (HCO.out _ F3_VS.out).mono ?_
      rintro e d4 ⟨hb, hx⟩
      rcases hx.symm with ⟨hk, rfl⟩ | ⟨hk2, v2, rfl, rfl⟩
      · have F4_VA := Lib.hid (F3_VA.out.below hb)
        have F4_VS := Lib.hid (F3_VS.out.below hb)
        have F4_B := Lib.hid (joins F3_B.out hb)
        have F4_R := Lib.hid (F3_R.out.below hb)
        have F4_T := Lib.hid (rowB F3_T.out hb)
        exact ⟨rfl, F4_B.out, Or.inr (HR2.out hk)⟩
      have F4_VA := Lib.hid (F3_VA.out.below hb)
      have F4_VS := Lib.hid (F3_VS.out.below hb)
      have F4_B := Lib.hid (joins F3_B.out hb)
      have F4_R := Lib.hid (F3_R.out.below hb)
      have F4_T := Lib.hid (rowB F3_T.out hb)
      have hHeld := grownB hHeld hb
      clear hb hx
      refine hK.out _ _ hHeld (fun hHeld => ?_)
      clear hK K
      (try simp only [Act.put, List.getElem_toArray, List.getElem_cons_zero, List.getElem_cons_succ, List.setIfInBounds_toArray, List.set_cons_zero, List.set_cons_succ])
      refine' wpAnyH_take (i := 5) (v := _) rfl (by kernel_rfl) (by kernel_rfl) (by kernel_rfl) (fun _ _ _ h => h) (Or.inl ⟨by rfl, ?hy104⟩) (by assumption) ?rest104
      case hy104 =>
        intro w h
        (try clear h)
        go_simp
        (try with_reducible rfl)
      (try simp only [Act.put, List.getElem_toArray, List.getElem_cons_zero, List.getElem_cons_succ, List.setIfInBounds_toArray, List.set_cons_zero, List.set_cons_succ])
      refine wpAnyH_ready (rs := [6]) (by kernel_rfl) (by simp) ?_
      refine AllReadyH.cons rfl (fun K hK => ?_) AllReadyH.nil
      rw [if_pos (by rfl)]
      refine wp_put_row 64 (.tmp 4) (.tmp 13) rfl (tb) CC rfl rfl 64 ZR F4_T.out 33 infoPh SC.out SZ.out OC.out w.heap.size w F4_B.out (Nat.le_trans B0.out.size Ltb.out) ?_
      intro d5 hr hs hb
      have F5_R := Lib.hid (RowC.setAt F4_R.out hs (RowC.ne_row F4_R.out F4_T.out (by decide)))
      have F5_T := Lib.hid hr
      have F5_B := Lib.hid hb
      have hHeld := grownPut hHeld hs hb F4_B.out Ltb.out
      clear hr hs hb
      refine hK.out _ _ hHeld (fun hHeld => ?_)
      clear hK K
      (try simp only [Act.put])
      refine wpAnyH_done (by kernel_rfl) ?_ _
      have h1_ := Lib.hid (kOf_eq hk1)
      have h2_ := Lib.hid (kOf_eq hk2)
      have c32 := rowC F5_T.out (HLC.out h2_.out)
      have HBT := Lib.hid F5_B.out
      have HRT := Lib.hid F5_R.out
      have HTT := Lib.hid F5_T.out
      obtain ⟨wt, hwt⟩ : ∃ w', w' = d5 := ⟨_, rfl⟩
      rw [← hwt] at HBT HRT HTT c32 ⊢
      clear hwt hHeld hk1 hk2
      by_cases hln : M ≤ N
      · have hK := Lib.hid ((HKK.out h1_.out h2_.out).1 hln)
        have hli : (M : Int) ≤ (N : Int) := by omega
        go_wp2_with fail
        (try rw [show (decide ((M : Int) ≤ (N : Int))) = true from decide_eq_true hli])
        refine (require_yes _).mono ?_
        rintro e w' ⟨rfl, rfl⟩
        go_wp2_with ((with_reducible refine at_op (Op.load 64 (.tmp 4)) ?_); refine wpList_load_row rfl 64 (.tmp 4) rfl tb rfl 64 CC (0, 0) _ HTT.out Try.underlying64 rfl IC.out ?_)
        refine (HMS.out h1_.out h2_.out gs _ _ HRT.out).mono ?_
        rintro e wm ⟨vm, C, rfl, hod, hfk, hb⟩
        have HBm := Lib.hid (joins HBT.out hb)
        obtain ⟨am, cm, rfl⟩ := hod.shape
        have HOD := Lib.hid hod
        have HFK := Lib.hid hfk
        have hf65 := HF65.out h1_.out
        clear hod hfk hb c32
        go_wp2_with fail
        go_loopw [24, 5, 6] (fun i b m wr => ∃ k : Nat, k ≤ F ∧ i = .int .i64 k ∧ b = .int .i64 (bestI G k : Nat) ∧ m = .int .i64 (if k = 0 then 0 else G (bestI G k)) ∧ wr = wm) (fun i _ _ _ => F - (intOf i).toNat)
        case atStart => exact ⟨0, Nat.zero_le _, rfl, rfl, rfl, rfl⟩
        case round =>
          obtain ⟨k, hk, rfl, rfl, rfl, rfl⟩ := hrel
          by_cases hlt : k < F
          · have h0 : (0 : Int) ≤ (k : Int) := by omega
            have h1 : (k : Int) < (F : Int) := by omega
            obtain ⟨gm, hgm, c1⟩ := HOD.out.cell k hlt
            subst hgm
            have hfk := HFK.out k hlt
            have hml := HML.out h1_.out h2_.out k hlt
            have hgk := HGN.out k
            have hbn := HBN.out k
            obtain ⟨b1, hb1⟩ : ∃ x, x = (C k).1 := ⟨_, rfl⟩
            obtain ⟨b2, hb2⟩ : ∃ x, x = (C k).2 := ⟨_, rfl⟩
            rw [← hb1, ← hb2] at c1 hfk
            have hnn := (norm32 hml.1 hml.2).1
            have HNM := Lib.hid (normOfMatch_any hfk.1 hfk.2 hml.1 hml.2)
            rw [← hgk] at HNM hnn
            obtain ⟨z, hz⟩ : ∃ x, x = G k := ⟨_, rfl⟩
            have HZ := Lib.hid hz
            rw [← hz] at HNM hnn hbn
            obtain ⟨b, hb⟩ : ∃ b, b = bestI G k := ⟨_, rfl⟩
            have HBB := Lib.hid hb
            rw [← hb] at hbn ⊢
            obtain ⟨q, hq⟩ : ∃ q, q = (if k = 0 then (0 : Int) else G b) := ⟨_, rfl⟩
            rw [← hq]
            have HQ := Lib.hid hq
            have HNN := Lib.hid hnn
            have HBS := Lib.hid hbn
            clear hfk hml hgk hbn hb1 hb2 hnn hz hb hq
            by_cases hgt : q < z
            · have hcmp : z > q := hgt
              have HNX := Lib.hid (show bestI G (k + 1) = k from by
                rw [HBS.out]
                by_cases hk0 : k = 0
                · have hbz : b = 0 := by rw [HBB.out, hk0]; rfl
                  split
                  · rfl
                  · rw [hbz, hk0]
                · rw [HQ.out, if_neg hk0] at hgt
                  rw [if_pos hgt])
              go_wp2_with fail
              refine (HNM.out _).mono ?_
              rintro e w2 ⟨rfl, rfl⟩
              go_wp2_with fail
              go_roundw
              case rel => exact ⟨k + 1, by omega, by go_num, by rw [HNX.out], by rw [if_neg (Nat.succ_ne_zero k), HNX.out, ← HZ.out], trivial⟩
              case measure => simp [intOf]; omega
            · have hcmp : ¬ z > q := hgt
              have HNX := Lib.hid (show bestI G (k + 1) = b ∧ q = G b from by
                rw [HBS.out]
                by_cases hk0 : k = 0
                · have hbz : b = 0 := by rw [HBB.out, hk0]; rfl
                  have hq0 : q = 0 := by rw [HQ.out, if_pos hk0]
                  have hz0 : z = 0 := by have := HNN.out; omega
                  have hGb : G b = 0 := by rw [hbz, ← hk0, ← HZ.out, hz0]
                  refine ⟨?_, by rw [hq0, hGb]⟩
                  rw [if_neg (by rw [hGb, hz0]; omega)]
                · have hqb := HQ.out
                  rw [if_neg hk0] at hqb
                  rw [hqb] at hgt
                  exact ⟨by rw [if_neg hgt], hqb⟩)
              go_wp2_with fail
              refine (HNM.out _).mono ?_
              rintro e w2 ⟨rfl, rfl⟩
              go_wp2_with fail
              go_roundw
              case rel => exact ⟨k + 1, by omega, by go_num, by rw [HNX.out.1], by rw [if_neg (Nat.succ_ne_zero k), HNX.out.1, HNX.out.2], trivial⟩
              case measure => simp [intOf]; omega
          · obtain rfl : k = F := by omega
            obtain ⟨q, hq⟩ : ∃ q, q = (if k = 0 then (0 : Int) else G (bestI G k)) := ⟨_, rfl⟩
            rw [← hq]
            clear hq
            go_wp2_with fail
            go_returns
            exact ⟨HBm.out, Or.inl ⟨hK.out, _, rfl, rfl⟩⟩
      · have hK := Lib.hid ((HKK.out h1_.out h2_.out).2 hln)
        have hli : ¬ (M : Int) ≤ (N : Int) := by omega
        clear hln
        go_wp2_with fail
        (try rw [show (decide ((M : Int) ≤ (N : Int))) = false from decide_eq_false hli])
        refine (require_no _).mono ?_
        rintro e w' ⟨rfl, rfl⟩
        exact ⟨rfl, HBT.out, Or.inr ⟨by rw [hK.out]; decide, by rw [hK.out]⟩⟩
  · have hzz := ZZ.out
    go_simp
    obtain ⟨d2, hdw⟩ : ∃ w', w' = d1.alloc (.cells ZR 64) := ⟨_, rfl⟩
    rw [← hdw]
    have hb : Below d1.heap.size d1 d2 := by rw [hdw]; exact belowa (Below.refl _ _) _
    obtain ⟨tb, htb⟩ : ∃ g, g = d1.heap.size := ⟨_, rfl⟩
    rw [← htb]
    have F2_VA := Lib.hid (F1_VA.out.below hb)
    have F2_VS := Lib.hid (F1_VS.out.below hb)
    have F2_B := Lib.hid (joins F1_B.out hb)
    have F2_T := Lib.hid (show d2.heap[tb]? = some (.cells ZR 64 (0, 0)) from by rw [hdw, htb]; exact heap_alloc_new _ _)
    have Ltb := Lib.hid (show w.heap.size ≤ tb from by rw [htb]; exact hHeld.size)
    have hHeld := grownB hHeld hb
    clear hzz hdw hb htb
    refine hK.out _ _ hHeld (fun hHeld => ?_)
    clear hK K
    (try simp only [Act.put, List.getElem_toArray, List.getElem_cons_zero, List.getElem_cons_succ, List.setIfInBounds_toArray, List.set_cons_zero, List.set_cons_succ])
    refine wpAnyH_ready (rs := [1]) (by kernel_rfl) (by simp) ?_
    refine AllReadyH.cons rfl (fun K hK => ?_) AllReadyH.nil
    go_simp
    refine (HHE.out _ F2_VA.out).mono ?_
    rintro e d3 ⟨hb, hx⟩
    rcases hx.symm with ⟨hk, rfl⟩ | ⟨hk1, v1, rfl, hha⟩
    · have F3_VA := Lib.hid (F2_VA.out.below hb)
      have F3_VS := Lib.hid (F2_VS.out.below hb)
      have F3_B := Lib.hid (joins F2_B.out hb)
      have F3_T := Lib.hid (rowB F2_T.out hb)
      exact ⟨rfl, F3_B.out, Or.inr (HR1.out hk)⟩
    have F3_VA := Lib.hid (F2_VA.out.below hb)
    have F3_VS := Lib.hid (F2_VS.out.below hb)
    have F3_B := Lib.hid (joins F2_B.out hb)
    have F3_T := Lib.hid (rowB F2_T.out hb)
    obtain ⟨gs, rfl, hrow⟩ := HHA.out _ _ _ hha
    have F3_R := Lib.hid (hrow)
    have hHeld := grownB hHeld hb
    clear hb hx
    refine hK.out _ _ hHeld (fun hHeld => ?_)
    clear hK K
    (try simp only [Act.put, List.getElem_toArray, List.getElem_cons_zero, List.getElem_cons_succ, List.setIfInBounds_toArray, List.set_cons_zero, List.set_cons_succ])
    refine wpAnyH_ready (rs := [3]) (by kernel_rfl) (by simp) ?_
    refine AllReadyH.cons rfl (fun K hK => ?_) AllReadyH.nil
    go_simp
    refine (HCO.out _ F3_VS.out).mono ?_
    rintro e d4 ⟨hb, hx⟩
    rcases hx.symm with ⟨hk, rfl⟩ | ⟨hk2, v2, rfl, rfl⟩
    · have F4_VA := Lib.hid (F3_VA.out.below hb)
      have F4_VS := Lib.hid (F3_VS.out.below hb)
      have F4_B := Lib.hid (joins F3_B.out hb)
      have F4_T := Lib.hid (rowB F3_T.out hb)
      have F4_R := Lib.hid (F3_R.out.below hb)
      exact ⟨rfl, F4_B.out, Or.inr (HR2.out hk)⟩
    have F4_VA := Lib.hid (F3_VA.out.below hb)
    have F4_VS := Lib.hid (F3_VS.out.below hb)
    have F4_B := Lib.hid (joins F3_B.out hb)
    have F4_T := Lib.hid (rowB F3_T.out hb)
    have F4_R := Lib.hid (F3_R.out.below hb)
    have hHeld := grownB hHeld hb
    clear hb hx
    refine hK.out _ _ hHeld (fun hHeld => ?_)
    clear hK K
    (try simp only [Act.put, List.getElem_toArray, List.getElem_cons_zero, List.getElem_cons_succ, List.setIfInBounds_toArray, List.set_cons_zero, List.set_cons_succ])
    refine' wpAnyH_take (i := 5) (v := _) rfl (by kernel_rfl) (by kernel_rfl) (by kernel_rfl) (fun _ _ _ h => h) (Or.inl ⟨by rfl, ?hy305⟩) (by assumption) ?rest305
    case hy305 =>
      intro w h
      (try clear h)
      go_simp
      (try with_reducible rfl)
    (try simp only [Act.put, List.getElem_toArray, List.getElem_cons_zero, List.getElem_cons_succ, List.setIfInBounds_toArray, List.set_cons_zero, List.set_cons_succ])
    refine wpAnyH_ready (rs := [6]) (by kernel_rfl) (by simp) ?_
    refine AllReadyH.cons rfl (fun K hK => ?_) AllReadyH.nil
    rw [if_pos (by rfl)]
    refine wp_put_row 64 (.tmp 4) (.tmp 13) rfl (tb) CC rfl rfl 64 ZR F4_T.out 33 infoPh SC.out SZ.out OC.out w.heap.size w F4_B.out (Nat.le_trans B0.out.size Ltb.out) ?_
    intro d5 hr hs hb
    have F5_R := Lib.hid (RowC.setAt F4_R.out hs (RowC.ne_row F4_R.out F4_T.out (by decide)))
    have F5_T := Lib.hid hr
    have F5_B := Lib.hid hb
    have hHeld := grownPut hHeld hs hb F4_B.out Ltb.out
    clear hr hs hb
    refine hK.out _ _ hHeld (fun hHeld => ?_)
    clear hK K
    (try simp only [Act.put])
    refine wpAnyH_done (by kernel_rfl) ?_ _
    have h1_ := Lib.hid (kOf_eq hk1)
    have h2_ := Lib.hid (kOf_eq hk2)
    have c32 := rowC F5_T.out (HLC.out h2_.out)
    have HBT := Lib.hid F5_B.out
    have HRT := Lib.hid F5_R.out
    have HTT := Lib.hid F5_T.out
    obtain ⟨wt, hwt⟩ : ∃ w', w' = d5 := ⟨_, rfl⟩
    rw [← hwt] at HBT HRT HTT c32 ⊢
    clear hwt hHeld hk1 hk2
    by_cases hln : M ≤ N
    · have hK := Lib.hid ((HKK.out h1_.out h2_.out).1 hln)
      have hli : (M : Int) ≤ (N : Int) := by omega
      go_wp2_with fail
      (try rw [show (decide ((M : Int) ≤ (N : Int))) = true from decide_eq_true hli])
      refine (require_yes _).mono ?_
      rintro e w' ⟨rfl, rfl⟩
      go_wp2_with ((with_reducible refine at_op (Op.load 64 (.tmp 4)) ?_); refine wpList_load_row rfl 64 (.tmp 4) rfl tb rfl 64 CC (0, 0) _ HTT.out Try.underlying64 rfl IC.out ?_)
      refine (HMS.out h1_.out h2_.out gs _ _ HRT.out).mono ?_
      rintro e wm ⟨vm, C, rfl, hod, hfk, hb⟩
      have HBm := Lib.hid (joins HBT.out hb)
      obtain ⟨am, cm, rfl⟩ := hod.shape
      have HOD := Lib.hid hod
      have HFK := Lib.hid hfk
      have hf65 := HF65.out h1_.out
      clear hod hfk hb c32
      go_wp2_with fail
      go_loopw [24, 5, 6] (fun i b m wr => ∃ k : Nat, k ≤ F ∧ i = .int .i64 k ∧ b = .int .i64 (bestI G k : Nat) ∧ m = .int .i64 (if k = 0 then 0 else G (bestI G k)) ∧ wr = wm) (fun i _ _ _ => F - (intOf i).toNat)
      case atStart => exact ⟨0, Nat.zero_le _, rfl, rfl, rfl, rfl⟩
      case round =>
        obtain ⟨k, hk, rfl, rfl, rfl, rfl⟩ := hrel
        by_cases hlt : k < F
        · have h0 : (0 : Int) ≤ (k : Int) := by omega
          have h1 : (k : Int) < (F : Int) := by omega
          obtain ⟨gm, hgm, c1⟩ := HOD.out.cell k hlt
          subst hgm
          have hfk := HFK.out k hlt
          have hml := HML.out h1_.out h2_.out k hlt
          have hgk := HGN.out k
          have hbn := HBN.out k
          obtain ⟨b1, hb1⟩ : ∃ x, x = (C k).1 := ⟨_, rfl⟩
          obtain ⟨b2, hb2⟩ : ∃ x, x = (C k).2 := ⟨_, rfl⟩
          rw [← hb1, ← hb2] at c1 hfk
          have hnn := (norm32 hml.1 hml.2).1
          have HNM := Lib.hid (normOfMatch_any hfk.1 hfk.2 hml.1 hml.2)
          rw [← hgk] at HNM hnn
          obtain ⟨z, hz⟩ : ∃ x, x = G k := ⟨_, rfl⟩
          have HZ := Lib.hid hz
          rw [← hz] at HNM hnn hbn
          obtain ⟨b, hb⟩ : ∃ b, b = bestI G k := ⟨_, rfl⟩
          have HBB := Lib.hid hb
          rw [← hb] at hbn ⊢
          obtain ⟨q, hq⟩ : ∃ q, q = (if k = 0 then (0 : Int) else G b) := ⟨_, rfl⟩
          rw [← hq]
          have HQ := Lib.hid hq
          have HNN := Lib.hid hnn
          have HBS := Lib.hid hbn
          clear hfk hml hgk hbn hb1 hb2 hnn hz hb hq
          by_cases hgt : q < z
          · have hcmp : z > q := hgt
            have HNX := Lib.hid (show bestI G (k + 1) = k from by
              rw [HBS.out]
              by_cases hk0 : k = 0
              · have hbz : b = 0 := by rw [HBB.out, hk0]; rfl
                split
                · rfl
                · rw [hbz, hk0]
              · rw [HQ.out, if_neg hk0] at hgt
                rw [if_pos hgt])
            go_wp2_with fail
            refine (HNM.out _).mono ?_
            rintro e w2 ⟨rfl, rfl⟩
            go_wp2_with fail
            go_roundw
            case rel => exact ⟨k + 1, by omega, by go_num, by rw [HNX.out], by rw [if_neg (Nat.succ_ne_zero k), HNX.out, ← HZ.out], trivial⟩
            case measure => simp [intOf]; omega
          · have hcmp : ¬ z > q := hgt
            have HNX := Lib.hid (show bestI G (k + 1) = b ∧ q = G b from by
              rw [HBS.out]
              by_cases hk0 : k = 0
              · have hbz : b = 0 := by rw [HBB.out, hk0]; rfl
                have hq0 : q = 0 := by rw [HQ.out, if_pos hk0]
                have hz0 : z = 0 := by have := HNN.out; omega
                have hGb : G b = 0 := by rw [hbz, ← hk0, ← HZ.out, hz0]
                refine ⟨?_, by rw [hq0, hGb]⟩
                rw [if_neg (by rw [hGb, hz0]; omega)]
              · have hqb := HQ.out
                rw [if_neg hk0] at hqb
                rw [hqb] at hgt
                exact ⟨by rw [if_neg hgt], hqb⟩)
            go_wp2_with fail
            refine (HNM.out _).mono ?_
            rintro e w2 ⟨rfl, rfl⟩
            go_wp2_with fail
            go_roundw
            case rel => exact ⟨k + 1, by omega, by go_num, by rw [HNX.out.1], by rw [if_neg (Nat.succ_ne_zero k), HNX.out.1, HNX.out.2], trivial⟩
            case measure => simp [intOf]; omega
        · obtain rfl : k = F := by omega
          obtain ⟨q, hq⟩ : ∃ q, q = (if k = 0 then (0 : Int) else G (bestI G k)) := ⟨_, rfl⟩
          rw [← hq]
          clear hq
          go_wp2_with fail
          go_returns
          exact ⟨HBm.out, Or.inl ⟨hK.out, _, rfl, rfl⟩⟩
    · have hK := Lib.hid ((HKK.out h1_.out h2_.out).2 hln)
      have hli : ¬ (M : Int) ≤ (N : Int) := by omega
      clear hln
      go_wp2_with fail
      (try rw [show (decide ((M : Int) ≤ (N : Int))) = false from decide_eq_false hli])
      refine (require_no _).mono ?_
      rintro e w' ⟨rfl, rfl⟩
      exact ⟨rfl, HBT.out, Or.inr ⟨by rw [hK.out]; decide, by rw [hK.out]⟩⟩
set_option maxRecDepth 100000 in
set_option maxHeartbeats 2000000 in
theorem iFindDelay (va : Value) (l : List (Int × Int)) (vs : Value) (s : List Int) (w : World) (h_va : IG w va l) (h_vs : IS w vs s) (b_va : l.length ≤ 1048576) (b_vs : s.length ≤ 1048576) :
    Calls Try.prog 34 #[va, vs] w (Ret w (.tuple #[.int .i64 (fdF l s), .bool (fdB l s)])) := by
  have hmf : ∀ (fn : Fn) (first cap : Array Value) (w : World), (Instr.makeFunc fn first cap).run Try.prog w = .ok (.func fn first cap) w := fun _ _ _ _ => rfl
  have hk0 : kOf (fdB l s) = 0 → fdF l s = fdV l s := fun h => by unfold fdF; rw [kOf_eq h]; rfl
  have hk1 : kOf (fdB l s) ≠ 0 → fdF l s = 0 := fun h => by unfold fdF; rw [kOf_ne h]; rfl
  obtain ⟨wb0, hwb0⟩ : ∃ w', w' = w.alloc (.cells #[va] 29) := ⟨_, rfl⟩
  obtain ⟨wb1, hwb1⟩ : ∃ w', w' = wb0.alloc (.cells #[vs] 23) := ⟨_, rfl⟩
  have HB0 := Lib.hid (show Below w.heap.size w wb0 by rw [hwb0]; exact belowa (Below.refl _ _) _)
  have HS0 := Lib.hid (show wb0.heap.size = w.heap.size + 1 by rw [hwb0]; simp)
  have hc0_0 : wb0.cell? ⟨w.heap.size, 0, none⟩ = some (va) := by rw [hwb0]; simp [go_sem]
  have hc0_0_1 : wb1.cell? ⟨w.heap.size, 0, none⟩ = some (va) := by rw [hwb1]; exact keepa _ hc0_0
  have HC0_0 := Lib.hid hc0_0_1
  have HB1 := Lib.hid (show Below w.heap.size w wb1 by rw [hwb1]; exact belowa HB0.out _)
  have HS1 := Lib.hid (show wb1.heap.size = w.heap.size + 2 by rw [hwb1]; simp [HS0.out])
  have hc1_0 : wb1.cell? ⟨w.heap.size + 1, 0, none⟩ = some (vs) := by rw [hwb1, ← HS0.out]; simp [go_sem]
  have HC1_0 := Lib.hid hc1_0
  have HSH := Lib.hid (sharedI 73 #[.pointer (some ⟨w.heap.size, 0, none⟩), .pointer (some ⟨w.heap.size + 1, 0, none⟩)] (fun w => by simp [go_sem]) (kOf (fdB l s)) _ (lasts_int (fdV l s)) wb1 (fun w2 hb2 => findDelay1_any va vs l s _ _ w2 (keepc hb2 HC0_0.out) (keepc hb2 HC1_0.out) (h_va.below (joins HB1.out hb2)) (h_vs.below (joins HB1.out hb2)) b_va b_vs))
  have HK0 := Lib.hid hk0
  have HK1 := Lib.hid hk1
  obtain ⟨pa0, ca0, rfl⟩ := h_va.slice
  obtain ⟨pa1, ca1, rfl⟩ := h_vs.slice
  obtain ⟨LL, hLL⟩ : ∃ L, L = fdV l s := ⟨_, rfl⟩
  obtain ⟨FF, hFF⟩ : ∃ L, L = fdF l s := ⟨_, rfl⟩
  obtain ⟨BB, hBB⟩ : ∃ L, L = fdB l s := ⟨_, rfl⟩
  rw [← hBB] at HSH HK0 HK1
  rw [← hLL] at HSH HK0
  rw [← hFF] at HK0 HK1
  rw [← hFF, ← hBB]
  clear hk0 hk1 hLL hFF hBB h_va h_vs hc0_0 hc1_0
  go_enter Try.func34, Try.ntmps34
  go_wp2_with fail
  rw [← hwb0, ← hwb1]
  clear hwb0 hwb1
  refine (HSH.out).mono ?_
  rintro e w1 ⟨hb, v, rfl, h⟩
  have HB := Lib.hid (joins HB1.out hb)
  obtain rfl : v = .int .i64 FF := by
    rcases h with ⟨hk, h⟩ | ⟨hk, rfl⟩
    · rw [HK0.out hk]; exact h
    · rw [HK1.out hk]
  rw [kOf_zero]
  clear h hb
  go_wp2_with fail
  go_returns
  exact ⟨rfl, HB.out⟩
end Go.Proofs.Ytapmehgdnofgnab
